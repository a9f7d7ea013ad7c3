import Derived.Test.YtcfjmagkinpaeaaGreatGWB
set_option maxHeartbeats 16000000
set_option maxRecDepth 100000
open Go.Proofs.Tryz
namespace Go.Proofs.YtcfjmagkinpaeaaGreat
open Go.RowKit Go.Deep
theorem ZnG (sv mv tv ov gv lv pv dv:Value) (Ss:List Sh) (Ms:List Md) (Ts:List Tm) (U:Wd) (w:World)
 (hL:ZaO 0 w sv mv tv Ss Ms Ts) (hB:Zh6 0 w ov gv lv pv dv U) :
 Calls prog 3 #[.agg #[sv,mv,tv],.agg #[.int .i64 U.bk.now,.int .i64 U.bk.tick,.int .i64 U.bk.given,ov,gv,lv,pv,dv]] w fun e w'=>e=.returned (.bool true)∧Zw_ w w':=by
 obtain⟨F,hFF⟩:∃ F:Bk→Nat→List Zy_,∀ B:Bk,Za2 Ss Ms B.os (F B):=⟨fun B=>(Za2.exists Ss Ms B.os).choose,fun B=>(Za2.exists Ss Ms B.os).choose_spec⟩
 have HSH:=Zab hFF;clear hFF;have HL:=Zab hL;have HK:=Zab hB;obtain⟨a,cap,rfl⟩:=hL.shs.form;obtain⟨a1,cap1,rfl⟩:=hL.mds.form;obtain⟨a2,cap2,rfl⟩:=hL.tms.form;obtain⟨oa0,oc0,rfl⟩:=hB.bk.obs.form;obtain⟨oa1,oc1,rfl⟩:=hB.bk.grs.form;obtain⟨oa2,oc2,rfl⟩:=hB.bk.les.form;obtain⟨oa3,oc3,rfl⟩:=hB.bk.pus.form;obtain⟨oa4,oc4,rfl⟩:=hB.ls.form;clear hL hB;go_enter func3,ntmps3;go_wp2_with fail;generalize hWa:(World.alloc (w.alloc _) _)=Wa;have HBa:Hid (Zw_ w Wa):=by rw [← hWa];exact (Zac w _).alloc (by simp) _
 have FA:Hid (Box Wa w.heap.size #[.slice a Ss.length cap,.slice a1 Ms.length cap1,.slice a2 Ts.length cap2]):=by rw [← hWa];exact (Box.new _ _ _ _ rfl).on (Zac _ _)
 have FB:Hid (Box Wa (w.heap.size+1) #[.int .i64 U.bk.now,.int .i64 U.bk.tick,.int .i64 U.bk.given,.slice oa0 U.bk.os.length oc0,.slice oa1 U.bk.gs.length oc1,.slice oa2 U.bk.ls.length oc2,.slice oa3 U.bk.ps.length oc3,.slice oa4 U.ds.length oc4]):=by rw [← hWa];exact Box.new _ _ _ _ (by simp)
 clear hWa;refine (ZjF 0 _ _ _ Ss Ms Ts _ _ (by omega) (by omega) (HL.out.below HBa.out)).mono ?_;rintro e w1 ⟨q,rfl,hb1,hr0,hr1,hr2⟩;have HB1:Hid (Zw_ w w1):=bt HBa.out hb1;replace FA:=Zab (FA.out.on hb1);replace FB:=Zab (FB.out.on hb1);have HQ:=Zab hr2;clear hb1 hr2 HBa
 by_cases hneg:q < 0
 · go_wp2
   go_ret;exact⟨rfl,HB1.out⟩
 have hLm:Hid (Zf3 Ss Ms Ts):=HQ.out (by omega);clear HQ hr0;have g1:=FB.out.cell;have gm:=FB.out.lt;go_wp2_with fail;clear g1 gm;refine (Zlq 0 _ _ _ _ _ U _ _ (by omega) (by omega) (HK.out.below HB1.out)).mono ?_;rintro e w2 ⟨q2,rfl,hb2,hr0,hr2,hr3⟩;have HB3:Hid (Zw_ w w2):=bt HB1.out hb2;replace FA:=Zab (FA.out.on hb2);replace FB:=Zab (FB.out.on hb2);have HQ:=Zab hr3;clear hb2 hr3 HB1
 by_cases hneg2:q2 < 0
 · go_wp2
   go_ret;exact⟨rfl,HB3.out⟩
 have hBm:Hid (Zcp U):=HQ.out (by omega);clear HQ hr0 hr1 hr2 hneg;go_wp2;clear hneg2;have HL3:=Zab (HL.out.below HB3.out);have HK3:=Zab (HK.out.below HB3.out)
 go_region_held3 (ZaN w2 w.heap.size #[.slice a Ss.length cap,.slice a1 Ms.length cap1,.slice a2 Ts.length cap2] (w.heap.size+1) #[.int .i64 U.bk.now,.int .i64 U.bk.tick,.int .i64 U.bk.given,.slice oa0 U.bk.os.length oc0,.slice oa1 U.bk.gs.length oc1,.slice oa2 U.bk.ls.length oc2,.slice oa3 U.bk.ps.length oc3,.slice oa4 U.ds.length oc4])
  (first
    | (with_reducible exact ZaN.drew FA.out FB.out)
    | (with_reducible exact ZaN.on (by assumption) (by assumption)))
  (first
    | (go_at_call 8
       refine (ZdH 0 _ _ _ Ss Ms Ts _ (HL3.out.below (Zb_.drew)) hLm.out).mono ?_;rintro e w4 ⟨b,c0,b1,c1,b2,c2,rfl,hb4,hs4⟩;have HC4:Hid (Below w2.heap.size w2 w4):=bt (Zb_.drew) hb4;have HS4:=Zab (hs4.mono Zz_);clear hs4)
    | (go_at_call 9
       refine (Zez 0 _ _ _ _ _ U _ (HK3.out.below HC4.out) hBm.out).mono ?_;rintro e w5 ⟨x0,y0,x1,y1,x2,y2,x3,y3,x4,y4,rfl,hb5,hk5⟩;have HC5:Hid (Below w2.heap.size w2 w5):=bt HC4.out hb5;have HS45:=Zab (HS4.out.below hb5);have HK5:=Zab (hk5.mono Zz_);clear hk5)
    | (go_at_call 7
       refine (ZgY _ _ _ _ _ _ _ _ Ss Ms Ts F U _ HS45.out HK5.out hBm.out HSH.out).mono ?_;rintro e w7 ⟨rfl,hb7⟩;have HC7:Hid (Below w2.heap.size w2 w7):=bt HC5.out hb7))
 replace FA:=Zab (FA.out.on HC7.out);replace FB:=Zab (FB.out.on HC7.out);have HB7:Hid (Zw_ w w7):=bt HB3.out HC7.out;clear HB3 HC4 HC5 HC7 HS4 HS45 HK5 HL3 HK3;have g0:=FA.out.cell;have gl:=FA.out.lt;go_wp2_with fail;clear g0 gl;refine (ZdH 0 _ _ _ Ss Ms Ts _ (HL.out.below HB7.out) hLm.out).mono ?_;rintro e w8 ⟨b,c0,b1,c1,b2,c2,rfl,hb8,hs8⟩;have HB8:Hid (Zw_ w w8):=bt HB7.out hb8;have HS8:=Zab (hs8.mono Zz_);replace FA:=Zab (FA.out.on hb8);replace FB:=Zab (FB.out.on hb8);clear hb8 hs8 HB7;have g0:=FB.out.cell;have gl:=FB.out.lt;have g1:∀ o i,(w8.alloc o).cell? ⟨w.heap.size+1,i,none⟩=_:=fun o i=>(Zah _ _ _ _ gl).trans (g0 i)
 go_wp2_with fail;clear g0 gl g1;generalize hWx:w8.alloc _=Wx;have hbx:Below w8.heap.size w8 Wx:=by rw [← hWx];exact Zac _ _
 have FX:Hid (Box Wx w8.heap.size #[.slice b Ss.length c0,.slice b1 Ms.length c1,.slice b2 Ts.length c2]):=by rw [← hWx];exact Box.new _ _ _ _ rfl
 have HBx:Hid (Zw_ w Wx):=bt HB8.out hbx;replace FA:=Zab (FA.out.on hbx);replace FB:=Zab (FB.out.on hbx);replace HS8:=Zab (HS8.out.below hbx);clear hWx hbx HB8;generalize hbeta:w8.heap.size=β at*;refine (Zez 0 _ _ _ _ _ U _ (HK.out.below HBx.out) hBm.out).mono ?_;rintro e w9 ⟨x0,y0,x1,y1,x2,y2,x3,y3,x4,y4,rfl,hb9,hk9⟩;have HB9:Hid (Zw_ w w9):=bt HBx.out hb9;have HK9:=Zab (hk9.mono Zz_);replace HS8:=Zab (HS8.out.below hb9);replace FA:=Zab (FA.out.on hb9);replace FB:=Zab (FB.out.on hb9);replace FX:=Zab (FX.out.on hb9);clear hb9 hk9 HBx;have g0:=FX.out.cell;have gl:=FX.out.lt;have g1:∀ o i,(w9.alloc o).cell? ⟨β,i,none⟩=_:=fun o i=>(Zah _ _ _ _ gl).trans (g0 i)
 go_wp2_with fail;clear g0 gl g1;generalize hWx:w9.alloc _=Wy;have hbx:Below w9.heap.size w9 Wy:=by rw [← hWx];exact Zac _ _
 have FY:Hid (Box Wy w9.heap.size #[.int .i64 U.bk.now,.int .i64 U.bk.tick,.int .i64 U.bk.given,.slice x0 U.bk.os.length y0,.slice x1 U.bk.gs.length y1,.slice x2 U.bk.ls.length y2,.slice x3 U.bk.ps.length y3,.slice x4 U.ds.length y4]):=by rw [← hWx];exact Box.new _ _ _ _ rfl
 have HBy:Hid (Zw_ w Wy):=bt HB9.out hbx;replace FA:=Zab (FA.out.on hbx);replace FB:=Zab (FB.out.on hbx);replace FX:=Zab (FX.out.on hbx);replace HS8:=Zab (HS8.out.below hbx);replace HK9:=Zab (HK9.out.below hbx);clear hWx hbx HB9;generalize hgamma:w9.heap.size=γ at*;refine (ZgB _ _ _ _ _ _ _ _ Ss Ms Ts F U _ HS8.out HK9.out hBm.out HSH.out).mono ?_;rintro e wb ⟨rfl,hbb⟩;have HBb:Hid (Zw_ w wb):=bt HBy.out hbb;replace FA:=Zab (FA.out.on hbb);replace FB:=Zab (FB.out.on hbb);replace FX:=Zab (FX.out.on hbb);replace FY:=Zab (FY.out.on hbb);replace HS8:=Zab (HS8.out.below hbb);replace HK9:=Zab (HK9.out.below hbb);clear hbb HBy;generalize hQ:(Zdm Ss Ms Ts&&Zbl Ss Ts F U)=Q;clear hQ;have HLb:=Zab (HL.out.below HBb.out);go_wp2
 go_region_held3 (ZaN wb β #[.slice b Ss.length c0,.slice b1 Ms.length c1,.slice b2 Ts.length c2] w.heap.size #[.slice a Ss.length cap,.slice a1 Ms.length cap1,.slice a2 Ts.length cap2])
  (first
    | (with_reducible exact ZaN.drew FX.out FA.out)
    | (with_reducible exact ZaN.on (by assumption) (by assumption)))
  (first
    | (go_at_call 8
       refine (ZdH 0 _ _ _ Ss Ms Ts _ (HLb.out.below (Zb_.drew)) hLm.out).mono ?_;rintro e we ⟨d,f0,d1,f1,d2,f2,rfl,hbe,hse⟩;have HC8:Hid (Below wb.heap.size wb we):=bt (Zb_.drew) hbe;have HSe:=Zab hse;clear hse)
    | (go_at_call 11
       refine (Zhy _ _ _ _ Ss Ms Ts _ _ _ _ _ (HS8.out.below HC8.out) HSe.out).mono ?_;rintro e wf ⟨rfl,hbf⟩;have HC9:Hid (Below wb.heap.size wb wf):=bt HC8.out hbf))
 have HBf:Hid (Zw_ w wf):=bt HBb.out HC9.out;replace FB:=Zab (FB.out.on HC9.out);replace FY:=Zab (FY.out.on HC9.out);replace HK9:=Zab (HK9.out.below HC9.out);clear HBb HC8 HSe HC9 HLb HS8 FX FA;have HKf:=Zab (HK.out.below HBf.out);go_wp2
 go_region_held3 (ZaN wf γ #[.int .i64 U.bk.now,.int .i64 U.bk.tick,.int .i64 U.bk.given,.slice x0 U.bk.os.length y0,.slice x1 U.bk.gs.length y1,.slice x2 U.bk.ls.length y2,.slice x3 U.bk.ps.length y3,.slice x4 U.ds.length y4] (w.heap.size+1) #[.int .i64 U.bk.now,.int .i64 U.bk.tick,.int .i64 U.bk.given,.slice oa0 U.bk.os.length oc0,.slice oa1 U.bk.gs.length oc1,.slice oa2 U.bk.ls.length oc2,.slice oa3 U.bk.ps.length oc3,.slice oa4 U.ds.length oc4])
  (first
    | (with_reducible exact ZaN.drew FY.out FB.out)
    | (with_reducible exact ZaN.on (by assumption) (by assumption)))
  (first
    | (go_at_call 9
       refine (Zez 0 _ _ _ _ _ U _ (HKf.out.below (Zb_.drew)) hBm.out).mono ?_;rintro e wg ⟨z0,t0,z1,t1,z2,t2,z3,t3,z4,t4,rfl,hbg,hkg⟩;have HC10:Hid (Below wf.heap.size wf wg):=bt (Zb_.drew) hbg;have HKg:=Zab hkg;clear hkg)
    | (go_at_call 12
       refine (Zi5 _ _ _ _ _ _ _ _ _ _ _ _ U _ (HK9.out.below HC10.out) HKg.out).mono ?_;rintro e wh ⟨rfl,hbh⟩;have HC11:Hid (Below wf.heap.size wf wh):=bt HC10.out hbh))
 go_wp2;go_ret;exact⟨rfl,bt HBf.out HC11.out⟩
end Go.Proofs.YtcfjmagkinpaeaaGreat
