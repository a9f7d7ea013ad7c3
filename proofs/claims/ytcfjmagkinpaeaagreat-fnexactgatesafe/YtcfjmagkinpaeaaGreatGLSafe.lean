import Derived.Test.YtcfjmagkinpaeaaGreatGGQ
set_option maxHeartbeats 16000000
set_option maxRecDepth 100000
open Go.Proofs.Tryz
namespace Go.Proofs.YtcfjmagkinpaeaaGreat
open Go.RowKit Go.Deep
theorem ZpC (sv mv tv fo fg fl fp ov gv lv pv dv:Value) (Ss:List Sh) (Ms:List Md) (Ts:List Tm) (f:Bk) (U:Wd) (w:World)
 (h0:ZaO 0 w sv mv tv Ss Ms Ts) (h1:ZaH 0 w fo fg fl fp f) (h2:Zh6 0 w ov gv lv pv dv U) :
 Calls prog 4 #[.agg #[sv,mv,tv],.agg #[.int .i64 f.now,.int .i64 f.tick,.int .i64 f.given,fo,fg,fl,fp],.agg #[.int .i64 U.bk.now,.int .i64 U.bk.tick,.int .i64 U.bk.given,ov,gv,lv,pv,dv]] w fun e w'=>e=.returned (.bool true)∧Zw_ w w':=by
 obtain⟨F,hFF⟩:∃ F:Bk→Nat→List Zy_,∀ B:Bk,Za2 Ss Ms B.os (F B):=⟨fun B=>(Za2.exists Ss Ms B.os).choose,fun B=>(Za2.exists Ss Ms B.os).choose_spec⟩
 have HSH:=Zab hFF;clear hFF;have H0:=Zab h0;have H1:=Zab h1;have H2:=Zab h2;obtain⟨a,cap,rfl⟩:=h0.shs.form;obtain⟨a1,cap1,rfl⟩:=h0.mds.form;obtain⟨a2,cap2,rfl⟩:=h0.tms.form;obtain⟨oa,oac,rfl⟩:=h1.obs.form;obtain⟨ob,obc,rfl⟩:=h1.grs.form;obtain⟨oc,occ,rfl⟩:=h1.les.form;obtain⟨od,odc,rfl⟩:=h1.pus.form;obtain⟨ua,uac,rfl⟩:=h2.bk.obs.form;obtain⟨ub,ubc,rfl⟩:=h2.bk.grs.form;obtain⟨uc,ucc,rfl⟩:=h2.bk.les.form;obtain⟨ud,udc,rfl⟩:=h2.bk.pus.form;obtain⟨ue,uec,rfl⟩:=h2.ls.form;clear h0 h1 h2;go_enter func4,ntmps4;go_wp2_with fail;generalize hWa:World.alloc (World.alloc (w.alloc _) _) _=Wa;have HB:Hid (Zw_ w Wa):=by rw [← hWa];exact (((Zac w _).alloc (by simp) _).alloc (by simp;omega) _)
 have F0:Hid (Box Wa w.heap.size #[.slice a Ss.length cap,.slice a1 Ms.length cap1,.slice a2 Ts.length cap2]):=by rw [← hWa];exact (((Box.new _ _ _ _ rfl).on (Zac _ _)).on (Zac _ _))
 have F1:Hid (Box Wa (w.heap.size+1) #[.int .i64 f.now,.int .i64 f.tick,.int .i64 f.given,.slice oa f.os.length oac,.slice ob f.gs.length obc,.slice oc f.ls.length occ,.slice od f.ps.length odc]):=by rw [← hWa];exact ((Box.new _ _ _ _ (by simp)).on (Zac _ _))
 have F2:Hid (Box Wa (w.heap.size+2) #[.int .i64 U.bk.now,.int .i64 U.bk.tick,.int .i64 U.bk.given,.slice ua U.bk.os.length uac,.slice ub U.bk.gs.length ubc,.slice uc U.bk.ls.length ucc,.slice ud U.bk.ps.length udc,.slice ue U.ds.length uec]):=by rw [← hWa];exact (Box.new _ _ _ _ (by simp))
 clear hWa;refine (ZjF 0 _ _ _ Ss Ms Ts _ _ (by omega) (by omega) (H0.out.below HB.out)).mono ?_;rintro e w1 ⟨q0,rfl,hb,r0a,r0b,r0c⟩;replace HB:Hid (Zw_ w w1):=bt HB.out hb;replace F0:=Zab (F0.out.on hb);replace F1:=Zab (F1.out.on hb);replace F2:=Zab (F2.out.on hb);have HQ:=Zab r0c;clear hb r0c
 by_cases hneg0:q0 < 0
 · go_wp2
   go_ret;exact⟨rfl,HB.out⟩
 have M0:Hid (Zf3 Ss Ms Ts):=HQ.out (by omega);clear HQ;have g1:=F1.out.cell;have gm:=F1.out.lt;go_wp2_with fail;clear g1 gm;refine (Zfz 0 _ _ _ _ f _ _ (by omega) (by omega) (H1.out.below HB.out)).mono ?_;rintro e w2 ⟨q1,rfl,hb,r1a,r1b,r1c⟩;replace HB:Hid (Zw_ w w2):=bt HB.out hb;replace F0:=Zab (F0.out.on hb);replace F1:=Zab (F1.out.on hb);replace F2:=Zab (F2.out.on hb);have HQ:=Zab r1c;clear hb r1c
 by_cases hneg1:q1 < 0
 · go_wp2
   go_ret;exact⟨rfl,HB.out⟩
 have M1:Hid (Zbx f):=HQ.out (by omega);clear HQ;have g1:=F2.out.cell;have gm:=F2.out.lt;go_wp2_with fail;clear g1 gm;refine (Zlq 0 _ _ _ _ _ U _ _ (by omega) (by omega) (H2.out.below HB.out)).mono ?_;rintro e w3 ⟨q2,rfl,hb,r2a,r2b,r2c⟩;replace HB:Hid (Zw_ w w3):=bt HB.out hb;replace F0:=Zab (F0.out.on hb);replace F1:=Zab (F1.out.on hb);replace F2:=Zab (F2.out.on hb);have HQ:=Zab r2c;clear hb r2c
 by_cases hneg2:q2 < 0
 · go_wp2
   go_ret;exact⟨rfl,HB.out⟩
 have M2:Hid (Zcp U):=HQ.out (by omega);clear HQ;clear r0a r0b r1a r1b r2a r2b hneg0 hneg1;go_wp2;clear hneg2;have K0:=Zab (H0.out.below HB.out);have K1:=Zab (H1.out.below HB.out);have K2:=Zab (H2.out.below HB.out)
 go_region_held3 (Zgd w3 w.heap.size #[.slice a Ss.length cap,.slice a1 Ms.length cap1,.slice a2 Ts.length cap2] (w.heap.size+1) #[.int .i64 f.now,.int .i64 f.tick,.int .i64 f.given,.slice oa f.os.length oac,.slice ob f.gs.length obc,.slice oc f.ls.length occ,.slice od f.ps.length odc] (w.heap.size+2) #[.int .i64 U.bk.now,.int .i64 U.bk.tick,.int .i64 U.bk.given,.slice ua U.bk.os.length uac,.slice ub U.bk.gs.length ubc,.slice uc U.bk.ls.length ucc,.slice ud U.bk.ps.length udc,.slice ue U.ds.length uec])
  (first
    | (with_reducible exact Zgd.drew F0.out F1.out F2.out)
    | (with_reducible exact Zgd.on (by assumption) (by assumption)))
  (first
    | (go_at_call 8
       refine (ZdH 0 _ _ _ Ss Ms Ts _ (K0.out.below (Zb_.drew)) M0.out).mono ?_;rintro e v0 ⟨x0a,x0ac,x0b,x0bc,x0c,x0cc,rfl,hb0,hs0⟩;have C0:Hid (Below w3.heap.size w3 v0):=bt (Zb_.drew) hb0;have S0_0:=Zab (hs0.mono Zz_);clear hs0)
    | (go_at_call 15
       refine (ZdG 0 _ _ _ _ f _ (K1.out.below C0.out) M1.out).mono ?_;rintro e v1 ⟨x1a,x1ac,x1b,x1bc,x1c,x1cc,x1d,x1dc,rfl,hb1,hs1⟩;have C1:Hid (Below w3.heap.size w3 v1):=bt C0.out hb1;have S1_1:=Zab (hs1.mono Zz_);have S0_1:=Zab (S0_0.out.below hb1);clear hs1)
    | (go_at_call 9
       refine (Zez 0 _ _ _ _ _ U _ (K2.out.below C1.out) M2.out).mono ?_;rintro e v2 ⟨x2a,x2ac,x2b,x2bc,x2c,x2cc,x2d,x2dc,x2e,x2ec,rfl,hb2,hs2⟩;have C2:Hid (Below w3.heap.size w3 v2):=bt C1.out hb2;have S2_2:=Zab (hs2.mono Zz_);have S0_2:=Zab (S0_1.out.below hb2);have S1_2:=Zab (S1_1.out.below hb2);clear hs2)
    | (go_at_call 14
       refine (ZjC _ _ _ _ _ _ _ _ _ _ _ _ Ss Ms Ts F f U _ S0_2.out S1_2.out S2_2.out M1.out M2.out HSH.out).mono ?_;rintro e vz ⟨rfl,hbz⟩;have CZ:Hid (Below w3.heap.size w3 vz):=bt C2.out hbz))
 replace F0:=Zab (F0.out.on CZ.out);replace F1:=Zab (F1.out.on CZ.out);replace F2:=Zab (F2.out.on CZ.out);replace HB:Hid (Zw_ w vz):=bt HB.out CZ.out;clear CZ C0 K0 C1 K1 C2 K2 S0_0 S0_1 S1_1 S0_2 S1_2 S2_2;have g0:=F0.out.cell;have gl:=F0.out.lt;go_wp2_with fail;clear g0 gl;refine (ZdH 0 _ _ _ Ss Ms Ts _ (H0.out.below HB.out) M0.out).mono ?_;rintro e u0 ⟨y0a,y0ac,y0b,y0bc,y0c,y0cc,rfl,hb,hs⟩;replace HB:Hid (Zw_ w u0):=bt HB.out hb;replace F0:=Zab (F0.out.on hb);replace F1:=Zab (F1.out.on hb);replace F2:=Zab (F2.out.on hb);have S0:=Zab (hs.mono Zz_);clear hb hs;have g0:=F1.out.cell;have gl:=F1.out.lt;have g1:∀ o i,(u0.alloc o).cell? ⟨(w.heap.size+1),i,none⟩=_:=fun o i=>(Zah _ _ _ _ gl).trans (g0 i)
 go_wp2_with fail;clear g0 gl g1;generalize hWx:u0.alloc _=W0;have hbx:Below u0.heap.size u0 W0:=by rw [← hWx];exact Zac _ _
 have X0:Hid (Box W0 u0.heap.size #[.slice y0a Ss.length y0ac,.slice y0b Ms.length y0bc,.slice y0c Ts.length y0cc]):=by rw [← hWx];exact Box.new _ _ _ _ rfl
 replace HB:Hid (Zw_ w W0):=bt HB.out hbx;replace F0:=Zab (F0.out.on hbx);replace F1:=Zab (F1.out.on hbx);replace F2:=Zab (F2.out.on hbx);replace S0:=Zab (S0.out.below hbx);clear hWx hbx;generalize hbeta:u0.heap.size=β0 at*;refine (ZdG 0 _ _ _ _ f _ (H1.out.below HB.out) M1.out).mono ?_;rintro e u1 ⟨y1a,y1ac,y1b,y1bc,y1c,y1cc,y1d,y1dc,rfl,hb,hs⟩;replace HB:Hid (Zw_ w u1):=bt HB.out hb;replace F0:=Zab (F0.out.on hb);replace F1:=Zab (F1.out.on hb);replace F2:=Zab (F2.out.on hb);replace X0:=Zab (X0.out.on hb);replace S0:=Zab (S0.out.below hb);have S1:=Zab (hs.mono Zz_);clear hb hs;have g0:=F2.out.cell;have gl:=F2.out.lt;have g1:∀ o i,(u1.alloc o).cell? ⟨(w.heap.size+2),i,none⟩=_:=fun o i=>(Zah _ _ _ _ gl).trans (g0 i)
 go_wp2_with fail;clear g0 gl g1;generalize hWx:u1.alloc _=W1;have hbx:Below u1.heap.size u1 W1:=by rw [← hWx];exact Zac _ _
 have X1:Hid (Box W1 u1.heap.size #[.int .i64 f.now,.int .i64 f.tick,.int .i64 f.given,.slice y1a f.os.length y1ac,.slice y1b f.gs.length y1bc,.slice y1c f.ls.length y1cc,.slice y1d f.ps.length y1dc]):=by rw [← hWx];exact Box.new _ _ _ _ rfl
 replace HB:Hid (Zw_ w W1):=bt HB.out hbx;replace F0:=Zab (F0.out.on hbx);replace F1:=Zab (F1.out.on hbx);replace F2:=Zab (F2.out.on hbx);replace X0:=Zab (X0.out.on hbx);replace S0:=Zab (S0.out.below hbx);replace S1:=Zab (S1.out.below hbx);clear hWx hbx;generalize hbeta:u1.heap.size=β1 at*;refine (Zez 0 _ _ _ _ _ U _ (H2.out.below HB.out) M2.out).mono ?_;rintro e u2 ⟨y2a,y2ac,y2b,y2bc,y2c,y2cc,y2d,y2dc,y2e,y2ec,rfl,hb,hs⟩;replace HB:Hid (Zw_ w u2):=bt HB.out hb;replace F0:=Zab (F0.out.on hb);replace F1:=Zab (F1.out.on hb);replace F2:=Zab (F2.out.on hb);replace X0:=Zab (X0.out.on hb);replace X1:=Zab (X1.out.on hb);replace S0:=Zab (S0.out.below hb);replace S1:=Zab (S1.out.below hb);have S2:=Zab (hs.mono Zz_);clear hb hs;have g0:=X0.out.cell;have l0:=X0.out.lt
 have d0:∀ o i,(u2.alloc o).cell? ⟨β0,i,none⟩=_:=fun o i=>(Zah _ _ _ _ l0).trans (g0 i)
 have g1:=X1.out.cell;have l1:=X1.out.lt;have d1:∀ o i,(u2.alloc o).cell? ⟨β1,i,none⟩=_:=fun o i=>(Zah _ _ _ _ l1).trans (g1 i)
 go_wp2_with fail;clear g0 l0 d0 g1 l1 d1;generalize hWx:u2.alloc _=W2;have hbx:Below u2.heap.size u2 W2:=by rw [← hWx];exact Zac _ _
 have X2:Hid (Box W2 u2.heap.size #[.int .i64 U.bk.now,.int .i64 U.bk.tick,.int .i64 U.bk.given,.slice y2a U.bk.os.length y2ac,.slice y2b U.bk.gs.length y2bc,.slice y2c U.bk.ls.length y2cc,.slice y2d U.bk.ps.length y2dc,.slice y2e U.ds.length y2ec]):=by rw [← hWx];exact Box.new _ _ _ _ rfl
 replace HB:Hid (Zw_ w W2):=bt HB.out hbx;replace F0:=Zab (F0.out.on hbx);replace F1:=Zab (F1.out.on hbx);replace F2:=Zab (F2.out.on hbx);replace X0:=Zab (X0.out.on hbx);replace X1:=Zab (X1.out.on hbx);replace S0:=Zab (S0.out.below hbx);replace S1:=Zab (S1.out.below hbx);replace S2:=Zab (S2.out.below hbx);clear hWx hbx;generalize hbeta:u2.heap.size=β2 at*;refine (Zje _ _ _ _ _ _ _ _ _ _ _ _ Ss Ms Ts F f U _ S0.out S1.out S2.out M1.out M2.out HSH.out).mono ?_;rintro e wz ⟨rfl,hb⟩;replace HB:Hid (Zw_ w wz):=bt HB.out hb;replace F0:=Zab (F0.out.on hb);replace F1:=Zab (F1.out.on hb);replace F2:=Zab (F2.out.on hb);replace X0:=Zab (X0.out.on hb);replace X1:=Zab (X1.out.on hb);replace X2:=Zab (X2.out.on hb);replace S0:=Zab (S0.out.below hb);replace S1:=Zab (S1.out.below hb);replace S2:=Zab (S2.out.below hb);clear hb
 generalize hQ:Ze1 Ss Ms Ts F f U=Q;clear hQ;have K:=Zab (H0.out.below HB.out);go_wp2
 go_region_held3 (ZaN wz β0 #[.slice y0a Ss.length y0ac,.slice y0b Ms.length y0bc,.slice y0c Ts.length y0cc] w.heap.size #[.slice a Ss.length cap,.slice a1 Ms.length cap1,.slice a2 Ts.length cap2])
  (first
    | (with_reducible exact ZaN.drew X0.out F0.out)
    | (with_reducible exact ZaN.on (by assumption) (by assumption)))
  (first
    | (go_at_call 8
       refine (ZdH 0 _ _ _ Ss Ms Ts _ (K.out.below (Zb_.drew)) M0.out).mono ?_;rintro e ve0 ⟨z0a,z0ac,z0b,z0bc,z0c,z0cc,rfl,hbe,hse⟩;have CE:Hid (Below wz.heap.size wz ve0):=bt (Zb_.drew) hbe;have SE:=Zab hse;clear hse)
    | (go_at_call 11
       refine (Zhy _ _ _ _ Ss Ms Ts _ _ _ _ _ (S0.out.below CE.out) SE.out).mono ?_;rintro e vf0 ⟨rfl,hbf⟩;have CF:Hid (Below wz.heap.size wz vf0):=bt CE.out hbf))
 replace HB:Hid (Zw_ w vf0):=bt HB.out CF.out;replace F1:=Zab (F1.out.on CF.out);replace F2:=Zab (F2.out.on CF.out);replace X1:=Zab (X1.out.on CF.out);replace X2:=Zab (X2.out.on CF.out);replace S1:=Zab (S1.out.below CF.out);replace S2:=Zab (S2.out.below CF.out);clear CE CF SE K;have K:=Zab (H1.out.below HB.out);go_wp2
 go_region_held3 (ZaN vf0 β1 #[.int .i64 f.now,.int .i64 f.tick,.int .i64 f.given,.slice y1a f.os.length y1ac,.slice y1b f.gs.length y1bc,.slice y1c f.ls.length y1cc,.slice y1d f.ps.length y1dc] (w.heap.size+1) #[.int .i64 f.now,.int .i64 f.tick,.int .i64 f.given,.slice oa f.os.length oac,.slice ob f.gs.length obc,.slice oc f.ls.length occ,.slice od f.ps.length odc])
  (first
    | (with_reducible exact ZaN.drew X1.out F1.out)
    | (with_reducible exact ZaN.on (by assumption) (by assumption)))
  (first
    | (go_at_call 15
       refine (ZdG 0 _ _ _ _ f _ (K.out.below (Zb_.drew)) M1.out).mono ?_;rintro e ve1 ⟨z1a,z1ac,z1b,z1bc,z1c,z1cc,z1d,z1dc,rfl,hbe,hse⟩;have CE:Hid (Below vf0.heap.size vf0 ve1):=bt (Zb_.drew) hbe;have SE:=Zab hse;clear hse)
    | (go_at_call 17
       refine (ZeW _ _ _ _ _ f _ _ _ _ _ _ (S1.out.below CE.out) SE.out).mono ?_;rintro e vf1 ⟨rfl,hbf⟩;have CF:Hid (Below vf0.heap.size vf0 vf1):=bt CE.out hbf))
 replace HB:Hid (Zw_ w vf1):=bt HB.out CF.out;replace F2:=Zab (F2.out.on CF.out);replace X2:=Zab (X2.out.on CF.out);replace S2:=Zab (S2.out.below CF.out);clear CE CF SE K;have K:=Zab (H2.out.below HB.out);go_wp2
 go_region_held3 (ZaN vf1 β2 #[.int .i64 U.bk.now,.int .i64 U.bk.tick,.int .i64 U.bk.given,.slice y2a U.bk.os.length y2ac,.slice y2b U.bk.gs.length y2bc,.slice y2c U.bk.ls.length y2cc,.slice y2d U.bk.ps.length y2dc,.slice y2e U.ds.length y2ec] (w.heap.size+2) #[.int .i64 U.bk.now,.int .i64 U.bk.tick,.int .i64 U.bk.given,.slice ua U.bk.os.length uac,.slice ub U.bk.gs.length ubc,.slice uc U.bk.ls.length ucc,.slice ud U.bk.ps.length udc,.slice ue U.ds.length uec])
  (first
    | (with_reducible exact ZaN.drew X2.out F2.out)
    | (with_reducible exact ZaN.on (by assumption) (by assumption)))
  (first
    | (go_at_call 9
       refine (Zez 0 _ _ _ _ _ U _ (K.out.below (Zb_.drew)) M2.out).mono ?_;rintro e ve2 ⟨z2a,z2ac,z2b,z2bc,z2c,z2cc,z2d,z2dc,z2e,z2ec,rfl,hbe,hse⟩;have CE:Hid (Below vf1.heap.size vf1 ve2):=bt (Zb_.drew) hbe;have SE:=Zab hse;clear hse)
    | (go_at_call 12
       refine (Zi5 _ _ _ _ _ _ _ _ _ _ _ _ U _ (S2.out.below CE.out) SE.out).mono ?_;rintro e vf2 ⟨rfl,hbf⟩;have CF:Hid (Below vf1.heap.size vf1 vf2):=bt CE.out hbf))
 replace HB:Hid (Zw_ w vf2):=bt HB.out CF.out;clear CE CF SE K;go_wp2;go_ret;exact⟨rfl,HB.out⟩
end Go.Proofs.YtcfjmagkinpaeaaGreat
