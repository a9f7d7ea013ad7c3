import Derived.Test.YtfohnageehneoaaGreatVOK
set_option maxHeartbeats 16000000
set_option maxRecDepth 100000
open Go.Proofs.Tryz
namespace Go.Proofs.YtfohnageehneoaaGreat
open Go.RowKit Go.Deep
theorem ZaC.alloc {W0 W:World} {b1 b2:Nat} {cs1 cs2:Array Value} (h:ZaC W0 b1 cs1 b2 cs2 W) (o:Obj):ZaC W0 b1 cs1 b2 cs2 (W.alloc o):=h.on (Zac _ _)
theorem ZaC.set {W0 W:World} {b1 b2:Nat} {cs1 cs2:Array Value} (h:ZaC W0 b1 cs1 b2 cs2 W) {p:Addr} (hp:W0.heap.size≤p.block) (u:Value):ZaC W0 b1 cs1 b2 cs2 (W.setCell p u):=by
 obtain⟨h1,h2,h3,h4,h5⟩:=h;exact⟨fun i=>(Zaq _ _ _ _ (by show b1≠p.block;omega)).trans (h1 i),fun i=>(Zaq _ _ _ _ (by show b2≠p.block;omega)).trans (h2 i),h3.setCell hp u,h4,h5⟩
theorem ZaC.swap {W0 W:World} {b1 b2:Nat} {cs1 cs2:Array Value} {o:Obj} (h:ZaC W0 b1 cs1 b2 cs2 (W.alloc o)) (hb:Below W0.heap.size W0 W) (o':Obj):ZaC W0 b1 cs1 b2 cs2 (W.alloc o'):=by
 obtain⟨h1,h2,h3,h4,h5⟩:=h;have hs:=hb.size;exact ZaC.alloc ⟨fun i=>((Zac W o).cell (p:=⟨b1,i,none⟩) (by simp only [];omega)).symm.trans (h1 i),fun i=>((Zac W o).cell (p:=⟨b2,i,none⟩) (by simp only [];omega)).symm.trans (h2 i),hb,h4,h5⟩ o'
def ZlX (w:World) (β:Nat) (B:Bk):Prop:=∃ b0 m0 b1 m1 b2 m2 b3 m3,Box w β (#[Value.int .i64 B.now,.int .i64 B.tick,.int .i64 B.given,.slice b0 B.os.length m0,.slice b1 B.gs.length m1,.slice b2 B.ls.length m2,.slice b3 B.ps.length m3])∧ZaW 0 w (.slice b0 B.os.length m0) (.slice b1 B.gs.length m1) (.slice b2 B.ls.length m2) (.slice b3 B.ps.length m3) B
theorem ZlX.new {lo hi:Nat} {w5:World} {B:Bk} {b0 m0 b1 m1 b2 m2 b3 m3} (ho:Zax lo hi w5 (.slice b0 B.os.length m0) (.slice b1 B.gs.length m1) (.slice b2 B.ls.length m2) (.slice b3 B.ps.length m3) B) (t:TypeId):ZlX (w5.alloc (.cells (#[Value.int .i64 B.now,.int .i64 B.tick,.int .i64 B.given,.slice b0 B.os.length m0,.slice b1 B.gs.length m1,.slice b2 B.ls.length m2,.slice b3 B.ps.length m3]) t)) w5.heap.size B:=
 ⟨_,_,_,_,_,_,_,_,Box.new _ _ _ _ rfl,(ho.below (Zac _ _)).at.mono Zz_⟩
theorem ZlX.set {lo hi β:Nat} {w5:World} {B:Bk} {b0 m0 b1 m1 b2 m2 b3 m3} (hx:Box w5 β #[Value.int .i64 0,.int .i64 0,.int .i64 0,.slice none 0 0,.slice none 0 0,.slice none 0 0,.slice none 0 0]) (ho:Zax lo hi w5 (.slice b0 B.os.length m0) (.slice b1 B.gs.length m1) (.slice b2 B.ls.length m2) (.slice b3 B.ps.length m3) B) (hb:β < lo) :
 ZlX (((((((w5.setCell ⟨β,0,none⟩ (.int .i64 B.now)).setCell ⟨β,1,none⟩ (.int .i64 B.tick)).setCell ⟨β,2,none⟩ (.int .i64 B.given)).setCell ⟨β,3,none⟩ (.slice b0 B.os.length m0)).setCell ⟨β,4,none⟩ (.slice b1 B.gs.length m1)).setCell ⟨β,5,none⟩ (.slice b2 B.ls.length m2)).setCell ⟨β,6,none⟩ (.slice b3 B.ps.length m3)) β B:=
 ⟨_,_,_,_,_,_,_,_,(((((((hx.set (k:=0) (.int .i64 B.now) (by simp)).set (k:=1) (.int .i64 B.tick) (by simp)).set (k:=2) (.int .i64 B.given) (by simp)).set (k:=3) (.slice b0 B.os.length m0) (by simp)).set (k:=4) (.slice b1 B.gs.length m1) (by simp)).set (k:=5) (.slice b2 B.ls.length m2) (by simp)).set (k:=6) (.slice b3 B.ps.length m3) (by simp)),((((((((ho.setLow hb _).setLow hb _).setLow hb _).setLow hb _).setLow hb _).setLow hb _).setLow hb _).at).mono Zz_⟩
theorem ZcC {n β:Nat} {a w5:World} (h:Below n a w5) (hb:n≤β) (v0 v1 v2 v3 v4 v5 v6:Value):Below n a (((((((w5.setCell ⟨β,0,none⟩ v0).setCell ⟨β,1,none⟩ v1).setCell ⟨β,2,none⟩ v2).setCell ⟨β,3,none⟩ v3).setCell ⟨β,4,none⟩ v4).setCell ⟨β,5,none⟩ v5).setCell ⟨β,6,none⟩ v6):=
 ((((((h.setCell hb _).setCell hb _).setCell hb _).setCell hb _).setCell hb _).setCell hb _).setCell hb _
theorem ZlJ {X Y:World} (h:Below X.drew.heap.size X.drew Y):Below X.heap.size X Y:=bt (Zb_.drew) h
theorem Zhc {X Y:World} {o:Obj} (h:Below (X.alloc o).drew.heap.size (X.alloc o).drew Y):Below X.heap.size X Y:=bt ((Zac X o).drew) h
theorem ZaC.aldrew {W0:World} {b1 b2:Nat} {cs1 cs2:Array Value} (h1:Box W0 b1 cs1) (h2:Box W0 b2 cs2) (o:Obj):ZaC W0 b1 cs1 b2 cs2 (W0.alloc o).drew:=⟨(h1.on (Zac _ _)).cell,(h2.on (Zac _ _)).cell,(Zac _ _).drew,h1.lt,h2.lt⟩
theorem Zh0 {X Y:World} {o:Obj} (h:Below (X.alloc o).heap.size (X.alloc o) Y):Below X.heap.size X Y:=bt (Zac _ _) h
theorem Zhr {k:Int} {B:Bk} (h:0≤k):¬ (ZmB k B < 0):=by unfold ZmB;omega
theorem ZqQ (sv mv tv ov gv lv pv:Value) (Ss:List Sh) (Ms:List Md) (Ts:List Tm) (B:Bk) (w:World)
 (hL:ZbO 0 w sv mv tv Ss Ms Ts) (hB:ZaW 0 w ov gv lv pv B) :
 Calls prog 4 #[.agg #[sv,mv,tv],.agg #[.int .i64 B.now,.int .i64 B.tick,.int .i64 B.given,ov,gv,lv,pv]] w fun e w'=>e=.returned (.bool true)∧Zw_ w w':=by
 obtain⟨FF,hFF⟩:=ZbT.exists Ss Ms B.os;have HSH:=Zab hFF;clear hFF;have HL:=Zab hL;have HK:=Zab hB;obtain⟨a,cap,rfl⟩:=hL.shs.form;obtain⟨a1,cap1,rfl⟩:=hL.mds.form;obtain⟨a2,cap2,rfl⟩:=hL.tms.form;obtain⟨oa0,oc0,rfl⟩:=hB.obs.form;obtain⟨oa1,oc1,rfl⟩:=hB.grs.form;obtain⟨oa2,oc2,rfl⟩:=hB.les.form;obtain⟨oa3,oc3,rfl⟩:=hB.pus.form;clear hL hB;go_enter func4,ntmps4;go_wp2_with fail;generalize hWa:(World.alloc (w.alloc _) _)=Wa;have HBa:Hid (Zw_ w Wa):=by rw [← hWa];exact (Zac w _).alloc (by simp) _
 have FA:Hid (Box Wa w.heap.size (#[Value.slice a Ss.length cap,.slice a1 Ms.length cap1,.slice a2 Ts.length cap2])):=by rw [← hWa];exact (Box.new _ _ _ _ rfl).on (Zac _ _)
 have FB:Hid (Box Wa (w.heap.size+1) (#[Value.int .i64 B.now,.int .i64 B.tick,.int .i64 B.given,.slice oa0 B.os.length oc0,.slice oa1 B.gs.length oc1,.slice oa2 B.ls.length oc2,.slice oa3 B.ps.length oc3])):=by rw [← hWa];exact Box.new _ _ _ _ (by simp)
 clear hWa;refine (Zom 0 _ _ _ Ss Ms Ts _ _ (by omega) (by omega) (HL.out.below HBa.out)).mono ?_;rintro e w1 ⟨q,rfl,hb1,hr0,hr1,hr2⟩;have HB1:Hid (Zw_ w w1):=bt HBa.out hb1;replace FA:=Zab (FA.out.on hb1);replace FB:=Zab (FB.out.on hb1);have HQ:=Zab hr2;clear hb1 hr2 HBa
 by_cases hneg:q < 0
 · go_wp2
   go_ret;exact⟨rfl,HB1.out⟩
 have hLm:Hid (Zft Ss Ms Ts):=HQ.out (by omega);clear HQ hr0;have g1:=FB.out.cell;have gm:=FB.out.lt;go_wp2_with fail;clear g1 gm;refine (ZmI 0 _ _ _ _ B _ _ (by omega) (by omega) (HK.out.below HB1.out)).mono ?_;rintro e w2 ⟨q2,rfl,hb2,hr0,hr2,hr3⟩;have HB:Hid (Zw_ w w2):=bt HB1.out hb2;replace FA:=Zab (FA.out.on hb2);replace FB:=Zab (FB.out.on hb2);have HQ:=Zab hr3;clear hb2 hr3 HB1
 by_cases hneg2:q2 < 0
 · go_wp2
   go_ret;exact⟨rfl,HB.out⟩
 have hBm:Hid (ZaA B):=HQ.out (by omega);clear HQ hr0 hr1 hr2 hneg;obtain⟨Bq,c,hAN,hSM⟩:∃ (Bq:Bk) (c:Int),Zd7 Ss Ms Ts B FF=(Bq,c)∧ZaA Bq:=⟨_,_,rfl,Zk1 hBm.out⟩
 have HAN:=Zab hAN;have HSM:=Zab hSM;clear hAN hSM;go_wp2;clear hneg2
 go_cut [6,7] (fun p q wc=>∃ β,p=.pointer (some ⟨β,0,none⟩)∧q=.int .i64 c∧w2.heap.size≤β∧ZlX wc β Bq∧Below w2.heap.size w2 wc)
 case first=>
  have hltA:w.heap.size < w2.heap.size:=FA.out.lt
  have HLr:=Zab (HL.out.below HB.out);have HKr:=Zab (HK.out.below HB.out)
  go_region_held3 (ZaC w2 w.heap.size (#[Value.slice a Ss.length cap,.slice a1 Ms.length cap1,.slice a2 Ts.length cap2]) (w.heap.size+1) (#[Value.int .i64 B.now,.int .i64 B.tick,.int .i64 B.given,.slice oa0 B.os.length oc0,.slice oa1 B.gs.length oc1,.slice oa2 B.ls.length oc2,.slice oa3 B.ps.length oc3]))
   (first
     | (with_reducible exact ZaC.drew FA.out FB.out)
     | (with_reducible exact ZaC.aldrew FA.out FB.out _)
     | (with_reducible exact ZaC.on (by assumption) (by assumption))
     | (with_reducible (refine ZaC.alloc ?_ _;assumption))
     | (with_reducible exact ZaC.swap (by assumption) HD5.out _)
     | (refine ZaC.set ?_ (by simp only [];omega) _
        refine ZaC.set ?_ (by simp only [];omega) _;refine ZaC.set ?_ (by simp only [];omega) _;refine ZaC.set ?_ (by simp only [];omega) _;refine ZaC.set ?_ (by simp only [];omega) _;refine ZaC.set ?_ (by simp only [];omega) _;refine ZaC.set ?_ (by simp only [];omega) _
        with_reducible assumption))
   (first
     | (go_at_call 10
        refine (Zhf 0 _ _ _ Ss Ms Ts _ (by first | exact HLr.out.below (Zb_.drew) | exact HLr.out.below ((Zac _ _).drew)) hLm.out).mono ?_;rintro e w3 ⟨x0,y0,x1,y1,x2,y2,rfl,hb3,hs3⟩
        try (have HX:Hid (Box w3 w2.heap.size #[Value.int .i64 0,.int .i64 0,.int .i64 0,.slice none 0 0,.slice none 0 0,.slice none 0 0,.slice none 0 0]):=by with_reducible exact Zab (Box.on (Box.drew (Box.new w2 _ 40 _ rfl)) hb3))
        first|(have HD3:Hid (Below w2.heap.size w2 w3):=by with_reducible exact Zab (ZlJ hb3))|(have HD3:Hid (Below w2.heap.size w2 w3):=by with_reducible exact Zab (Zhc hb3))
        have HS3:=Zab (hs3.mono Zz_);have hz3:w2.heap.size≤w3.heap.size:=HD3.out.size;clear hs3)
     | (go_at_call 11
        refine (ZfX 0 _ _ _ _ B _ (by first | exact HKr.out.below HD3.out | exact HKr.out.below (bt HD3.out (Zac _ _))) hBm.out).mono ?_;rintro e w4 ⟨z0,t0,z1,t1,z2,t2,z3,t3,rfl,hb4,hs4⟩
        first|(have HX4:Hid (Box w4 w3.heap.size #[Value.int .i64 0,.int .i64 0,.int .i64 0,.slice none 0 0,.slice none 0 0,.slice none 0 0,.slice none 0 0]):=by with_reducible exact Zab (Box.on (Box.new w3 _ 40 _ rfl) hb4))|(have HX4:=Zab (HX.out.on hb4)) | skip
        first|(have HD4:Hid (Below w2.heap.size w2 w4):=by with_reducible exact Zab (bt HD3.out hb4))|(have HD4:Hid (Below w2.heap.size w2 w4):=by with_reducible exact Zab (bt HD3.out (Zh0 hb4)))
        have HS4:Hid (ZbO 0 w4 _ _ _ Ss Ms Ts):=HS3.out.below (by first | exact hb4 | exact Zh0 hb4);have HK4:=Zab (hs4.mono Zz_);have hz4:w2.heap.size≤w4.heap.size:=HD4.out.size;clear hs4 HS3)
     | (go_at_call 18
        refine (Zkc _ _ _ _ _ _ _ Ss Ms Ts B FF _ (by first | exact HS4.out | exact HS4.out.below (Zac _ _)) (by first | exact HK4.out | exact HK4.out.below (Zac _ _)) hBm.out HSH.out).mono ?_;intro e w5 hans;rw [HAN.out] at hans;obtain⟨b0,m0,b1,m1,b2,m2,b3,m3,rfl,hb5,ho5⟩:=hans
        first|(have HX5:Hid (Box w5 w4.heap.size #[Value.int .i64 0,.int .i64 0,.int .i64 0,.slice none 0 0,.slice none 0 0,.slice none 0 0,.slice none 0 0]):=by with_reducible exact Zab (Box.on (Box.new w4 _ 40 _ rfl) hb5))|(have HX5:=Zab (HX4.out.on hb5)) | skip
        first|(have HD5:Hid (Below w2.heap.size w2 w5):=by with_reducible exact Zab (bt HD4.out hb5))|(have HD5:Hid (Below w2.heap.size w2 w5):=by with_reducible exact Zab (bt HD4.out (Zh0 hb5)))
        have HO5:=Zab ho5
        try (have rr:=HX5.out.cell
             have rf:=HX5.out.free;have rl:=HX5.out.lt;have r0:_=some (Value.int .i64 0):=rr 0;have r1:_=some (Value.int .i64 0):=rr 1;have r2:_=some (Value.int .i64 0):=rr 2;have r3:_=some (Value.slice none 0 0):=rr 3;have r4:_=some (Value.slice none 0 0):=rr 4;have r5:_=some (Value.slice none 0 0):=rr 5;have r6:_=some (Value.slice none 0 0):=rr 6;clear rr)
        clear ho5))
  all_goals (go_wp2_with fail)
  all_goals go_meet
  · exact⟨_,rfl,rfl,HD5.out.size,ZlX.new HO5.out _,HD5.out.alloc HD5.out.size _⟩
  · exact⟨_,rfl,rfl,HD4.out.size,ZlX.set HX5.out HO5.out (by simp),ZcC HD5.out HD4.out.size _ _ _ _ _ _ _⟩
  · exact⟨_,rfl,rfl,HD3.out.size,ZlX.set HX5.out HO5.out HX4.out.lt,ZcC HD5.out HD3.out.size _ _ _ _ _ _ _⟩
  · exact⟨_,rfl,rfl,Nat.le_refl _,ZlX.set HX5.out HO5.out HX4.out.lt,ZcC HD5.out Zl_ _ _ _ _ _ _ _⟩
 case rest=>
 revert wc;intro Wc hcut;obtain⟨β,rfl,rfl,hβ,⟨b0,m0,b1,m1,b2,m2,b3,m3,hx5,ho5⟩,hbc⟩:=hcut;have hzβ:=hx5.lt;have hzw:w.heap.size+1 < w2.heap.size:=FB.out.lt
 have hzc:=hbc.size;have FC:Hid (Below Wc.heap.size Wc Wc):=Below.refl _ _;have HW0:=Zab ho5;have FO:=Zab ho5;have FW:=Zab hx5;have FA:Hid (Box Wc w.heap.size (#[Value.slice a Ss.length cap,.slice a1 Ms.length cap1,.slice a2 Ts.length cap2])):=FA.out.on hbc;have FB:Hid (Box Wc (w.heap.size+1) (#[Value.int .i64 B.now,.int .i64 B.tick,.int .i64 B.given,.slice oa0 B.os.length oc0,.slice oa1 B.gs.length oc1,.slice oa2 B.ls.length oc2,.slice oa3 B.ps.length oc3])):=FB.out.on hbc;have HB:Hid (Zw_ w Wc):=bt HB.out hbc;clear hx5 ho5 hbc;have g1:=FA.out.cell;go_wp2_with fail;clear g1;refine (Zml 0 _ _ _ Ss Ms Ts _ (HL.out.below HB.out) hLm.out).mono ?_;rintro e w6 ⟨c0,d0,c1,d1,c2,d2,rfl,hb6,ho6⟩;have hz6:=hb6.size;replace FC:=Zab (FC.out.trans (hb6.mono FC.out.size));replace FA:=Zab (FA.out.on hb6);replace FB:=Zab (FB.out.on hb6);replace FW:=Zab (FW.out.on hb6)
 replace HB:=Zab (HB.out.trans (hb6.mono HB.out.size));replace FO:=Zab (FO.out.below hb6);have OX:=Zab ho6;clear hb6 ho6;have g0:=FB.out.cell;have gl:=FB.out.lt;have g1:∀ o i,(w6.alloc o).cell? ⟨w.heap.size+1,i,none⟩=_:=fun o i=>(Zak _ _ _ _ gl).trans (g0 i)
 go_wp2_with fail;clear g0 gl g1;generalize hWn:w6.alloc _=W6;have hbn:Below w6.heap.size w6 W6:=by rw [← hWn];exact Zac _ _
 have FX:Hid (Box W6 w6.heap.size (#[Value.slice c0 Ss.length d0,.slice c1 Ms.length d1,.slice c2 Ts.length d2])):=by rw [← hWn];exact Box.new _ _ _ _ rfl
 have hzW6:W6.heap.size=w6.heap.size+1:=by rw [← hWn];simp
 replace FC:=Zab (FC.out.trans (hbn.mono FC.out.size));replace FA:=Zab (FA.out.on hbn);replace FB:=Zab (FB.out.on hbn);replace FW:=Zab (FW.out.on hbn);replace HB:=Zab (HB.out.trans (hbn.mono HB.out.size));replace FO:=Zab (FO.out.below hbn);replace OX:=Zab (OX.out.below hbn);clear hbn hWn;refine (Zlf 0 _ _ _ _ B _ (HK.out.below HB.out) hBm.out).mono ?_;rintro e w7 ⟨x0,y0,x1,y1,x2,y2,x3,y3,rfl,hb7,ho7⟩;have hz7:=hb7.size;replace FC:=Zab (FC.out.trans (hb7.mono FC.out.size));replace FA:=Zab (FA.out.on hb7);replace FB:=Zab (FB.out.on hb7);replace FW:=Zab (FW.out.on hb7);replace HB:=Zab (HB.out.trans (hb7.mono HB.out.size));replace FO:=Zab (FO.out.below hb7);replace OX:=Zab (OX.out.below hb7);replace FX:=Zab (FX.out.on hb7);have OY:=Zab ho7;clear hb7 ho7;have g0:=FX.out.cell;have gl:=FX.out.lt
 have g1:∀ o i,(w7.alloc o).cell? ⟨w6.heap.size,i,none⟩=_:=fun o i=>(Zak _ _ _ _ gl).trans (g0 i)
 go_wp2_with fail;clear g0 gl g1;generalize hWn:w7.alloc _=W7;have hbn:Below w7.heap.size w7 W7:=by rw [← hWn];exact Zac _ _
 have FY:Hid (Box W7 w7.heap.size (#[Value.int .i64 B.now,.int .i64 B.tick,.int .i64 B.given,.slice x0 B.os.length y0,.slice x1 B.gs.length y1,.slice x2 B.ls.length y2,.slice x3 B.ps.length y3])):=by rw [← hWn];exact Box.new _ _ _ _ rfl
 have hzW7:W7.heap.size=w7.heap.size+1:=by rw [← hWn];simp
 replace FC:=Zab (FC.out.trans (hbn.mono FC.out.size));replace FA:=Zab (FA.out.on hbn);replace FB:=Zab (FB.out.on hbn);replace FW:=Zab (FW.out.on hbn);replace HB:=Zab (HB.out.trans (hbn.mono HB.out.size));replace FO:=Zab (FO.out.below hbn);replace OX:=Zab (OX.out.below hbn);replace FX:=Zab (FX.out.on hbn);replace OY:=Zab (OY.out.below hbn);clear hbn hWn;refine (Zgi _ _ _ _ _ _ _ Ss Ms Ts B FF _ (OX.out.at.mono Zz_) (OY.out.at.mono Zz_) hBm.out HSH.out).mono ?_;intro e w8 hans;rw [HAN.out] at hans;obtain⟨z0,t0,z1,t1,z2,t2,z3,t3,rfl,hb8,ho8⟩:=hans;have hz8:=hb8.size;replace FC:=Zab (FC.out.trans (hb8.mono FC.out.size));replace FA:=Zab (FA.out.on hb8);replace FB:=Zab (FB.out.on hb8);replace FW:=Zab (FW.out.on hb8);replace HB:=Zab (HB.out.trans (hb8.mono HB.out.size));replace FO:=Zab (FO.out.below hb8);replace OX:=Zab (OX.out.below hb8)
 replace FX:=Zab (FX.out.on hb8);replace OY:=Zab (OY.out.below hb8);replace FY:=Zab (FY.out.on hb8);have OG:=Zab ho8;clear hb8 ho8;have g0:=FW.out.cell;have gl:=FW.out.lt;have g1:∀ o i,(w8.alloc o).cell? ⟨β,i,none⟩=_:=fun o i=>(Zak _ _ _ _ gl).trans (g0 i)
 go_wp2_with fail;clear g0 gl g1;generalize hWn:w8.alloc _=W8;have hbn:Below w8.heap.size w8 W8:=by rw [← hWn];exact Zac _ _
 have FG:Hid (Box W8 w8.heap.size (#[Value.int .i64 Bq.now,.int .i64 Bq.tick,.int .i64 Bq.given,.slice z0 Bq.os.length t0,.slice z1 Bq.gs.length t1,.slice z2 Bq.ls.length t2,.slice z3 Bq.ps.length t3])):=by rw [← hWn];exact Box.new _ _ _ _ rfl
 have hzW8:W8.heap.size=w8.heap.size+1:=by rw [← hWn];simp
 replace FC:=Zab (FC.out.trans (hbn.mono FC.out.size));replace FA:=Zab (FA.out.on hbn);replace FB:=Zab (FB.out.on hbn);replace FW:=Zab (FW.out.on hbn);replace HB:=Zab (HB.out.trans (hbn.mono HB.out.size));replace FO:=Zab (FO.out.below hbn);replace OX:=Zab (OX.out.below hbn);replace FX:=Zab (FX.out.on hbn);replace OY:=Zab (OY.out.below hbn);replace FY:=Zab (FY.out.on hbn);replace OG:=Zab (OG.out.below hbn);clear hbn hWn;refine (Zd2 _ _ _ _ _ Bq _ _ _ _ _ _ OG.out.at FO.out).mono ?_;rintro e w9 ⟨rfl,hbe⟩;have hzw9:=hbe.size;replace FC:=Zab (FC.out.trans (hbe.mono FC.out.size));replace FA:=Zab (FA.out.on hbe);replace FB:=Zab (FB.out.on hbe);replace FW:=Zab (FW.out.on hbe);replace HB:=Zab (HB.out.trans (hbe.mono HB.out.size));replace FO:=Zab (FO.out.below hbe);replace OX:=Zab (OX.out.below hbe);replace FX:=Zab (FX.out.on hbe);replace OY:=Zab (OY.out.below hbe)
 replace FY:=Zab (FY.out.on hbe);replace OG:=Zab (OG.out.below hbe);replace FG:=Zab (FG.out.on hbe);clear hbe;go_wp2_with fail;have HLb:=Zab (HL.out.below HB.out)
 go_region_held3 (ZaC w9 w6.heap.size (#[Value.slice c0 Ss.length d0,.slice c1 Ms.length d1,.slice c2 Ts.length d2]) w.heap.size (#[Value.slice a Ss.length cap,.slice a1 Ms.length cap1,.slice a2 Ts.length cap2]))
  (first
    | (with_reducible exact ZaC.drew FX.out FA.out)
    | (with_reducible exact ZaC.on (by assumption) (by assumption)))
  (first
    | (go_at_call 10
       refine (Zhf 0 _ _ _ Ss Ms Ts _ (HLb.out.below (Zb_.drew)) hLm.out).mono ?_;rintro e we ⟨f0,j0,f1,j1,f2,j2,rfl,hbe,hse⟩;have HC8:Hid (Below w9.heap.size w9 we):=bt (Zb_.drew) hbe;have HSe:=Zab hse;clear hse)
    | (go_at_call 14
       refine (Zmt _ _ _ _ Ss Ms Ts _ _ _ _ _ (OX.out.below HC8.out).at HSe.out).mono ?_;rintro e w10 ⟨rfl,hbf⟩;have HC9:Hid (Below w9.heap.size w9 w10):=bt HC8.out hbf))
 have hb10:=HC9.out;have hz10:=hb10.size;replace FC:=Zab (FC.out.trans (hb10.mono FC.out.size));replace FA:=Zab (FA.out.on hb10);replace FB:=Zab (FB.out.on hb10);replace FW:=Zab (FW.out.on hb10);replace HB:=Zab (HB.out.trans (hb10.mono HB.out.size));replace FO:=Zab (FO.out.below hb10);replace OX:=Zab (OX.out.below hb10);replace FX:=Zab (FX.out.on hb10);replace OY:=Zab (OY.out.below hb10);replace FY:=Zab (FY.out.on hb10);replace OG:=Zab (OG.out.below hb10);replace FG:=Zab (FG.out.on hb10);clear hb10 HC9 HC8 HSe HLb hbe hbf;go_wp2_with fail;have HKb:=Zab (HK.out.below HB.out)
 go_region_held3 (ZaC w10 w7.heap.size (#[Value.int .i64 B.now,.int .i64 B.tick,.int .i64 B.given,.slice x0 B.os.length y0,.slice x1 B.gs.length y1,.slice x2 B.ls.length y2,.slice x3 B.ps.length y3]) (w.heap.size+1) (#[Value.int .i64 B.now,.int .i64 B.tick,.int .i64 B.given,.slice oa0 B.os.length oc0,.slice oa1 B.gs.length oc1,.slice oa2 B.ls.length oc2,.slice oa3 B.ps.length oc3]))
  (first
    | (with_reducible exact ZaC.drew FY.out FB.out)
    | (with_reducible exact ZaC.on (by assumption) (by assumption)))
  (first
    | (go_at_call 11
       refine (ZfX 0 _ _ _ _ B _ (HKb.out.below (Zb_.drew)) hBm.out).mono ?_;rintro e we ⟨f0,j0,f1,j1,f2,j2,f3,j3,rfl,hbe,hse⟩;have HC8:Hid (Below w10.heap.size w10 we):=bt (Zb_.drew) hbe;have HSe:=Zab hse;clear hse)
    | (go_at_call 13
       refine (Zd2 _ _ _ _ _ B _ _ _ _ _ _ (OY.out.below HC8.out).at HSe.out).mono ?_;rintro e w11 ⟨rfl,hbf⟩;have HC9:Hid (Below w10.heap.size w10 w11):=bt HC8.out hbf))
 have hb11:=HC9.out;have hz11:=hb11.size;replace FC:=Zab (FC.out.trans (hb11.mono FC.out.size));replace FA:=Zab (FA.out.on hb11);replace FB:=Zab (FB.out.on hb11);replace FW:=Zab (FW.out.on hb11);replace HB:=Zab (HB.out.trans (hb11.mono HB.out.size));replace FO:=Zab (FO.out.below hb11);replace OX:=Zab (OX.out.below hb11);replace FX:=Zab (FX.out.on hb11);replace OY:=Zab (OY.out.below hb11);replace FY:=Zab (FY.out.on hb11);replace OG:=Zab (OG.out.below hb11);replace FG:=Zab (FG.out.on hb11);clear hb11 HC9 HC8 HSe HKb hbe hbf;have g1:=FX.out.cell;go_wp2_with fail;clear g1;refine (Zk2 _ _ _ _ _ Ss Ms Ts _ OX.out hLm.out (by omega)).mono ?_;rintro e w12 ⟨k1,rfl,hk1,hk2,ht12⟩;have hz12:=ht12.size;replace FC:=Zab (FC.out.trans ((ht12.under (by omega)).mono (by omega)));replace FA:=Zab (FA.out.touch ht12 (by omega));replace FB:=Zab (FB.out.touch ht12 (by omega))
 replace FW:=Zab (FW.out.touch ht12 (by omega));replace HB:=Zab (HB.out.trans ((ht12.under (by omega)).mono (by omega)));replace FO:=Zab (HW0.out.below FC.out);replace FX:=Zab (FX.out.touch ht12 (by omega));replace OY:=Zab (OY.out.touch ht12 (by omega));replace FY:=Zab (FY.out.touch ht12 (by omega));replace OG:=Zab (OG.out.touch ht12 (by omega));replace FG:=Zab (FG.out.touch ht12 (by omega));clear OX FX ht12;have g1:=FY.out.cell;go_wp2_with fail;clear g1;refine (Zgo _ _ _ _ _ _ B _ k1 OY.out hBm.out (by omega) (by omega) (by omega)).mono ?_;rintro e w13 ⟨rfl,ht13,hm13⟩;have hz13:=ht13.size;replace FC:=Zab (FC.out.trans ((ht13.under (by omega)).mono (by omega)));replace FA:=Zab (FA.out.touch ht13 (by omega));replace FB:=Zab (FB.out.touch ht13 (by omega));replace FW:=Zab (FW.out.touch ht13 (by omega))
 replace HB:=Zab (HB.out.trans ((ht13.under (by omega)).mono (by omega)));replace FO:=Zab (HW0.out.below FC.out);replace FY:=Zab (FY.out.touch ht13 (by omega));replace OG:=Zab (OG.out.touch ht13 (by omega));replace FG:=Zab (FG.out.touch ht13 (by omega));clear OY FY ht13 hm13;have hke:=Zhr (k:=k1) (B:=B) (by omega);have g1:=FG.out.cell;have g2:=FW.out.cell;generalize ZmB k1 B=K1 at hke ⊢;go_wp2_with fail;clear g1 g2;refine (Zd2 _ _ _ _ _ Bq _ _ _ _ _ _ OG.out.at FO.out).mono ?_;rintro e w14 ⟨rfl,hbe⟩;have hzw14:=hbe.size;replace FC:=Zab (FC.out.trans (hbe.mono FC.out.size));replace FA:=Zab (FA.out.on hbe);replace FB:=Zab (FB.out.on hbe);replace FW:=Zab (FW.out.on hbe);replace HB:=Zab (HB.out.trans (hbe.mono HB.out.size));replace FO:=Zab (FO.out.below hbe);replace OG:=Zab (OG.out.below hbe);replace FG:=Zab (FG.out.on hbe);clear hbe;have g1:=FG.out.cell
 go_wp2_with fail;clear g1 hke;refine (Zgo _ _ _ _ _ _ Bq _ 1 OG.out HSM.out (by omega) (by omega) (by omega)).mono ?_;rintro e w15 ⟨rfl,ht15,hm15⟩;have hz15:=ht15.size;replace FC:=Zab (FC.out.trans ((ht15.under (by omega)).mono (by omega)));replace FA:=Zab (FA.out.touch ht15 (by omega));replace FB:=Zab (FB.out.touch ht15 (by omega));replace FW:=Zab (FW.out.touch ht15 (by omega));replace HB:=Zab (HB.out.trans ((ht15.under (by omega)).mono (by omega)));replace FO:=Zab (HW0.out.below FC.out);replace FG:=Zab (FG.out.touch ht15 (by omega));have OM:=Zab hm15;clear OG ht15 hm15;have hke:=Zhr (k:=1) (B:=Bq) (by omega);have g1:=FG.out.cell;generalize hK2:ZmB 1 Bq=K2 at hke ⊢;have HK2:=Zab hK2;clear hK2;go_wp2_with fail;clear g1;refine (Zgq _ _ _ _ _ _ Bq _ 1 OM.out HSM.out (by omega) (by omega)).mono ?_;rintro e w16 ⟨rfl,hb16⟩;have hz16:=hb16.size
 replace FC:=Zab (FC.out.trans (hb16.mono FC.out.size));replace FA:=Zab (FA.out.on hb16);replace FB:=Zab (FB.out.on hb16);replace FW:=Zab (FW.out.on hb16);replace HB:=Zab (HB.out.trans (hb16.mono HB.out.size));replace FO:=Zab (FO.out.below hb16);replace FG:=Zab (FG.out.on hb16);replace OM:=Zab (OM.out.below hb16);clear hb16;rw [HK2.out];go_wp2_with fail
 go_cut [15,16] (fun p q wc=>∃ β,p=.pointer (some ⟨β,0,none⟩)∧q=.int .i64 c∧w16.heap.size≤β∧ZlX wc β Bq∧Below w16.heap.size w16 wc)
 case first=>
  have hltA:w.heap.size < w16.heap.size:=FA.out.lt
  have HLr:=Zab (HL.out.below HB.out);have HKr:=Zab (HK.out.below HB.out)
  go_region_held3 (ZaC w16 w.heap.size (#[Value.slice a Ss.length cap,.slice a1 Ms.length cap1,.slice a2 Ts.length cap2]) (w.heap.size+1) (#[Value.int .i64 B.now,.int .i64 B.tick,.int .i64 B.given,.slice oa0 B.os.length oc0,.slice oa1 B.gs.length oc1,.slice oa2 B.ls.length oc2,.slice oa3 B.ps.length oc3]))
   (first
     | (with_reducible exact ZaC.drew FA.out FB.out)
     | (with_reducible exact ZaC.aldrew FA.out FB.out _)
     | (with_reducible exact ZaC.on (by assumption) (by assumption))
     | (with_reducible (refine ZaC.alloc ?_ _;assumption))
     | (with_reducible exact ZaC.swap (by assumption) HD5.out _)
     | (refine ZaC.set ?_ (by simp only [];omega) _
        refine ZaC.set ?_ (by simp only [];omega) _;refine ZaC.set ?_ (by simp only [];omega) _;refine ZaC.set ?_ (by simp only [];omega) _;refine ZaC.set ?_ (by simp only [];omega) _;refine ZaC.set ?_ (by simp only [];omega) _;refine ZaC.set ?_ (by simp only [];omega) _
        with_reducible assumption))
   (first
     | (go_at_call 10
        refine (Zhf 0 _ _ _ Ss Ms Ts _ (by first | exact HLr.out.below (Zb_.drew) | exact HLr.out.below ((Zac _ _).drew)) hLm.out).mono ?_;rintro e w3 ⟨x0,y0,x1,y1,x2,y2,rfl,hb3,hs3⟩
        try (have HX:Hid (Box w3 w16.heap.size #[Value.int .i64 0,.int .i64 0,.int .i64 0,.slice none 0 0,.slice none 0 0,.slice none 0 0,.slice none 0 0]):=by with_reducible exact Zab (Box.on (Box.drew (Box.new w16 _ 40 _ rfl)) hb3))
        first|(have HD3:Hid (Below w16.heap.size w16 w3):=by with_reducible exact Zab (ZlJ hb3))|(have HD3:Hid (Below w16.heap.size w16 w3):=by with_reducible exact Zab (Zhc hb3))
        have HS3:=Zab (hs3.mono Zz_);have hz3:w16.heap.size≤w3.heap.size:=HD3.out.size;clear hs3)
     | (go_at_call 11
        refine (ZfX 0 _ _ _ _ B _ (by first | exact HKr.out.below HD3.out | exact HKr.out.below (bt HD3.out (Zac _ _))) hBm.out).mono ?_;rintro e w4 ⟨z0,t0,z1,t1,z2,t2,z3,t3,rfl,hb4,hs4⟩
        first|(have HX4:Hid (Box w4 w3.heap.size #[Value.int .i64 0,.int .i64 0,.int .i64 0,.slice none 0 0,.slice none 0 0,.slice none 0 0,.slice none 0 0]):=by with_reducible exact Zab (Box.on (Box.new w3 _ 40 _ rfl) hb4))|(have HX4:=Zab (HX.out.on hb4)) | skip
        first|(have HD4:Hid (Below w16.heap.size w16 w4):=by with_reducible exact Zab (bt HD3.out hb4))|(have HD4:Hid (Below w16.heap.size w16 w4):=by with_reducible exact Zab (bt HD3.out (Zh0 hb4)))
        have HS4:Hid (ZbO 0 w4 _ _ _ Ss Ms Ts):=HS3.out.below (by first | exact hb4 | exact Zh0 hb4);have HK4:=Zab (hs4.mono Zz_);have hz4:w16.heap.size≤w4.heap.size:=HD4.out.size;clear hs4 HS3)
     | (go_at_call 19
        refine (Zgi _ _ _ _ _ _ _ Ss Ms Ts B FF _ (by first | exact HS4.out | exact HS4.out.below (Zac _ _)) (by first | exact HK4.out | exact HK4.out.below (Zac _ _)) hBm.out HSH.out).mono ?_;intro e w5 hans;rw [HAN.out] at hans;obtain⟨b0,m0,b1,m1,b2,m2,b3,m3,rfl,hb5,ho5⟩:=hans
        first|(have HX5:Hid (Box w5 w4.heap.size #[Value.int .i64 0,.int .i64 0,.int .i64 0,.slice none 0 0,.slice none 0 0,.slice none 0 0,.slice none 0 0]):=by with_reducible exact Zab (Box.on (Box.new w4 _ 40 _ rfl) hb5))|(have HX5:=Zab (HX4.out.on hb5)) | skip
        first|(have HD5:Hid (Below w16.heap.size w16 w5):=by with_reducible exact Zab (bt HD4.out hb5))|(have HD5:Hid (Below w16.heap.size w16 w5):=by with_reducible exact Zab (bt HD4.out (Zh0 hb5)))
        have HO5:=Zab ho5
        try (have rr:=HX5.out.cell
             have rf:=HX5.out.free;have rl:=HX5.out.lt;have r0:_=some (Value.int .i64 0):=rr 0;have r1:_=some (Value.int .i64 0):=rr 1;have r2:_=some (Value.int .i64 0):=rr 2;have r3:_=some (Value.slice none 0 0):=rr 3;have r4:_=some (Value.slice none 0 0):=rr 4;have r5:_=some (Value.slice none 0 0):=rr 5;have r6:_=some (Value.slice none 0 0):=rr 6;clear rr)
        clear ho5))
  all_goals (go_wp2_with fail)
  all_goals go_meet
  · exact⟨_,rfl,rfl,HD5.out.size,ZlX.new HO5.out _,HD5.out.alloc HD5.out.size _⟩
  · exact⟨_,rfl,rfl,HD4.out.size,ZlX.set HX5.out HO5.out (by simp),ZcC HD5.out HD4.out.size _ _ _ _ _ _ _⟩
  · exact⟨_,rfl,rfl,HD3.out.size,ZlX.set HX5.out HO5.out HX4.out.lt,ZcC HD5.out HD3.out.size _ _ _ _ _ _ _⟩
  · exact⟨_,rfl,rfl,Nat.le_refl _,ZlX.set HX5.out HO5.out HX4.out.lt,ZcC HD5.out Zl_ _ _ _ _ _ _ _⟩
 case rest=>
 obtain⟨β2,rfl,rfl,hβ2,⟨n0,o0,n1,o1,n2,o2,n3,o3,hx2,ho2⟩,hbc⟩:=hcut;have hz17:=hbc.size;have HX2:=Zab hx2;have HO2:=Zab ho2;replace FC:=Zab (FC.out.trans (hbc.mono FC.out.size));replace FA:=Zab (FA.out.on hbc);replace FB:=Zab (FB.out.on hbc);replace FW:=Zab (FW.out.on hbc);replace HB:=Zab (HB.out.trans (hbc.mono HB.out.size));replace FO:=Zab (FO.out.below hbc);replace FG:=Zab (FG.out.on hbc);replace OM:=Zab (OM.out.below hbc);clear hx2 ho2 hbc;have g1:=HX2.out.cell;have g2:=FW.out.cell;go_wp2_with fail;clear g1 g2;refine (Zd2 _ _ _ _ _ Bq _ _ _ _ _ _ HO2.out FO.out).mono ?_;rintro e w18 ⟨rfl,hbe⟩;have hzw18:=hbe.size;replace FC:=Zab (FC.out.trans (hbe.mono FC.out.size));replace FA:=Zab (FA.out.on hbe);replace FB:=Zab (FB.out.on hbe);replace FW:=Zab (FW.out.on hbe);replace HB:=Zab (HB.out.trans (hbe.mono HB.out.size));replace FO:=Zab (FO.out.below hbe)
 replace FG:=Zab (FG.out.on hbe);replace OM:=Zab (OM.out.below hbe);clear hbe;have g1:=FG.out.cell;go_wp2_with fail;clear g1;refine (Zgq _ _ _ _ _ _ Bq _ 1 OM.out HSM.out (by omega) (by omega)).mono ?_;rintro e w19 ⟨rfl,hb19⟩;replace FC:=Zab (FC.out.trans (hb19.mono FC.out.size));replace FA:=Zab (FA.out.on hb19);replace FB:=Zab (FB.out.on hb19);replace FW:=Zab (FW.out.on hb19);replace HB:=Zab (HB.out.trans (hb19.mono HB.out.size));replace FO:=Zab (FO.out.below hb19);replace FG:=Zab (FG.out.on hb19);replace OM:=Zab (OM.out.below hb19);clear hb19;rw [HK2.out];go_wp2;go_ret;exact⟨rfl,HB.out⟩
end Go.Proofs.YtfohnageehneoaaGreat
