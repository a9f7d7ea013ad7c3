import Derived.Test.YtcfjmagkinpaeaaGreatGBOG
import Derived.Test.YtcfjmagkinpaeaaGreatGLA
import Derived.Test.YtcfjmagkinpaeaaGreatGTD
set_option maxHeartbeats 16000000
set_option maxRecDepth 100000
open Go.Proofs.Tryz
namespace Go.Proofs.YtcfjmagkinpaeaaGreat
open Go.RowKit Go.Deep
structure Bk where
 now:Int
 tick:Int
 given:Int
 os:List Ob
 gs:List Gr
 ls:List Le
 ps:List Pu
structure ZaH (lo:Nat) (w:World) (ov gv lv pv:Value) (B:Bk):Prop where
 obs:ZbC lo w ov B.os
 grs:Zb9 lo w gv B.gs
 les:ZbU lo w lv B.ls
 pus:Zcd lo w pv B.ps
theorem ZaH.below {lo:Nat} {w w':World} {ov gv lv pv:Value} {B:Bk} (h:ZaH lo w ov gv lv pv B) (hb:Zw_ w w'):ZaH lo w' ov gv lv pv B:=
 ⟨h.obs.below hb,h.grs.below hb,h.les.below hb,h.pus.below hb⟩
theorem ZaH.mono {lo lo':Nat} {w:World} {ov gv lv pv:Value} {B:Bk} (h:ZaH lo w ov gv lv pv B) (hl:lo'≤lo):ZaH lo' w ov gv lv pv B:=
 ⟨h.obs.mono hl,h.grs.mono hl,h.les.mono hl,h.pus.mono hl⟩
def Zbx (B:Bk):Prop:=ZcO B.os∧ZhY B.gs∧Zh0 B.ls∧Zh2 B.ps
section
variable (lo:Nat) (ov gv lv pv:Value) (B:Bk) (w:World)
theorem Zfz (left:Int) (h0:0≤left) (h1:left≤1048576) (h:ZaH lo w ov gv lv pv B) :
 Calls prog 13 #[.agg #[.int .i64 B.now,.int .i64 B.tick,.int .i64 B.given,ov,gv,lv,pv],.int .i64 left] w
  fun e w'=>∃ r:Int,e=.returned (.int .i64 r)∧Zw_ w w'∧-1≤r∧r≤left∧(0≤r→Zbx B):=by
 have HL:=Zab h;obtain⟨a0,k0,rfl⟩:=h.obs.form;obtain⟨a1,k1,rfl⟩:=h.grs.form;obtain⟨a2,k2,rfl⟩:=h.les.form;obtain⟨a3,k3,rfl⟩:=h.pus.form;clear h;go_enter func13,ntmps13;go_wp2_with fail;generalize hWa:w.alloc _=Wa;have HB0:Hid (Zw_ w Wa):=by rw [← hWa];exact Zac w _
 have HX0:Hid (Box Wa w.heap.size #[.int .i64 B.now,.int .i64 B.tick,.int .i64 B.given,.slice a0 B.os.length k0,.slice a1 B.gs.length k1,.slice a2 B.ls.length k2,.slice a3 B.ps.length k3]):=by rw [← hWa];exact Box.new _ _ _ _ rfl
 clear hWa;have hr0:(0:Int)≤left:=h0;refine (Zos lo _ B.os _ _ (by omega) (by omega) (HL.out.below HB0.out).obs).mono ?_;rintro e w1 ⟨r1,rfl,hb1,p1,q1,s1⟩;have HX1:=Zab (HX0.out.on hb1);have HB1:Hid (Zw_ w w1):=HB0.out.trans (hb1.mono HB0.out.size);have Q1:=Zab s1;clear hb1 s1 HB0 HX0
 by_cases hn1:r1 < 0
 · go_wp2
   go_ret;exact⟨-1,rfl,HB1.out,by omega,by omega,fun h=>by omega⟩
 have c1:=HX1.out.cell 4;simp at c1;go_wp2_with fail;clear c1;refine (Zoo lo _ B.gs _ _ (by omega) (by omega) (HL.out.below HB1.out).grs).mono ?_;rintro e w2 ⟨r2,rfl,hb2,p2,q2,s2⟩;have HX2:=Zab (HX1.out.on hb2);have HB2:Hid (Zw_ w w2):=HB1.out.trans (hb2.mono HB1.out.size);have Q2:=Zab s2;clear hb2 s2 HB1 HX1
 by_cases hn2:r2 < 0
 · go_wp2
   go_ret;exact⟨-1,rfl,HB2.out,by omega,by omega,fun h=>by omega⟩
 have c2:=HX2.out.cell 5;simp at c2;go_wp2_with fail;clear c2;refine (Zop lo _ B.ls _ _ (by omega) (by omega) (HL.out.below HB2.out).les).mono ?_;rintro e w3 ⟨r3,rfl,hb3,p3,q3,s3⟩;have HX3:=Zab (HX2.out.on hb3);have HB3:Hid (Zw_ w w3):=HB2.out.trans (hb3.mono HB2.out.size);have Q3:=Zab s3;clear hb3 s3 HB2 HX2
 by_cases hn3:r3 < 0
 · go_wp2
   go_ret;exact⟨-1,rfl,HB3.out,by omega,by omega,fun h=>by omega⟩
 have c3:=HX3.out.cell 6;simp at c3;go_wp2_with fail;clear c3;refine (Zot lo _ B.ps _ _ (by omega) (by omega) (HL.out.below HB3.out).pus).mono ?_;rintro e w4 ⟨r4,rfl,hb4,p4,q4,s4⟩;have HX4:=Zab (HX3.out.on hb4);have HB4:Hid (Zw_ w w4):=HB3.out.trans (hb4.mono HB3.out.size);have Q4:=Zab s4;clear hb4 s4 HB3 HX3
 by_cases hn4:r4 < 0
 · go_wp2
   go_ret;exact⟨-1,rfl,HB4.out,by omega,by omega,fun h=>by omega⟩
 go_wp2;go_ret;exact⟨_,rfl,HB4.out,by omega,by omega,fun h=>⟨Q1.out (by omega),Q2.out (by omega),Q3.out (by omega),Q4.out (by omega)⟩⟩
theorem ZeW (lo':Nat) (ov' gv' lv' pv':Value) (h:ZaH lo w ov gv lv pv B) (h':ZaH lo' w ov' gv' lv' pv' B) :
 Calls prog 17 #[.agg #[.int .i64 B.now,.int .i64 B.tick,.int .i64 B.given,ov,gv,lv,pv],.agg #[.int .i64 B.now,.int .i64 B.tick,.int .i64 B.given,ov',gv',lv',pv']] w fun e w'=>e=.returned (.bool true)∧Zw_ w w':=by
 have HL:=Zab h;have HR:=Zab h';obtain⟨a0,k0,rfl⟩:=h.obs.form;obtain⟨a1,k1,rfl⟩:=h.grs.form;obtain⟨a2,k2,rfl⟩:=h.les.form;obtain⟨a3,k3,rfl⟩:=h.pus.form;obtain⟨d0,md0,rfl⟩:=h'.obs.form;obtain⟨d1,md1,rfl⟩:=h'.grs.form;obtain⟨d2,md2,rfl⟩:=h'.les.form;obtain⟨d3,md3,rfl⟩:=h'.pus.form;clear h h';go_enter func17,ntmps17;go_wp2_with fail;generalize hWa:(World.alloc (w.alloc _) _)=Wa;have HB0:Hid (Zw_ w Wa):=by rw [← hWa];exact (Zac w _).alloc (by simp) _
 have HX0:Hid (Box Wa w.heap.size #[.int .i64 B.now,.int .i64 B.tick,.int .i64 B.given,.slice a0 B.os.length k0,.slice a1 B.gs.length k1,.slice a2 B.ls.length k2,.slice a3 B.ps.length k3]):=by rw [← hWa];exact (Box.new _ _ _ _ rfl).on (Zac _ _)
 have HY0:Hid (Box Wa (w.heap.size+1) #[.int .i64 B.now,.int .i64 B.tick,.int .i64 B.given,.slice d0 B.os.length md0,.slice d1 B.gs.length md1,.slice d2 B.ls.length md2,.slice d3 B.ps.length md3]):=by rw [← hWa];exact Box.new _ _ _ _ (by simp)
 clear hWa;refine (ZlR lo lo' _ _ B.os _ (HL.out.below HB0.out).obs (HR.out.below HB0.out).obs).mono ?_;rintro e w1 ⟨rfl,hb1⟩;have HX1:=Zab (HX0.out.on hb1);have HY1:=Zab (HY0.out.on hb1);have HB1:Hid (Zw_ w w1):=HB0.out.trans (hb1.mono HB0.out.size);clear hb1 HB0 HX0 HY0;have c1:=HX1.out.cell 4;have e1:=HY1.out.cell 4;simp at c1 e1;go_wp2_with fail;clear c1 e1;refine (ZlN lo lo' _ _ B.gs _ (HL.out.below HB1.out).grs (HR.out.below HB1.out).grs).mono ?_;rintro e w2 ⟨rfl,hb2⟩;have HX2:=Zab (HX1.out.on hb2);have HY2:=Zab (HY1.out.on hb2);have HB2:Hid (Zw_ w w2):=HB1.out.trans (hb2.mono HB1.out.size);clear hb2 HB1 HX1 HY1;have c2:=HX2.out.cell 5;have e2:=HY2.out.cell 5;simp at c2 e2;go_wp2_with fail;clear c2 e2;refine (ZlO lo lo' _ _ B.ls _ (HL.out.below HB2.out).les (HR.out.below HB2.out).les).mono ?_;rintro e w3 ⟨rfl,hb3⟩
 have HX3:=Zab (HX2.out.on hb3);have HY3:=Zab (HY2.out.on hb3);have HB3:Hid (Zw_ w w3):=HB2.out.trans (hb3.mono HB2.out.size);clear hb3 HB2 HX2 HY2;have c3:=HX3.out.cell 6;have e3:=HY3.out.cell 6;simp at c3 e3;go_wp2_with fail;clear c3 e3;refine (ZlS lo lo' _ _ B.ps _ (HL.out.below HB3.out).pus (HR.out.below HB3.out).pus).mono ?_;rintro e w4 ⟨rfl,hb4⟩;have HX4:=Zab (HX3.out.on hb4);have HY4:=Zab (HY3.out.on hb4);have HB4:Hid (Zw_ w w4):=HB3.out.trans (hb4.mono HB3.out.size);clear hb4 HB3 HX3 HY3;go_wp2;go_ret;exact⟨rfl,HB4.out⟩
theorem ZdG (h:ZaH lo w ov gv lv pv B) (hn:Zbx B) :
 Calls prog 15 #[.agg #[.int .i64 B.now,.int .i64 B.tick,.int .i64 B.given,ov,gv,lv,pv]] w
  fun e w'=>∃ b0 m0 b1 m1 b2 m2 b3 m3,e=.returned (.agg #[.int .i64 B.now,.int .i64 B.tick,.int .i64 B.given,.slice b0 B.os.length m0,.slice b1 B.gs.length m1,.slice b2 B.ls.length m2,.slice b3 B.ps.length m3])∧Zw_ w w'∧
   ZaH w.heap.size w' (.slice b0 B.os.length m0) (.slice b1 B.gs.length m1) (.slice b2 B.ls.length m2) (.slice b3 B.ps.length m3) B:=by
 have HL:=Zab h;obtain⟨a0,k0,rfl⟩:=h.obs.form;obtain⟨a1,k1,rfl⟩:=h.grs.form;obtain⟨a2,k2,rfl⟩:=h.les.form;obtain⟨a3,k3,rfl⟩:=h.pus.form;obtain⟨hn0,hn1,hn2,hn3⟩:=hn;clear h;go_enter func15,ntmps15;go_wp2_with fail
 obtain⟨wz,hwz,HX0,HR0,HO0,HB0⟩:∃ wz,wz=((w.alloc (.cells #[.int .i64 B.now,.int .i64 B.tick,.int .i64 B.given,.slice a0 B.os.length k0,.slice a1 B.gs.length k1,.slice a2 B.ls.length k2,.slice a3 B.ps.length k3] 32)).alloc (.cells #[.int .i64 0,.int .i64 0,.int .i64 0,.slice none 0 0,.slice none 0 0,.slice none 0 0,.slice none 0 0] 50)).alloc (.cells #[.int .i64 B.now,.int .i64 B.tick,.int .i64 B.given,.slice none 0 0,.slice none 0 0,.slice none 0 0,.slice none 0 0] 50)∧
  Hid (Box wz w.heap.size #[.int .i64 B.now,.int .i64 B.tick,.int .i64 B.given,.slice a0 B.os.length k0,.slice a1 B.gs.length k1,.slice a2 B.ls.length k2,.slice a3 B.ps.length k3])∧Hid (Box wz (w.heap.size+1) #[.int .i64 0,.int .i64 0,.int .i64 0,.slice none 0 0,.slice none 0 0,.slice none 0 0,.slice none 0 0])∧
  Hid (Box wz (w.heap.size+1+1) #[.int .i64 B.now,.int .i64 B.tick,.int .i64 B.given,.slice none 0 0,.slice none 0 0,.slice none 0 0,.slice none 0 0])∧Hid (Zw_ w wz):=
  ⟨_,rfl,((Box.new w _ _ _ rfl).on (Zac _ _)).on (Zac _ _),(Box.new _ _ _ _ (by simp)).on (Zac _ _),Box.new _ _ _ _ (by simp),((Zac _ _).trans ((Zac _ _).mono (by simp))).trans ((Zac _ _).mono (by simp;omega))⟩
 rw [← hwz];clear hwz;generalize wz=v0 at*;have hz0:w.heap.size+3≤v0.heap.size:=by have:=HO0.out.lt;omega
 refine (ZoK lo _ B.os _ (HL.out.below HB0.out).obs hn0).mono ?_;rintro e w0 ⟨u0,rfl,hb0,hs0⟩;obtain⟨b0,m0,rfl⟩:=hs0.form;have GX:=Zab (HX0.out.on hb0);have GR:=Zab (HR0.out.on hb0);have GO:=Zab (HO0.out.on hb0);have GB:=Zab (HB0.out.trans (hb0.mono HB0.out.size));have GN:Hid (ZbC (w.heap.size+3) w0 (.slice b0 B.os.length m0) B.os):=hs0.mono hz0;clear hb0 hs0 HX0 HR0 HO0 HB0 hz0;have o0:=GO.out.cell 3;have f0:=GO.out.free 3;have x1:=GX.out.cell 4;simp at o0 f0 x1;go_wp2_with fail;clear o0 f0 x1
 obtain⟨v1,hwq,HX1,HR1,HO1,HB1,HS0⟩:∃ wq,wq=w0.setCell ⟨w.heap.size+1+1,3,none⟩ (.slice b0 B.os.length m0)∧
  Hid (Box wq w.heap.size #[.int .i64 B.now,.int .i64 B.tick,.int .i64 B.given,.slice a0 B.os.length k0,.slice a1 B.gs.length k1,.slice a2 B.ls.length k2,.slice a3 B.ps.length k3])∧Hid (Box wq (w.heap.size+1) #[.int .i64 0,.int .i64 0,.int .i64 0,.slice none 0 0,.slice none 0 0,.slice none 0 0,.slice none 0 0])∧
  Hid (Box wq (w.heap.size+1+1) #[.int .i64 B.now,.int .i64 B.tick,.int .i64 B.given,.slice b0 B.os.length m0,.slice none 0 0,.slice none 0 0,.slice none 0 0])∧Hid (Zw_ w wq)∧Hid (ZbC (w.heap.size+3) wq (.slice b0 B.os.length m0) B.os):=
  ⟨_,rfl,GX.out.setFar (by simp only [];omega) _,GR.out.setFar (by simp only [];omega) _,GO.out.set (k:=3) (.slice b0 B.os.length m0) (by simp),GB.out.setCell (by simp only [];omega) _,GN.out.set (by simp only [];omega) _⟩
 rw [← hwq];clear hwq GX GR GO GB GN;have hz1:w.heap.size+3≤v1.heap.size:=by have:=HO1.out.lt;omega
 refine (ZoH lo _ B.gs _ (HL.out.below HB1.out).grs hn1).mono ?_;rintro e w1 ⟨u1,rfl,hb1,hs1⟩;obtain⟨b1,m1,rfl⟩:=hs1.form;have GX:=Zab (HX1.out.on hb1);have GR:=Zab (HR1.out.on hb1);have GO:=Zab (HO1.out.on hb1);have GB:=Zab (HB1.out.trans (hb1.mono HB1.out.size));have GN:Hid (Zb9 (w.heap.size+3) w1 (.slice b1 B.gs.length m1) B.gs):=hs1.mono hz1;have G0:=Zab (HS0.out.below hb1);clear hb1 hs1 HX1 HR1 HO1 HB1 hz1 HS0;have o0:=GO.out.cell 4;have f0:=GO.out.free 4;have x1:=GX.out.cell 5;simp at o0 f0 x1;go_wp2_with fail;clear o0 f0 x1
 obtain⟨v2,hwq,HX2,HR2,HO2,HB2,HS1,HS0⟩:∃ wq,wq=w1.setCell ⟨w.heap.size+1+1,4,none⟩ (.slice b1 B.gs.length m1)∧
  Hid (Box wq w.heap.size #[.int .i64 B.now,.int .i64 B.tick,.int .i64 B.given,.slice a0 B.os.length k0,.slice a1 B.gs.length k1,.slice a2 B.ls.length k2,.slice a3 B.ps.length k3])∧Hid (Box wq (w.heap.size+1) #[.int .i64 0,.int .i64 0,.int .i64 0,.slice none 0 0,.slice none 0 0,.slice none 0 0,.slice none 0 0])∧
  Hid (Box wq (w.heap.size+1+1) #[.int .i64 B.now,.int .i64 B.tick,.int .i64 B.given,.slice b0 B.os.length m0,.slice b1 B.gs.length m1,.slice none 0 0,.slice none 0 0])∧Hid (Zw_ w wq)∧Hid (Zb9 (w.heap.size+3) wq (.slice b1 B.gs.length m1) B.gs)∧Hid (ZbC (w.heap.size+3) wq (.slice b0 B.os.length m0) B.os):=
  ⟨_,rfl,GX.out.setFar (by simp only [];omega) _,GR.out.setFar (by simp only [];omega) _,GO.out.set (k:=4) (.slice b1 B.gs.length m1) (by simp),GB.out.setCell (by simp only [];omega) _,GN.out.set (by simp only [];omega) _,G0.out.set (by simp only [];omega) _⟩
 rw [← hwq];clear hwq GX GR GO GB GN G0;have hz2:w.heap.size+3≤v2.heap.size:=by have:=HO2.out.lt;omega
 refine (ZoI lo _ B.ls _ (HL.out.below HB2.out).les hn2).mono ?_;rintro e w2 ⟨u2,rfl,hb2,hs2⟩;obtain⟨b2,m2,rfl⟩:=hs2.form;have GX:=Zab (HX2.out.on hb2);have GR:=Zab (HR2.out.on hb2);have GO:=Zab (HO2.out.on hb2);have GB:=Zab (HB2.out.trans (hb2.mono HB2.out.size));have GN:Hid (ZbU (w.heap.size+3) w2 (.slice b2 B.ls.length m2) B.ls):=hs2.mono hz2;have G0:=Zab (HS0.out.below hb2);have G1:=Zab (HS1.out.below hb2);clear hb2 hs2 HX2 HR2 HO2 HB2 hz2 HS0 HS1;have o0:=GO.out.cell 5;have f0:=GO.out.free 5;have x1:=GX.out.cell 6;simp at o0 f0 x1;go_wp2_with fail;clear o0 f0 x1
 obtain⟨v3,hwq,HX3,HR3,HO3,HB3,HS2,HS0,HS1⟩:∃ wq,wq=w2.setCell ⟨w.heap.size+1+1,5,none⟩ (.slice b2 B.ls.length m2)∧
  Hid (Box wq w.heap.size #[.int .i64 B.now,.int .i64 B.tick,.int .i64 B.given,.slice a0 B.os.length k0,.slice a1 B.gs.length k1,.slice a2 B.ls.length k2,.slice a3 B.ps.length k3])∧Hid (Box wq (w.heap.size+1) #[.int .i64 0,.int .i64 0,.int .i64 0,.slice none 0 0,.slice none 0 0,.slice none 0 0,.slice none 0 0])∧
  Hid (Box wq (w.heap.size+1+1) #[.int .i64 B.now,.int .i64 B.tick,.int .i64 B.given,.slice b0 B.os.length m0,.slice b1 B.gs.length m1,.slice b2 B.ls.length m2,.slice none 0 0])∧Hid (Zw_ w wq)∧Hid (ZbU (w.heap.size+3) wq (.slice b2 B.ls.length m2) B.ls)∧Hid (ZbC (w.heap.size+3) wq (.slice b0 B.os.length m0) B.os)∧Hid (Zb9 (w.heap.size+3) wq (.slice b1 B.gs.length m1) B.gs):=
  ⟨_,rfl,GX.out.setFar (by simp only [];omega) _,GR.out.setFar (by simp only [];omega) _,GO.out.set (k:=5) (.slice b2 B.ls.length m2) (by simp),GB.out.setCell (by simp only [];omega) _,GN.out.set (by simp only [];omega) _,G0.out.set (by simp only [];omega) _,G1.out.set (by simp only [];omega) _⟩
 rw [← hwq];clear hwq GX GR GO GB GN G0 G1;have hz3:w.heap.size+3≤v3.heap.size:=by have:=HO3.out.lt;omega
 refine (ZoL lo _ B.ps _ (HL.out.below HB3.out).pus hn3).mono ?_;rintro e w3 ⟨u3,rfl,hb3,hs3⟩;obtain⟨b3,m3,rfl⟩:=hs3.form;have GX:=Zab (HX3.out.on hb3);have GR:=Zab (HR3.out.on hb3);have GO:=Zab (HO3.out.on hb3);have GB:=Zab (HB3.out.trans (hb3.mono HB3.out.size));have GN:Hid (Zcd (w.heap.size+3) w3 (.slice b3 B.ps.length m3) B.ps):=hs3.mono hz3;have G0:=Zab (HS0.out.below hb3);have G1:=Zab (HS1.out.below hb3);have G2:=Zab (HS2.out.below hb3);clear hb3 hs3 HX3 HR3 HO3 HB3 hz3 HS0 HS1 HS2;have o0:=GO.out.cell 0;have o1:=GO.out.cell 1;have o2:=GO.out.cell 2;have o3:=GO.out.cell 3;have o4:=GO.out.cell 4;have o5:=GO.out.cell 5;have o6:=GO.out.cell 6;have f6:=GO.out.free 6;have r0:=GR.out.cell 0;have g0:=GR.out.free 0;have r1:=GR.out.cell 1;have g1:=GR.out.free 1;have r2:=GR.out.cell 2;have g2:=GR.out.free 2;have r3:=GR.out.cell 3;have g3:=GR.out.free 3;have r4:=GR.out.cell 4
 have g4:=GR.out.free 4;have r5:=GR.out.cell 5;have g5:=GR.out.free 5;have r6:=GR.out.cell 6;have g6:=GR.out.free 6;simp at o0 o1 o2 o3 o4 o5 o6 r0 r1 r2 r3 r4 r5 r6;go_wp2;refine bodyPost_ret (v:=.agg #[.int .i64 B.now,.int .i64 B.tick,.int .i64 B.given,.slice b0 B.os.length m0,.slice b1 B.gs.length m1,.slice b2 B.ls.length m2,.slice b3 B.ps.length m3]) (by simp [results,results15,go_sem,r0,r1,r2,r3,r4,r5,r6]) rfl ⟨_,_,_,_,_,_,_,_,rfl,?_,?_,?_,?_,?_⟩
 · repeat (refine Below.setCell ?_ (by simp only [];omega) _)
   exact GB.out
 · refine ZbC.mono (lo:=w.heap.size+3) ?_ (by omega)
   repeat (refine ZbC.set ?_ (by simp only [];omega) _)
   exact G0.out
 · refine Zb9.mono (lo:=w.heap.size+3) ?_ (by omega)
   repeat (refine Zb9.set ?_ (by simp only [];omega) _)
   exact G1.out
 · refine ZbU.mono (lo:=w.heap.size+3) ?_ (by omega)
   repeat (refine ZbU.set ?_ (by simp only [];omega) _)
   exact G2.out
 · refine Zcd.mono (lo:=w.heap.size+3) ?_ (by omega)
   repeat (refine Zcd.set ?_ (by simp only [];omega) _)
   exact GN.out
end
end Go.Proofs.YtcfjmagkinpaeaaGreat
namespace Go.Proofs.YtcfjmagkinpaeaaGreat
open Go.ChangeShapes Go.WideShapes Go.ChangeAt Go.RowKit Go.Deep
theorem Tryz.cells26:prog.cellsOf 26=3:=by kernel_rfl
theorem Tryz.cells22:prog.cellsOf 22=1:=by kernel_rfl
theorem Tryz.cells23:prog.cellsOf 23=1:=by kernel_rfl
theorem Tryz.cells24:prog.cellsOf 24=1:=by kernel_rfl
theorem Zsj {cs:Array Value} (h:cs.size=3):∃ c0 c1 c2,cs=#[c0,c1,c2]:=by
 obtain⟨l⟩:=cs
 match l,h with
 | [c0,c1,c2],_=>exact⟨c0,c1,c2,rfl⟩
section
variable {H:Type} {enc:TypeId×Value→H} {W:World}
theorem Zle {r:Reach} {b0:Nat} {v:Value} {d:DataW H} {p:List MemPlace} (hv:Value.okWide prog W r b0 26 v) (h:DataW.Trod enc prog W 0 (fun _=>true) true 26 v d p) :
 ∃ (sv mv tv:Value) (Ss:List Sh) (Ms:List Md) (Ts:List Tm),v=.agg #[sv,mv,tv]∧ZaO 0 W sv mv tv Ss Ms Ts:=by
 obtain⟨cs,rfl,hsz⟩:=okWide_struct underlying26 hv;obtain⟨c0,c1,c2,rfl⟩:=Zsj (hsz.trans Tryz.cells26);obtain⟨fuel,hf⟩:=h;obtain⟨xs,n,_,_,_,hlen,hfld⟩:=DataW.trod_struct underlying26 hf;simp only [Array.size,List.length_cons,List.length_nil] at hlen;have g0:DataW.trod enc prog W 0 (fun _=>true) true n 22 ((([c0,c1,c2]:List Value).drop 0).take (prog.cellsOf 22))=xs[0]?:=hfld 0 _ rfl;have g1:DataW.trod enc prog W 0 (fun _=>true) true n 23 ((([c0,c1,c2]:List Value).drop 1).take (prog.cellsOf 23))=xs[1]?:=hfld 1 _ rfl;have g2:DataW.trod enc prog W 0 (fun _=>true) true n 24 ((([c0,c1,c2]:List Value).drop 2).take (prog.cellsOf 24))=xs[2]?:=hfld 2 _ rfl;simp only [Tryz.cells22,Tryz.cells23,Tryz.cells24,List.drop_succ_cons,List.drop_zero,List.take_succ_cons,List.take_zero] at g0 g1 g2;rw [List.getElem?_eq_getElem (by omega)] at g0 g1 g2
 obtain⟨Ss,hS⟩:=ZpQ g0;obtain⟨Ms,hM⟩:=ZpP g1;obtain⟨Ts,hT⟩:=ZpR g2;exact⟨c0,c1,c2,Ss,Ms,Ts,rfl,hS,hM,hT⟩
end
end Go.Proofs.YtcfjmagkinpaeaaGreat
