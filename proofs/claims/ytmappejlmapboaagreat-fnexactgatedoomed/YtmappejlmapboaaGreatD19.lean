import Derived.Test.YtmappejlmapboaaGreatD13
set_option maxHeartbeats 16000000
set_option maxRecDepth 100000
open Go.Proofs.Tryz
namespace Go.Proofs.YtmappejlmapboaaGreat
open Go.RowKit Go.Deep
structure Bk where
 now:Int
 tick:Int
 given:Int
 os:List Ob
 gs:List Gr
 ls:List Le
 ps:List Pu
structure ZaU (lo:Nat) (w:World) (ov gv lv pv:Value) (B:Bk):Prop where
 obs:Za3 lo w ov B.os
 grs:ZbX lo w gv B.gs
 les:ZbJ lo w lv B.ls
 pus:Zb9 lo w pv B.ps
theorem ZaU.below {lo:Nat}{w w':World}{ov gv lv pv:Value}{B:Bk} (h:ZaU lo w ov gv lv pv B) (hb:Zw_ w w'):ZaU lo w' ov gv lv pv B:=
 ⟨h.obs.below hb,h.grs.below hb,h.les.below hb,h.pus.below hb⟩
theorem ZaU.mono {lo lo':Nat}{w:World}{ov gv lv pv:Value}{B:Bk} (h:ZaU lo w ov gv lv pv B) (hl:lo'<=lo):ZaU lo' w ov gv lv pv B:=
 ⟨h.obs.mono hl,h.grs.mono hl,h.les.mono hl,h.pus.mono hl⟩
def Zbp (B:Bk):Prop:=Zbg B.os/\Ze3 B.gs/\Ze4 B.ls/\Ze5 B.ps
section
variable (lo:Nat) (ov gv lv pv:Value) (B:Bk) (w:World)
theorem ZoZ (left:Int) (h0:0<=left) (h1:left<=1048576) (h:ZaU lo w ov gv lv pv B) :
 Calls prog 8 #[.agg #[.int .i64 B.now,.int .i64 B.tick,.int .i64 B.given,ov,gv,lv,pv],.int .i64 left] w
  fun e w'=>∃ r:Int,e=.returned (.int .i64 r)/\Zw_ w w'/\-1<=r/\r<=left/\(0<=r->Zbp B):=by
 have HL:=Zab h;obtain⟨a0,k0,rfl⟩:=h.obs.form;obtain⟨a1,k1,rfl⟩:=h.grs.form;obtain⟨a2,k2,rfl⟩:=h.les.form;obtain⟨a3,k3,rfl⟩:=h.pus.form;clear h;go_enter func8,ntmps8;go_wp2_with fail;generalize hWa:w.alloc _=Wa;have HB0:Hd (Zw_ w Wa):=by rw [<- hWa];exact Zac w _
 have HX0:Hd (Box Wa w.heap.size #[.int .i64 B.now,.int .i64 B.tick,.int .i64 B.given,.slice a0 B.os.length k0,.slice a1 B.gs.length k1,.slice a2 B.ls.length k2,.slice a3 B.ps.length k3]):=by rw [<- hWa];exact Box.new _ _ _ _ rfl
 clear hWa;have hr0:(0:Int)<=left:=h0;refine (Zra lo _ B.os _ _ (by omega) (by omega) (HL.o.below HB0.o).obs).mono ?_;rintro e w1 ⟨r1,rfl,hb1,p1,q1,s1⟩;have HX1:=Zab (HX0.o.on hb1);have HB1:Hd (Zw_ w w1):=HB0.o.trans (hb1.mono HB0.o.size);have Q1:=Zab s1;clear hb1 s1 HB0 HX0
 by_cases hn1:r1 < 0
 . go_wp2
   go_ret;exact⟨-1,rfl,HB1.o,by omega,by omega,fun h=>by omega⟩
 have c1:=HX1.o.cell 4;simp at c1;go_wp2_with fail;clear c1;refine (Zq5 lo _ B.gs _ _ (by omega) (by omega) (HL.o.below HB1.o).grs).mono ?_;rintro e w2 ⟨r2,rfl,hb2,p2,q2,s2⟩;have HX2:=Zab (HX1.o.on hb2);have HB2:Hd (Zw_ w w2):=HB1.o.trans (hb2.mono HB1.o.size);have Q2:=Zab s2;clear hb2 s2 HB1 HX1
 by_cases hn2:r2 < 0
 . go_wp2
   go_ret;exact⟨-1,rfl,HB2.o,by omega,by omega,fun h=>by omega⟩
 have c2:=HX2.o.cell 5;simp at c2;go_wp2_with fail;clear c2;refine (Zq7 lo _ B.ls _ _ (by omega) (by omega) (HL.o.below HB2.o).les).mono ?_;rintro e w3 ⟨r3,rfl,hb3,p3,q3,s3⟩;have HX3:=Zab (HX2.o.on hb3);have HB3:Hd (Zw_ w w3):=HB2.o.trans (hb3.mono HB2.o.size);have Q3:=Zab s3;clear hb3 s3 HB2 HX2
 by_cases hn3:r3 < 0
 . go_wp2
   go_ret;exact⟨-1,rfl,HB3.o,by omega,by omega,fun h=>by omega⟩
 have c3:=HX3.o.cell 6;simp at c3;go_wp2_with fail;clear c3;refine (Zrb lo _ B.ps _ _ (by omega) (by omega) (HL.o.below HB3.o).pus).mono ?_;rintro e w4 ⟨r4,rfl,hb4,p4,q4,s4⟩;have HX4:=Zab (HX3.o.on hb4);have HB4:Hd (Zw_ w w4):=HB3.o.trans (hb4.mono HB3.o.size);have Q4:=Zab s4;clear hb4 s4 HB3 HX3
 by_cases hn4:r4 < 0
 . go_wp2
   go_ret;exact⟨-1,rfl,HB4.o,by omega,by omega,fun h=>by omega⟩
 go_wp2;go_ret;exact⟨_,rfl,HB4.o,by omega,by omega,fun h=>⟨Q1.o (by omega),Q2.o (by omega),Q3.o (by omega),Q4.o (by omega)⟩⟩
theorem ZlQ (lo':Nat) (ov' gv' lv' pv':Value) (h:ZaU lo w ov gv lv pv B) (h':ZaU lo' w ov' gv' lv' pv' B) :
 Calls prog 15 #[.agg #[.int .i64 B.now,.int .i64 B.tick,.int .i64 B.given,ov,gv,lv,pv],.agg #[.int .i64 B.now,.int .i64 B.tick,.int .i64 B.given,ov',gv',lv',pv']] w fun e w'=>e=.returned (.bool true)/\Zw_ w w':=by
 have HL:=Zab h;have HR:=Zab h';obtain⟨a0,k0,rfl⟩:=h.obs.form;obtain⟨a1,k1,rfl⟩:=h.grs.form;obtain⟨a2,k2,rfl⟩:=h.les.form;obtain⟨a3,k3,rfl⟩:=h.pus.form;obtain⟨d0,md0,rfl⟩:=h'.obs.form;obtain⟨d1,md1,rfl⟩:=h'.grs.form;obtain⟨d2,md2,rfl⟩:=h'.les.form;obtain⟨d3,md3,rfl⟩:=h'.pus.form;clear h h';go_enter func15,ntmps15;go_wp2_with fail;generalize hWa:(World.alloc (w.alloc _) _)=Wa;have HB0:Hd (Zw_ w Wa):=by rw [<- hWa];exact (Zac w _).alloc (by simp) _
 have HX0:Hd (Box Wa w.heap.size #[.int .i64 B.now,.int .i64 B.tick,.int .i64 B.given,.slice a0 B.os.length k0,.slice a1 B.gs.length k1,.slice a2 B.ls.length k2,.slice a3 B.ps.length k3]):=by rw [<- hWa];exact (Box.new _ _ _ _ rfl).on (Zac _ _)
 have HY0:Hd (Box Wa (w.heap.size+1) #[.int .i64 B.now,.int .i64 B.tick,.int .i64 B.given,.slice d0 B.os.length md0,.slice d1 B.gs.length md1,.slice d2 B.ls.length md2,.slice d3 B.ps.length md3]):=by rw [<- hWa];exact Box.new _ _ _ _ (by simp)
 clear hWa;refine (Zn7 lo lo' _ _ B.os _ (HL.o.below HB0.o).obs (HR.o.below HB0.o).obs).mono ?_;rintro e w1 ⟨rfl,hb1⟩;have HX1:=Zab (HX0.o.on hb1);have HY1:=Zab (HY0.o.on hb1);have HB1:Hd (Zw_ w w1):=HB0.o.trans (hb1.mono HB0.o.size);clear hb1 HB0 HX0 HY0;have c1:=HX1.o.cell 4;have e1:=HY1.o.cell 4;simp at c1 e1;go_wp2_with fail;clear c1 e1;refine (Zn2 lo lo' _ _ B.gs _ (HL.o.below HB1.o).grs (HR.o.below HB1.o).grs).mono ?_;rintro e w2 ⟨rfl,hb2⟩;have HX2:=Zab (HX1.o.on hb2);have HY2:=Zab (HY1.o.on hb2);have HB2:Hd (Zw_ w w2):=HB1.o.trans (hb2.mono HB1.o.size);clear hb2 HB1 HX1 HY1;have c2:=HX2.o.cell 5;have e2:=HY2.o.cell 5;simp at c2 e2;go_wp2_with fail;clear c2 e2;refine (Zn4 lo lo' _ _ B.ls _ (HL.o.below HB2.o).les (HR.o.below HB2.o).les).mono ?_;rintro e w3 ⟨rfl,hb3⟩
 have HX3:=Zab (HX2.o.on hb3);have HY3:=Zab (HY2.o.on hb3);have HB3:Hd (Zw_ w w3):=HB2.o.trans (hb3.mono HB2.o.size);clear hb3 HB2 HX2 HY2;have c3:=HX3.o.cell 6;have e3:=HY3.o.cell 6;simp at c3 e3;go_wp2_with fail;clear c3 e3;refine (Zn8 lo lo' _ _ B.ps _ (HL.o.below HB3.o).pus (HR.o.below HB3.o).pus).mono ?_;rintro e w4 ⟨rfl,hb4⟩;have HX4:=Zab (HX3.o.on hb4);have HY4:=Zab (HY3.o.on hb4);have HB4:Hd (Zw_ w w4):=HB3.o.trans (hb4.mono HB3.o.size);clear hb4 HB3 HX3 HY3;go_wp2;go_ret;exact⟨rfl,HB4.o⟩
theorem ZgP (h:ZaU lo w ov gv lv pv B) (hn:Zbp B) :
 Calls prog 11 #[.agg #[.int .i64 B.now,.int .i64 B.tick,.int .i64 B.given,ov,gv,lv,pv]] w
  fun e w'=>∃ b0 m0 b1 m1 b2 m2 b3 m3,e=.returned (.agg #[.int .i64 B.now,.int .i64 B.tick,.int .i64 B.given,.slice b0 B.os.length m0,.slice b1 B.gs.length m1,.slice b2 B.ls.length m2,.slice b3 B.ps.length m3])/\Zw_ w w'/\
   ZaU w.heap.size w' (.slice b0 B.os.length m0) (.slice b1 B.gs.length m1) (.slice b2 B.ls.length m2) (.slice b3 B.ps.length m3) B:=by
 have HL:=Zab h;obtain⟨a0,k0,rfl⟩:=h.obs.form;obtain⟨a1,k1,rfl⟩:=h.grs.form;obtain⟨a2,k2,rfl⟩:=h.les.form;obtain⟨a3,k3,rfl⟩:=h.pus.form;obtain⟨hn0,hn1,hn2,hn3⟩:=hn;clear h;go_enter func11,ntmps11;go_wp2_with fail
 obtain⟨wz,hwz,HX0,HR0,HO0,HB0⟩:∃ wz,wz=((w.alloc (.cells #[.int .i64 B.now,.int .i64 B.tick,.int .i64 B.given,.slice a0 B.os.length k0,.slice a1 B.gs.length k1,.slice a2 B.ls.length k2,.slice a3 B.ps.length k3] 32)).alloc (.cells #[.int .i64 0,.int .i64 0,.int .i64 0,.slice none 0 0,.slice none 0 0,.slice none 0 0,.slice none 0 0] 48)).alloc (.cells #[.int .i64 B.now,.int .i64 B.tick,.int .i64 B.given,.slice none 0 0,.slice none 0 0,.slice none 0 0,.slice none 0 0] 48)/\
  Hd (Box wz w.heap.size #[.int .i64 B.now,.int .i64 B.tick,.int .i64 B.given,.slice a0 B.os.length k0,.slice a1 B.gs.length k1,.slice a2 B.ls.length k2,.slice a3 B.ps.length k3])/\Hd (Box wz (w.heap.size+1) #[.int .i64 0,.int .i64 0,.int .i64 0,.slice none 0 0,.slice none 0 0,.slice none 0 0,.slice none 0 0])/\
  Hd (Box wz (w.heap.size+1+1) #[.int .i64 B.now,.int .i64 B.tick,.int .i64 B.given,.slice none 0 0,.slice none 0 0,.slice none 0 0,.slice none 0 0])/\Hd (Zw_ w wz):=
  ⟨_,rfl,((Box.new w _ _ _ rfl).on (Zac _ _)).on (Zac _ _),(Box.new _ _ _ _ (by simp)).on (Zac _ _),Box.new _ _ _ _ (by simp),((Zac _ _).trans ((Zac _ _).mono (by simp))).trans ((Zac _ _).mono (by simp;omega))⟩
 rw [<- hwz];clear hwz;generalize wz=v0 at*;have hz0:w.heap.size+3<=v0.heap.size:=by have:=HO0.o.lt;omega
 refine (Zro lo _ B.os _ (HL.o.below HB0.o).obs hn0).mono ?_;rintro e w0 ⟨u0,rfl,hb0,hs0⟩;obtain⟨b0,m0,rfl⟩:=hs0.form;have GX:=Zab (HX0.o.on hb0);have GR:=Zab (HR0.o.on hb0);have GO:=Zab (HO0.o.on hb0);have GB:=Zab (HB0.o.trans (hb0.mono HB0.o.size));have GN:Hd (Za3 (w.heap.size+3) w0 (.slice b0 B.os.length m0) B.os):=hs0.mono hz0;clear hb0 hs0 HX0 HR0 HO0 HB0 hz0;have o0:=GO.o.cell 3;have f0:=GO.o.free 3;have x1:=GX.o.cell 4;simp at o0 f0 x1;go_wp2_with fail;clear o0 f0 x1
 obtain⟨v1,hwq,HX1,HR1,HO1,HB1,HS0⟩:∃ wq,wq=w0.setCell ⟨w.heap.size+1+1,3,none⟩ (.slice b0 B.os.length m0)/\
  Hd (Box wq w.heap.size #[.int .i64 B.now,.int .i64 B.tick,.int .i64 B.given,.slice a0 B.os.length k0,.slice a1 B.gs.length k1,.slice a2 B.ls.length k2,.slice a3 B.ps.length k3])/\Hd (Box wq (w.heap.size+1) #[.int .i64 0,.int .i64 0,.int .i64 0,.slice none 0 0,.slice none 0 0,.slice none 0 0,.slice none 0 0])/\
  Hd (Box wq (w.heap.size+1+1) #[.int .i64 B.now,.int .i64 B.tick,.int .i64 B.given,.slice b0 B.os.length m0,.slice none 0 0,.slice none 0 0,.slice none 0 0])/\Hd (Zw_ w wq)/\Hd (Za3 (w.heap.size+3) wq (.slice b0 B.os.length m0) B.os):=
  ⟨_,rfl,GX.o.setFar (by simp only [];omega) _,GR.o.setFar (by simp only [];omega) _,GO.o.set (k:=3) (.slice b0 B.os.length m0) (by simp),GB.o.setCell (by simp only [];omega) _,GN.o.set (by simp only [];omega) _⟩
 rw [<- hwq];clear hwq GX GR GO GB GN;have hz1:w.heap.size+3<=v1.heap.size:=by have:=HO1.o.lt;omega
 refine (Zrl lo _ B.gs _ (HL.o.below HB1.o).grs hn1).mono ?_;rintro e w1 ⟨u1,rfl,hb1,hs1⟩;obtain⟨b1,m1,rfl⟩:=hs1.form;have GX:=Zab (HX1.o.on hb1);have GR:=Zab (HR1.o.on hb1);have GO:=Zab (HO1.o.on hb1);have GB:=Zab (HB1.o.trans (hb1.mono HB1.o.size));have GN:Hd (ZbX (w.heap.size+3) w1 (.slice b1 B.gs.length m1) B.gs):=hs1.mono hz1;have G0:=Zab (HS0.o.below hb1);clear hb1 hs1 HX1 HR1 HO1 HB1 hz1 HS0;have o0:=GO.o.cell 4;have f0:=GO.o.free 4;have x1:=GX.o.cell 5;simp at o0 f0 x1;go_wp2_with fail;clear o0 f0 x1
 obtain⟨v2,hwq,HX2,HR2,HO2,HB2,HS1,HS0⟩:∃ wq,wq=w1.setCell ⟨w.heap.size+1+1,4,none⟩ (.slice b1 B.gs.length m1)/\
  Hd (Box wq w.heap.size #[.int .i64 B.now,.int .i64 B.tick,.int .i64 B.given,.slice a0 B.os.length k0,.slice a1 B.gs.length k1,.slice a2 B.ls.length k2,.slice a3 B.ps.length k3])/\Hd (Box wq (w.heap.size+1) #[.int .i64 0,.int .i64 0,.int .i64 0,.slice none 0 0,.slice none 0 0,.slice none 0 0,.slice none 0 0])/\
  Hd (Box wq (w.heap.size+1+1) #[.int .i64 B.now,.int .i64 B.tick,.int .i64 B.given,.slice b0 B.os.length m0,.slice b1 B.gs.length m1,.slice none 0 0,.slice none 0 0])/\Hd (Zw_ w wq)/\Hd (ZbX (w.heap.size+3) wq (.slice b1 B.gs.length m1) B.gs)/\Hd (Za3 (w.heap.size+3) wq (.slice b0 B.os.length m0) B.os):=
  ⟨_,rfl,GX.o.setFar (by simp only [];omega) _,GR.o.setFar (by simp only [];omega) _,GO.o.set (k:=4) (.slice b1 B.gs.length m1) (by simp),GB.o.setCell (by simp only [];omega) _,GN.o.set (by simp only [];omega) _,G0.o.set (by simp only [];omega) _⟩
 rw [<- hwq];clear hwq GX GR GO GB GN G0;have hz2:w.heap.size+3<=v2.heap.size:=by have:=HO2.o.lt;omega
 refine (Zrm lo _ B.ls _ (HL.o.below HB2.o).les hn2).mono ?_;rintro e w2 ⟨u2,rfl,hb2,hs2⟩;obtain⟨b2,m2,rfl⟩:=hs2.form;have GX:=Zab (HX2.o.on hb2);have GR:=Zab (HR2.o.on hb2);have GO:=Zab (HO2.o.on hb2);have GB:=Zab (HB2.o.trans (hb2.mono HB2.o.size));have GN:Hd (ZbJ (w.heap.size+3) w2 (.slice b2 B.ls.length m2) B.ls):=hs2.mono hz2;have G0:=Zab (HS0.o.below hb2);have G1:=Zab (HS1.o.below hb2);clear hb2 hs2 HX2 HR2 HO2 HB2 hz2 HS0 HS1;have o0:=GO.o.cell 5;have f0:=GO.o.free 5;have x1:=GX.o.cell 6;simp at o0 f0 x1;go_wp2_with fail;clear o0 f0 x1
 obtain⟨v3,hwq,HX3,HR3,HO3,HB3,HS2,HS0,HS1⟩:∃ wq,wq=w2.setCell ⟨w.heap.size+1+1,5,none⟩ (.slice b2 B.ls.length m2)/\
  Hd (Box wq w.heap.size #[.int .i64 B.now,.int .i64 B.tick,.int .i64 B.given,.slice a0 B.os.length k0,.slice a1 B.gs.length k1,.slice a2 B.ls.length k2,.slice a3 B.ps.length k3])/\Hd (Box wq (w.heap.size+1) #[.int .i64 0,.int .i64 0,.int .i64 0,.slice none 0 0,.slice none 0 0,.slice none 0 0,.slice none 0 0])/\
  Hd (Box wq (w.heap.size+1+1) #[.int .i64 B.now,.int .i64 B.tick,.int .i64 B.given,.slice b0 B.os.length m0,.slice b1 B.gs.length m1,.slice b2 B.ls.length m2,.slice none 0 0])/\Hd (Zw_ w wq)/\Hd (ZbJ (w.heap.size+3) wq (.slice b2 B.ls.length m2) B.ls)/\Hd (Za3 (w.heap.size+3) wq (.slice b0 B.os.length m0) B.os)/\Hd (ZbX (w.heap.size+3) wq (.slice b1 B.gs.length m1) B.gs):=
  ⟨_,rfl,GX.o.setFar (by simp only [];omega) _,GR.o.setFar (by simp only [];omega) _,GO.o.set (k:=5) (.slice b2 B.ls.length m2) (by simp),GB.o.setCell (by simp only [];omega) _,GN.o.set (by simp only [];omega) _,G0.o.set (by simp only [];omega) _,G1.o.set (by simp only [];omega) _⟩
 rw [<- hwq];clear hwq GX GR GO GB GN G0 G1;have hz3:w.heap.size+3<=v3.heap.size:=by have:=HO3.o.lt;omega
 refine (Zrp lo _ B.ps _ (HL.o.below HB3.o).pus hn3).mono ?_;rintro e w3 ⟨u3,rfl,hb3,hs3⟩;obtain⟨b3,m3,rfl⟩:=hs3.form;have GX:=Zab (HX3.o.on hb3);have GR:=Zab (HR3.o.on hb3);have GO:=Zab (HO3.o.on hb3);have GB:=Zab (HB3.o.trans (hb3.mono HB3.o.size));have GN:Hd (Zb9 (w.heap.size+3) w3 (.slice b3 B.ps.length m3) B.ps):=hs3.mono hz3;have G0:=Zab (HS0.o.below hb3);have G1:=Zab (HS1.o.below hb3);have G2:=Zab (HS2.o.below hb3);clear hb3 hs3 HX3 HR3 HO3 HB3 hz3 HS0 HS1 HS2;have o0:=GO.o.cell 0;have o1:=GO.o.cell 1;have o2:=GO.o.cell 2;have o3:=GO.o.cell 3;have o4:=GO.o.cell 4;have o5:=GO.o.cell 5;have o6:=GO.o.cell 6;have f6:=GO.o.free 6;have r0:=GR.o.cell 0;have g0:=GR.o.free 0;have r1:=GR.o.cell 1;have g1:=GR.o.free 1;have r2:=GR.o.cell 2;have g2:=GR.o.free 2;have r3:=GR.o.cell 3;have g3:=GR.o.free 3;have r4:=GR.o.cell 4
 have g4:=GR.o.free 4;have r5:=GR.o.cell 5;have g5:=GR.o.free 5;have r6:=GR.o.cell 6;have g6:=GR.o.free 6;simp at o0 o1 o2 o3 o4 o5 o6 r0 r1 r2 r3 r4 r5 r6;go_wp2;refine bodyPost_ret (v:=.agg #[.int .i64 B.now,.int .i64 B.tick,.int .i64 B.given,.slice b0 B.os.length m0,.slice b1 B.gs.length m1,.slice b2 B.ls.length m2,.slice b3 B.ps.length m3]) (by simp [results,results11,go_sem,r0,r1,r2,r3,r4,r5,r6]) rfl ⟨_,_,_,_,_,_,_,_,rfl,?_,?_,?_,?_,?_⟩
 . repeat (refine Below.setCell ?_ (by simp only [];omega) _)
   exact GB.o
 . refine Za3.mono (lo:=w.heap.size+3) ?_ (by omega)
   repeat (refine Za3.set ?_ (by simp only [];omega) _)
   exact G0.o
 . refine ZbX.mono (lo:=w.heap.size+3) ?_ (by omega)
   repeat (refine ZbX.set ?_ (by simp only [];omega) _)
   exact G1.o
 . refine ZbJ.mono (lo:=w.heap.size+3) ?_ (by omega)
   repeat (refine ZbJ.set ?_ (by simp only [];omega) _)
   exact G2.o
 . refine Zb9.mono (lo:=w.heap.size+3) ?_ (by omega)
   repeat (refine Zb9.set ?_ (by simp only [];omega) _)
   exact GN.o
end
end Go.Proofs.YtmappejlmapboaaGreat
