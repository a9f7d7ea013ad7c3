import Derived.Test.YtbdhbihhgfpnnaaGreatV17
import Derived.Test.YtbdhbihhgfpnnaaGreatV18
import Derived.Sort.Walk0
set_option maxHeartbeats 16000000
set_option maxRecDepth 100000
open Go.Proofs.Tryz
namespace Go.Proofs.YtbdhbihhgfpnnaaGreat
section
open Go.RowKit Go.Deep
structure Sb where
 now:Int
 ss:List Sv
 cs:List Cp
 bs:List Be
structure Zc5 (lo:Nat) (w:World) (sv cv bv:Value) (B:Sb):Prop where
 svs:Zbx lo w sv B.ss
 cps:Zb1 lo w cv B.cs
 bes:Zb9 lo w bv B.bs
theorem Zc5.below {lo:Nat}{w w':World}{sv cv bv:Value}{B:Sb} (h:Zc5 lo w sv cv bv B) (hb:Zw_ w w'):Zc5 lo w' sv cv bv B:=
 ⟨h.svs.below hb,h.cps.below hb,h.bes.below hb⟩
theorem Zc5.mono {lo lo':Nat}{w:World}{sv cv bv:Value}{B:Sb} (h:Zc5 lo w sv cv bv B) (hl:lo'<=lo):Zc5 lo' w sv cv bv B:=
 ⟨h.svs.mono hl,h.cps.mono hl,h.bes.mono hl⟩
theorem Zc5.set {lo:Nat}{w:World}{sv cv bv:Value}{B:Sb} (h:Zc5 lo w sv cv bv B) {p:Addr} (hp:p.block < lo) (u:Value):Zc5 lo (w.setCell p u) sv cv bv B:=
 ⟨h.svs.set hp u,h.cps.set hp u,h.bes.set hp u⟩
def Zdz (B:Sb):Prop:=Zh6 B.ss/\ZhZ B.cs/\ZhX B.bs
section
variable (lo:Nat) (sv cv bv:Value) (B:Sb) (w:World)
theorem ZpA (left:Int) (h0:0<=left) (h1:left<=1048576) (h:Zc5 lo w sv cv bv B) :
 Calls prog 15 #[.agg #[.int .i64 B.now,sv,cv,bv],.int .i64 left] w
  fun e w'=>∃ r:Int,e=.returned (.int .i64 r)/\Zw_ w w'/\-1<=r/\r<=left/\(0<=r->Zdz B):=by
 have HL:=Zab h;obtain⟨a0,k0,rfl⟩:=h.svs.form;obtain⟨a1,k1,rfl⟩:=h.cps.form;obtain⟨a2,k2,rfl⟩:=h.bes.form;clear h;go_enter func15,ntmps15;go_wp2_with fail;generalize hWa:w.alloc _=Wa;have HB0:Hd (Zw_ w Wa):=by rw [<- hWa];exact Zac w _
 have HX0:Hd (Box Wa w.heap.size #[.int .i64 B.now,.slice a0 B.ss.length k0,.slice a1 B.cs.length k1,.slice a2 B.bs.length k2]):=by rw [<- hWa];exact Box.new _ _ _ _ rfl
 clear hWa;refine (Zon lo _ B.ss _ _ (by omega) (by omega) (HL.o.below HB0.o).svs).mono ?_;rintro e w1 ⟨r1,rfl,hb1,p1,q1,s1⟩;have HX1:=Zab (HX0.o.on hb1);have HB1:Hd (Zw_ w w1):=HB0.o.trans (hb1.mono HB0.o.size);have Q1:=Zab s1;clear hb1 s1 HB0 HX0
 by_cases hn1:r1 < 0
 . go_wp2
   go_ret;exact⟨-1,rfl,HB1.o,by omega,by omega,fun h=>by omega⟩
 have c1:=HX1.o.cell 2;simp at c1;go_wp2_with fail;clear c1;refine (Zoi lo _ B.cs _ _ (by omega) (by omega) (HL.o.below HB1.o).cps).mono ?_;rintro e w2 ⟨r2,rfl,hb2,p2,q2,s2⟩;have HX2:=Zab (HX1.o.on hb2);have HB2:Hd (Zw_ w w2):=HB1.o.trans (hb2.mono HB1.o.size);have Q2:=Zab s2;clear hb2 s2 HB1 HX1
 by_cases hn2:r2 < 0
 . go_wp2
   go_ret;exact⟨-1,rfl,HB2.o,by omega,by omega,fun h=>by omega⟩
 have c2:=HX2.o.cell 3;simp at c2;go_wp2_with fail;clear c2;refine (Zoh lo _ B.bs _ _ (by omega) (by omega) (HL.o.below HB2.o).bes).mono ?_;rintro e w3 ⟨r3,rfl,hb3,p3,q3,s3⟩;have HX3:=Zab (HX2.o.on hb3);have HB3:Hd (Zw_ w w3):=HB2.o.trans (hb3.mono HB2.o.size);have Q3:=Zab s3;clear hb3 s3 HB2 HX2
 by_cases hn3:r3 < 0
 . go_wp2
   go_ret;exact⟨-1,rfl,HB3.o,by omega,by omega,fun h=>by omega⟩
 go_wp2;go_ret;exact⟨_,rfl,HB3.o,by omega,by omega,fun h=>⟨Q1.o (by omega),Q2.o (by omega),Q3.o (by omega)⟩⟩
theorem Znt (lo':Nat) (sv' cv' bv':Value) (h:Zc5 lo w sv cv bv B) (h':Zc5 lo' w sv' cv' bv' B) :
 Calls prog 33 #[.agg #[.int .i64 B.now,sv,cv,bv],.agg #[.int .i64 B.now,sv',cv',bv']] w fun e w'=>e=.returned (.bool true)/\Zw_ w w':=by
 have HL:=Zab h;have HR:=Zab h';obtain⟨a0,k0,rfl⟩:=h.svs.form;obtain⟨a1,k1,rfl⟩:=h.cps.form;obtain⟨a2,k2,rfl⟩:=h.bes.form;obtain⟨d0,md0,rfl⟩:=h'.svs.form;obtain⟨d1,md1,rfl⟩:=h'.cps.form;obtain⟨d2,md2,rfl⟩:=h'.bes.form;clear h h';go_enter func33,ntmps33;go_wp2_with fail;generalize hWa:(World.alloc (w.alloc _) _)=Wa;have HB0:Hd (Zw_ w Wa):=by rw [<- hWa];exact (Zac w _).alloc (by simp) _
 have HX0:Hd (Box Wa w.heap.size #[.int .i64 B.now,.slice a0 B.ss.length k0,.slice a1 B.cs.length k1,.slice a2 B.bs.length k2]):=by rw [<- hWa];exact (Box.new _ _ _ _ rfl).on (Zac _ _)
 have HY0:Hd (Box Wa (w.heap.size+1) #[.int .i64 B.now,.slice d0 B.ss.length md0,.slice d1 B.cs.length md1,.slice d2 B.bs.length md2]):=by rw [<- hWa];exact Box.new _ _ _ _ (by simp)
 clear hWa;refine (ZlS lo lo' _ _ B.ss _ (HL.o.below HB0.o).svs (HR.o.below HB0.o).svs).mono ?_;rintro e w1 ⟨rfl,hb1⟩;have HX1:=Zab (HX0.o.on hb1);have HY1:=Zab (HY0.o.on hb1);have HB1:Hd (Zw_ w w1):=HB0.o.trans (hb1.mono HB0.o.size);clear hb1 HB0 HX0 HY0;have c1:=HX1.o.cell 2;have e1:=HY1.o.cell 2;simp at c1 e1;go_wp2_with fail;clear c1 e1;refine (ZlN lo lo' _ _ B.cs _ (HL.o.below HB1.o).cps (HR.o.below HB1.o).cps).mono ?_;rintro e w2 ⟨rfl,hb2⟩;have HX2:=Zab (HX1.o.on hb2);have HY2:=Zab (HY1.o.on hb2);have HB2:Hd (Zw_ w w2):=HB1.o.trans (hb2.mono HB1.o.size);clear hb2 HB1 HX1 HY1;have c2:=HX2.o.cell 3;have e2:=HY2.o.cell 3;simp at c2 e2;go_wp2_with fail;clear c2 e2;refine (ZlM lo lo' _ _ B.bs _ (HL.o.below HB2.o).bes (HR.o.below HB2.o).bes).mono ?_;rintro e w3 ⟨rfl,hb3⟩
 have HX3:=Zab (HX2.o.on hb3);have HY3:=Zab (HY2.o.on hb3);have HB3:Hd (Zw_ w w3):=HB2.o.trans (hb3.mono HB2.o.size);clear hb3 HB2 HX2 HY2;go_wp2;go_ret;exact⟨rfl,HB3.o⟩
theorem ZpL (h:Zc5 lo w sv cv bv B) (hn:Zdz B) :
 Calls prog 24 #[.agg #[.int .i64 B.now,sv,cv,bv]] w
  fun e w'=>∃ b0 m0 b1 m1 b2 m2,e=.returned (.agg #[.int .i64 B.now,.slice b0 B.ss.length m0,.slice b1 B.cs.length m1,.slice b2 B.bs.length m2])/\Zw_ w w'/\Zc5 w.heap.size w' (.slice b0 B.ss.length m0) (.slice b1 B.cs.length m1) (.slice b2 B.bs.length m2) B:=by
 have HL:=Zab h;obtain⟨a0,k0,rfl⟩:=h.svs.form;obtain⟨a1,k1,rfl⟩:=h.cps.form;obtain⟨a2,k2,rfl⟩:=h.bes.form;obtain⟨hn0,hn1,hn2⟩:=hn;clear h;go_enter func24,ntmps24;go_wp2_with fail
 obtain⟨wz,hwz,HX0,HR0,HO0,HB0⟩:∃ wz,wz=((w.alloc (.cells #[.int .i64 B.now,.slice a0 B.ss.length k0,.slice a1 B.cs.length k1,.slice a2 B.bs.length k2] 35)).alloc (.cells #[.int .i64 0,.slice none 0 0,.slice none 0 0,.slice none 0 0] 55)).alloc (.cells #[.int .i64 B.now,.slice none 0 0,.slice none 0 0,.slice none 0 0] 55)/\
  Hd (Box wz w.heap.size #[.int .i64 B.now,.slice a0 B.ss.length k0,.slice a1 B.cs.length k1,.slice a2 B.bs.length k2])/\Hd (Box wz (w.heap.size+1) #[.int .i64 0,.slice none 0 0,.slice none 0 0,.slice none 0 0])/\
  Hd (Box wz (w.heap.size+1+1) #[.int .i64 B.now,.slice none 0 0,.slice none 0 0,.slice none 0 0])/\Hd (Zw_ w wz):=
  ⟨_,rfl,((Box.new w _ _ _ rfl).on (Zac _ _)).on (Zac _ _),(Box.new _ _ _ _ (by simp)).on (Zac _ _),Box.new _ _ _ _ (by simp),((Zac _ _).trans ((Zac _ _).mono (by simp))).trans ((Zac _ _).mono (by simp;omega))⟩
 rw [<- hwz];clear hwz;generalize wz=v0 at*;have hz0:w.heap.size+3<=v0.heap.size:=by have:=HO0.o.lt;omega
 refine (ZoD lo _ B.ss _ (HL.o.below HB0.o).svs hn0).mono ?_;rintro e w0 ⟨u0,rfl,hb0,hs0⟩;obtain⟨b0,m0,rfl⟩:=hs0.form;have GX:=Zab (HX0.o.on hb0);have GR:=Zab (HR0.o.on hb0);have GO:=Zab (HO0.o.on hb0);have GB:=Zab (HB0.o.trans (hb0.mono HB0.o.size));have GN:Hd (Zbx (w.heap.size+3) w0 (.slice b0 B.ss.length m0) B.ss):=hs0.mono hz0;clear hb0 hs0 HX0 HR0 HO0 HB0 hz0;have o0:=GO.o.cell 1;have f0:=GO.o.free 1;have x1:=GX.o.cell 2;simp at o0 f0 x1;go_wp2_with fail;clear o0 f0 x1
 obtain⟨v1,hwq,HX1,HR1,HO1,HB1,HS0⟩:∃ wq,wq=w0.setCell ⟨w.heap.size+1+1,1,none⟩ (.slice b0 B.ss.length m0)/\
  Hd (Box wq w.heap.size #[.int .i64 B.now,.slice a0 B.ss.length k0,.slice a1 B.cs.length k1,.slice a2 B.bs.length k2])/\Hd (Box wq (w.heap.size+1) #[.int .i64 0,.slice none 0 0,.slice none 0 0,.slice none 0 0])/\
  Hd (Box wq (w.heap.size+1+1) #[.int .i64 B.now,.slice b0 B.ss.length m0,.slice none 0 0,.slice none 0 0])/\Hd (Zw_ w wq)/\Hd (Zbx (w.heap.size+3) wq (.slice b0 B.ss.length m0) B.ss):=
  ⟨_,rfl,GX.o.setFar (by simp only [];omega) _,GR.o.setFar (by simp only [];omega) _,GO.o.set (k:=1) (.slice b0 B.ss.length m0) (by simp),GB.o.setCell (by simp only [];omega) _,GN.o.set (by simp only [];omega) _⟩
 rw [<- hwq];clear hwq GX GR GO GB GN;have hz1:w.heap.size+3<=v1.heap.size:=by have:=HO1.o.lt;omega
 refine (Zow lo _ B.cs _ (HL.o.below HB1.o).cps hn1).mono ?_;rintro e w1 ⟨u1,rfl,hb1,hs1⟩;obtain⟨b1,m1,rfl⟩:=hs1.form;have GX:=Zab (HX1.o.on hb1);have GR:=Zab (HR1.o.on hb1);have GO:=Zab (HO1.o.on hb1);have GB:=Zab (HB1.o.trans (hb1.mono HB1.o.size));have GN:Hd (Zb1 (w.heap.size+3) w1 (.slice b1 B.cs.length m1) B.cs):=hs1.mono hz1;have G0:=Zab (HS0.o.below hb1);clear hb1 hs1 HX1 HR1 HO1 HB1 hz1 HS0;have o0:=GO.o.cell 2;have f0:=GO.o.free 2;have x1:=GX.o.cell 3;simp at o0 f0 x1;go_wp2_with fail;clear o0 f0 x1
 obtain⟨v2,hwq,HX2,HR2,HO2,HB2,HS1,HS0⟩:∃ wq,wq=w1.setCell ⟨w.heap.size+1+1,2,none⟩ (.slice b1 B.cs.length m1)/\
  Hd (Box wq w.heap.size #[.int .i64 B.now,.slice a0 B.ss.length k0,.slice a1 B.cs.length k1,.slice a2 B.bs.length k2])/\Hd (Box wq (w.heap.size+1) #[.int .i64 0,.slice none 0 0,.slice none 0 0,.slice none 0 0])/\
  Hd (Box wq (w.heap.size+1+1) #[.int .i64 B.now,.slice b0 B.ss.length m0,.slice b1 B.cs.length m1,.slice none 0 0])/\Hd (Zw_ w wq)/\Hd (Zb1 (w.heap.size+3) wq (.slice b1 B.cs.length m1) B.cs)/\Hd (Zbx (w.heap.size+3) wq (.slice b0 B.ss.length m0) B.ss):=
  ⟨_,rfl,GX.o.setFar (by simp only [];omega) _,GR.o.setFar (by simp only [];omega) _,GO.o.set (k:=2) (.slice b1 B.cs.length m1) (by simp),GB.o.setCell (by simp only [];omega) _,GN.o.set (by simp only [];omega) _,G0.o.set (by simp only [];omega) _⟩
 rw [<- hwq];clear hwq GX GR GO GB GN G0;have hz2:w.heap.size+3<=v2.heap.size:=by have:=HO2.o.lt;omega
 refine (Zov lo _ B.bs _ (HL.o.below HB2.o).bes hn2).mono ?_;rintro e w2 ⟨u2,rfl,hb2,hs2⟩;obtain⟨b2,m2,rfl⟩:=hs2.form;have GX:=Zab (HX2.o.on hb2);have GR:=Zab (HR2.o.on hb2);have GO:=Zab (HO2.o.on hb2);have GB:=Zab (HB2.o.trans (hb2.mono HB2.o.size));have GN:Hd (Zb9 (w.heap.size+3) w2 (.slice b2 B.bs.length m2) B.bs):=hs2.mono hz2;have G0:=Zab (HS0.o.below hb2);have G1:=Zab (HS1.o.below hb2);clear hb2 hs2 HX2 HR2 HO2 HB2 hz2 HS0 HS1;have o0:=GO.o.cell 0;have o1:=GO.o.cell 1;have o2:=GO.o.cell 2;have o3:=GO.o.cell 3;have f3:=GO.o.free 3;have r0:=GR.o.cell 0;have g0:=GR.o.free 0;have r1:=GR.o.cell 1;have g1:=GR.o.free 1;have r2:=GR.o.cell 2;have g2:=GR.o.free 2;have r3:=GR.o.cell 3;have g3:=GR.o.free 3;simp at o0 o1 o2 o3 r0 r1 r2 r3;go_wp2
 refine bodyPost_ret (v:=.agg #[.int .i64 B.now,.slice b0 B.ss.length m0,.slice b1 B.cs.length m1,.slice b2 B.bs.length m2]) (by simp [results,results24,go_sem,r0,r1,r2,r3]) rfl ⟨_,_,_,_,_,_,rfl,?_,?_,?_,?_⟩
 . repeat (refine Below.setCell ?_ (by simp only [];omega) _)
   exact GB.o
 . refine Zbx.mono (lo:=w.heap.size+3) ?_ (by omega)
   repeat (refine Zbx.set ?_ (by simp only [];omega) _)
   exact G0.o
 . refine Zb1.mono (lo:=w.heap.size+3) ?_ (by omega)
   repeat (refine Zb1.set ?_ (by simp only [];omega) _)
   exact G1.o
 . refine Zb9.mono (lo:=w.heap.size+3) ?_ (by omega)
   repeat (refine Zb9.set ?_ (by simp only [];omega) _)
   exact GN.o
end
end
section
open Go.RowKit Go.Deep
def Zcc (a b:Zy_):Int:=if Op.bytesLess a.toList b.toList=true then -1 else if (a.toList == b.toList)=true then 0 else 1
theorem ZcY (a:List UInt8):Op.bytesLess a a=false:=by rw [bytesLess_eq];exact decide_eq_false (List.lt_irrefl _)
theorem Zdp {a b c:List UInt8} (h:Op.bytesLess a b=true) (h':Op.bytesLess b c=true):Op.bytesLess a c=true:=by
 rw [bytesLess_eq] at h h' |-;exact decide_eq_true (List.lt_trans (of_decide_eq_true h) (of_decide_eq_true h'))
theorem Zi4 (a:Zy_):Zcc a a=0:=by unfold Zcc;simp [ZcY]
theorem ZcS {a b:Zy_}:Zcc a b=0↔a=b:=by
 refine⟨fun h=>?_,fun h=>by rw [h];exact Zi4 _⟩;unfold Zcc at h
 split at h
 . omega
 . split at h
   . rename_i h2
     exact ZaI.1 h2
   . omega
theorem ZdB {a b:Zy_}:Zcc a b < 0↔Op.bytesLess a.toList b.toList=true:=by
 unfold Zcc
 split
 . rename_i h;simp [h]
 . rename_i h
   split <;> simp [h]
theorem Zqk (a b:Zy_):-1<=Zcc a b/\Zcc a b<=1:=by unfold Zcc;split <;> (try split) <;> omega
def orI (a b:Int):Int:=if a=0 then b else a
def Zes (a b c d:Zy_):Int:=orI (Zcc a c) (Zcc b d)
def ZlE (a b c d e f:Zy_):Int:=orI (Zcc a d) (orI (Zcc b e) (Zcc c f))
theorem Zpm {a b:Int}:orI a b=0↔a=0/\b=0:=by unfold orI;split <;> omega
theorem ZgH (a b:Zy_) (w:World) :
 Calls prog 153 #[.string a,.string b] w fun e w'=>e=.returned (.int .i64 (Zcc a b))/\w'=w:=by
 cases h1:Op.bytesLess a.toList b.toList with
 | true=>
  have HE:Hd (Zcc a b= -1):=by unfold Hd Zcc;rw [h1];rfl
  go_enter func153,ntmps153;go_wp2;go_ret;exact⟨ZaB HE.o.symm,rfl⟩
 | false=>
  cases h2:(a.toList == b.toList) with
  | true=>
   have HE:Hd (Zcc a b=0):=by unfold Hd Zcc;rw [h1,h2];rfl
   go_enter func153,ntmps153;go_wp2;go_ret;exact⟨ZaB HE.o.symm,rfl⟩
  | false=>
   have HE:Hd (Zcc a b=1):=by unfold Hd Zcc;rw [h1,h2];rfl
   go_enter func153,ntmps153;go_wp2;go_ret;exact⟨ZaB HE.o.symm,rfl⟩
theorem Ziv (a:Zy_) (w:World):Calls prog 239 #[.string a] w fun e w'=>e=.returned (.bool false)/\w'=w:=by
 have h:=ZcM a;go_enter func239,ntmps239;go_wp2;go_ret;exact⟨rfl,rfl⟩
theorem ZcN (a b:Zy_) (w:World) :
 Calls prog 203 #[.string a,.string b] w fun e w'=>e=.returned (.int .i64 (Zcc a b))/\w'=w:=by
 cases h1:Op.bytesLess a.toList b.toList with
 | true=>
  have HE:Hd (Zcc a b= -1):=by unfold Hd Zcc;rw [h1];rfl
  go_enter func203,ntmps203;go_wp2_with (go_at_call 239;refine (Ziv _ _).mono ?_;rintro e w' ⟨rfl,rfl⟩);go_ret;exact⟨ZaB HE.o.symm,rfl⟩
 | false=>
  cases h2:(a.toList == b.toList) with
  | true=>
   have HE:Hd (Zcc a b=0):=by unfold Hd Zcc;rw [h1,h2];rfl
   go_enter func203,ntmps203;go_wp2_with (go_at_call 239;refine (Ziv _ _).mono ?_;rintro e w' ⟨rfl,rfl⟩);go_ret;exact⟨ZaB HE.o.symm,rfl⟩
  | false=>
   have HE:Hd (Zcc a b=1):=by unfold Hd Zcc;rw [h1,h2];rfl
   go_enter func203,ntmps203;go_wp2_with (go_at_call 239;refine (Ziv _ _).mono ?_;rintro e w' ⟨rfl,rfl⟩);go_ret;exact⟨ZaB HE.o.symm,rfl⟩
theorem ZcW (a b c d:Zy_) (w:World) :
 Calls prog 100 #[.string a,.string b,.string c,.string d] w fun e w'=>e=.returned (.int .i64 (Zes a b c d))/\w'=w:=by
 have hk:=Zqk a c
 by_cases h0:Zcc a c=0
 . have HE:Hd (Zes a b c d=Zcc b d):=by unfold Hd Zes orI;rw [if_pos h0]
   have h0':(Zcc a c != 0)=false:=by simp [h0]
   have H0:=Zab h0;clear h0;go_enter func100,ntmps100;go_wp2_with (go_at_call 153;refine (ZgH _ _ _).mono ?_;rintro e w' ⟨rfl,rfl⟩);go_ret;exact⟨ZaB HE.o.symm,rfl⟩
 . have HE:Hd (Zes a b c d=Zcc a c):=by unfold Hd Zes orI;rw [if_neg h0]
   have h0':(Zcc a c != 0)=true:=by simp [h0]
   clear h0;go_enter func100,ntmps100;go_wp2_with (go_at_call 153;refine (ZgH _ _ _).mono ?_;rintro e w' ⟨rfl,rfl⟩);go_ret;exact⟨ZaB HE.o.symm,rfl⟩
end
section
open Go.RowKit Go.Deep
variable {L:List Int} {k:Nat}
def orL:List Int->Int
 | []=>0
 | x :: r=>if x=0 then orL r else x
theorem Zqj {a b c d e f:Zy_} (h:a≠d):ZlE a b c d e f=Zcc a d:=by
 unfold ZlE orI;rw [if_neg (fun h0=>h (ZcS.1 h0))]
theorem Zqi {a b c d e f:Zy_} (h:a=d):ZlE a b c d e f=Zes b c e f:=by
 unfold ZlE Zes;rw [ZcS.2 h]
 rfl
theorem Zpn (hk:k < L.length) (h:L[k]=0):orL (L.drop k)=orL (L.drop (k+1)):=by
 rw [List.drop_eq_getElem_cons hk,orL,if_pos h]
theorem Zpo (hk:k < L.length) (h:L[k]≠0):orL (L.drop k)=L[k]:=by
 rw [List.drop_eq_getElem_cons hk,orL,if_neg h]
theorem ZkG (a b:Int):orL [a,b]=orI a b:=by simp only [orL];unfold orI;split <;> (try split) <;> omega
theorem ZnX (a b c:Int):orL [a,b,c]=orI a (orI b c):=by simp only [orL];unfold orI;split <;> (try split) <;> (try split) <;> omega
theorem Ze3 (w:World) (b off cap:Nat) (L:List Int) (hm:L.length<=1000) (hc:∀ i (h:i < L.length),w.cell? ⟨b,off+i,none⟩=some (.int .i64 L[i])) :
 Calls prog 202 #[.slice (some ⟨b,off,none⟩) L.length cap] w fun e w'=>e=.returned (.int .i64 (orL L))/\w'=w:=by
 go_enter func202,ntmps202;go_wp2
 go_loop [8] (fun i=>∃ k:Nat,i=.int .i64 k/\k<=L.length/\orL L=orL (L.drop k)) (fun i=>L.length - (intOf i).toNat)
 case atStart=>exact⟨0,rfl,by omega,by simp⟩
 case round=>
  obtain⟨k,rfl,hk,he⟩:=hrel;have HE:=Zab he;clear he
  by_cases hlt:k < L.length
  . have c:=hc k hlt
    by_cases h0:L[k]=0
    . have HS:=Zab (Zpn hlt h0)
      have h0':(L[k] != 0)=false:=by simp [h0]
      clear h0;go_wp2
      go_round
      . exact⟨k+1,by go_num,by omega,HE.o.trans HS.o⟩
      . simp [intOf];omega
    . have HS:=Zab (Zpo hlt h0)
      have h0':(L[k] != 0)=true:=by simp [h0]
      clear h0;go_wp2;go_ret;exact⟨ZaB (by rw [HE.o,HS.o]),rfl⟩
  . have HS:Hd (orL (L.drop k)=0):=by unfold Hd;rw [List.drop_of_length_le (by omega)];rfl
    go_wp2;go_ret;exact⟨ZaB (by rw [HE.o,HS.o]),rfl⟩
theorem Zkc (x y:Ob) (va:Option Addr) (vn vc:Nat) (ha:Option Addr) (hn hc:Nat) (va':Option Addr) (vn' vc':Nat) (ha':Option Addr) (hn' hc':Nat) (w:World) :
 Calls prog 169 #[.agg #[.string x.kd,.string x.nm,.string x.tm,.slice va vn vc,.bool x.en,.slice ha hn hc,.int .i64 x.ver],.agg #[.string y.kd,.string y.nm,.string y.tm,.slice va' vn' vc',.bool y.en,.slice ha' hn' hc',.int .i64 y.ver]] w fun e w'=>e=.returned (.int .i64 (Zes x.kd x.nm y.kd y.nm))/\Zw_ w w':=by
 have HO:Hd (orL [Zcc x.kd y.kd,Zcc x.nm y.nm]=Zes x.kd x.nm y.kd y.nm):=ZkG _ _;go_enter func169,ntmps169;go_wp2;generalize hWa:(World.alloc (w.alloc _) _)=Wa;have HBa:Hd (Zw_ w Wa):=by rw [<- hWa];exact (Zac w _).alloc (by simp) _
 have FA:Hd (Box Wa w.heap.size #[.string x.kd,.string x.nm,.string x.tm,.slice va vn vc,.bool x.en,.slice ha hn hc,.int .i64 x.ver]):=by rw [<- hWa];exact (Box.new _ _ _ _ rfl).on (Zac _ _)
 have FB:Hd (Box Wa (w.heap.size+1) #[.string y.kd,.string y.nm,.string y.tm,.slice va' vn' vc',.bool y.en,.slice ha' hn' hc',.int .i64 y.ver]):=by rw [<- hWa];exact Box.new _ _ _ _ (by simp)
 clear hWa
 go_region_held3 (Zby Wa w.heap.size #[.string x.kd,.string x.nm,.string x.tm,.slice va vn vc,.bool x.en,.slice ha hn hc,.int .i64 x.ver] (w.heap.size+1) #[.string y.kd,.string y.nm,.string y.tm,.slice va' vn' vc',.bool y.en,.slice ha' hn' hc',.int .i64 y.ver])
  (first
    | (with_reducible exact Zby.drew FA.o FB.o)
    | (with_reducible exact Zby.on (by assumption) Zb_)
    | (with_reducible exact Zby.on (by assumption) (Zac _ _))
    | (with_reducible exact Zby.on (by assumption) (by assumption)))
  (first
    | (go_at_call 203
       refine (ZcN _ _ _).mono ?_;rintro e w1 ⟨rfl,rfl⟩)
    | (go_at_call 202
       refine (Ze3 _ _ _ _ [Zcc x.kd y.kd,Zcc x.nm y.nm] (by simp) ?_).mono ?_
       . intro i hi
         have hi':i=0\/i=1:=by simp at hi;omega
         rcases hi' with rfl | rfl <;> simp
       rintro e w2 ⟨rfl,rfl⟩))
 go_wp2;go_ret;exact⟨ZaB HO.o,(HBa.o.trans ((Zac _ _).mono HBa.o.size)).drew⟩
theorem Zfk (x y:Le) (w:World) :
 Calls prog 177 #[.agg #[.string x.tm,.string x.re,.int .i64 x.mo,.int .i64 x.fr],.agg #[.string y.tm,.string y.re,.int .i64 y.mo,.int .i64 y.fr]] w fun e w'=>e=.returned (.int .i64 (Zes x.tm x.re y.tm y.re))/\Zw_ w w':=by
 have HO:Hd (orL [Zcc x.tm y.tm,Zcc x.re y.re]=Zes x.tm x.re y.tm y.re):=ZkG _ _;go_enter func177,ntmps177;go_wp2;generalize hWa:(World.alloc (w.alloc _) _)=Wa;have HBa:Hd (Zw_ w Wa):=by rw [<- hWa];exact (Zac w _).alloc (by simp) _
 have FA:Hd (Box Wa w.heap.size #[.string x.tm,.string x.re,.int .i64 x.mo,.int .i64 x.fr]):=by rw [<- hWa];exact (Box.new _ _ _ _ rfl).on (Zac _ _)
 have FB:Hd (Box Wa (w.heap.size+1) #[.string y.tm,.string y.re,.int .i64 y.mo,.int .i64 y.fr]):=by rw [<- hWa];exact Box.new _ _ _ _ (by simp)
 clear hWa
 go_region_held3 (Zby Wa w.heap.size #[.string x.tm,.string x.re,.int .i64 x.mo,.int .i64 x.fr] (w.heap.size+1) #[.string y.tm,.string y.re,.int .i64 y.mo,.int .i64 y.fr])
  (first
    | (with_reducible exact Zby.drew FA.o FB.o)
    | (with_reducible exact Zby.on (by assumption) Zb_)
    | (with_reducible exact Zby.on (by assumption) (Zac _ _))
    | (with_reducible exact Zby.on (by assumption) (by assumption)))
  (first
    | (go_at_call 203
       refine (ZcN _ _ _).mono ?_;rintro e w1 ⟨rfl,rfl⟩)
    | (go_at_call 202
       refine (Ze3 _ _ _ _ [Zcc x.tm y.tm,Zcc x.re y.re] (by simp) ?_).mono ?_
       . intro i hi
         have hi':i=0\/i=1:=by simp at hi;omega
         rcases hi' with rfl | rfl <;> simp
       rintro e w2 ⟨rfl,rfl⟩))
 go_wp2;go_ret;exact⟨ZaB HO.o,(HBa.o.trans ((Zac _ _).mono HBa.o.size)).drew⟩
theorem ZlG (x y:Pu) (w:World) :
 Calls prog 179 #[.agg #[.string x.dr,.string x.tm,.string x.re,.int .i64 x.am,.int .i64 x.un],.agg #[.string y.dr,.string y.tm,.string y.re,.int .i64 y.am,.int .i64 y.un]] w fun e w'=>e=.returned (.int .i64 (ZlE x.dr x.tm x.re y.dr y.tm y.re))/\Zw_ w w':=by
 have HO:Hd (orL [Zcc x.dr y.dr,Zcc x.tm y.tm,Zcc x.re y.re]=ZlE x.dr x.tm x.re y.dr y.tm y.re):=ZnX _ _ _;go_enter func179,ntmps179;go_wp2;generalize hWa:(World.alloc (w.alloc _) _)=Wa;have HBa:Hd (Zw_ w Wa):=by rw [<- hWa];exact (Zac w _).alloc (by simp) _
 have FA:Hd (Box Wa w.heap.size #[.string x.dr,.string x.tm,.string x.re,.int .i64 x.am,.int .i64 x.un]):=by rw [<- hWa];exact (Box.new _ _ _ _ rfl).on (Zac _ _)
 have FB:Hd (Box Wa (w.heap.size+1) #[.string y.dr,.string y.tm,.string y.re,.int .i64 y.am,.int .i64 y.un]):=by rw [<- hWa];exact Box.new _ _ _ _ (by simp)
 clear hWa
 go_region_held3 (Zby Wa w.heap.size #[.string x.dr,.string x.tm,.string x.re,.int .i64 x.am,.int .i64 x.un] (w.heap.size+1) #[.string y.dr,.string y.tm,.string y.re,.int .i64 y.am,.int .i64 y.un])
  (first
    | (with_reducible exact Zby.drew FA.o FB.o)
    | (with_reducible exact Zby.on (by assumption) Zb_)
    | (with_reducible exact Zby.on (by assumption) (Zac _ _))
    | (with_reducible exact Zby.on (by assumption) (by assumption)))
  (first
    | (go_at_call 203
       refine (ZcN _ _ _).mono ?_;rintro e w1 ⟨rfl,rfl⟩)
    | (go_at_call 202
       refine (Ze3 _ _ _ _ [Zcc x.dr y.dr,Zcc x.tm y.tm,Zcc x.re y.re] (by simp) ?_).mono ?_
       . intro i hi
         have hi':i=0\/i=1\/i=2:=by simp at hi;omega
         rcases hi' with rfl | rfl | rfl <;> simp
       rintro e w2 ⟨rfl,rfl⟩))
 go_wp2;go_ret;exact⟨ZaB HO.o,(HBa.o.trans ((Zac _ _).mono HBa.o.size)).drew⟩
theorem Zb8 (x y:Pu) (w:World) :
 Calls prog 106 #[.agg #[.string x.dr,.string x.tm,.string x.re,.int .i64 x.am,.int .i64 x.un],.agg #[.string y.dr,.string y.tm,.string y.re,.int .i64 y.am,.int .i64 y.un]] w fun e w'=>e=.returned (.int .i64 (ZlE x.dr x.tm x.re y.dr y.tm y.re))/\Zw_ w w':=by
 have HW:∀ o o',Hd (Zw_ w ((w.alloc o).alloc o')):=fun o o'=>(Zb_.alloc Zl_ _).alloc (by simp) _
 cases h:(x.dr.toList == y.dr.toList) with
 | true=>
  have HE:=Zab (Zqi (b:=x.tm) (c:=x.re) (e:=y.tm) (f:=y.re) (ZaI.1 h));go_enter func106,ntmps106;go_wp2_with (go_at_call 100;refine (ZcW _ _ _ _ _).mono ?_;rintro e w' ⟨rfl,rfl⟩);go_ret;exact⟨ZaB HE.o.symm,(HW _ _).o⟩
 | false=>
  have HE:=Zab (Zqj (b:=x.tm) (c:=x.re) (e:=y.tm) (f:=y.re) (Ze0.1 h));go_enter func106,ntmps106;go_wp2_with (go_at_call 153;refine (ZgH _ _ _).mono ?_;rintro e w' ⟨rfl,rfl⟩);go_ret;exact⟨ZaB HE.o.symm,(HW _ _).o⟩
end
section
open Go.RowKit Go.Deep
def Zk1 (a b:Int):Int:=if a < b then -1 else if b < a then 1 else 0
theorem Zk2 {a b:Int}:Zk1 a b < 0↔a < b:=by unfold Zk1;split <;> (try split) <;> omega
theorem Ziu (a:Int) (w:World):Calls prog 244 #[.int .i64 a] w fun e w'=>e=.returned (.bool false)/\w'=w:=by
 go_enter func244,ntmps244;go_wp2;go_ret;exact⟨rfl,rfl⟩
theorem Zhv (a b:Int) (w:World) :
 Calls prog 209 #[.int .i64 a,.int .i64 b] w fun e w'=>e=.returned (.int .i64 (Zk1 a b))/\w'=w:=by
 by_cases h1:a < b
 . have HE:Hd (Zk1 a b= -1):=if_pos h1
   go_enter func209,ntmps209;go_wp2_with (go_at_call 244;refine (Ziu _ _).mono ?_;rintro e w' ⟨rfl,rfl⟩);go_ret;exact⟨ZaB HE.o.symm,rfl⟩
 . by_cases h2:b < a
   . have HE:Hd (Zk1 a b=1):=by unfold Hd Zk1;rw [if_neg h1,if_pos h2]
     go_enter func209,ntmps209;go_wp2_with (go_at_call 244;refine (Ziu _ _).mono ?_;rintro e w' ⟨rfl,rfl⟩);go_ret;exact⟨ZaB HE.o.symm,rfl⟩
   . have HE:Hd (Zk1 a b=0):=by unfold Hd Zk1;rw [if_neg h1,if_neg h2]
     go_enter func209,ntmps209;go_wp2_with (go_at_call 244;refine (Ziu _ _).mono ?_;rintro e w' ⟨rfl,rfl⟩);go_ret;exact⟨ZaB HE.o.symm,rfl⟩
theorem ZlF (x y:Gr) (va:Option Addr) (vn vc:Nat) (va':Option Addr) (vn' vc':Nat) (w:World) :
 Calls prog 175 #[.agg #[.int .i64 x.nu,.string x.tw,.string x.gb,.slice va vn vc,.string x.kd,.string x.tm,.string x.pf],.agg #[.int .i64 y.nu,.string y.tw,.string y.gb,.slice va' vn' vc',.string y.kd,.string y.tm,.string y.pf]] w fun e w'=>e=.returned (.int .i64 (Zk1 x.nu y.nu))/\Zw_ w w':=by
 go_enter func175,ntmps175;go_wp2_with (go_at_call 209;refine (Zhv _ _ _).mono ?_;rintro e w' ⟨rfl,rfl⟩);go_ret;exact⟨rfl,(Zb_.alloc Zl_ _).alloc (by simp) _⟩
theorem Zah (n lo hi:Int) (w:World) :
 Calls prog 167 #[.int .i64 n,.int .i64 lo,.int .i64 hi] w fun e w'=>e=.returned (.bool (inB lo hi n))/\w'=w:=by
 rw [Ze9]
 by_cases h:lo<=n
 . by_cases h2:n<=hi
   . go_enter func167,ntmps167
     go_wp2;go_ret;exact⟨by rw [decide_eq_true h,decide_eq_true h2];rfl,rfl⟩
   . go_enter func167,ntmps167
     go_wp2;go_ret;exact⟨by simp [h2],rfl⟩
 . go_enter func167,ntmps167
   go_wp2;go_ret;exact⟨by rw [decide_eq_false (show ¬ lo<=n by omega)];rfl,rfl⟩
def Zcx {X:Type} (c:X->X->Int) (L:List X):Nat->Bool
 | 0=>true
 | j+1=>match L[j]?,L[j+1]? with
  | some x,some y=>decide (c x y < 0)
  | _,_=>true
def Zdl {X:Type} (c:X->X->Int) (L:List X):Bool:=(List.range L.length).all (Zcx c L)
theorem Zdk {X:Type}{c:X->X->Int}{L:List X}{j:Nat} (h:j+1 < L.length):Zcx c L (j+1)=decide (c L[j] L[j+1] < 0):=by
 show (match L[j]?,L[j+1]? with | some x,some y=>decide (c x y < 0) | _,_=>true)=_
 rw [List.getElem?_eq_getElem (by omega),List.getElem?_eq_getElem h]
def Zfy (x y:Ob):Int:=Zes x.kd x.nm y.kd y.nm
def Zf3 (x y:Gr):Int:=Zk1 x.nu y.nu
def Zc6 (x y:Le):Int:=Zes x.tm x.re y.tm y.re
def Zgl (x y:Pu):Int:=ZlE x.dr x.tm x.re y.dr y.tm y.re
theorem ZlB (lo:Nat) (v:Value) (Xl:List Ob) (w:World) (hv:Zbv lo w v Xl) :
 Calls prog 168 #[v,.func (.func 169) #[] #[]] w fun e w'=>e=.returned (.bool (Zdl Zfy Xl))/\Zw_ w w':=by
 have HV:=Zab hv;have hm:=hv.max;unfold maxLen at hm;obtain⟨a,cap,rfl⟩:=hv.form;clear hv;go_enter func168,ntmps168;go_wp2
 go_loopw [5] (fun i wr=>∃ m:Nat,i=.int .i64 m/\1<=m/\(m<=Xl.length\/m=1)/\Zw_ w wr/\∀ j,j < m->Zcx Zfy Xl j=true) (fun i _=>Xl.length+1 - (intOf i).toNat)
 case atStart=>exact⟨1,rfl,Nat.le_refl _,Or.inr rfl,Below.refl _ _,fun j hj=>by rw [show j=0 by omega];rfl⟩
 case round=>
  obtain⟨m,rfl,hm1,hk,hb,hall⟩:=hrel;have HB:=Zab hb;have HA:=Zab hall;clear hb hall
  by_cases hlt:m < Xl.length
  . obtain⟨k,hkm⟩:∃ k,m=k+1:=⟨m - 1,by omega⟩
    have hlt0:k < Xl.length:=by omega
    obtain⟨b,off,rfl,hbw,-,hc⟩:=HV.o.full' (by omega);obtain⟨hs,vv0,vv1,hcell,hv0,hv1⟩:=hc k hlt0;obtain⟨ht,vv0',vv1',hdell,hw0,hw1⟩:=hc m hlt;obtain⟨va0,vc0,rfl⟩:=hv0.at.form';obtain⟨va1,vc1,rfl⟩:=hv1.at.form';obtain⟨vb0,vd0,rfl⟩:=hw0.at.form';obtain⟨vb1,vd1,rfl⟩:=hw1.at.form';obtain⟨c0,c1,c2,c3,c4,c5,c6⟩:=hcell.below HB.o hbw;obtain⟨d0,d1,d2,d3,d4,d5,d6⟩:=hdell.below HB.o hbw
    have HS:Hd (Zcx Zfy Xl m=decide (Zfy Xl[k] Xl[m] < 0)):=by
     subst hkm;exact Zdk hlt
    have e2:IntKind.i64.wrap ((m:Int) - 1)=k:=by rw [IntWalk.i64_left];unfold wrap64;omega
    have HKM:=Zab hkm;clear hc hcell hdell hs ht hkm hk hv0 hw0 hv1 hw1;go_wp2
    go_region_with (go_at_call 169;refine (Zkc Xl[k] Xl[m] _ _ _ _ _ _ _ _ _ _ _ _ _).mono ?_;rintro e w1 ⟨rfl,hb1⟩;have hB:Hd (Zw_ w w1):=(HB.o.drew).trans (hb1.mono HB.o.size);clear hb1)
    all_goals by_cases hq:0<=Zes Xl[k].kd Xl[k].nm Xl[m].kd Xl[m].nm
    all_goals first
     | (have HN:Hd (Zdl Zfy Xl=false):=ZaC hlt (HS.o.trans (decide_eq_false (by unfold Zfy;omega)))
        go_wp2;go_ret;exact⟨Zaa HN.o.symm,hB.o⟩)
     | (have HT:Hd (Zcx Zfy Xl m=true):=HS.o.trans (decide_eq_true (by unfold Zfy;omega))
        go_wp2;go_roundw
        case rel=>exact⟨m+1,by go_num,by omega,by omega,hB.o,fun j hj=>by
                   by_cases e:j=m
                   . rw [e];exact HT.o
                   . exact HA.o j (by omega)⟩
        . simp [intOf];omega)
  . have HT:Hd (Zdl Zfy Xl=true):=ZaH (fun i hi=>HA.o i (by omega))
    go_wp2;go_ret;exact⟨Zaa HT.o.symm,HB.o⟩
theorem Zlz (lo:Nat) (v:Value) (Xl:List Gr) (w:World) (hv:ZbG lo w v Xl) :
 Calls prog 174 #[v,.func (.func 175) #[] #[]] w fun e w'=>e=.returned (.bool (Zdl Zf3 Xl))/\Zw_ w w':=by
 have HV:=Zab hv;have hm:=hv.max;unfold maxLen at hm;obtain⟨a,cap,rfl⟩:=hv.form;clear hv;go_enter func174,ntmps174;go_wp2
 go_loopw [5] (fun i wr=>∃ m:Nat,i=.int .i64 m/\1<=m/\(m<=Xl.length\/m=1)/\Zw_ w wr/\∀ j,j < m->Zcx Zf3 Xl j=true) (fun i _=>Xl.length+1 - (intOf i).toNat)
 case atStart=>exact⟨1,rfl,Nat.le_refl _,Or.inr rfl,Below.refl _ _,fun j hj=>by rw [show j=0 by omega];rfl⟩
 case round=>
  obtain⟨m,rfl,hm1,hk,hb,hall⟩:=hrel;have HB:=Zab hb;have HA:=Zab hall;clear hb hall
  by_cases hlt:m < Xl.length
  . obtain⟨k,hkm⟩:∃ k,m=k+1:=⟨m - 1,by omega⟩
    have hlt0:k < Xl.length:=by omega
    obtain⟨b,off,rfl,hbw,-,hc⟩:=HV.o.full' (by omega);obtain⟨hs,vv0,hcell,hv0⟩:=hc k hlt0;obtain⟨ht,vv0',hdell,hw0⟩:=hc m hlt;obtain⟨va0,vc0,rfl⟩:=hv0.form;obtain⟨vb0,vd0,rfl⟩:=hw0.form;obtain⟨c0,c1,c2,c3,c4,c5,c6⟩:=hcell.below HB.o hbw;obtain⟨d0,d1,d2,d3,d4,d5,d6⟩:=hdell.below HB.o hbw
    have HS:Hd (Zcx Zf3 Xl m=decide (Zf3 Xl[k] Xl[m] < 0)):=by
     subst hkm;exact Zdk hlt
    have e2:IntKind.i64.wrap ((m:Int) - 1)=k:=by rw [IntWalk.i64_left];unfold wrap64;omega
    have HKM:=Zab hkm;clear hc hcell hdell hs ht hkm hk hv0 hw0;go_wp2
    go_region_with (go_at_call 175;refine (ZlF Xl[k] Xl[m] _ _ _ _ _ _ _).mono ?_;rintro e w1 ⟨rfl,hb1⟩;have hB:Hd (Zw_ w w1):=(HB.o.drew).trans (hb1.mono HB.o.size);clear hb1)
    all_goals by_cases hq:0<=Zk1 Xl[k].nu Xl[m].nu
    all_goals first
     | (have HN:Hd (Zdl Zf3 Xl=false):=ZaC hlt (HS.o.trans (decide_eq_false (by unfold Zf3;omega)))
        go_wp2;go_ret;exact⟨Zaa HN.o.symm,hB.o⟩)
     | (have HT:Hd (Zcx Zf3 Xl m=true):=HS.o.trans (decide_eq_true (by unfold Zf3;omega))
        go_wp2;go_roundw
        case rel=>exact⟨m+1,by go_num,by omega,by omega,hB.o,fun j hj=>by
                   by_cases e:j=m
                   . rw [e];exact HT.o
                   . exact HA.o j (by omega)⟩
        . simp [intOf];omega)
  . have HT:Hd (Zdl Zf3 Xl=true):=ZaH (fun i hi=>HA.o i (by omega))
    go_wp2;go_ret;exact⟨Zaa HT.o.symm,HB.o⟩
theorem ZlA (lo:Nat) (v:Value) (Xl:List Le) (w:World) (hv:ZbQ lo w v Xl) :
 Calls prog 176 #[v,.func (.func 177) #[] #[]] w fun e w'=>e=.returned (.bool (Zdl Zc6 Xl))/\Zw_ w w':=by
 have HV:=Zab hv;have hm:=hv.max;unfold maxLen at hm;obtain⟨a,cap,rfl⟩:=hv.form;clear hv;go_enter func176,ntmps176;go_wp2
 go_loopw [5] (fun i wr=>∃ m:Nat,i=.int .i64 m/\1<=m/\(m<=Xl.length\/m=1)/\Zw_ w wr/\∀ j,j < m->Zcx Zc6 Xl j=true) (fun i _=>Xl.length+1 - (intOf i).toNat)
 case atStart=>exact⟨1,rfl,Nat.le_refl _,Or.inr rfl,Below.refl _ _,fun j hj=>by rw [show j=0 by omega];rfl⟩
 case round=>
  obtain⟨m,rfl,hm1,hk,hb,hall⟩:=hrel;have HB:=Zab hb;have HA:=Zab hall;clear hb hall
  by_cases hlt:m < Xl.length
  . obtain⟨k,hkm⟩:∃ k,m=k+1:=⟨m - 1,by omega⟩
    have hlt0:k < Xl.length:=by omega
    obtain⟨b,off,rfl,hbw,-,hc⟩:=HV.o.full' (by omega);obtain⟨hs,hcell⟩:=hc k hlt0;obtain⟨ht,hdell⟩:=hc m hlt;obtain⟨c0,c1,c2,c3⟩:=hcell.below HB.o hbw;obtain⟨d0,d1,d2,d3⟩:=hdell.below HB.o hbw
    have HS:Hd (Zcx Zc6 Xl m=decide (Zc6 Xl[k] Xl[m] < 0)):=by
     subst hkm;exact Zdk hlt
    have e2:IntKind.i64.wrap ((m:Int) - 1)=k:=by rw [IntWalk.i64_left];unfold wrap64;omega
    have HKM:=Zab hkm;clear hc hcell hdell hs ht hkm hk;go_wp2
    go_region_with (go_at_call 177;refine (Zfk Xl[k] Xl[m] _).mono ?_;rintro e w1 ⟨rfl,hb1⟩;have hB:Hd (Zw_ w w1):=(HB.o.drew).trans (hb1.mono HB.o.size);clear hb1)
    all_goals by_cases hq:0<=Zes Xl[k].tm Xl[k].re Xl[m].tm Xl[m].re
    all_goals first
     | (have HN:Hd (Zdl Zc6 Xl=false):=ZaC hlt (HS.o.trans (decide_eq_false (by unfold Zc6;omega)))
        go_wp2;go_ret;exact⟨Zaa HN.o.symm,hB.o⟩)
     | (have HT:Hd (Zcx Zc6 Xl m=true):=HS.o.trans (decide_eq_true (by unfold Zc6;omega))
        go_wp2;go_roundw
        case rel=>exact⟨m+1,by go_num,by omega,by omega,hB.o,fun j hj=>by
                   by_cases e:j=m
                   . rw [e];exact HT.o
                   . exact HA.o j (by omega)⟩
        . simp [intOf];omega)
  . have HT:Hd (Zdl Zc6 Xl=true):=ZaH (fun i hi=>HA.o i (by omega))
    go_wp2;go_ret;exact⟨Zaa HT.o.symm,HB.o⟩
theorem ZlC (lo:Nat) (v:Value) (Xl:List Pu) (w:World) (hv:Zca lo w v Xl) :
 Calls prog 178 #[v,.func (.func 179) #[] #[]] w fun e w'=>e=.returned (.bool (Zdl Zgl Xl))/\Zw_ w w':=by
 have HV:=Zab hv;have hm:=hv.max;unfold maxLen at hm;obtain⟨a,cap,rfl⟩:=hv.form;clear hv;go_enter func178,ntmps178;go_wp2
 go_loopw [5] (fun i wr=>∃ m:Nat,i=.int .i64 m/\1<=m/\(m<=Xl.length\/m=1)/\Zw_ w wr/\∀ j,j < m->Zcx Zgl Xl j=true) (fun i _=>Xl.length+1 - (intOf i).toNat)
 case atStart=>exact⟨1,rfl,Nat.le_refl _,Or.inr rfl,Below.refl _ _,fun j hj=>by rw [show j=0 by omega];rfl⟩
 case round=>
  obtain⟨m,rfl,hm1,hk,hb,hall⟩:=hrel;have HB:=Zab hb;have HA:=Zab hall;clear hb hall
  by_cases hlt:m < Xl.length
  . obtain⟨k,hkm⟩:∃ k,m=k+1:=⟨m - 1,by omega⟩
    have hlt0:k < Xl.length:=by omega
    obtain⟨b,off,rfl,hbw,-,hc⟩:=HV.o.full' (by omega);obtain⟨hs,hcell⟩:=hc k hlt0;obtain⟨ht,hdell⟩:=hc m hlt;obtain⟨c0,c1,c2,c3,c4⟩:=hcell.below HB.o hbw;obtain⟨d0,d1,d2,d3,d4⟩:=hdell.below HB.o hbw
    have HS:Hd (Zcx Zgl Xl m=decide (Zgl Xl[k] Xl[m] < 0)):=by
     subst hkm;exact Zdk hlt
    have e2:IntKind.i64.wrap ((m:Int) - 1)=k:=by rw [IntWalk.i64_left];unfold wrap64;omega
    have HKM:=Zab hkm;clear hc hcell hdell hs ht hkm hk;go_wp2
    go_region_with (go_at_call 179;refine (ZlG Xl[k] Xl[m] _).mono ?_;rintro e w1 ⟨rfl,hb1⟩;have hB:Hd (Zw_ w w1):=(HB.o.drew).trans (hb1.mono HB.o.size);clear hb1)
    all_goals by_cases hq:0<=ZlE Xl[k].dr Xl[k].tm Xl[k].re Xl[m].dr Xl[m].tm Xl[m].re
    all_goals first
     | (have HN:Hd (Zdl Zgl Xl=false):=ZaC hlt (HS.o.trans (decide_eq_false (by unfold Zgl;omega)))
        go_wp2;go_ret;exact⟨Zaa HN.o.symm,hB.o⟩)
     | (have HT:Hd (Zcx Zgl Xl m=true):=HS.o.trans (decide_eq_true (by unfold Zgl;omega))
        go_wp2;go_roundw
        case rel=>exact⟨m+1,by go_num,by omega,by omega,hB.o,fun j hj=>by
                   by_cases e:j=m
                   . rw [e];exact HT.o
                   . exact HA.o j (by omega)⟩
        . simp [intOf];omega)
  . have HT:Hd (Zdl Zgl Xl=true):=ZaH (fun i hi=>HA.o i (by omega))
    go_wp2;go_ret;exact⟨Zaa HT.o.symm,HB.o⟩
end
section
open Go.RowKit Go.Deep Go.Maps
theorem Zbm {w wr w1:World}{r:Nat} (h:Zw_ w wr) (hg:wr.grownBy w1 (some r)) (hr:w.heap.size<=r):Zw_ w w1:=by
 have hz:=h.size;exact h.trans ⟨hg.os,hg.tape,hg.output,hg.size,fun k hk=>hg.block k (by omega) (fun e=>by have:=Option.some.inj e;omega)⟩
theorem ZaF {w w':World} (h:Zw_ w w'):w.grownBy w' none:=
 ⟨h.os,h.tape,h.output,h.size,fun k hk _=>h.block k hk⟩
section
variable (lo:Nat) (tv:Value) (Ts:List Tm) (team r:Zy_) (T:List Tri) (w:World)
theorem ZiL {D:DataW Unit}{b n:Nat} (hT:ZaZ lo w tv Ts) (hown:w.ownsMap prog 253 (plainElem prog 3) b n D) (hs:ZeY T D) (hok:Zqa T) :
 Calls prog 183 #[.map (some b),tv,.string team,.string r] w
  fun e w'=>e=.returned (.int .i64 (wrap64 (T.map (Zg3 Ts team r)).sum))/\Zw_ w w':=by
 have HT:=Zab hT;have HS:=Zab hs;have HK:=Zab hok;obtain⟨ta,tcap,rfl⟩:=hT.form;clear hT hs hok;go_enter func183,ntmps183
 go_wp2_with (first
  | (at_range;refine wpList_range_own _ rfl _ 248 rfl 253 3 Zh8 underlying248 _ b n _ rfl hown ?_;intro w0 hrg0 hg0 hs0)
  | go_in)
 go_frame
 go_loopw [9] (fun s wr=>∃ (left:Lit->Bool) (cnt:Nat),wr.ranges prog 253 (plainElem prog 3) b w.heap.size n D left cnt/\s=.int .i64 (wrap64 (Zj6 Ts team r T left))/\Zw_ w wr)
  (fun _ wr=>wr.rangeLeft b w.heap.size)
 case atStart=>exact⟨_,_,hrg0,by rw [ZmO HS.o];simp [wrap64],⟨hg0.os,hg0.tape,hg0.output,hg0.size,fun k hk=>hg0.block k hk (by simp)⟩⟩
 case round=>
  obtain⟨left,cnt,hrg,rfl,hb⟩:=hrel;have HB:=Zab hb;clear hb
  go_wp2_with (first
   | (at_next;refine wpList_next_ranges _ rfl _ rfl 253 Zh8 (plainElem prog 3) (fun p:Zy_×Zy_=>.agg #[.string p.1,.string p.2]) (Value.int .i64) (fun key kl h=>by obtain⟨x,y,rfl,_⟩:=Zgh.inv h;exact⟨(x,y),rfl⟩) (fun v y hv=>by obtain⟨c,rfl,_⟩:=plainElem_int_inv underlying3 hv;exact⟨c,rfl⟩) b w.heap.size n _ _ _ rfl hrg ?_ ?_)
   | go_in)
  . intro _ hl0
    go_wp2;go_ret;exact⟨ZaB (by rw [ZpN hl0]),HB.o⟩
  . intro xa xb c kl yd yp w1 cnt1 hkey hlk hv hat hrg1 hlt hg1 hs1 hen
    obtain⟨xa',xb',exy,rfl,sa,sb⟩:=Zgh.inv hkey;have e12:xa=xa'/\xb=xb':=by simpa using exy
    obtain⟨rfl,rfl⟩:=e12;clear exy hkey;have hbo:=hrg1.owns.lt;obtain⟨c',ec,ey,hwc⟩:=plainElem_int_inv underlying3 hv
    have hcc:c=wrap64 (Zkq T xa xb):=by
     have h1:=hat (.lit (.int .i64 0));rw [HS.o.sums xa xb sa sb] at h1;have h2:yd=.lit (.int .i64 c'):=congrArg Prod.fst ey;rw [h2] at h1;injection h1 with h1
     injection h1 with _ h1
     injection ec with _ ec
     rw [ec,h1]
    have HST:=Zab (ZjZ Ts team r sa sb hlk T HK.o);have HB1:Hd (Zw_ w w1):=Zbm HB.o hg1 Zl_;have HRG1:=Zab hrg1;clear hv hat ec ey hwc hlk hrg1 hg1
    cases hq:(xb.toList == r.toList) with
    | false=>
     have HE:Hd (Zj6 Ts team r T (fun z=>left z&&!z.sameKey (ZeT xa xb))=Zj6 Ts team r T left):=by unfold Hd;rw [HST.o,hq];simp
     go_wp2;go_roundw
     . exact⟨_,cnt1,HRG1.o.alloc _,by rw [HE.o],HB1.o.trans ((Zac _ _).mono HB1.o.size)⟩
     . rw [(HRG1.o.alloc _).left_eq,hrg.left_eq];exact hlt
    | true=>
     go_wp2_with fail;refine (Zin lo _ Ts xa team _ ((HT.o.below HB1.o).below (Zac _ _))).mono ?_;rintro e w2 ⟨rfl,hb2⟩;have HRG2:=Zab (HRG1.o.kept (((World.grownBy_alloc w1 _ none)).trans (ZaF hb2)) (by simp) (by simp));have HB2:Hd (Zw_ w w2):=(HB1.o.trans ((Zac _ _).mono HB1.o.size)).trans (hb2.mono ((HB1.o.trans ((Zac _ _).mono HB1.o.size)).size));clear hb2
     cases hu:Zbe Ts xa team with
     | false=>
      have HE:Hd (Zj6 Ts team r T (fun z=>left z&&!z.sameKey (ZeT xa xb))=Zj6 Ts team r T left):=by unfold Hd;rw [HST.o,hq,hu];simp
      go_wp2;go_roundw
      . exact⟨_,cnt1,HRG2.o,by rw [HE.o],HB2.o⟩
      . rw [HRG2.o.left_eq,hrg.left_eq];exact hlt
     | true=>
      have HE:Hd (Zj6 Ts team r T (fun z=>left z&&!z.sameKey (ZeT xa xb))=Zj6 Ts team r T left+Zkq T xa xb):=by unfold Hd;rw [HST.o,hq,hu];simp
      go_wp2;go_roundw
      . exact⟨_,cnt1,HRG2.o,by rw [HE.o,Zg6],HB2.o⟩
      . rw [HRG2.o.left_eq,hrg.left_eq];exact hlt
end
end
open Go.RowKit Go.Deep
section
variable (nm tt df we:Zy_) (kd le mo ro:Int) (mu fx:Bool) (wv:Value) (w:World)
theorem Znf (s:Zy_) (B:Nat) (hB:B < w.heap.size) (hs:w.cell? ⟨B,0,none⟩=some (.string s)) :
 Calls prog 272 #[.agg #[.string nm,.int .i64 kd,.int .i64 le,.int .i64 mo,wv,.string tt,.int .i64 ro,.bool mu,.bool fx,.string df,.string we],.pointer (some ⟨B,0,none⟩)] w
  fun e w'=>e=.returned (.bool (nm.toList == s.toList))/\Zw_ w w':=by
 go_enter func272,ntmps272;go_wp2;go_ret;exact⟨rfl,Zb_.alloc Zl_ _⟩
end
theorem Zhh (lo:Nat) (v:Value) (Fs:List Fd) (s:Zy_) (B:Nat) (w:World) (hv:ZaU lo w v Fs) (hB:B < w.heap.size) (hs:w.cell? ⟨B,0,none⟩=some (.string s)) :
 Calls prog 271 #[v,.func (.func 272) #[] #[.pointer (some ⟨B,0,none⟩)]] w fun e w'=>e=.returned (.int .i64 (ZbZ Fs s))/\Zw_ w w':=by
 by_cases hL:Fs=[]
 . subst hL
   obtain⟨a,cap,rfl⟩:=Zf9 hv;clear hv;go_enter func271,ntmps271;go_wp2
   go_loop [8] (fun i=>i=.int .i64 0) (fun _=>0)
   case atStart=>rfl
   case round=>
    subst hrel;go_wp2;go_ret;exact⟨rfl,Below.refl _ _⟩
 . obtain⟨b,off,cap,rfl,hm,hbw,_,hc⟩:=hv.full hL
   clear hv;unfold maxLen at hm;go_enter func271,ntmps271;go_wp2
   go_loopw [8] (fun i wr=>∃ k:Nat,i=.int .i64 k/\k<=Fs.length/\Zw_ w wr/\∀ j (hj:j < Fs.length),j < k->(Fs[j].nm.toList == s.toList)=false) (fun i _=>Fs.length - (intOf i).toNat)
   case atStart=>exact⟨0,rfl,by omega,Below.refl _ _,fun j _ h=>by omega⟩
   case round=>
    obtain⟨k,rfl,hk,hb,hall⟩:=hrel;have HA:=Zab hall;have HB:=Zab hb;clear hall hb
    by_cases hlt:k < Fs.length
    . obtain⟨_,wv,hcell,_⟩:=hc k hlt
      obtain⟨c0,c1,c2,c3,c4,c5,c6,c7,c8,c9,c10⟩:=hcell.below HB.o hbw;clear hcell;go_wp2_with fail;refine (Znf _ _ _ _ _ _ _ _ _ _ _ _ s B (Zk_ hB HB.o.size) (by rw [HB.o.cell (p:=⟨B,0,none⟩) hB];exact hs)).mono ?_;rintro e w1 ⟨rfl,hb1⟩;have HB1:Hd (Zw_ w w1):=HB.o.trans (hb1.mono HB.o.size);clear hb1 c0 c1 c2 c3 c4 c5 c6 c7 c8 c9 c10
      cases he:(Fs[k].nm.toList == s.toList) with
      | true=>
       go_wp2;go_ret;exact⟨by rw [ZhM hlt he HA.o];rfl,HB1.o⟩
      | false=>
       go_wp2;go_roundw
       case rel=>exact⟨k+1,by go_num,by omega,HB1.o,fun j hj h=>by
                  by_cases e:j=k
                  . subst e;exact he
                  . exact HA.o j hj (by omega)⟩
       . simp [intOf];omega
    . go_wp2
      go_ret;exact⟨by rw [ZjG fun j hj=>HA.o j hj (by omega)];rfl,HB.o⟩
theorem ZeN (lo:Nat) (kind:Zy_) (v:Value) (Fs:List Fd) (s:Zy_) (w:World) (hv:ZaU lo w v Fs) :
 Calls prog 258 #[.agg #[.string kind,v],.string s] w fun e w'=>e=.returned (.int .i64 (ZbZ Fs s))/\Zw_ w w':=by
 have HV:=Zab hv;obtain⟨a,cap,rfl⟩:=hv.form;clear hv;have HW:∀ o o',Hd (Zw_ w ((w.alloc o).alloc o')):=fun o o'=>(Zb_.alloc Zl_ _).alloc (by simp) _
 go_enter func258,ntmps258;go_wp2_with fail;refine (Zhh lo _ Fs s _ _ (HV.o.below (HW _ _).o) (by simp) (by simp)).mono ?_;rintro e w1 ⟨rfl,hb⟩;have HB:Hd (Zw_ w w1):=(HW _ _).o.trans (hb.mono (by simp;omega));clear hb;go_wp2;go_ret;exact⟨rfl,HB.o⟩
def Zm2 (lo:Nat) (Fs:List Fd) (s:Zy_) (e:Ending) (w:World):Prop:=
 (∃ (f:Fd) (wv:Value),Fs[ZaQ Fs s]?=some f/\Zbh Fs s=true/\e=.returned (.tuple #[.agg #[.string f.nm,.int .i64 f.kd,.int .i64 f.le,.int .i64 f.mo,wv,.string f.to,.int .i64 f.ro,.bool f.mu,.bool f.fx,.string f.df,.string f.we],.bool true])/\Zas lo w wv f.words)\/
 (Zbh Fs s=false/\e=.returned (.tuple #[.agg #[.string ⟨#[]⟩,.int .i64 0,.int .i64 0,.int .i64 0,.slice none 0 0,.string ⟨#[]⟩,.int .i64 0,.bool false,.bool false,.string ⟨#[]⟩,.string ⟨#[]⟩],.bool false]))
theorem ZfI (lo:Nat) (kind:Zy_) (v:Value) (Fs:List Fd) (s:Zy_) (w0 w:World) (hv:ZaU lo w0 v Fs) (h0:Below w0.heap.size w0 w) :
 Calls prog 233 #[.agg #[.string kind,v],.string s] w fun e w'=>Zw_ w w'/\Zm2 lo Fs s e w0:=by
 have HV:=Zab hv;have H0:=Zab h0;obtain⟨a,cap,rfl⟩:=hv.form;clear hv h0;go_enter func233,ntmps233;go_wp2_with fail;generalize hWa:w.alloc _=Wa;have hza:Wa.heap.size=w.heap.size+1:=by rw [<- hWa];simp
 have HBa:Hd (Zw_ w Wa):=by rw [<- hWa];exact Zac _ _
 have FS:Hd (Box Wa w.heap.size #[.string kind,.slice a Fs.length cap]):=by rw [<- hWa];exact Box.new _ _ _ _ rfl
 clear hWa;generalize hWb:Wa.alloc _=Wb;have hbb:Below Wa.heap.size Wa Wb:=by rw [<- hWb];exact Zac _ _
 have HBb:Hd (Zw_ w Wb):=HBa.o.trans (hbb.mono (by omega));have FS:=Zab (FS.o.on hbb);have FR:Hd (Box Wb (w.heap.size+1) #[.string ⟨#[]⟩,.int .i64 0,.int .i64 0,.int .i64 0,.slice none 0 0,.string ⟨#[]⟩,.int .i64 0,.bool false,.bool false,.string ⟨#[]⟩,.string ⟨#[]⟩]):=by rw [<- hWb];exact Box.new _ _ _ _ hza
 clear hWb hbb HBa hza;refine (ZeN lo _ _ Fs s _ (HV.o.below (H0.o.trans (HBb.o.mono H0.o.size)))).mono ?_;rintro e w1 ⟨rfl,hb1⟩;have FS:=Zab (FS.o.on hb1);have FR:=Zab (FR.o.on hb1);have HB1:Hd (Zw_ w w1):=HBb.o.trans (hb1.mono HBb.o.size);clear hb1 HBb;have g1:=FS.o.cell;have gl:=FS.o.lt;have r:=FR.o.cell;have rf:=FR.o.free;have rl:=FR.o.lt;have r0:w1.cell? ⟨w.heap.size+1,0,none⟩=some (.string ⟨#[]⟩):=r 0;have r1:w1.cell? ⟨w.heap.size+1,1,none⟩=some (.int .i64 0):=r 1;have r2:w1.cell? ⟨w.heap.size+1,2,none⟩=some (.int .i64 0):=r 2;have r3:w1.cell? ⟨w.heap.size+1,3,none⟩=some (.int .i64 0):=r 3;have r4:w1.cell? ⟨w.heap.size+1,4,none⟩=some (.slice none 0 0):=r 4;have r5:w1.cell? ⟨w.heap.size+1,5,none⟩=some (.string ⟨#[]⟩):=r 5;have r6:w1.cell? ⟨w.heap.size+1,6,none⟩=some (.int .i64 0):=r 6
 have r7:w1.cell? ⟨w.heap.size+1,7,none⟩=some (.bool false):=r 7;have r8:w1.cell? ⟨w.heap.size+1,8,none⟩=some (.bool false):=r 8;have r9:w1.cell? ⟨w.heap.size+1,9,none⟩=some (.string ⟨#[]⟩):=r 9;have r10:w1.cell? ⟨w.heap.size+1,10,none⟩=some (.string ⟨#[]⟩):=r 10
 have HST:∀ (u0 u1 u2 u3 u4 u5 u6 u7 u8 u9 u10:Value),Hd (Zw_ w (((((((((((w1.setCell ⟨w.heap.size+1,0,none⟩ u0).setCell ⟨w.heap.size+1,1,none⟩ u1).setCell ⟨w.heap.size+1,2,none⟩ u2).setCell ⟨w.heap.size+1,3,none⟩ u3).setCell ⟨w.heap.size+1,4,none⟩ u4).setCell ⟨w.heap.size+1,5,none⟩ u5).setCell ⟨w.heap.size+1,6,none⟩ u6).setCell ⟨w.heap.size+1,7,none⟩ u7).setCell ⟨w.heap.size+1,8,none⟩ u8).setCell ⟨w.heap.size+1,9,none⟩ u9).setCell ⟨w.heap.size+1,10,none⟩ u10)):=fun u0 u1 u2 u3 u4 u5 u6 u7 u8 u9 u10=>by
  have q:∀ (i:Nat),w.heap.size<=(⟨w.heap.size+1,i,none⟩:Addr).block:=fun i=>Nat.le_succ _
  exact (((((((((((HB1.o.setCell (q 0) _).setCell (q 1) _).setCell (q 2) _).setCell (q 3) _).setCell (q 4) _).setCell (q 5) _).setCell (q 6) _).setCell (q 7) _).setCell (q 8) _).setCell (q 9) _).setCell (q 10) _)
 clear r
 by_cases hp:ZaQ Fs s < Fs.length
 . rw [ZbC hp]
   obtain⟨b,off,rfl,hbw0,hc⟩:=HV.o.full' (by omega);have hbw:b < w.heap.size:=Zk_ hbw0 H0.o.size
   obtain⟨_,wv,hcell,hwd⟩:=hc _ hp;have HWD:=Zab hwd;obtain⟨wa,wn,wcap,rfl⟩:=hwd.form;obtain⟨c0,c1,c2,c3,c4,c5,c6,c7,c8,c9,c10⟩:=hcell.below (H0.o.trans (HB1.o.mono H0.o.size)) hbw0;have HQ:Hd (Zbh Fs s=!(Fs[ZaQ Fs s].kd == 4)):=Zlj hp;have HFF:Hd (Fs[ZaQ Fs s]?=some Fs[ZaQ Fs s]):=List.getElem?_eq_getElem hp
   have hpm:(Fs.length:Int)<=9223372036854775807:=by
    rcases HV.o with ⟨_,_,h,_⟩ | ⟨_,_,_,_,_,h,_⟩
    . injection h;omega
    . unfold maxLen at h;omega
   clear hc hwd hcell;generalize hpp:ZaQ Fs s=p at*
   cases hk:(Fs[p].kd == 4) with
   | true=>
    have HN:Hd (Zbh Fs s=false):=by unfold Hd;rw [HQ.o,hk];rfl
    have e4:Fs[p].kd=4:=by simpa using hk
    rw [e4] at c1;clear hk;go_wp2;refine bodyPost_ret (v:=.tuple #[.agg #[.string ⟨#[]⟩,.int .i64 0,.int .i64 0,.int .i64 0,.slice none 0 0,.string ⟨#[]⟩,.int .i64 0,.bool false,.bool false,.string ⟨#[]⟩,.string ⟨#[]⟩],.bool false]) (by simp [results,results233,go_sem,r0,r1,r2,r3,r4,r5,r6,r7,r8,r9,r10]) rfl ⟨?_,Or.inr ⟨HN.o,rfl⟩⟩;exact (HST _ _ _ _ _ _ _ _ _ _ _).o
   | false=>
    have HN:Hd (Zbh Fs s=true):=by unfold Hd;rw [HQ.o,hk];rfl
    have e4:¬ Fs[p].kd=4:=by simpa using hk
    go_wp2;refine bodyPost_ret (v:=.tuple #[.agg #[.string Fs[p].nm,.int .i64 Fs[p].kd,.int .i64 Fs[p].le,.int .i64 Fs[p].mo,(.slice wa wn wcap),.string Fs[p].to,.int .i64 Fs[p].ro,.bool Fs[p].mu,.bool Fs[p].fx,.string Fs[p].df,.string Fs[p].we],.bool true]) (by simp [results,results233,go_sem,r0,r1,r2,r3,r4,r5,r6,r7,r8,r9,r10]) rfl ⟨?_,Or.inl ⟨Fs[p],_,by rw [hpp];exact HFF.o,HN.o,rfl,HWD.o⟩⟩;exact (HST _ _ _ _ _ _ _ _ _ _ _).o
 . rw [ZjF hp]
   have HN:Hd (Zbh Fs s=false):=Zlk hp;go_wp2;refine bodyPost_ret (v:=.tuple #[.agg #[.string ⟨#[]⟩,.int .i64 0,.int .i64 0,.int .i64 0,.slice none 0 0,.string ⟨#[]⟩,.int .i64 0,.bool false,.bool false,.string ⟨#[]⟩,.string ⟨#[]⟩],.bool false]) (by simp [results,results233,go_sem,r0,r1,r2,r3,r4,r5,r6,r7,r8,r9,r10]) rfl ⟨?_,Or.inr ⟨HN.o,rfl⟩⟩;exact (HST _ _ _ _ _ _ _ _ _ _ _).o
end Go.Proofs.YtbdhbihhgfpnnaaGreat
