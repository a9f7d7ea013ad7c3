import Derived.Test.YtfohnageehneoaaGreatUOC
import Derived.Lib.SliceRun
import Derived.Deep.RegionLaw
import Derived.Deep.RegionHeldLaw
import Derived.Test.YtfohnageehneoaaGreatUJB
set_option maxHeartbeats 16000000
set_option maxRecDepth 100000
open Go.Proofs.Tryz
namespace Go.Proofs.YtfohnageehneoaaGreat
open Go.RowKit Go.Deep
variable {v:Value} {w' W:World} {n base sz cap l0 l1:Nat} {e:TypeId} {cs:List Value} {ad:Addr} {L:List Int} {Ls:List Le}
theorem Za6.setLow {lo hi:Nat}{w:World}{Xl:List Ob} (h:Za6 lo hi w v Xl) {p:Addr} (hp:p.block < lo) (u:Value):Za6 lo hi (w.setCell p u) v Xl:=h.touch (Zad.setCell p.block (p.block+1) w p u ⟨Nat.le_refl _,Nat.lt_succ_self _⟩) (Or.inr hp)
theorem Zbe.setLow {lo hi:Nat}{w:World}{Xl:List Gr} (h:Zbe lo hi w v Xl) {p:Addr} (hp:p.block < lo) (u:Value):Zbe lo hi (w.setCell p u) v Xl:=h.touch (Zad.setCell p.block (p.block+1) w p u ⟨Nat.le_refl _,Nat.lt_succ_self _⟩) (Or.inr hp)
theorem ZaJ.setLow {lo hi:Nat}{w:World}{Xl:List Le} (h:ZaJ lo hi w v Xl) {p:Addr} (hp:p.block < lo) (u:Value):ZaJ lo hi (w.setCell p u) v Xl:=h.touch (Zad.setCell p.block (p.block+1) w p u ⟨Nat.le_refl _,Nat.lt_succ_self _⟩) (Or.inr hp)
theorem Zbx.setLow {lo hi:Nat}{w:World}{Xl:List Pu} (h:Zbx lo hi w v Xl) {p:Addr} (hp:p.block < lo) (u:Value):Zbx lo hi (w.setCell p u) v Xl:=h.touch (Zad.setCell p.block (p.block+1) w p u ⟨Nat.le_refl _,Nat.lt_succ_self _⟩) (Or.inr hp)
section
variable (lo:Nat) (ov gv lv pv:Value) (B:Bk) (w:World)
theorem Zlx (h:ZaY lo w ov gv lv pv B) (hn:ZaE B) :
 Calls prog 11 #[.agg #[.int .i64 B.now,.int .i64 B.tick,.int .i64 B.given,ov,gv,lv,pv]] w
  fun e w'=>∃ b0 m0 b1 m1 b2 m2 b3 m3,e=.returned (.agg #[.int .i64 B.now,.int .i64 B.tick,.int .i64 B.given,.slice b0 B.os.length m0,.slice b1 B.gs.length m1,.slice b2 B.ls.length m2,.slice b3 B.ps.length m3])/\Zw_ w w'/\
   Zax w.heap.size w'.heap.size w' (.slice b0 B.os.length m0) (.slice b1 B.gs.length m1) (.slice b2 B.ls.length m2) (.slice b3 B.ps.length m3) B:=by
 have HL:=Zab h;obtain⟨a0,k0,rfl⟩:=h.obs.form;obtain⟨a1,k1,rfl⟩:=h.grs.form;obtain⟨a2,k2,rfl⟩:=h.les.form;obtain⟨a3,k3,rfl⟩:=h.pus.form;obtain⟨hn0,hn1,hn2,hn3⟩:=hn;clear h;go_enter func11,ntmps11;go_wp2_with fail
 obtain⟨wz,hwz,HX0,HR0,HO0,HB0⟩:∃ wz,wz=((w.alloc (.cells #[.int .i64 B.now,.int .i64 B.tick,.int .i64 B.given,.slice a0 B.os.length k0,.slice a1 B.gs.length k1,.slice a2 B.ls.length k2,.slice a3 B.ps.length k3] 32)).alloc (.cells #[.int .i64 0,.int .i64 0,.int .i64 0,.slice none 0 0,.slice none 0 0,.slice none 0 0,.slice none 0 0] 40)).alloc (.cells #[.int .i64 B.now,.int .i64 B.tick,.int .i64 B.given,.slice none 0 0,.slice none 0 0,.slice none 0 0,.slice none 0 0] 40)/\
  Hd (Box wz w.heap.size #[.int .i64 B.now,.int .i64 B.tick,.int .i64 B.given,.slice a0 B.os.length k0,.slice a1 B.gs.length k1,.slice a2 B.ls.length k2,.slice a3 B.ps.length k3])/\Hd (Box wz (w.heap.size+1) #[.int .i64 0,.int .i64 0,.int .i64 0,.slice none 0 0,.slice none 0 0,.slice none 0 0,.slice none 0 0])/\Hd (Box wz (w.heap.size+1+1) #[.int .i64 B.now,.int .i64 B.tick,.int .i64 B.given,.slice none 0 0,.slice none 0 0,.slice none 0 0,.slice none 0 0])/\Hd (Zw_ w wz):=
  ⟨_,rfl,((Box.new w _ _ _ rfl).on (Zac _ _)).on (Zac _ _),(Box.new _ _ _ _ (by simp)).on (Zac _ _),Box.new _ _ _ _ (by simp),((Zac _ _).trans ((Zac _ _).mono (by simp))).trans ((Zac _ _).mono (by simp;omega))⟩
 rw [<- hwz];clear hwz;generalize wz=v0 at*;have hz0:w.heap.size+3<=v0.heap.size:=by have:=HO0.o.lt;omega
 refine (ZnI lo _ B.os _ (HL.o.below HB0.o).obs hn0).mono ?_;rintro e w0 ⟨u0,rfl,hb0,hs0⟩;obtain⟨b0,m0,rfl⟩:=hs0.form;have GX:=Zab (HX0.o.on hb0);have GR:=Zab (HR0.o.on hb0);have GO:=Zab (HO0.o.on hb0);have GB:=Zab (HB0.o.trans (hb0.mono HB0.o.size));have GN:=Zab hs0;have hsz0:=hb0.size;clear hb0 hs0 HX0 HR0 HO0 HB0;have o0:=GO.o.cell 3;have f0:=GO.o.free 3;have x1:=GX.o.cell 4;simp at o0 f0 x1;go_wp2_with fail;clear o0 f0 x1
 obtain⟨v1,hwq,HX1,HR1,HO1,HB1,hq1,HS0⟩:∃ wq,wq=w0.setCell ⟨w.heap.size+1+1,3,none⟩ (.slice b0 B.os.length m0)/\
  Hd (Box wq w.heap.size #[.int .i64 B.now,.int .i64 B.tick,.int .i64 B.given,.slice a0 B.os.length k0,.slice a1 B.gs.length k1,.slice a2 B.ls.length k2,.slice a3 B.ps.length k3])/\Hd (Box wq (w.heap.size+1) #[.int .i64 0,.int .i64 0,.int .i64 0,.slice none 0 0,.slice none 0 0,.slice none 0 0,.slice none 0 0])/\Hd (Box wq (w.heap.size+1+1) #[.int .i64 B.now,.int .i64 B.tick,.int .i64 B.given,.slice b0 B.os.length m0,.slice none 0 0,.slice none 0 0,.slice none 0 0])/\Hd (Zw_ w wq)/\wq.heap.size=w0.heap.size/\Hd (Za6 v0.heap.size w0.heap.size wq (.slice b0 B.os.length m0) B.os):=
  ⟨_,rfl,GX.o.setFar (by dsimp;omega) _,GR.o.setFar (by dsimp;omega) _,GO.o.set (k:=3) (.slice b0 B.os.length m0) (by simp),GB.o.setCell (by dsimp;omega) _,by simp [World.setCell],GN.o.setLow (by dsimp;omega) _⟩
 rw [<- hwq];clear hwq GX GR GO GB GN;have hz1:w.heap.size+3<=v1.heap.size:=by omega
 refine (ZnC lo _ B.gs _ (HL.o.below HB1.o).grs hn1).mono ?_;rintro e w1 ⟨u1,rfl,hb1,hs1⟩;obtain⟨b1,m1,rfl⟩:=hs1.form;have GX:=Zab (HX1.o.on hb1);have GR:=Zab (HR1.o.on hb1);have GO:=Zab (HO1.o.on hb1);have GB:=Zab (HB1.o.trans (hb1.mono HB1.o.size));have GN:=Zab hs1;have hsz1:=hb1.size;have G0:=Zab (HS0.o.below hb1);clear hb1 hs1 HX1 HR1 HO1 HB1 HS0;have o0:=GO.o.cell 4;have f0:=GO.o.free 4;have x1:=GX.o.cell 5;simp at o0 f0 x1;go_wp2_with fail;clear o0 f0 x1
 obtain⟨v2,hwq,HX2,HR2,HO2,HB2,hq2,HS1,HS0⟩:∃ wq,wq=w1.setCell ⟨w.heap.size+1+1,4,none⟩ (.slice b1 B.gs.length m1)/\
  Hd (Box wq w.heap.size #[.int .i64 B.now,.int .i64 B.tick,.int .i64 B.given,.slice a0 B.os.length k0,.slice a1 B.gs.length k1,.slice a2 B.ls.length k2,.slice a3 B.ps.length k3])/\Hd (Box wq (w.heap.size+1) #[.int .i64 0,.int .i64 0,.int .i64 0,.slice none 0 0,.slice none 0 0,.slice none 0 0,.slice none 0 0])/\Hd (Box wq (w.heap.size+1+1) #[.int .i64 B.now,.int .i64 B.tick,.int .i64 B.given,.slice b0 B.os.length m0,.slice b1 B.gs.length m1,.slice none 0 0,.slice none 0 0])/\Hd (Zw_ w wq)/\wq.heap.size=w1.heap.size/\Hd (Zbe v1.heap.size w1.heap.size wq (.slice b1 B.gs.length m1) B.gs)/\Hd (Za6 v0.heap.size w0.heap.size wq (.slice b0 B.os.length m0) B.os):=
  ⟨_,rfl,GX.o.setFar (by dsimp;omega) _,GR.o.setFar (by dsimp;omega) _,GO.o.set (k:=4) (.slice b1 B.gs.length m1) (by simp),GB.o.setCell (by dsimp;omega) _,by simp [World.setCell],GN.o.setLow (by dsimp;omega) _,G0.o.setLow (by dsimp;omega) _⟩
 rw [<- hwq];clear hwq GX GR GO GB GN G0;have hz2:w.heap.size+3<=v2.heap.size:=by omega
 refine (ZmO lo _ B.ls _ (HL.o.below HB2.o).les hn2).mono ?_;rintro e w2 ⟨u2,rfl,hb2,hs2⟩;obtain⟨b2,m2,rfl⟩:=hs2.form;have GX:=Zab (HX2.o.on hb2);have GR:=Zab (HR2.o.on hb2);have GO:=Zab (HO2.o.on hb2);have GB:=Zab (HB2.o.trans (hb2.mono HB2.o.size));have GN:=Zab hs2;have hsz2:=hb2.size;have G0:=Zab (HS0.o.below hb2);have G1:=Zab (HS1.o.below hb2);clear hb2 hs2 HX2 HR2 HO2 HB2 HS0 HS1;have o0:=GO.o.cell 5;have f0:=GO.o.free 5;have x1:=GX.o.cell 6;simp at o0 f0 x1;go_wp2_with fail;clear o0 f0 x1
 obtain⟨v3,hwq,HX3,HR3,HO3,HB3,hq3,HS2,HS0,HS1⟩:∃ wq,wq=w2.setCell ⟨w.heap.size+1+1,5,none⟩ (.slice b2 B.ls.length m2)/\
  Hd (Box wq w.heap.size #[.int .i64 B.now,.int .i64 B.tick,.int .i64 B.given,.slice a0 B.os.length k0,.slice a1 B.gs.length k1,.slice a2 B.ls.length k2,.slice a3 B.ps.length k3])/\Hd (Box wq (w.heap.size+1) #[.int .i64 0,.int .i64 0,.int .i64 0,.slice none 0 0,.slice none 0 0,.slice none 0 0,.slice none 0 0])/\Hd (Box wq (w.heap.size+1+1) #[.int .i64 B.now,.int .i64 B.tick,.int .i64 B.given,.slice b0 B.os.length m0,.slice b1 B.gs.length m1,.slice b2 B.ls.length m2,.slice none 0 0])/\Hd (Zw_ w wq)/\wq.heap.size=w2.heap.size/\Hd (ZaJ v2.heap.size w2.heap.size wq (.slice b2 B.ls.length m2) B.ls)/\Hd (Za6 v0.heap.size w0.heap.size wq (.slice b0 B.os.length m0) B.os)/\Hd (Zbe v1.heap.size w1.heap.size wq (.slice b1 B.gs.length m1) B.gs):=
  ⟨_,rfl,GX.o.setFar (by dsimp;omega) _,GR.o.setFar (by dsimp;omega) _,GO.o.set (k:=5) (.slice b2 B.ls.length m2) (by simp),GB.o.setCell (by dsimp;omega) _,by simp [World.setCell],GN.o.setLow (by dsimp;omega) _,G0.o.setLow (by dsimp;omega) _,G1.o.setLow (by dsimp;omega) _⟩
 rw [<- hwq];clear hwq GX GR GO GB GN G0 G1;have hz3:w.heap.size+3<=v3.heap.size:=by omega
 refine (Zm3 lo _ B.ps _ (HL.o.below HB3.o).pus hn3).mono ?_;rintro e w3 ⟨u3,rfl,hb3,hs3⟩;obtain⟨b3,m3,rfl⟩:=hs3.form;have GX:=Zab (HX3.o.on hb3);have GR:=Zab (HR3.o.on hb3);have GO:=Zab (HO3.o.on hb3);have GB:=Zab (HB3.o.trans (hb3.mono HB3.o.size));have GN:=Zab hs3;have hsz3:=hb3.size;have G0:=Zab (HS0.o.below hb3);have G1:=Zab (HS1.o.below hb3);have G2:=Zab (HS2.o.below hb3);clear hb3 hs3 HX3 HR3 HO3 HB3 HS0 HS1 HS2;have o0:=GO.o.cell 0;have o1:=GO.o.cell 1;have o2:=GO.o.cell 2;have o3:=GO.o.cell 3;have o4:=GO.o.cell 4;have o5:=GO.o.cell 5;have o6:=GO.o.cell 6;have f6:=GO.o.free 6;have r0:=GR.o.cell 0;have g0:=GR.o.free 0;have r1:=GR.o.cell 1;have g1:=GR.o.free 1;have r2:=GR.o.cell 2;have g2:=GR.o.free 2;have r3:=GR.o.cell 3;have g3:=GR.o.free 3;have r4:=GR.o.cell 4;have g4:=GR.o.free 4;have r5:=GR.o.cell 5
 have g5:=GR.o.free 5;have r6:=GR.o.cell 6;have g6:=GR.o.free 6;simp at o0 r0 o1 r1 o2 r2 o3 r3 o4 r4 o5 r5 o6 r6;go_wp2;refine bodyPost_ret (v:=.agg #[.int .i64 B.now,.int .i64 B.tick,.int .i64 B.given,.slice b0 B.os.length m0,.slice b1 B.gs.length m1,.slice b2 B.ls.length m2,.slice b3 B.ps.length m3]) (by simp [results,results11,go_sem,r0,r1,r2,r3,r4,r5,r6]) rfl ⟨_,_,_,_,_,_,_,_,rfl,?_,v0.heap.size,w0.heap.size,v1.heap.size,w1.heap.size,v2.heap.size,w2.heap.size,v3.heap.size,w3.heap.size,⟨?_,?_,?_,?_,by omega,by omega,by omega,by omega,by omega,by omega⟩,?_,?_,?_,?_⟩
 . repeat (refine Below.setCell ?_ (by dsimp;omega) _)
   exact GB.o
 . simp [World.setCell];omega
 . simp [World.setCell];omega
 . simp [World.setCell];omega
 . simp [World.setCell];omega
 . repeat (refine Za6.setLow ?_ (by dsimp;omega) _)
   exact G0.o
 . repeat (refine Zbe.setLow ?_ (by dsimp;omega) _)
   exact G1.o
 . repeat (refine ZaJ.setLow ?_ (by dsimp;omega) _)
   exact G2.o
 . repeat (refine Zbx.setLow ?_ (by dsimp;omega) _)
   exact GN.o
end
theorem ZbU.set' (lo hi:Nat) (w:World) (p:Addr) (u:Value) (h:lo<=p.block/\p.block < hi):ZbU lo hi w (w.setCell p u):=by
 by_cases hc:(w.cell? p).isSome=true
 . exact ZbU.setCell lo hi w p u h hc
 . refine⟨Zad.setCell lo hi w p u h,fun q _ hq=>?_,fun q _=>by rw [World.frozen?_setCell]⟩
   have hne:q≠p:=fun e=>hc (e ▸ hq)
   rw [show (w.setCell p u).cell? q=w.cell? q from by apply World.cell?_setCell_other;first | exact hne | exact hne.symm];exact hq
theorem ZpZ.far {lo hi lo' hi':Nat}{w:World} (h:ZpZ lo hi w v n) (k:ZbU lo' hi' w w') (ho:hi'<=lo\/hi<=lo'):ZpZ lo hi w' v n:=by
 rcases h with h | ⟨b,off,cap,m,h1,h2,h3,h4,h5,h6,h7,h8,h9⟩
 . exact Or.inl h
 . refine Or.inr ⟨b,off,cap,m,h1,h2,h3,h4,h5,h6,h7,h8,fun i hi hj=>?_⟩
   obtain⟨fv,nf,hs,hf,hn⟩:=h9 i hi hj;have g1:=h7 0 i Zz_;have g2:=h7 (i+1) n (by omega);refine⟨fv,nf,⟨Zk_ hs.lt k.touch.size,k.there _ hs.lt hs.c0,(k.touch.cell (p:=⟨b,off+i*2+1,none⟩) hs.lt (by dsimp;omega)).trans hs.one,fun i=>(k.frz _ hs.lt).trans (hs.fr i)⟩,hf.kept k (by omega),hn⟩
def ZmZ (lo hi:Nat) (w:World) (v:Value) (Ss:List Sh):Prop:=ZaR lo w v Ss/\ZpZ lo hi w v Ss.length
def ZnP (lo hi:Nat) (w:World) (v:Value) (Ms:List Md):Prop:=Zbg lo w v Ms/\Zp0 lo hi w v Ms.length
theorem ZmZ.below {lo hi:Nat}{w:World}{Ss:List Sh} (h:ZmZ lo hi w v Ss) (hb:Zw_ w w'):ZmZ lo hi w' v Ss:=⟨h.1.below hb,h.2.below hb⟩
theorem ZnP.below {lo hi:Nat}{w:World}{Ms:List Md} (h:ZnP lo hi w v Ms) (hb:Zw_ w w'):ZnP lo hi w' v Ms:=⟨h.1.below hb,h.2.below hb⟩
theorem ZmZ.setLow {lo hi:Nat}{w:World}{Ss:List Sh} (h:ZmZ lo hi w v Ss) {p:Addr} (hp:p.block < lo) (u:Value):ZmZ lo hi (w.setCell p u) v Ss:=⟨h.1.set' hp u,h.2.far (ZbU.set' p.block (p.block+1) w p u ⟨Nat.le_refl _,Nat.lt_succ_self _⟩) (Or.inl hp)⟩
theorem ZnP.setLow {lo hi:Nat}{w:World}{Ms:List Md} (h:ZnP lo hi w v Ms) {p:Addr} (hp:p.block < lo) (u:Value):ZnP lo hi (w.setCell p u) v Ms:=⟨h.1.setCell hp u,h.2.kept (ZbU.set' p.block (p.block+1) w p u ⟨Nat.le_refl _,Nat.lt_succ_self _⟩)⟩
theorem ZmZ.form {lo hi:Nat}{w:World}{Ss:List Sh} (h:ZmZ lo hi w v Ss):∃ a cap,v=.slice a Ss.length cap:=h.1.form
theorem ZnP.form {lo hi:Nat}{w:World}{Ms:List Md} (h:ZnP lo hi w v Ms):∃ a cap,v=.slice a Ms.length cap:=h.1.form
theorem Zcq.setLow {lo hi:Nat}{w:World}{Xl:List Tm} (h:Zcq lo hi w v Xl) {p:Addr} (hp:p.block < lo) (u:Value):Zcq lo hi (w.setCell p u) v Xl:=h.touch (Zad.setCell p.block (p.block+1) w p u ⟨Nat.le_refl _,Nat.lt_succ_self _⟩) (Or.inr hp)
def Zg8 (lo hi:Nat) (w:World) (sv mv tv:Value) (Ss:List Sh) (Ms:List Md) (Ts:List Tm):Prop:=
 ∃ s0 s1 m0 m1 t0 t1:Nat,(lo<=s0/\s1<=hi)/\(lo<=m0/\m1<=hi)/\(lo<=t0/\t1<=hi)/\s1<=t0/\m1<=t0/\ZmZ s0 s1 w sv Ss/\ZnP m0 m1 w mv Ms/\Zcq t0 t1 w tv Ts
theorem Zg8.at {lo hi:Nat}{w:World}{sv mv tv:Value}{Ss:List Sh}{Ms:List Md}{Ts:List Tm} (h:Zg8 lo hi w sv mv tv Ss Ms Ts):ZbC lo w sv mv tv Ss Ms Ts:=by
 obtain⟨s0,s1,m0,m1,t0,t1,g1,g2,g3,-,-,h1,h2,h3⟩:=h;exact⟨h1.1.mono g1.1,h2.1.mono g2.1,h3.at.mono g3.1⟩
theorem Zg8.below {lo hi:Nat}{w:World}{sv mv tv:Value}{Ss:List Sh}{Ms:List Md}{Ts:List Tm} (h:Zg8 lo hi w sv mv tv Ss Ms Ts) (hb:Zw_ w w'):Zg8 lo hi w' sv mv tv Ss Ms Ts:=by
 obtain⟨s0,s1,m0,m1,t0,t1,g1,g2,g3,g4,g5,h1,h2,h3⟩:=h;exact⟨s0,s1,m0,m1,t0,t1,g1,g2,g3,g4,g5,h1.below hb,h2.below hb,h3.below hb⟩
section
variable (lo hi:Nat) (sv mv tv:Value) (Ss:List Sh) (Ms:List Md) (Ts:List Tm) (w:World)
theorem ZnJ (h:ZbC lo w sv mv tv Ss Ms Ts) (hn:Zfi Ss Ms Ts) :
 Calls prog 10 #[.agg #[sv,mv,tv]] w
  fun e w'=>∃ b0 m0 b1 m1 b2 m2,e=.returned (.agg #[.slice b0 Ss.length m0,.slice b1 Ms.length m1,.slice b2 Ts.length m2])/\Zw_ w w'/\
   Zg8 w.heap.size w'.heap.size w' (.slice b0 Ss.length m0) (.slice b1 Ms.length m1) (.slice b2 Ts.length m2) Ss Ms Ts:=by
 have HL:=Zab h;obtain⟨a0,k0,rfl⟩:=h.shs.form;obtain⟨a1,k1,rfl⟩:=h.mds.form;obtain⟨a2,k2,rfl⟩:=h.tms.form;clear h;go_enter func10,ntmps10;go_wp2_with fail
 obtain⟨wz,hwz,HX0,HR0,HO0,HB0⟩:∃ wz,wz=((w.alloc (.cells #[.slice a0 Ss.length k0,.slice a1 Ms.length k1,.slice a2 Ts.length k2] 26)).alloc (.cells #[.slice none 0 0,.slice none 0 0,.slice none 0 0] 47)).alloc (.cells #[.slice none 0 0,.slice none 0 0,.slice none 0 0] 47)/\
  Hd (Box wz w.heap.size #[.slice a0 Ss.length k0,.slice a1 Ms.length k1,.slice a2 Ts.length k2])/\Hd (Box wz (w.heap.size+1) #[.slice none 0 0,.slice none 0 0,.slice none 0 0])/\Hd (Box wz (w.heap.size+1+1) #[.slice none 0 0,.slice none 0 0,.slice none 0 0])/\Hd (Zw_ w wz):=
  ⟨_,rfl,((Box.new w _ _ _ rfl).on (Zac _ _)).on (Zac _ _),(Box.new _ _ _ _ (by simp)).on (Zac _ _),Box.new _ _ _ _ (by simp),((Zac _ _).trans ((Zac _ _).mono (by simp))).trans ((Zac _ _).mono (by simp;omega))⟩
 rw [<- hwz];clear hwz;generalize wz=v0 at*;have hz0:w.heap.size+3<=v0.heap.size:=by have:=HO0.o.lt;omega
 refine (Znt lo _ Ss _ (HL.o.below HB0.o).shs hn.1).mono ?_;rintro e w0 ⟨u0,rfl,hb0,hs0a,hs0b⟩;have hs0:ZmZ v0.heap.size w0.heap.size w0 u0 Ss:=⟨hs0a,hs0b⟩;obtain⟨b0,m0,rfl⟩:=hs0.form;have GX:=Zab (HX0.o.on hb0);have GR:=Zab (HR0.o.on hb0);have GO:=Zab (HO0.o.on hb0);have GB:=Zab (HB0.o.trans (hb0.mono HB0.o.size));have GN:=Zab hs0;have hsz0:=hb0.size;clear hb0 hs0 HX0 HR0 HO0 HB0 hs0a hs0b;have o0:=GO.o.cell 0;have f0:=GO.o.free 0;have x1:=GX.o.cell 1;simp at o0 f0 x1;go_wp2_with fail;clear o0 f0 x1
 obtain⟨v1,hwq,HX1,HR1,HO1,HB1,hq1,HS0⟩:∃ wq,wq=w0.setCell ⟨w.heap.size+1+1,0,none⟩ (.slice b0 Ss.length m0)/\
  Hd (Box wq w.heap.size #[.slice a0 Ss.length k0,.slice a1 Ms.length k1,.slice a2 Ts.length k2])/\Hd (Box wq (w.heap.size+1) #[.slice none 0 0,.slice none 0 0,.slice none 0 0])/\Hd (Box wq (w.heap.size+1+1) #[.slice b0 Ss.length m0,.slice none 0 0,.slice none 0 0])/\Hd (Zw_ w wq)/\wq.heap.size=w0.heap.size/\Hd (ZmZ v0.heap.size w0.heap.size wq (.slice b0 Ss.length m0) Ss):=
  ⟨_,rfl,GX.o.setFar (by dsimp;omega) _,GR.o.setFar (by dsimp;omega) _,GO.o.set (k:=0) (.slice b0 Ss.length m0) (by simp),GB.o.setCell (by dsimp;omega) _,by simp [World.setCell],GN.o.setLow (by dsimp;omega) _⟩
 rw [<- hwq];clear hwq GX GR GO GB GN;have hz1:w.heap.size+3<=v1.heap.size:=by omega
 refine (ZhT lo _ Ms _ (HL.o.below HB1.o).mds hn.2.1).mono ?_;rintro e w1 ⟨u1,rfl,hb1,hs1a,hs1b⟩;have hs1:ZnP v1.heap.size w1.heap.size w1 u1 Ms:=⟨hs1a,hs1b⟩;obtain⟨b1,m1,rfl⟩:=hs1.form;have GX:=Zab (HX1.o.on hb1);have GR:=Zab (HR1.o.on hb1);have GO:=Zab (HO1.o.on hb1);have GB:=Zab (HB1.o.trans (hb1.mono HB1.o.size));have GN:=Zab hs1;have hsz1:=hb1.size;have G0:=Zab (HS0.o.below hb1);clear hb1 hs1 HX1 HR1 HO1 HB1 HS0 hs1a hs1b;have o0:=GO.o.cell 1;have f0:=GO.o.free 1;have x1:=GX.o.cell 2;simp at o0 f0 x1;go_wp2_with fail;clear o0 f0 x1
 obtain⟨v2,hwq,HX2,HR2,HO2,HB2,hq2,HS1,HS0⟩:∃ wq,wq=w1.setCell ⟨w.heap.size+1+1,1,none⟩ (.slice b1 Ms.length m1)/\
  Hd (Box wq w.heap.size #[.slice a0 Ss.length k0,.slice a1 Ms.length k1,.slice a2 Ts.length k2])/\Hd (Box wq (w.heap.size+1) #[.slice none 0 0,.slice none 0 0,.slice none 0 0])/\Hd (Box wq (w.heap.size+1+1) #[.slice b0 Ss.length m0,.slice b1 Ms.length m1,.slice none 0 0])/\Hd (Zw_ w wq)/\wq.heap.size=w1.heap.size/\Hd (ZnP v1.heap.size w1.heap.size wq (.slice b1 Ms.length m1) Ms)/\Hd (ZmZ v0.heap.size w0.heap.size wq (.slice b0 Ss.length m0) Ss):=
  ⟨_,rfl,GX.o.setFar (by dsimp;omega) _,GR.o.setFar (by dsimp;omega) _,GO.o.set (k:=1) (.slice b1 Ms.length m1) (by simp),GB.o.setCell (by dsimp;omega) _,by simp [World.setCell],GN.o.setLow (by dsimp;omega) _,G0.o.setLow (by dsimp;omega) _⟩
 rw [<- hwq];clear hwq GX GR GO GB GN G0;have hz2:w.heap.size+3<=v2.heap.size:=by omega
 refine (Znk lo _ Ts _ (HL.o.below HB2.o).tms (Zdr.of hn.2.2)).mono ?_;rintro e w2 ⟨u2,rfl,hb2,hs2⟩;have hs2:Zcq v2.heap.size w2.heap.size w2 u2 Ts:=hs2;obtain⟨b2,m2,rfl⟩:=hs2.form;have GX:=Zab (HX2.o.on hb2);have GR:=Zab (HR2.o.on hb2);have GO:=Zab (HO2.o.on hb2);have GB:=Zab (HB2.o.trans (hb2.mono HB2.o.size));have GN:=Zab hs2;have hsz2:=hb2.size;have G0:=Zab (HS0.o.below hb2);have G1:=Zab (HS1.o.below hb2);clear hb2 hs2 HX2 HR2 HO2 HB2 HS0 HS1;have o0:=GO.o.cell 0;have o1:=GO.o.cell 1;have o2:=GO.o.cell 2;have f2:=GO.o.free 2;have r0:=GR.o.cell 0;have g0:=GR.o.free 0;have r1:=GR.o.cell 1;have g1:=GR.o.free 1;have r2:=GR.o.cell 2;have g2:=GR.o.free 2;simp at o0 o1 o2 r0 r1 r2;go_wp2
 refine bodyPost_ret (v:=.agg #[.slice b0 Ss.length m0,.slice b1 Ms.length m1,.slice b2 Ts.length m2]) (by simp [results,results10,go_sem,r0,r1,r2]) rfl ⟨_,_,_,_,_,_,rfl,?_,v0.heap.size,w0.heap.size,v1.heap.size,w1.heap.size,v2.heap.size,w2.heap.size,?_,?_,?_,by omega,by omega,?_,?_,?_⟩
 . repeat (refine Below.setCell ?_ (by dsimp;omega) _)
   exact GB.o
 . simp [World.setCell];omega
 . simp [World.setCell];omega
 . simp [World.setCell];omega
 . repeat (refine ZmZ.setLow ?_ (by dsimp;omega) _)
   exact G0.o
 . repeat (refine ZnP.setLow ?_ (by dsimp;omega) _)
   exact G1.o
 . repeat (refine Zcq.setLow ?_ (by dsimp;omega) _)
   exact GN.o
theorem Zlc (h:Zg8 lo hi w sv mv tv Ss Ms Ts) (hn:Zfi Ss Ms Ts) (hhi:hi<=w.heap.size) :
 Calls prog 15 #[.agg #[sv,mv,tv],.int .i64 1] w fun e w'=>∃ r:Int,e=.returned (.int .i64 r)/\1<=r/\r<=1700000000000000000/\Zad lo hi w w':=by
 obtain⟨s0,s1,m0,m1,t0,t1,⟨y1,y2⟩,⟨y3,y4⟩,⟨y5,y6⟩,y7,y8,h1,h2,h3⟩:=h;have hn1:=hn.1.1;have hn2:=hn.2.1;have hn3:=hn.2.2;have HT3:Hd (Zdr Ts):=Zdr.of hn3;have zt:=ZlS HT3.o (i:=Ts.length) Zl_;have H1:=Zab h1.2;have H2:=Zab h2.2;have H3:=Zab h3;obtain⟨a0,k0,rfl⟩:=h1.form;obtain⟨a1,k1,rfl⟩:=h2.form;obtain⟨a2,k2,rfl⟩:=h3.form;clear h1 h2 h3 hn;go_enter func15,ntmps15;go_wp2_with fail;generalize hWa:w.alloc _=Wa;have hb:Zw_ w Wa:=by rw [<- hWa];exact Zac w _
 have HX0:Hd (Box Wa w.heap.size #[.slice a0 Ss.length k0,.slice a1 Ms.length k1,.slice a2 Ts.length k2]):=by rw [<- hWa];exact Box.new _ _ _ _ rfl
 have HT0:Hd (Zad lo hi w Wa):=Zad.below hb;replace H1:=Zab (H1.o.below hb);replace H2:=Zab (H2.o.below hb);replace H3:=Zab (H3.o.below hb);clear hWa hb;refine (Zk3 s0 s1 _ Ss.length _ _ H1.o (by omega) hn1 (by omega)).mono ?_;rintro e w1 ⟨r1,rfl,p1,p2,ht1⟩;have HX1:=Zab (HX0.o.touch ht1.touch (by omega));have HT1:Hd (Zad lo hi w w1):=HT0.o.trans (ht1.touch.wide (by omega) (by omega));replace H2:=Zab (H2.o.kept ht1);replace H3:=Zab (H3.o.touch ht1.touch (by omega));clear ht1 HX0 HT0 H1;have c1:=HX1.o.cell 1;simp at c1;go_wp2_with fail;clear c1;refine (Zk0 m0 m1 _ Ms.length _ _ H2.o (by omega) hn2 (by omega)).mono ?_;rintro e w2 ⟨r2,rfl,p3,p4,ht2⟩;have HX2:=Zab (HX1.o.touch ht2.touch (by omega));have HT2:Hd (Zad lo hi w w2):=HT1.o.trans (ht2.touch.wide (by omega) (by omega));replace H3:=Zab (H3.o.touch ht2.touch (by omega))
 clear ht2 HX1 HT1 H2;have c2:=HX2.o.cell 2;simp at c2;go_wp2_with fail;clear c2;refine (Zlu t0 t1 _ Ts _ _ H3.o HT3.o (by omega) (by omega)).mono ?_;rintro e w3 ⟨rfl,ht3,-⟩;have HT4:Hd (Zad lo hi w w3):=HT2.o.trans (ht3.wide (by omega) (by omega));clear ht3 HX2 HT2 H3;go_wp2;go_ret;exact⟨_,rfl,by omega,by omega,HT4.o⟩
end
theorem Zbj (h:W.ownsRow base e sz v n cs) {g:Nat} (hg:v.ownBlock=some g):g < W.heap.size/\base<=g/\∀ i,W.frozen? ⟨g,i,none⟩=false:=by
 rcases h.2 with ⟨hv,_⟩ | ⟨g',cap,cur,hv,h1,h2,_⟩
 . rw [hv] at hg;cases hg
 . rw [hv] at hg
   have e:g'=g:=by simpa [Value.ownBlock] using hg
   subst e;refine⟨?_,h1,fun i=>by simp [World.frozen?,h2]⟩
   rcases Nat.lt_or_ge g' W.heap.size with h | h
   . exact h
   . rw [Array.getElem?_eq_none h] at h2;cases h2
theorem Zb0 (W:World) (g:Nat) (e:TypeId) (sz:Nat) (hg:W.heap.size=g) (hb:base<=g):(W.alloc (.cells #[] e)).ownsRow base e sz (.slice (some ⟨g,0,none⟩) 0 0) 0 []:=by
 subst hg;exact World.ownsRow_made (base:=base) (e:=e) (size:=sz) W #[] 0 hb Zz_ (by simp)
theorem ZaZ (h:W.ownsRow base e sz v n cs) (hg:W.grownBy w' v.ownBlock) (hb:base<=W.heap.size):Below base W w':=by
 have hlt:=fun g hg=>Zbj h (g:=g) hg
 exact⟨hg.os,hg.tape,hg.output,hg.size,fun k hk=>hg.block k (by omega) fun e=>by have:=(hlt k e.symm).2.1;omega⟩
def ivO (L:List Int):List Value:=L.map (Value.int .i64)
theorem Zhx (L:List Int):∀ u ∈ ivO L,u.oneCell'=true:=fun u hu=>by
 obtain⟨x,_,rfl⟩:=List.mem_map.1 hu
 rfl
theorem Zau.newsO {lo:Nat}{w:World} (h:Zau lo w (.slice (some ad) L.length cap) L) (hb:Zw_ w W):∀ j u,(ivO L)[j]?=some u->W.cell? (ad.add j)=some u:=by
 intro j u hj
 have hl:j < L.length:=by
  rcases Nat.lt_or_ge j L.length with h | h
  . exact h
  . rw [List.getElem?_eq_none (by unfold ivO;rw [List.length_map];exact h)] at hj;cases hj
 obtain⟨b,off,e,hlt,hc⟩:=h.full' (by omega);injection e with e
 subst e;rw [Go.WideShapes.add_plain,hb.cell (p:=⟨b,off+j,none⟩) hlt,hc j hl,<- hj];unfold ivO;rw [List.getElem?_map,List.getElem?_eq_getElem hl]
 rfl
theorem Zh3 (h:W.ownsRow base 3 1 v L.length (ivO L)):Zat base W.heap.size W v L:=by
 by_cases hL:L=[]
 . subst hL
   rcases h.2 with ⟨hv,_⟩ | ⟨g,cap,cur,hv,_⟩
   . exact Or.inl ⟨_,_,hv,rfl⟩
   . exact Or.inl ⟨_,_,hv,rfl⟩
 . rcases h.2 with ⟨_,hn⟩ | ⟨g,cap,cur,hv,h1,h2,h3,h4,_⟩
   . exact absurd (List.length_eq_zero_iff.1 hn) hL
   . have hl:=Zbj h (g:=g) (by rw [hv];rfl)
     have ho:=h;subst hv;refine Or.inr ⟨g,0,cap,rfl,hL,Nat.le_trans h3 h4,hl.1,fun i hi=>?_,hl.2.1,hl.1,fun i=>hl.2.2 _⟩;rw [Nat.zero_add,ho.cellAt i (by omega)];unfold ivO;rw [List.getElem?_map,List.getElem?_eq_getElem hi]
     rfl
theorem ZiT (lo:Nat) (v:Value) (L:List Int) (w:World) (hv:Zau lo w v L) (hn:L.length<=1048576) :
 Calls prog 210 #[v] w fun e w'=>∃ v',e=.returned v'/\Zw_ w w'/\Zat w.heap.size w'.heap.size w' v' L:=by
 have hnil:=fun W a n c=>Lib.run_eql_slice_nil (P:=prog) W 60 3 a n c 0 0 underlying60
 obtain⟨i0,hi,hz0,hz1,hz2⟩:=info_parts Tryz.info3;have HI:=Zab (And.intro hi (And.intro hz0 (And.intro hz1 hz2)));clear hi hz0 hz1 hz2;have HV:=Zab hv;obtain⟨a,cap,rfl⟩:=hv.form;clear hv
 cases a with
 | none=>
  have hL:L=[]:=by
   rcases HV.o with ⟨_,_,_,h⟩ | ⟨_,_,_,h,_⟩
   . exact h
   . injection h with h;cases h
  subst hL;go_enter func210,ntmps210;go_wp2;go_ret;exact⟨_,rfl,Below.refl _ _,Or.inl ⟨_,_,rfl,rfl⟩⟩
 | some ad=>
  go_enter func210,ntmps210;go_wp2_with (at_builtin;refine wpList_append_own_at _ rfl (.tmp 5) (.tmp 6) 60 rfl w.heap.size 3 i0 (.int .i64 0) 1 8 underlying60 HI.o.1 HI.o.2.1 HI.o.2.2.1 HI.o.2.2.2 rfl (by decide) _ 0 [] rfl (Zb0 _ _ 3 1 rfl Zl_) ad L.length cap (ivO L) rfl (by unfold ivO;rw [List.length_map,Nat.mul_one]) (HV.o.newsO (Zac _ _)) (Zhx _) (by unfold maxLen;omega) (by omega) (by simp) ?_;intro v' w4 hown4 hgrow4 hnil4 hat4);rw [Nat.zero_add,List.nil_append] at hown4;have HO:Hd (Zat w.heap.size w4.heap.size w4 v' L):=Zh3 hown4;have HB:Hd (Zw_ w w4):=(Zac _ _).trans (ZaZ (Zb0 w w.heap.size 3 1 rfl Zl_) hgrow4 (by simp));clear hown4 hgrow4 hnil4 hat4;go_wp2;go_ret;exact⟨_,rfl,HB.o,HO.o⟩
def Zbv:List Le->List Value
 | []=>[]
 | x :: L=>.string x.tm :: .string x.re :: .int .i64 x.mo :: .int .i64 x.fr :: Zbv L
theorem ZdZ:∀ L:List Le,(Zbv L).length=L.length*4
 | []=>rfl
 | x :: L=>by simp only [Zbv,List.length_cons,ZdZ L];omega
theorem Zi9:∀ (L:List Le) (i:Nat) (h:i < L.length),(Zbv L)[i*4]?=some (.string L[i].tm)/\(Zbv L)[i*4+1]?=some (.string L[i].re)/\(Zbv L)[i*4+2]?=some (.int .i64 L[i].mo)/\(Zbv L)[i*4+3]?=some (.int .i64 L[i].fr)
 | [],i,h=>by simp at h
 | x :: L,0,_=>⟨rfl,rfl,rfl,rfl⟩
 | x :: L,i+1,h=>by
  have:=Zi9 L i (by simpa using h);rw [show (i+1)*4=i*4+1+1+1+1 by omega];exact this
theorem Zfw:∀ (L:List Le),∀ u ∈ Zbv L,u.oneCell'=true
 | [],u,hu=>by simp [Zbv] at hu
 | x :: L,u,hu=>by
  simp only [Zbv,List.mem_cons] at hu
  rcases hu with rfl | rfl | rfl | rfl | hu
  . rfl
  . rfl
  . rfl
  . rfl
  . exact Zfw L u hu
theorem ZjA {lo:Nat}{w:World}{L:List Le} (h:ZbG lo w (.slice (some ad) L.length cap) L) (hb:Zw_ w W):∀ j u,(Zbv L)[j]?=some u->W.cell? (ad.add j)=some u:=by
 intro j u hj
 have hl:j < L.length*4:=by
  rcases Nat.lt_or_ge j (L.length*4) with h | h
  . exact h
  . rw [List.getElem?_eq_none (by rw [ZdZ];exact h)] at hj;cases hj
 obtain⟨b,off,e,hlt,-,hc⟩:=h.full' (by omega);injection e with e
 subst e;have hi:j / 4 < L.length:=by omega
 obtain⟨_,hcc⟩:=hc (j / 4) hi;obtain⟨h0,h1,h2,h3⟩:=hcc;obtain⟨v0,v1,v2,v3⟩:=Zi9 L (j / 4) hi;rw [Go.WideShapes.add_plain,hb.cell (p:=⟨b,off+j,none⟩) hlt];have hm:j=j / 4*4\/j=j / 4*4+1\/j=j / 4*4+2\/j=j / 4*4+3:=by omega
 rcases hm with hm | hm | hm | hm
 . have e1:(Zbv L)[j]?=(Zbv L)[j / 4*4]?:=congrArg (fun q=>(Zbv L)[q]?) hm
   have e2:w.cell? ⟨b,off+j,none⟩=w.cell? ⟨b,off+j / 4*4,none⟩:=congrArg (fun q=>w.cell? ⟨b,q,none⟩) (by omega);exact e2.trans (h0.trans (v0.symm.trans (e1.symm.trans hj)))
 . have e1:(Zbv L)[j]?=(Zbv L)[j / 4*4+1]?:=congrArg (fun q=>(Zbv L)[q]?) hm
   have e2:w.cell? ⟨b,off+j,none⟩=w.cell? ⟨b,off+j / 4*4+1,none⟩:=congrArg (fun q=>w.cell? ⟨b,q,none⟩) (by omega);exact e2.trans (h1.trans (v1.symm.trans (e1.symm.trans hj)))
 . have e1:(Zbv L)[j]?=(Zbv L)[j / 4*4+2]?:=congrArg (fun q=>(Zbv L)[q]?) hm
   have e2:w.cell? ⟨b,off+j,none⟩=w.cell? ⟨b,off+j / 4*4+2,none⟩:=congrArg (fun q=>w.cell? ⟨b,q,none⟩) (by omega);exact e2.trans (h2.trans (v2.symm.trans (e1.symm.trans hj)))
 . have e1:(Zbv L)[j]?=(Zbv L)[j / 4*4+3]?:=congrArg (fun q=>(Zbv L)[q]?) hm
   have e2:w.cell? ⟨b,off+j,none⟩=w.cell? ⟨b,off+j / 4*4+3,none⟩:=congrArg (fun q=>w.cell? ⟨b,q,none⟩) (by omega);exact e2.trans (h3.trans (v3.symm.trans (e1.symm.trans hj)))
theorem ZgC {L:List Le} (h:W.ownsRow base 92 4 v L.length (Zbv L)) (hz:∀ i (hi:i < L.length),Zco L[i]):ZaJ base W.heap.size W v L:=by
 by_cases hL:L=[]
 . subst hL
   rcases h.2 with ⟨hv,_⟩ | ⟨g,cap,cur,hv,_⟩
   . exact Or.inl ⟨_,_,hv,rfl⟩
   . exact Or.inl ⟨_,_,hv,rfl⟩
 . rcases h.2 with ⟨_,hn⟩ | ⟨g,cap,cur,hv,h1,h2,h3,h4,_⟩
   . exact absurd (List.length_eq_zero_iff.1 hn) hL
   . have hl:=Zbj h (g:=g) (by rw [hv];rfl)
     have ho:=h;have h0:0 < L.length:=List.length_pos_iff.2 hL
     subst hv;refine Or.inr ⟨g,0,cap,fun _=>g+1,fun i=>if h:i < L.length then L[i] else L[0],rfl,hL,Nat.le_trans h3 h4,h3,fun i hi=>by simp [hi],hl.1,hl.2.1,Nat.lt_succ_self _,hl.1,fun _ _=>Nat.le_refl _,hl.1,hl.2.2,fun i hi=>?_⟩;obtain⟨v0,v1,v2,v3⟩:=Zi9 L i hi;simp only [hi,dif_pos];have ce:∀ j,j < 4->W.cell? ⟨g,0+i*4+j,none⟩=(Zbv L)[i*4+j]?:=fun j hj=>by rw [Nat.zero_add];exact ho.cellAt _ (by omega)
     exact⟨hz i hi,⟨(ce 0 (by omega)).trans v0,(ce 1 (by omega)).trans v1,(ce 2 (by omega)).trans v2,(ce 3 (by omega)).trans v3⟩⟩
def ZeV:List Pu->List Value
 | []=>[]
 | x :: L=>.string x.dr :: .string x.tm :: .string x.re :: .int .i64 x.am :: .int .i64 x.un :: ZeV L
theorem ZgB:∀ L:List Pu,(ZeV L).length=L.length*5
 | []=>rfl
 | x :: L=>by simp only [ZeV,List.length_cons,ZgB L];omega
theorem ZlD:∀ (L:List Pu) (i:Nat) (h:i < L.length),(ZeV L)[i*5]?=some (.string L[i].dr)/\(ZeV L)[i*5+1]?=some (.string L[i].tm)/\(ZeV L)[i*5+2]?=some (.string L[i].re)/\(ZeV L)[i*5+3]?=some (.int .i64 L[i].am)/\(ZeV L)[i*5+4]?=some (.int .i64 L[i].un)
 | [],i,h=>by simp at h
 | x :: L,0,_=>⟨rfl,rfl,rfl,rfl,rfl⟩
 | x :: L,i+1,h=>by
  have:=ZlD L i (by simpa using h);rw [show (i+1)*5=i*5+1+1+1+1+1 by omega];exact this
theorem ZiC:∀ (L:List Pu),∀ u ∈ ZeV L,u.oneCell'=true
 | [],u,hu=>by simp [ZeV] at hu
 | x :: L,u,hu=>by
  simp only [ZeV,List.mem_cons] at hu
  rcases hu with rfl | rfl | rfl | rfl | rfl | hu
  . rfl
  . rfl
  . rfl
  . rfl
  . rfl
  . exact ZiC L u hu
theorem Zj1 {lo:Nat}{w:World}{L:List Pu} (h:ZbW lo w (.slice (some ad) L.length cap) L) (hb:Zw_ w W):∀ j u,(ZeV L)[j]?=some u->W.cell? (ad.add j)=some u:=by
 intro j u hj
 have hl:j < L.length*5:=by
  rcases Nat.lt_or_ge j (L.length*5) with h | h
  . exact h
  . rw [List.getElem?_eq_none (by rw [ZgB];exact h)] at hj;cases hj
 obtain⟨b,off,e,hlt,-,hc⟩:=h.full' (by omega);injection e with e
 subst e;have hi:j / 5 < L.length:=by omega
 obtain⟨_,hcc⟩:=hc (j / 5) hi;obtain⟨h0,h1,h2,h3,h4⟩:=hcc;obtain⟨v0,v1,v2,v3,v4⟩:=ZlD L (j / 5) hi;rw [Go.WideShapes.add_plain,hb.cell (p:=⟨b,off+j,none⟩) hlt];have hm:j=j / 5*5\/j=j / 5*5+1\/j=j / 5*5+2\/j=j / 5*5+3\/j=j / 5*5+4:=by omega
 rcases hm with hm | hm | hm | hm | hm
 . have e1:(ZeV L)[j]?=(ZeV L)[j / 5*5]?:=congrArg (fun q=>(ZeV L)[q]?) hm
   have e2:w.cell? ⟨b,off+j,none⟩=w.cell? ⟨b,off+j / 5*5,none⟩:=congrArg (fun q=>w.cell? ⟨b,q,none⟩) (by omega);exact e2.trans (h0.trans (v0.symm.trans (e1.symm.trans hj)))
 . have e1:(ZeV L)[j]?=(ZeV L)[j / 5*5+1]?:=congrArg (fun q=>(ZeV L)[q]?) hm
   have e2:w.cell? ⟨b,off+j,none⟩=w.cell? ⟨b,off+j / 5*5+1,none⟩:=congrArg (fun q=>w.cell? ⟨b,q,none⟩) (by omega);exact e2.trans (h1.trans (v1.symm.trans (e1.symm.trans hj)))
 . have e1:(ZeV L)[j]?=(ZeV L)[j / 5*5+2]?:=congrArg (fun q=>(ZeV L)[q]?) hm
   have e2:w.cell? ⟨b,off+j,none⟩=w.cell? ⟨b,off+j / 5*5+2,none⟩:=congrArg (fun q=>w.cell? ⟨b,q,none⟩) (by omega);exact e2.trans (h2.trans (v2.symm.trans (e1.symm.trans hj)))
 . have e1:(ZeV L)[j]?=(ZeV L)[j / 5*5+3]?:=congrArg (fun q=>(ZeV L)[q]?) hm
   have e2:w.cell? ⟨b,off+j,none⟩=w.cell? ⟨b,off+j / 5*5+3,none⟩:=congrArg (fun q=>w.cell? ⟨b,q,none⟩) (by omega);exact e2.trans (h3.trans (v3.symm.trans (e1.symm.trans hj)))
 . have e1:(ZeV L)[j]?=(ZeV L)[j / 5*5+4]?:=congrArg (fun q=>(ZeV L)[q]?) hm
   have e2:w.cell? ⟨b,off+j,none⟩=w.cell? ⟨b,off+j / 5*5+4,none⟩:=congrArg (fun q=>w.cell? ⟨b,q,none⟩) (by omega);exact e2.trans (h4.trans (v4.symm.trans (e1.symm.trans hj)))
theorem Zl0 {L:List Pu} (h:W.ownsRow base 94 5 v L.length (ZeV L)) (hz:∀ i (hi:i < L.length),Zds L[i]):Zbx base W.heap.size W v L:=by
 by_cases hL:L=[]
 . subst hL
   rcases h.2 with ⟨hv,_⟩ | ⟨g,cap,cur,hv,_⟩
   . exact Or.inl ⟨_,_,hv,rfl⟩
   . exact Or.inl ⟨_,_,hv,rfl⟩
 . rcases h.2 with ⟨_,hn⟩ | ⟨g,cap,cur,hv,h1,h2,h3,h4,_⟩
   . exact absurd (List.length_eq_zero_iff.1 hn) hL
   . have hl:=Zbj h (g:=g) (by rw [hv];rfl)
     have ho:=h;have h0:0 < L.length:=List.length_pos_iff.2 hL
     subst hv;refine Or.inr ⟨g,0,cap,fun _=>g+1,fun i=>if h:i < L.length then L[i] else L[0],rfl,hL,Nat.le_trans h3 h4,h3,fun i hi=>by simp [hi],hl.1,hl.2.1,Nat.lt_succ_self _,hl.1,fun _ _=>Nat.le_refl _,hl.1,hl.2.2,fun i hi=>?_⟩;obtain⟨v0,v1,v2,v3,v4⟩:=ZlD L i hi;simp only [hi,dif_pos];have ce:∀ j,j < 5->W.cell? ⟨g,0+i*5+j,none⟩=(ZeV L)[i*5+j]?:=fun j hj=>by rw [Nat.zero_add];exact ho.cellAt _ (by omega)
     exact⟨hz i hi,⟨(ce 0 (by omega)).trans v0,(ce 1 (by omega)).trans v1,(ce 2 (by omega)).trans v2,(ce 3 (by omega)).trans v3,(ce 4 (by omega)).trans v4⟩⟩
theorem ZjF (lo:Nat) (v:Value) (L:List Pu) (w:World) (hv:ZbW lo w v L) (hn:L.length<=1048576) :
 Calls prog 167 #[v] w fun e w'=>∃ v',e=.returned v'/\Zw_ w w'/\Zbx w.heap.size w'.heap.size w' v' L:=by
 have hnil:=fun W a n c=>Lib.run_eql_slice_nil (P:=prog) W 38 94 a n c 0 0 underlying38
 obtain⟨i0,hi,hz0,hz1,hz2⟩:=info_parts Tryz.info94;have HI:=Zab (And.intro hi (And.intro hz0 (And.intro hz1 hz2)));clear hi hz0 hz1 hz2;have HV:=Zab hv
 have HZ:Hd (∀ i (hi:i < L.length),Zds L[i]):=fun i hi=>by
  obtain⟨_,_,_,_,_,_,_,hc⟩:=hv.full (fun e=>by rw [e] at hi;simp at hi);exact (hc i hi).1
 obtain⟨a,cap,rfl⟩:=hv.form;clear hv
 cases a with
 | none=>
  have hL:L=[]:=by
   rcases HV.o with ⟨_,_,_,h⟩ | ⟨_,_,_,h,_⟩
   . exact h
   . injection h with h;cases h
  subst hL;go_enter func167,ntmps167;go_wp2;go_ret;exact⟨_,rfl,Below.refl _ _,Or.inl ⟨_,_,rfl,rfl⟩⟩
 | some ad=>
  go_enter func167,ntmps167;go_wp2_with (at_builtin;refine wpList_append_own_at _ rfl (.tmp 5) (.tmp 6) 38 rfl w.heap.size 94 i0 (.agg #[.string ⟨#[]⟩,.string ⟨#[]⟩,.string ⟨#[]⟩,.int .i64 0,.int .i64 0]) 5 64 underlying38 HI.o.1 HI.o.2.1 HI.o.2.2.1 HI.o.2.2.2 rfl (by decide) _ 0 [] rfl (Zb0 _ _ 94 5 rfl Zl_) ad L.length cap (ZeV L) rfl (ZgB _) (Zj1 HV.o (Zac _ _)) (ZiC _) (by unfold maxLen;omega) (by omega) (by simp) ?_;intro v' w4 hown4 hgrow4 hnil4 hat4);rw [Nat.zero_add,List.nil_append] at hown4;have HO:Hd (Zbx w.heap.size w4.heap.size w4 v' L):=Zl0 hown4 HZ.o;have HB:Hd (Zw_ w w4):=(Zac _ _).trans (ZaZ (Zb0 w w.heap.size 94 5 rfl Zl_) hgrow4 (by simp));clear hown4 hgrow4 hnil4 hat4;go_wp2;go_ret;exact⟨_,rfl,HB.o,HO.o⟩
theorem Zmt (lo:Nat) (x:Gr) (vv0:Value) (w:World) (hv0:Zau lo w vv0 x.vb) (hn:Zdy x) :
 Calls prog 165 #[.agg #[.int .i64 x.nu,.string x.tw,.string x.gb,vv0,.string x.kd,.string x.tm,.string x.pf]] w
  fun e w'=>∃ z0,e=.returned (.agg #[.int .i64 x.nu,.string x.tw,.string x.gb,z0,.string x.kd,.string x.tm,.string x.pf])/\Zw_ w w'/\Zat w.heap.size w'.heap.size w' z0 x.vb:=by
 have HV:=Zab hv0;obtain⟨a,cap,rfl⟩:=hv0.form;clear hv0;go_enter func165,ntmps165;go_wp2_with fail;refine (ZiT lo _ x.vb _ (HV.o.below ?_) hn).mono ?_
 . exact (Zb_.alloc Zl_ _).alloc (by simp) _
 rintro e w1 ⟨v',rfl,hb,hs⟩;obtain⟨a',cap',rfl⟩:=hs.form;have HS:Hd (Zat (w.heap.size+2) w1.heap.size w1 (.slice a' x.vb.length cap') x.vb):=hs.wide (by simp) Zl_;clear hs;have hz:w.heap.size+1 < w1.heap.size:=by have:=hb.size;simp at this;omega
 have hc:∀ b o,b < w.heap.size+2->w1.cell? ⟨b,o,none⟩=_:=fun b o h=>hb.cell (p:=⟨b,o,none⟩) (by simpa using h)
 have hf:∀ b o,b < w.heap.size+2->w1.frozen? ⟨b,o,none⟩=_:=fun b o h=>hb.frozen (p:=⟨b,o,none⟩) (by simpa using h)
 have HB:Hd (Zw_ w w1):=((Zb_.alloc Zl_ _).alloc (by simp) _).trans (hb.mono (by simp;omega));clear hb;go_wp2;refine bodyPost_ret (v:=.agg #[.int .i64 x.nu,.string x.tw,.string x.gb,(.slice a' x.vb.length cap'),.string x.kd,.string x.tm,.string x.pf]) (by simp [results,results165,go_sem,hc]) rfl ⟨_,rfl,?_,?_⟩
 . repeat (refine Below.setCell ?_ (by dsimp;omega) _)
   exact HB.o
 . refine Zat.wide (lo:=w.heap.size+2) (hi:=w1.heap.size) ?_ (by omega) (by simp [World.setCell])
   repeat (refine Zat.setLow ?_ (by dsimp;omega) _)
   exact HS.o
theorem ZlC (lo:Nat) (v:Value) (Xl:List Ob) (w:World) (hv:Zbu lo w v Xl) (hn:Zbp Xl) :
 Calls prog 162 #[v,.func (.func 163) #[] #[]] w fun e w'=>∃ v',e=.returned v'/\Zw_ w w'/\Za6 w.heap.size w'.heap.size w' v' Xl:=by
 have hnil:=fun W a n c=>Lib.run_eql_slice_nil (P:=prog) W 35 155 a n c 0 0 underlying35
 obtain⟨i0,hi,hz0,hz1,hz2⟩:=info_parts Tryz.info155;have HSM:=Zab hn.2;have hn1:=hn.1;clear hn
 by_cases hL:Xl=[]
 . subst hL
   obtain⟨a,cap,rfl⟩:=hv.form;clear hv
   have hmk:∀ u:World,(Instr.makeSlice 35 (.int .i64 0) (.int .i64 0)).run prog u=.ok (.slice (some ⟨u.heap.size,0,none⟩) 0 0) (u.alloc (.cells (madeCells (Value.cells (.agg #[.string ⟨#[]⟩,.string ⟨#[]⟩,.string ⟨#[]⟩,.slice none 0 0,.bool false,.slice none 0 0,.int .i64 0])) 0) 155)):=fun u=>by
    have h:=run_make (P:=prog) u 35 155 i0 _ underlying35 hi hz0 .i64 .i64 0 0 (by omega) (by omega) (by omega) (by omega)
    simpa [hz1] using h
   cases a with
   | none=>
    go_enter func162,ntmps162;go_wp2;go_ret;exact⟨_,rfl,Below.refl _ _,Or.inl ⟨_,_,rfl,rfl⟩⟩
   | some ad=>
    go_enter func162,ntmps162;go_wp2
    go_loop [15] (fun i=>i=.int .i64 0) (fun _=>0)
    case atStart=>rfl
    case round=>
     subst hrel;go_wp2;go_ret;exact⟨_,rfl,Zb_.alloc Zl_ _,Or.inl ⟨_,_,rfl,rfl⟩⟩
 . obtain⟨b,off,cap,rfl,hm,hbw,_,hc⟩:=hv.full hL
   clear hv;have HM:Hd (Xl.length<=maxLen):=hm;unfold maxLen at hm
   have hmk:∀ u:World,(Instr.makeSlice 35 (.int .i64 (Xl.length:Int)) (.int .i64 (Xl.length:Int))).run prog u=.ok (.slice (some ⟨u.heap.size,0,none⟩) Xl.length Xl.length) (u.alloc (.cells (madeCells (Value.cells (.agg #[.string ⟨#[]⟩,.string ⟨#[]⟩,.string ⟨#[]⟩,.slice none 0 0,.bool false,.slice none 0 0,.int .i64 0])) (Xl.length*7)) 155)):=fun u=>by
    have h:=run_make (P:=prog) u 35 155 i0 _ underlying35 hi hz0 .i64 .i64 Xl.length Xl.length (by omega) (by omega) (by rw [hz2];omega) (by omega);rw [hz1] at h
    simpa using h
   clear hi hz0 hz1 hz2;go_enter func162,ntmps162;go_wp2;clear hmk hnil
   go_loopw [15] (fun i wr=>∃ (k:Nat) (c:Nat->Nat),i=.int .i64 k/\k<=Xl.length/\Zw_ w wr/\Za5 wr w.heap.size Xl k c) (fun i _=>Xl.length - (intOf i).toNat)
   case atStart=>exact⟨0,_,rfl,by omega,Zb_.alloc Zl_ _,Za5.new w Xl _⟩
   case round=>
    obtain⟨k,c,rfl,hk,hb,hf⟩:=hrel
    by_cases hlt:k < Xl.length
    . obtain⟨hs,vv0,vv1,hc,hv0,hv1⟩:=hc k hlt
      have HB:=Zab hb;have HF:=Zab hf;have HSZ:=Zab hs;obtain⟨x0,y0,rfl⟩:=hv0.at.form';obtain⟨x1,y1,rfl⟩:=hv1.at.form';obtain⟨c0,c1,c2,c3,c4,c5,c6⟩:=hc.below hb hbw;have HV0:=Zab (hv0.below hb);clear hv0;have HV1:=Zab (hv1.below hb);clear hv1;clear hc hb hf hs;go_wp2_with fail;generalize hWx:wr.alloc _=Wx;have hx:Below wr.heap.size wr Wx:=by rw [<- hWx];exact Zac _ _
      clear hWx;refine (Zfa _ _ _ _ _ _ _ Xl[k].vs Xl[k].hs _ (HV0.o.below hx).at (HV1.o.below hx).at (HSM.o k hlt).1 (HSM.o k hlt).2).mono ?_;rintro e w1 ⟨z0,z1,rfl,hb1,mid,hmid,hmw,hO0,hO1⟩;obtain⟨s0,t0,rfl⟩:=hO0.at.form';obtain⟨s1,t1,rfl⟩:=hO1.at.form';have hck:c k<=Wx.heap.size:=Nat.le_trans HF.o.2.2.1 hx.size;have hf1:=(HF.o.below hx).below hb1;have hB:Hd (Zw_ w w1):=HB.o.trans ((hx.trans (hb1.mono hx.size)).mono HB.o.size);have HST:=Zab (hf1.step hlt HSZ.o w1.heap.size (Nat.le_trans hck hb1.size) Zl_ (Nat.le_trans hck hmid) hmw (hO0.wide hck Zl_) hO1);have hfr:=hf1.free;obtain⟨o0,ho0⟩:=hf1.there (k*7) (by omega);obtain⟨o1,ho1⟩:=hf1.there (k*7+1) (by omega);obtain⟨o2,ho2⟩:=hf1.there (k*7+2) (by omega);obtain⟨o3,ho3⟩:=hf1.there (k*7+3) (by omega);obtain⟨o4,ho4⟩:=hf1.there (k*7+4) (by omega)
      obtain⟨o5,ho5⟩:=hf1.there (k*7+5) (by omega);obtain⟨o6,ho6⟩:=hf1.there (k*7+6) (by omega);clear hf1 hb1 hx HF HB c0 c1 c2 c3 c4 c5 c6;go_wp2;go_roundw
      . 
       exact⟨k+1,_,by go_num,by omega,(((((((hB.o.setCell Zl_ _).setCell Zl_ _).setCell Zl_ _).setCell Zl_ _).setCell Zl_ _).setCell Zl_ _).setCell Zl_ _),HST.o⟩
      . simp [intOf];omega
    . have e:k=Xl.length:=by omega
      go_wp2;go_ret;exact⟨_,rfl,hb,hf.own e hL HM.o⟩
theorem ZkG (lo:Nat) (v:Value) (Xl:List Gr) (w:World) (hv:Zb4 lo w v Xl) (hn:Zdu Xl) :
 Calls prog 164 #[v,.func (.func 165) #[] #[]] w fun e w'=>∃ v',e=.returned v'/\Zw_ w w'/\Zbe w.heap.size w'.heap.size w' v' Xl:=by
 have hnil:=fun W a n c=>Lib.run_eql_slice_nil (P:=prog) W 36 158 a n c 0 0 underlying36
 obtain⟨i0,hi,hz0,hz1,hz2⟩:=info_parts Tryz.info158;have HSM:=Zab hn.2;have hn1:=hn.1;clear hn
 by_cases hL:Xl=[]
 . subst hL
   obtain⟨a,cap,rfl⟩:=hv.form;clear hv
   have hmk:∀ u:World,(Instr.makeSlice 36 (.int .i64 0) (.int .i64 0)).run prog u=.ok (.slice (some ⟨u.heap.size,0,none⟩) 0 0) (u.alloc (.cells (madeCells (Value.cells (.agg #[.int .i64 0,.string ⟨#[]⟩,.string ⟨#[]⟩,.slice none 0 0,.string ⟨#[]⟩,.string ⟨#[]⟩,.string ⟨#[]⟩])) 0) 158)):=fun u=>by
    have h:=run_make (P:=prog) u 36 158 i0 _ underlying36 hi hz0 .i64 .i64 0 0 (by omega) (by omega) (by omega) (by omega)
    simpa [hz1] using h
   cases a with
   | none=>
    go_enter func164,ntmps164;go_wp2;go_ret;exact⟨_,rfl,Below.refl _ _,Or.inl ⟨_,_,rfl,rfl⟩⟩
   | some ad=>
    go_enter func164,ntmps164;go_wp2
    go_loop [15] (fun i=>i=.int .i64 0) (fun _=>0)
    case atStart=>rfl
    case round=>
     subst hrel;go_wp2;go_ret;exact⟨_,rfl,Zb_.alloc Zl_ _,Or.inl ⟨_,_,rfl,rfl⟩⟩
 . obtain⟨b,off,cap,rfl,hm,hbw,_,hc⟩:=hv.full hL
   clear hv;have HM:Hd (Xl.length<=maxLen):=hm;unfold maxLen at hm
   have hmk:∀ u:World,(Instr.makeSlice 36 (.int .i64 (Xl.length:Int)) (.int .i64 (Xl.length:Int))).run prog u=.ok (.slice (some ⟨u.heap.size,0,none⟩) Xl.length Xl.length) (u.alloc (.cells (madeCells (Value.cells (.agg #[.int .i64 0,.string ⟨#[]⟩,.string ⟨#[]⟩,.slice none 0 0,.string ⟨#[]⟩,.string ⟨#[]⟩,.string ⟨#[]⟩])) (Xl.length*7)) 158)):=fun u=>by
    have h:=run_make (P:=prog) u 36 158 i0 _ underlying36 hi hz0 .i64 .i64 Xl.length Xl.length (by omega) (by omega) (by rw [hz2];omega) (by omega);rw [hz1] at h
    simpa using h
   clear hi hz0 hz1 hz2;go_enter func164,ntmps164;go_wp2;clear hmk hnil
   go_loopw [15] (fun i wr=>∃ (k:Nat) (c:Nat->Nat),i=.int .i64 k/\k<=Xl.length/\Zw_ w wr/\Za4 wr w.heap.size Xl k c) (fun i _=>Xl.length - (intOf i).toNat)
   case atStart=>exact⟨0,_,rfl,by omega,Zb_.alloc Zl_ _,Za4.new w Xl _⟩
   case round=>
    obtain⟨k,c,rfl,hk,hb,hf⟩:=hrel
    by_cases hlt:k < Xl.length
    . obtain⟨hs,vv0,hc,hv0⟩:=hc k hlt
      have HB:=Zab hb;have HF:=Zab hf;have HSZ:=Zab hs;obtain⟨x0,y0,rfl⟩:=hv0.form;obtain⟨c0,c1,c2,c3,c4,c5,c6⟩:=hc.below hb hbw;have HV0:=Zab (hv0.below hb);clear hv0;clear hc hb hf hs;go_wp2_with fail;generalize hWx:wr.alloc _=Wx;have hx:Below wr.heap.size wr Wx:=by rw [<- hWx];exact Zac _ _
      clear hWx;refine (Zmt 0 Xl[k] _ _ ((HV0.o.below hx).mono Zz_) (HSM.o k hlt)).mono ?_;rintro e w1 ⟨z0,rfl,hb1,hO0⟩;obtain⟨s0,t0,rfl⟩:=hO0.form;have hck:c k<=Wx.heap.size:=Nat.le_trans HF.o.2.2.1 hx.size;have hf1:=(HF.o.below hx).below hb1;have hB:Hd (Zw_ w w1):=HB.o.trans ((hx.trans (hb1.mono hx.size)).mono HB.o.size);have HST:=Zab (hf1.step hlt HSZ.o w1.heap.size (Nat.le_trans hck hb1.size) Zl_ (Nat.le_trans hck hb1.size) (hO0.wide hck Zl_));have hfr:=hf1.free;obtain⟨o0,ho0⟩:=hf1.there (k*7) (by omega);obtain⟨o1,ho1⟩:=hf1.there (k*7+1) (by omega);obtain⟨o2,ho2⟩:=hf1.there (k*7+2) (by omega);obtain⟨o3,ho3⟩:=hf1.there (k*7+3) (by omega);obtain⟨o4,ho4⟩:=hf1.there (k*7+4) (by omega);obtain⟨o5,ho5⟩:=hf1.there (k*7+5) (by omega);obtain⟨o6,ho6⟩:=hf1.there (k*7+6) (by omega)
      clear hf1 hb1 hx HF HB c0 c1 c2 c3 c4 c5 c6;go_wp2;go_roundw
      . 
       exact⟨k+1,_,by go_num,by omega,(((((((hB.o.setCell Zl_ _).setCell Zl_ _).setCell Zl_ _).setCell Zl_ _).setCell Zl_ _).setCell Zl_ _).setCell Zl_ _),HST.o⟩
      . simp [intOf];omega
    . have e:k=Xl.length:=by omega
      go_wp2;go_ret;exact⟨_,rfl,hb,hf.own e hL HM.o⟩
theorem Zoc {P:Prop} (h:Hd P):P:=h.o
theorem ZgK (X:World) (a b c:Obj):Below X.heap.size X (((X.alloc a).alloc b).alloc c):=((Zb_.alloc Zl_ _).alloc (by simp) _).alloc (by simp;omega) _
theorem ZkZ (lo:Nat) (r:Ru) (vv:Value) (w:World) (hv:Zau lo w vv r.vb) (hn:r.vb.length<=1048576) :
 Calls prog 97 #[.agg #[vv,.string r.kd,.string r.tm,.string r.pf]] w fun e w'=>∃ v',e=.returned (.agg #[v',.string r.kd,.string r.tm,.string r.pf])/\Zw_ w w'/\Zat w.heap.size w'.heap.size w' v' r.vb:=by
 obtain⟨i0,hi,hz0,hz1,hz2⟩:=info_parts Tryz.info3;have HI:=Zab (And.intro hi (And.intro hz0 (And.intro hz1 hz2)));clear hi hz0 hz1 hz2;have HV:=Zab hv;obtain⟨a,cap,rfl⟩:=hv.form;clear hv
 cases a with
 | none=>
  have hL:r.vb=[]:=by
   rcases HV.o with ⟨_,_,_,h⟩ | ⟨_,_,_,h,_⟩
   . exact h
   . injection h with h;cases h
  obtain⟨vb,kd,tm,pf⟩:=r;simp only [] at hL;subst hL;go_enter func97,ntmps97;go_wp2;refine bodyPost_ret (v:=.agg #[.slice (some ⟨w.heap.size+1+1,0,none⟩) 0 0,.string kd,.string tm,.string pf]) (by simp [results,results97,go_sem]) rfl ⟨_,rfl,ZgK _ _ _ _,Or.inl ⟨_,_,rfl,rfl⟩⟩
 | some ad=>
  go_enter func97,ntmps97;go_wp2_with (at_builtin;apply Zoc);unfold Hd
  (refine wpList_append_own_at _ rfl (.tmp 3) (.tmp 5) 60 rfl (w.heap.size+2) 3 i0 (.int .i64 0) 1 8 underlying60 HI.o.1 HI.o.2.1 HI.o.2.2.1 HI.o.2.2.2 rfl (by decide) _ 0 [] rfl (Zb0 _ _ 3 1 (by simp) (by omega)) ad r.vb.length cap (ivO r.vb) rfl (by unfold ivO;rw [List.length_map,Nat.mul_one]) (HV.o.newsO (ZgK _ _ _ _)) (Zhx _) (by unfold maxLen;omega) (by omega) (by simp) ?_;intro v' w4 hown4 hgrow4 hnil4 hat4)
  rw [Nat.zero_add,List.nil_append] at hown4;have hB:Below (w.heap.size+2) _ w4:=ZaZ (Zb0 _ (w.heap.size+1+1) 3 1 (by simp) (by omega)) hgrow4 (by simp);have HO:Hd (Zat (w.heap.size+2) w4.heap.size w4 v' r.vb):=Zh3 hown4;have HB:Hd (Zw_ w w4):=(ZgK _ _ _ _).trans (hB.mono (by omega));have hz:w.heap.size+1 < w4.heap.size:=by have:=hB.size;simp at this;omega
  have b1:Box w4 w.heap.size #[.slice (some ad) r.vb.length cap,.string r.kd,.string r.tm,.string r.pf]:=(((Box.new w _ 70 w.heap.size rfl).on (Zac _ _)).on (Zac _ _)).below hB (by omega);have b2:Box w4 (w.heap.size+1) #[.slice none 0 0,.string ⟨#[]⟩,.string ⟨#[]⟩,.string ⟨#[]⟩]:=((Box.new _ _ 70 (w.heap.size+1) (by simp)).on (Zac _ _)).below hB (by omega);obtain⟨a',cap',rfl⟩:=HO.o.form;simp only [];have c0:=b1.cell 0;have c1:=b1.cell 1;have c2:=b1.cell 2;have c3:=b1.cell 3;have d0:=b2.cell 0;have d1:=b2.cell 1;have d2:=b2.cell 2;have d3:=b2.cell 3;have f0:=b1.free;have f1:=b2.free;clear b1 b2 hown4 hB hgrow4 hnil4 hat4;go_wp2;refine bodyPost_ret (v:=.agg #[.slice a' r.vb.length cap',.string r.kd,.string r.tm,.string r.pf]) (by simp [results,results97,go_sem,d0,d1,d2,d3]) rfl ⟨_,rfl,?_,?_⟩
  . repeat (refine Below.setCell ?_ (by dsimp;omega) _)
    exact HB.o
  . refine Zat.wide (lo:=w.heap.size+2) (hi:=w4.heap.size) ?_ (by omega) (by simp [World.setCell])
    repeat (refine Zat.setLow ?_ (by dsimp;omega) _)
    exact HO.o
def Zs8 (Ls:List Le) (p:Nat) (am:Int):List Le:=match Ls[p]? with
 | some x=>Ls.set p { x with fr:=x.fr+am }
 | none=>Ls
theorem Zqd {t r:Zy_}{p:Nat} (hr:Zdn Zce Ls=true) (hs:Zq1 Zce Ls ⟨t,r,0,0⟩ p) (ha:Ls.any (ZbV t r)=true):∃ h:p < Ls.length,Ls[p].tm=t/\Ls[p].re=r:=by
 have h1:=Zme ZdJ (fun x y h1 h2=>by
  obtain⟨e1,e2⟩:=Zdf.1 h2;unfold Zce at h1 |-;simp only [] at e1 e2 |-;rw [<- e1,<- e2];exact h1) hr hs
 rw [Zoh,ha] at h1;unfold ZqW at h1
 by_cases hp:p < Ls.length
 . refine⟨hp,?_⟩
   rw [List.getElem?_eq_getElem hp] at h1;simp only [] at h1
   have h2:Zce Ls[p] ⟨t,r,0,0⟩=0:=by
    first
    | exact of_decide_eq_true h1
    | exact of_decide_eq_true h1.symm
   exact Zdf.1 h2
 . rw [List.getElem?_eq_none (by omega)] at h1
   simp at h1
theorem ZaJ.frz {b off:Nat} (h:ZaJ l0 l1 W (.slice (some ⟨b,off,none⟩) Ls.length cap) Ls) (hp:0 < Ls.length):∀ i,W.frozen? ⟨b,i,none⟩=false:=by
 rcases h with ⟨_,_,_,h⟩ | ⟨b',off',cap',c,X,h1,h2,h3,h4,h5,h6⟩
 . rw [h] at hp;simp at hp
 . injection h1 with e1 _ e3
   injection e1 with e1
   injection e1 with e1 e2
   subst e1 e2 e3;exact h6.frz
open Go.RowKit Go.Deep Go.Lib
theorem ZaJ.some {a:Option Addr} (h:ZaJ l0 l1 W (.slice a n cap) Ls) (hp:0 < Ls.length):∃ b off,a=some ⟨b,off,none⟩:=by
 rcases h with ⟨_,_,_,h⟩ | ⟨b',off',cap',c,X,h1,_⟩
 . rw [h] at hp;simp at hp
 . injection h1 with e1
   exact⟨b',off',e1⟩
structure Zq3 (Ls:List Le) (Ps:List Pu):Prop where
 nl:Ls.length<=1048576
 np:Ps.length<=1048576
 rl:Zdn Zce Ls=true
 rp:Zdn Zgx Ps=true
 led:∀ i (h:i < Ps.length),Ls.any (ZbV Ps[i].tm Ps[i].re)=true
 fr:∀ i (h:i < Ls.length),0<=Ls[i].fr/\Ls[i].fr<=10000000000000 - 1000000*(Ps.length:Int)
 am:∀ i (h:i < Ps.length),0<=Ps[i].am/\Ps[i].am<=1000000
theorem Zax.setLow {lo hi:Nat}{w:World}{ov gv lv pv:Value}{B:Bk} (h:Zax lo hi w ov gv lv pv B) {p:Addr} (hp:p.block < lo) (u:Value):Zax lo hi (w.setCell p u) ov gv lv pv B:=h.touch (Zad.setCell p.block (p.block+1) w p u ⟨Nat.le_refl _,Nat.lt_succ_self _⟩) (Or.inr hp)
theorem ZqM {t r:Zy_} (hr:Zdn Zce Ls=true) {k:Nat} (hk:k < Ls.length) (h1:Ls[k].tm=t) (h2:Ls[k].re=r):Zks Ls t r=k:=by
 have hz:∀ i (h:i < Ls.length),ZbV t r Ls[i]=decide (Zce Ls[i] Ls[k]=0):=fun i hi=>by
  have e:Zce Ls[i] Ls[k]=0↔Ls[i].tm=t/\Ls[i].re=r:=by unfold Zce;rw [Zdf,h1,h2]
  cases hd:ZbV t r Ls[i] with
  | true=>
   unfold ZbV at hd;simp only [Bool.and_eq_true,beq_iff_eq] at hd;exact (decide_eq_true (e.2 ⟨toList_inj hd.1,toList_inj hd.2⟩)).symm
  | false=>
   refine (decide_eq_false fun hc=>?_).symm;have:=e.1 hc;unfold ZbV at hd;rw [this.1,this.2] at hd;simp at hd
 refine ZlY hk (by rw [hz k hk];exact decide_eq_true (by unfold Zce;rw [Zdf];exact⟨rfl,rfl⟩)) fun i hi hik=>?_
 rw [hz i hi];exact decide_eq_false (by have:=Zi0 ZdJ hr hi hk hik;omega)
theorem Zpa {t r:Zy_} (h:Ls.any (ZbV t r)=true):∃ k:Nat,k < Ls.length/\Zks Ls t r=k:=by
 have hn:=ZiU Ls t r;rw [h] at hn;simp at hn;unfold Zks at hn |-
 by_cases hk:Zj6 Ls t r < Ls.length
 . exact⟨_,hk,if_pos hk⟩
 . rw [if_neg hk] at hn;omega
theorem Zad.ofBelow {m:Nat}{w:World} (h:Below m w w'):Zad m w.heap.size w w':=⟨h.os,h.tape,h.output,h.size,fun k hk ho=>h.block k (by omega)⟩
theorem Zg9 {Ss:List Sh}{Ms:List Md}{Ts:List Tm}{B:Bk}{FF:Nat->List Zy_} (h:ZcW Ss Ms Ts B FF=true):Zq3 B.ls B.ps:=by
 unfold ZcW ZdE Zgk at h;simp only [Bool.and_eq_true] at h;obtain⟨-,-,-,-,hl,hp,-⟩:=h;unfold ZaI at hl;unfold Za8 at hp;simp only [Bool.and_eq_true,decide_eq_true_eq,List.all_eq_true] at hl hp;obtain⟨⟨l1,l2⟩,l3⟩:=hl;obtain⟨⟨p1,p2⟩,p3⟩:=hp;refine⟨by omega,by omega,l2,p2,fun i hi=>?_,fun i hi=>?_,fun i hi=>?_⟩
 . have:=p3 _ (List.getElem_mem hi)
   unfold puB at this;simp only [Bool.and_eq_true] at this;exact this.1.1.1
 . have:=l3 _ (List.getElem_mem hi)
   unfold leB at this;simp only [Bool.and_eq_true,ZdF,decide_eq_true_eq] at this;obtain⟨⟨-,h2⟩,h3⟩:=this
   omega
 . have:=p3 _ (List.getElem_mem hi)
   unfold puB at this;simp only [Bool.and_eq_true,ZdF,decide_eq_true_eq] at this;obtain⟨⟨-,h2⟩,-⟩:=this
   omega
section
variable (δ:Nat) (sv mv tv ov gv lv pv:Value) (Ss:List Sh) (Ms:List Md) (Ts:List Tm) (B:Bk) (FF:Nat->List Zy_) (d t r:Zy_) (w:World)
theorem Zkm (hl:ZbC 0 w sv mv tv Ss Ms Ts) (h:ZaY 0 w ov gv lv pv B) (hn:ZaE B) (hsh:Zb1 Ss Ms B.os FF) (hbk:ZcW Ss Ms Ts B FF=false) (fv:Value) :
 Calls prog 48 #[.agg #[sv,mv,tv],.agg #[.int .i64 B.now,.int .i64 B.tick,.int .i64 B.given,ov,gv,lv,pv],fv] w fun e w'=>e=.returned (.tuple #[.agg #[.int .i64 0,.int .i64 0,.int .i64 0,.slice none 0 0,.slice none 0 0,.slice none 0 0,.slice none 0 0],.int .i64 1])/\Zw_ w w':=by
 have HL:=Zab hl;have HK:=Zab h;have HN:=Zab hn;have HSH:=Zab hsh;have HQ:=Zab hbk;obtain⟨sa,sc,rfl⟩:=hl.shs.form;obtain⟨ma,mc,rfl⟩:=hl.mds.form;obtain⟨ta,tc,rfl⟩:=hl.tms.form;obtain⟨a0,k0,rfl⟩:=h.obs.form;obtain⟨a1,k1,rfl⟩:=h.grs.form;obtain⟨a2,k2,rfl⟩:=h.les.form;obtain⟨a3,k3,rfl⟩:=h.pus.form;clear hl h hn hsh hbk;go_enter func48,ntmps48;go_wp2_with fail;generalize hWa:World.alloc (World.alloc (w.alloc _) _) _=Wa;have HBa:Hd (Zw_ w Wa):=by rw [<- hWa];exact ((Zac w _).alloc (by simp) _).alloc (by simp;omega) _
 have FB:Hd (Box Wa (w.heap.size+1) #[.int .i64 B.now,.int .i64 B.tick,.int .i64 B.given,.slice a0 B.os.length k0,.slice a1 B.gs.length k1,.slice a2 B.ls.length k2,.slice a3 B.ps.length k3]):=by rw [<- hWa];exact (Box.new _ _ _ _ (by simp)).on (Zac _ _)
 have FC:Hd (Box Wa (w.heap.size+2) #[.int .i64 0,.int .i64 0,.int .i64 0,.slice none 0 0,.slice none 0 0,.slice none 0 0,.slice none 0 0]):=by rw [<- hWa];exact Box.new _ _ _ _ (by simp)
 clear hWa;refine (Zgg 0 _ _ _ _ _ _ _ Ss Ms Ts B FF _ (HL.o.below HBa.o) (HK.o.below HBa.o) HN.o HSH.o).mono ?_;rintro e w1 ⟨rfl,hb1⟩;rw [HQ.o];have HB1:Hd (Zw_ w w1):=bt HBa.o hb1;replace FB:=Zab (FB.o.on hb1);replace FC:=Zab (FC.o.on hb1);clear hb1 HBa;have r0:=FC.o.cell;have g0:=FC.o.free;have hlt:=FC.o.lt;go_wp2;refine bodyPost_ret (v:=.tuple #[.agg #[.int .i64 0,.int .i64 0,.int .i64 0,.slice none 0 0,.slice none 0 0,.slice none 0 0,.slice none 0 0],.int .i64 1]) (by simp [results,results48,go_sem,r0]) rfl ⟨rfl,?_⟩
 repeat (refine Below.setCell ?_ (by dsimp;omega) _)
 exact HB1.o
end
end Go.Proofs.YtfohnageehneoaaGreat
