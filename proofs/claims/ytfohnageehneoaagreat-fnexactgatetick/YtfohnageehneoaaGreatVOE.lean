import Derived.Test.YtfohnageehneoaaGreatVOC
import Derived.Test.YtfohnageehneoaaGreatVOD
set_option maxHeartbeats 16000000
set_option maxRecDepth 100000
open Go.Proofs.Tryz
namespace Go.Proofs.YtfohnageehneoaaGreat
open Go.RowKit Go.Deep
theorem Za2.setLow {lo hi:Nat} {w:World} {v:Value} {Xl:List Ob} (h:Za2 lo hi w v Xl) {p:Addr} (hp:p.block < lo) (u:Value):Za2 lo hi (w.setCell p u) v Xl:=h.touch (Zad.setCell p.block (p.block+1) w p u ⟨Nat.le_refl _,Nat.lt_succ_self _⟩) (Or.inr hp)
theorem Za8.setLow {lo hi:Nat} {w:World} {v:Value} {Xl:List Gr} (h:Za8 lo hi w v Xl) {p:Addr} (hp:p.block < lo) (u:Value):Za8 lo hi (w.setCell p u) v Xl:=h.touch (Zad.setCell p.block (p.block+1) w p u ⟨Nat.le_refl _,Nat.lt_succ_self _⟩) (Or.inr hp)
theorem ZaO.setLow {lo hi:Nat} {w:World} {v:Value} {Xl:List Le} (h:ZaO lo hi w v Xl) {p:Addr} (hp:p.block < lo) (u:Value):ZaO lo hi (w.setCell p u) v Xl:=h.touch (Zad.setCell p.block (p.block+1) w p u ⟨Nat.le_refl _,Nat.lt_succ_self _⟩) (Or.inr hp)
theorem Za5.setLow {lo hi:Nat} {w:World} {v:Value} {Xl:List Pu} (h:Za5 lo hi w v Xl) {p:Addr} (hp:p.block < lo) (u:Value):Za5 lo hi (w.setCell p u) v Xl:=h.touch (Zad.setCell p.block (p.block+1) w p u ⟨Nat.le_refl _,Nat.lt_succ_self _⟩) (Or.inr hp)
section
variable (lo:Nat) (ov gv lv pv:Value) (B:Bk) (w:World)
theorem Zlf (h:ZaW lo w ov gv lv pv B) (hn:ZaA B) :
 Calls prog 11 #[.agg #[.int .i64 B.now,.int .i64 B.tick,.int .i64 B.given,ov,gv,lv,pv]] w
  fun e w'=>∃ b0 m0 b1 m1 b2 m2 b3 m3,e=.returned (.agg #[.int .i64 B.now,.int .i64 B.tick,.int .i64 B.given,.slice b0 B.os.length m0,.slice b1 B.gs.length m1,.slice b2 B.ls.length m2,.slice b3 B.ps.length m3])∧Zw_ w w'∧
   Zax w.heap.size w'.heap.size w' (.slice b0 B.os.length m0) (.slice b1 B.gs.length m1) (.slice b2 B.ls.length m2) (.slice b3 B.ps.length m3) B:=by
 have HL:=Zab h;obtain⟨a0,k0,rfl⟩:=h.obs.form;obtain⟨a1,k1,rfl⟩:=h.grs.form;obtain⟨a2,k2,rfl⟩:=h.les.form;obtain⟨a3,k3,rfl⟩:=h.pus.form;obtain⟨hn0,hn1,hn2,hn3⟩:=hn;clear h;go_enter func11,ntmps11;go_wp2_with fail
 obtain⟨wz,hwz,HX0,HR0,HO0,HB0⟩:∃ wz,wz=((w.alloc (.cells #[.int .i64 B.now,.int .i64 B.tick,.int .i64 B.given,.slice a0 B.os.length k0,.slice a1 B.gs.length k1,.slice a2 B.ls.length k2,.slice a3 B.ps.length k3] 32)).alloc (.cells #[.int .i64 0,.int .i64 0,.int .i64 0,.slice none 0 0,.slice none 0 0,.slice none 0 0,.slice none 0 0] 40)).alloc (.cells #[.int .i64 B.now,.int .i64 B.tick,.int .i64 B.given,.slice none 0 0,.slice none 0 0,.slice none 0 0,.slice none 0 0] 40)∧
  Hid (Box wz w.heap.size #[.int .i64 B.now,.int .i64 B.tick,.int .i64 B.given,.slice a0 B.os.length k0,.slice a1 B.gs.length k1,.slice a2 B.ls.length k2,.slice a3 B.ps.length k3])∧Hid (Box wz (w.heap.size+1) #[.int .i64 0,.int .i64 0,.int .i64 0,.slice none 0 0,.slice none 0 0,.slice none 0 0,.slice none 0 0])∧Hid (Box wz (w.heap.size+1+1) #[.int .i64 B.now,.int .i64 B.tick,.int .i64 B.given,.slice none 0 0,.slice none 0 0,.slice none 0 0,.slice none 0 0])∧Hid (Zw_ w wz):=
  ⟨_,rfl,((Box.new w _ _ _ rfl).on (Zac _ _)).on (Zac _ _),(Box.new _ _ _ _ (by simp)).on (Zac _ _),Box.new _ _ _ _ (by simp),((Zac _ _).trans ((Zac _ _).mono (by simp))).trans ((Zac _ _).mono (by simp;omega))⟩
 rw [← hwz];clear hwz;generalize wz=v0 at*;have hz0:w.heap.size+3≤v0.heap.size:=by have:=HO0.out.lt;omega
 refine (ZnH lo _ B.os _ (HL.out.below HB0.out).obs hn0).mono ?_;rintro e w0 ⟨u0,rfl,hb0,hs0⟩;obtain⟨b0,m0,rfl⟩:=hs0.form;have GX:=Zab (HX0.out.on hb0);have GR:=Zab (HR0.out.on hb0);have GO:=Zab (HO0.out.on hb0);have GB:=Zab (HB0.out.trans (hb0.mono HB0.out.size));have GN:=Zab hs0;have hsz0:=hb0.size;clear hb0 hs0 HX0 HR0 HO0 HB0;have o0:=GO.out.cell 3;have f0:=GO.out.free 3;have x1:=GX.out.cell 4;simp at o0 f0 x1;go_wp2_with fail;clear o0 f0 x1
 obtain⟨v1,hwq,HX1,HR1,HO1,HB1,hq1,HS0⟩:∃ wq,wq=w0.setCell ⟨w.heap.size+1+1,3,none⟩ (.slice b0 B.os.length m0)∧
  Hid (Box wq w.heap.size #[.int .i64 B.now,.int .i64 B.tick,.int .i64 B.given,.slice a0 B.os.length k0,.slice a1 B.gs.length k1,.slice a2 B.ls.length k2,.slice a3 B.ps.length k3])∧Hid (Box wq (w.heap.size+1) #[.int .i64 0,.int .i64 0,.int .i64 0,.slice none 0 0,.slice none 0 0,.slice none 0 0,.slice none 0 0])∧Hid (Box wq (w.heap.size+1+1) #[.int .i64 B.now,.int .i64 B.tick,.int .i64 B.given,.slice b0 B.os.length m0,.slice none 0 0,.slice none 0 0,.slice none 0 0])∧Hid (Zw_ w wq)∧wq.heap.size=w0.heap.size∧Hid (Za2 v0.heap.size w0.heap.size wq (.slice b0 B.os.length m0) B.os):=
  ⟨_,rfl,GX.out.setFar (by simp only [];omega) _,GR.out.setFar (by simp only [];omega) _,GO.out.set (k:=3) (.slice b0 B.os.length m0) (by simp),GB.out.setCell (by simp only [];omega) _,by simp [World.setCell],GN.out.setLow (by simp only [];omega) _⟩
 rw [← hwq];clear hwq GX GR GO GB GN;have hz1:w.heap.size+3≤v1.heap.size:=by omega
 refine (Znj lo _ B.gs _ (HL.out.below HB1.out).grs hn1).mono ?_;rintro e w1 ⟨u1,rfl,hb1,hs1⟩;obtain⟨b1,m1,rfl⟩:=hs1.form;have GX:=Zab (HX1.out.on hb1);have GR:=Zab (HR1.out.on hb1);have GO:=Zab (HO1.out.on hb1);have GB:=Zab (HB1.out.trans (hb1.mono HB1.out.size));have GN:=Zab hs1;have hsz1:=hb1.size;have G0:=Zab (HS0.out.below hb1);clear hb1 hs1 HX1 HR1 HO1 HB1 HS0;have o0:=GO.out.cell 4;have f0:=GO.out.free 4;have x1:=GX.out.cell 5;simp at o0 f0 x1;go_wp2_with fail;clear o0 f0 x1
 obtain⟨v2,hwq,HX2,HR2,HO2,HB2,hq2,HS1,HS0⟩:∃ wq,wq=w1.setCell ⟨w.heap.size+1+1,4,none⟩ (.slice b1 B.gs.length m1)∧
  Hid (Box wq w.heap.size #[.int .i64 B.now,.int .i64 B.tick,.int .i64 B.given,.slice a0 B.os.length k0,.slice a1 B.gs.length k1,.slice a2 B.ls.length k2,.slice a3 B.ps.length k3])∧Hid (Box wq (w.heap.size+1) #[.int .i64 0,.int .i64 0,.int .i64 0,.slice none 0 0,.slice none 0 0,.slice none 0 0,.slice none 0 0])∧Hid (Box wq (w.heap.size+1+1) #[.int .i64 B.now,.int .i64 B.tick,.int .i64 B.given,.slice b0 B.os.length m0,.slice b1 B.gs.length m1,.slice none 0 0,.slice none 0 0])∧Hid (Zw_ w wq)∧wq.heap.size=w1.heap.size∧Hid (Za8 v1.heap.size w1.heap.size wq (.slice b1 B.gs.length m1) B.gs)∧Hid (Za2 v0.heap.size w0.heap.size wq (.slice b0 B.os.length m0) B.os):=
  ⟨_,rfl,GX.out.setFar (by simp only [];omega) _,GR.out.setFar (by simp only [];omega) _,GO.out.set (k:=4) (.slice b1 B.gs.length m1) (by simp),GB.out.setCell (by simp only [];omega) _,by simp [World.setCell],GN.out.setLow (by simp only [];omega) _,G0.out.setLow (by simp only [];omega) _⟩
 rw [← hwq];clear hwq GX GR GO GB GN G0;have hz2:w.heap.size+3≤v2.heap.size:=by omega
 refine (Znu lo _ B.ls _ (HL.out.below HB2.out).les hn2).mono ?_;rintro e w2 ⟨u2,rfl,hb2,hs2⟩;obtain⟨b2,m2,rfl⟩:=hs2.form;have GX:=Zab (HX2.out.on hb2);have GR:=Zab (HR2.out.on hb2);have GO:=Zab (HO2.out.on hb2);have GB:=Zab (HB2.out.trans (hb2.mono HB2.out.size));have GN:=Zab hs2;have hsz2:=hb2.size;have G0:=Zab (HS0.out.below hb2);have G1:=Zab (HS1.out.below hb2);clear hb2 hs2 HX2 HR2 HO2 HB2 HS0 HS1;have o0:=GO.out.cell 5;have f0:=GO.out.free 5;have x1:=GX.out.cell 6;simp at o0 f0 x1;go_wp2_with fail;clear o0 f0 x1
 obtain⟨v3,hwq,HX3,HR3,HO3,HB3,hq3,HS2,HS0,HS1⟩:∃ wq,wq=w2.setCell ⟨w.heap.size+1+1,5,none⟩ (.slice b2 B.ls.length m2)∧
  Hid (Box wq w.heap.size #[.int .i64 B.now,.int .i64 B.tick,.int .i64 B.given,.slice a0 B.os.length k0,.slice a1 B.gs.length k1,.slice a2 B.ls.length k2,.slice a3 B.ps.length k3])∧Hid (Box wq (w.heap.size+1) #[.int .i64 0,.int .i64 0,.int .i64 0,.slice none 0 0,.slice none 0 0,.slice none 0 0,.slice none 0 0])∧Hid (Box wq (w.heap.size+1+1) #[.int .i64 B.now,.int .i64 B.tick,.int .i64 B.given,.slice b0 B.os.length m0,.slice b1 B.gs.length m1,.slice b2 B.ls.length m2,.slice none 0 0])∧Hid (Zw_ w wq)∧wq.heap.size=w2.heap.size∧Hid (ZaO v2.heap.size w2.heap.size wq (.slice b2 B.ls.length m2) B.ls)∧Hid (Za2 v0.heap.size w0.heap.size wq (.slice b0 B.os.length m0) B.os)∧Hid (Za8 v1.heap.size w1.heap.size wq (.slice b1 B.gs.length m1) B.gs):=
  ⟨_,rfl,GX.out.setFar (by simp only [];omega) _,GR.out.setFar (by simp only [];omega) _,GO.out.set (k:=5) (.slice b2 B.ls.length m2) (by simp),GB.out.setCell (by simp only [];omega) _,by simp [World.setCell],GN.out.setLow (by simp only [];omega) _,G0.out.setLow (by simp only [];omega) _,G1.out.setLow (by simp only [];omega) _⟩
 rw [← hwq];clear hwq GX GR GO GB GN G0 G1;have hz3:w.heap.size+3≤v3.heap.size:=by omega
 refine (ZnQ lo _ B.ps _ (HL.out.below HB3.out).pus hn3).mono ?_;rintro e w3 ⟨u3,rfl,hb3,hs3⟩;obtain⟨b3,m3,rfl⟩:=hs3.form;have GX:=Zab (HX3.out.on hb3);have GR:=Zab (HR3.out.on hb3);have GO:=Zab (HO3.out.on hb3);have GB:=Zab (HB3.out.trans (hb3.mono HB3.out.size));have GN:=Zab hs3;have hsz3:=hb3.size;have G0:=Zab (HS0.out.below hb3);have G1:=Zab (HS1.out.below hb3);have G2:=Zab (HS2.out.below hb3);clear hb3 hs3 HX3 HR3 HO3 HB3 HS0 HS1 HS2;have o0:=GO.out.cell 0;have o1:=GO.out.cell 1;have o2:=GO.out.cell 2;have o3:=GO.out.cell 3;have o4:=GO.out.cell 4;have o5:=GO.out.cell 5;have o6:=GO.out.cell 6;have f6:=GO.out.free 6;have r0:=GR.out.cell 0;have g0:=GR.out.free 0;have r1:=GR.out.cell 1;have g1:=GR.out.free 1;have r2:=GR.out.cell 2;have g2:=GR.out.free 2;have r3:=GR.out.cell 3;have g3:=GR.out.free 3;have r4:=GR.out.cell 4;have g4:=GR.out.free 4;have r5:=GR.out.cell 5
 have g5:=GR.out.free 5;have r6:=GR.out.cell 6;have g6:=GR.out.free 6;simp at o0 r0 o1 r1 o2 r2 o3 r3 o4 r4 o5 r5 o6 r6;go_wp2;refine bodyPost_ret (v:=.agg #[.int .i64 B.now,.int .i64 B.tick,.int .i64 B.given,.slice b0 B.os.length m0,.slice b1 B.gs.length m1,.slice b2 B.ls.length m2,.slice b3 B.ps.length m3]) (by simp [results,results11,go_sem,r0,r1,r2,r3,r4,r5,r6]) rfl ⟨_,_,_,_,_,_,_,_,rfl,?_,v0.heap.size,w0.heap.size,v1.heap.size,w1.heap.size,v2.heap.size,w2.heap.size,v3.heap.size,w3.heap.size,⟨?_,?_,?_,?_,by omega,by omega,by omega,by omega,by omega,by omega⟩,?_,?_,?_,?_⟩
 · repeat (refine Below.setCell ?_ (by simp only [];omega) _)
   exact GB.out
 · simp [World.setCell];omega
 · simp [World.setCell];omega
 · simp [World.setCell];omega
 · simp [World.setCell];omega
 · repeat (refine Za2.setLow ?_ (by simp only [];omega) _)
   exact G0.out
 · repeat (refine Za8.setLow ?_ (by simp only [];omega) _)
   exact G1.out
 · repeat (refine ZaO.setLow ?_ (by simp only [];omega) _)
   exact G2.out
 · repeat (refine Za5.setLow ?_ (by simp only [];omega) _)
   exact GN.out
end
theorem ZbS.set' (lo hi:Nat) (w:World) (p:Addr) (u:Value) (h:lo≤p.block∧p.block < hi):ZbS lo hi w (w.setCell p u):=by
 by_cases hc:(w.cell? p).isSome=true
 · exact ZbS.setCell lo hi w p u h hc
 · refine⟨Zad.setCell lo hi w p u h,fun q _ hq=>?_,fun q _=>by rw [World.frozen?_setCell]⟩
   have hne:q≠p:=fun e=>hc (e ▸ hq)
   rw [show (w.setCell p u).cell? q=w.cell? q from by apply World.cell?_setCell_other;first | exact hne | exact hne.symm];exact hq
theorem ZpL.far {lo hi lo' hi':Nat} {w w':World} {v:Value} {n:Nat} (h:ZpL lo hi w v n) (k:ZbS lo' hi' w w') (ho:hi'≤lo∨hi≤lo'):ZpL lo hi w' v n:=by
 rcases h with h | ⟨b,off,cap,m,h1,h2,h3,h4,h5,h6,h7,h8,h9⟩
 · exact Or.inl h
 · refine Or.inr ⟨b,off,cap,m,h1,h2,h3,h4,h5,h6,h7,h8,fun i hi hj=>?_⟩
   obtain⟨fv,nf,hs,hf,hn⟩:=h9 i hi hj;have g1:=h7 0 i Zz_;have g2:=h7 (i+1) n (by omega);refine⟨fv,nf,⟨Zk_ hs.lt k.touch.size,k.there _ hs.lt hs.c0,(k.touch.cell (p:=⟨b,off+i*2+1,none⟩) hs.lt (by simp only [];omega)).trans hs.one,fun i=>(k.frz _ hs.lt).trans (hs.fr i)⟩,hf.kept k (by omega),hn⟩
def ZmG (lo hi:Nat) (w:World) (v:Value) (Ss:List Sh):Prop:=ZaP lo w v Ss∧ZpL lo hi w v Ss.length
def ZnS (lo hi:Nat) (w:World) (v:Value) (Ms:List Md):Prop:=Zbf lo w v Ms∧ZpK lo hi w v Ms.length
theorem ZmG.below {lo hi:Nat} {w w':World} {v:Value} {Ss:List Sh} (h:ZmG lo hi w v Ss) (hb:Zw_ w w'):ZmG lo hi w' v Ss:=⟨h.1.below hb,h.2.below hb⟩
theorem ZnS.below {lo hi:Nat} {w w':World} {v:Value} {Ms:List Md} (h:ZnS lo hi w v Ms) (hb:Zw_ w w'):ZnS lo hi w' v Ms:=⟨h.1.below hb,h.2.below hb⟩
theorem ZmG.setLow {lo hi:Nat} {w:World} {v:Value} {Ss:List Sh} (h:ZmG lo hi w v Ss) {p:Addr} (hp:p.block < lo) (u:Value):ZmG lo hi (w.setCell p u) v Ss:=⟨h.1.set' hp u,h.2.far (ZbS.set' p.block (p.block+1) w p u ⟨Nat.le_refl _,Nat.lt_succ_self _⟩) (Or.inl hp)⟩
theorem ZnS.setLow {lo hi:Nat} {w:World} {v:Value} {Ms:List Md} (h:ZnS lo hi w v Ms) {p:Addr} (hp:p.block < lo) (u:Value):ZnS lo hi (w.setCell p u) v Ms:=⟨h.1.setCell hp u,h.2.kept (ZbS.set' p.block (p.block+1) w p u ⟨Nat.le_refl _,Nat.lt_succ_self _⟩)⟩
theorem ZmG.form {lo hi:Nat} {w:World} {v:Value} {Ss:List Sh} (h:ZmG lo hi w v Ss):∃ a cap,v=.slice a Ss.length cap:=h.1.form
theorem ZnS.form {lo hi:Nat} {w:World} {v:Value} {Ms:List Md} (h:ZnS lo hi w v Ms):∃ a cap,v=.slice a Ms.length cap:=h.1.form
theorem Zck.setLow {lo hi:Nat} {w:World} {v:Value} {Xl:List Tm} (h:Zck lo hi w v Xl) {p:Addr} (hp:p.block < lo) (u:Value):Zck lo hi (w.setCell p u) v Xl:=h.touch (Zad.setCell p.block (p.block+1) w p u ⟨Nat.le_refl _,Nat.lt_succ_self _⟩) (Or.inr hp)
def Zhh (lo hi:Nat) (w:World) (sv mv tv:Value) (Ss:List Sh) (Ms:List Md) (Ts:List Tm):Prop:=
 ∃ s0 s1 m0 m1 t0 t1:Nat,(lo≤s0∧s1≤hi)∧(lo≤m0∧m1≤hi)∧(lo≤t0∧t1≤hi)∧s1≤t0∧m1≤t0∧ZmG s0 s1 w sv Ss∧ZnS m0 m1 w mv Ms∧Zck t0 t1 w tv Ts
theorem Zhh.at {lo hi:Nat} {w:World} {sv mv tv:Value} {Ss:List Sh} {Ms:List Md} {Ts:List Tm} (h:Zhh lo hi w sv mv tv Ss Ms Ts):ZbO lo w sv mv tv Ss Ms Ts:=by
 obtain⟨s0,s1,m0,m1,t0,t1,g1,g2,g3,-,-,h1,h2,h3⟩:=h;exact⟨h1.1.mono g1.1,h2.1.mono g2.1,h3.at.mono g3.1⟩
theorem Zhh.below {lo hi:Nat} {w w':World} {sv mv tv:Value} {Ss:List Sh} {Ms:List Md} {Ts:List Tm} (h:Zhh lo hi w sv mv tv Ss Ms Ts) (hb:Zw_ w w'):Zhh lo hi w' sv mv tv Ss Ms Ts:=by
 obtain⟨s0,s1,m0,m1,t0,t1,g1,g2,g3,g4,g5,h1,h2,h3⟩:=h;exact⟨s0,s1,m0,m1,t0,t1,g1,g2,g3,g4,g5,h1.below hb,h2.below hb,h3.below hb⟩
section
variable (lo hi:Nat) (sv mv tv:Value) (Ss:List Sh) (Ms:List Md) (Ts:List Tm) (w:World)
theorem Zml (h:ZbO lo w sv mv tv Ss Ms Ts) (hn:Zft Ss Ms Ts) :
 Calls prog 10 #[.agg #[sv,mv,tv]] w
  fun e w'=>∃ b0 m0 b1 m1 b2 m2,e=.returned (.agg #[.slice b0 Ss.length m0,.slice b1 Ms.length m1,.slice b2 Ts.length m2])∧Zw_ w w'∧
   Zhh w.heap.size w'.heap.size w' (.slice b0 Ss.length m0) (.slice b1 Ms.length m1) (.slice b2 Ts.length m2) Ss Ms Ts:=by
 have HL:=Zab h;obtain⟨a0,k0,rfl⟩:=h.shs.form;obtain⟨a1,k1,rfl⟩:=h.mds.form;obtain⟨a2,k2,rfl⟩:=h.tms.form;clear h;go_enter func10,ntmps10;go_wp2_with fail
 obtain⟨wz,hwz,HX0,HR0,HO0,HB0⟩:∃ wz,wz=((w.alloc (.cells #[.slice a0 Ss.length k0,.slice a1 Ms.length k1,.slice a2 Ts.length k2] 26)).alloc (.cells #[.slice none 0 0,.slice none 0 0,.slice none 0 0] 47)).alloc (.cells #[.slice none 0 0,.slice none 0 0,.slice none 0 0] 47)∧
  Hid (Box wz w.heap.size #[.slice a0 Ss.length k0,.slice a1 Ms.length k1,.slice a2 Ts.length k2])∧Hid (Box wz (w.heap.size+1) #[.slice none 0 0,.slice none 0 0,.slice none 0 0])∧Hid (Box wz (w.heap.size+1+1) #[.slice none 0 0,.slice none 0 0,.slice none 0 0])∧Hid (Zw_ w wz):=
  ⟨_,rfl,((Box.new w _ _ _ rfl).on (Zac _ _)).on (Zac _ _),(Box.new _ _ _ _ (by simp)).on (Zac _ _),Box.new _ _ _ _ (by simp),((Zac _ _).trans ((Zac _ _).mono (by simp))).trans ((Zac _ _).mono (by simp;omega))⟩
 rw [← hwz];clear hwz;generalize wz=v0 at*;have hz0:w.heap.size+3≤v0.heap.size:=by have:=HO0.out.lt;omega
 refine (Zmq lo _ Ss _ (HL.out.below HB0.out).shs hn.1).mono ?_;rintro e w0 ⟨u0,rfl,hb0,hs0a,hs0b⟩;have hs0:ZmG v0.heap.size w0.heap.size w0 u0 Ss:=⟨hs0a,hs0b⟩;obtain⟨b0,m0,rfl⟩:=hs0.form;have GX:=Zab (HX0.out.on hb0);have GR:=Zab (HR0.out.on hb0);have GO:=Zab (HO0.out.on hb0);have GB:=Zab (HB0.out.trans (hb0.mono HB0.out.size));have GN:=Zab hs0;have hsz0:=hb0.size;clear hb0 hs0 HX0 HR0 HO0 HB0 hs0a hs0b;have o0:=GO.out.cell 0;have f0:=GO.out.free 0;have x1:=GX.out.cell 1;simp at o0 f0 x1;go_wp2_with fail;clear o0 f0 x1
 obtain⟨v1,hwq,HX1,HR1,HO1,HB1,hq1,HS0⟩:∃ wq,wq=w0.setCell ⟨w.heap.size+1+1,0,none⟩ (.slice b0 Ss.length m0)∧
  Hid (Box wq w.heap.size #[.slice a0 Ss.length k0,.slice a1 Ms.length k1,.slice a2 Ts.length k2])∧Hid (Box wq (w.heap.size+1) #[.slice none 0 0,.slice none 0 0,.slice none 0 0])∧Hid (Box wq (w.heap.size+1+1) #[.slice b0 Ss.length m0,.slice none 0 0,.slice none 0 0])∧Hid (Zw_ w wq)∧wq.heap.size=w0.heap.size∧Hid (ZmG v0.heap.size w0.heap.size wq (.slice b0 Ss.length m0) Ss):=
  ⟨_,rfl,GX.out.setFar (by simp only [];omega) _,GR.out.setFar (by simp only [];omega) _,GO.out.set (k:=0) (.slice b0 Ss.length m0) (by simp),GB.out.setCell (by simp only [];omega) _,by simp [World.setCell],GN.out.setLow (by simp only [];omega) _⟩
 rw [← hwq];clear hwq GX GR GO GB GN;have hz1:w.heap.size+3≤v1.heap.size:=by omega
 refine (Zh7 lo _ Ms _ (HL.out.below HB1.out).mds hn.2.1).mono ?_;rintro e w1 ⟨u1,rfl,hb1,hs1a,hs1b⟩;have hs1:ZnS v1.heap.size w1.heap.size w1 u1 Ms:=⟨hs1a,hs1b⟩;obtain⟨b1,m1,rfl⟩:=hs1.form;have GX:=Zab (HX1.out.on hb1);have GR:=Zab (HR1.out.on hb1);have GO:=Zab (HO1.out.on hb1);have GB:=Zab (HB1.out.trans (hb1.mono HB1.out.size));have GN:=Zab hs1;have hsz1:=hb1.size;have G0:=Zab (HS0.out.below hb1);clear hb1 hs1 HX1 HR1 HO1 HB1 HS0 hs1a hs1b;have o0:=GO.out.cell 1;have f0:=GO.out.free 1;have x1:=GX.out.cell 2;simp at o0 f0 x1;go_wp2_with fail;clear o0 f0 x1
 obtain⟨v2,hwq,HX2,HR2,HO2,HB2,hq2,HS1,HS0⟩:∃ wq,wq=w1.setCell ⟨w.heap.size+1+1,1,none⟩ (.slice b1 Ms.length m1)∧
  Hid (Box wq w.heap.size #[.slice a0 Ss.length k0,.slice a1 Ms.length k1,.slice a2 Ts.length k2])∧Hid (Box wq (w.heap.size+1) #[.slice none 0 0,.slice none 0 0,.slice none 0 0])∧Hid (Box wq (w.heap.size+1+1) #[.slice b0 Ss.length m0,.slice b1 Ms.length m1,.slice none 0 0])∧Hid (Zw_ w wq)∧wq.heap.size=w1.heap.size∧Hid (ZnS v1.heap.size w1.heap.size wq (.slice b1 Ms.length m1) Ms)∧Hid (ZmG v0.heap.size w0.heap.size wq (.slice b0 Ss.length m0) Ss):=
  ⟨_,rfl,GX.out.setFar (by simp only [];omega) _,GR.out.setFar (by simp only [];omega) _,GO.out.set (k:=1) (.slice b1 Ms.length m1) (by simp),GB.out.setCell (by simp only [];omega) _,by simp [World.setCell],GN.out.setLow (by simp only [];omega) _,G0.out.setLow (by simp only [];omega) _⟩
 rw [← hwq];clear hwq GX GR GO GB GN G0;have hz2:w.heap.size+3≤v2.heap.size:=by omega
 refine (ZmL lo _ Ts _ (HL.out.below HB2.out).tms (Zdo.of hn.2.2)).mono ?_;rintro e w2 ⟨u2,rfl,hb2,hs2⟩;have hs2:Zck v2.heap.size w2.heap.size w2 u2 Ts:=hs2;obtain⟨b2,m2,rfl⟩:=hs2.form;have GX:=Zab (HX2.out.on hb2);have GR:=Zab (HR2.out.on hb2);have GO:=Zab (HO2.out.on hb2);have GB:=Zab (HB2.out.trans (hb2.mono HB2.out.size));have GN:=Zab hs2;have hsz2:=hb2.size;have G0:=Zab (HS0.out.below hb2);have G1:=Zab (HS1.out.below hb2);clear hb2 hs2 HX2 HR2 HO2 HB2 HS0 HS1;have o0:=GO.out.cell 0;have o1:=GO.out.cell 1;have o2:=GO.out.cell 2;have f2:=GO.out.free 2;have r0:=GR.out.cell 0;have g0:=GR.out.free 0;have r1:=GR.out.cell 1;have g1:=GR.out.free 1;have r2:=GR.out.cell 2;have g2:=GR.out.free 2;simp at o0 o1 o2 r0 r1 r2;go_wp2
 refine bodyPost_ret (v:=.agg #[.slice b0 Ss.length m0,.slice b1 Ms.length m1,.slice b2 Ts.length m2]) (by simp [results,results10,go_sem,r0,r1,r2]) rfl ⟨_,_,_,_,_,_,rfl,?_,v0.heap.size,w0.heap.size,v1.heap.size,w1.heap.size,v2.heap.size,w2.heap.size,?_,?_,?_,by omega,by omega,?_,?_,?_⟩
 · repeat (refine Below.setCell ?_ (by simp only [];omega) _)
   exact GB.out
 · simp [World.setCell];omega
 · simp [World.setCell];omega
 · simp [World.setCell];omega
 · repeat (refine ZmG.setLow ?_ (by simp only [];omega) _)
   exact G0.out
 · repeat (refine ZnS.setLow ?_ (by simp only [];omega) _)
   exact G1.out
 · repeat (refine Zck.setLow ?_ (by simp only [];omega) _)
   exact GN.out
theorem Zk2 (h:Zhh lo hi w sv mv tv Ss Ms Ts) (hn:Zft Ss Ms Ts) (hhi:hi≤w.heap.size) :
 Calls prog 15 #[.agg #[sv,mv,tv],.int .i64 1] w fun e w'=>∃ r:Int,e=.returned (.int .i64 r)∧1≤r∧r≤1700000000000000000∧Zad lo hi w w':=by
 obtain⟨s0,s1,m0,m1,t0,t1,⟨y1,y2⟩,⟨y3,y4⟩,⟨y5,y6⟩,y7,y8,h1,h2,h3⟩:=h;have hn1:=hn.1.1;have hn2:=hn.2.1;have hn3:=hn.2.2;have HT3:Hid (Zdo Ts):=Zdo.of hn3;have zt:=Zmj HT3.out (i:=Ts.length) Zl_;have H1:=Zab h1.2;have H2:=Zab h2.2;have H3:=Zab h3;obtain⟨a0,k0,rfl⟩:=h1.form;obtain⟨a1,k1,rfl⟩:=h2.form;obtain⟨a2,k2,rfl⟩:=h3.form;clear h1 h2 h3 hn;go_enter func15,ntmps15;go_wp2_with fail;generalize hWa:w.alloc _=Wa;have hb:Zw_ w Wa:=by rw [← hWa];exact Zac w _
 have HX0:Hid (Box Wa w.heap.size #[.slice a0 Ss.length k0,.slice a1 Ms.length k1,.slice a2 Ts.length k2]):=by rw [← hWa];exact Box.new _ _ _ _ rfl
 have HT0:Hid (Zad lo hi w Wa):=Zad.below hb;replace H1:=Zab (H1.out.below hb);replace H2:=Zab (H2.out.below hb);replace H3:=Zab (H3.out.below hb);clear hWa hb;refine (Zkz s0 s1 _ Ss.length _ _ H1.out (by omega) hn1 (by omega)).mono ?_;rintro e w1 ⟨r1,rfl,p1,p2,ht1⟩;have HX1:=Zab (HX0.out.touch ht1.touch (by omega));have HT1:Hid (Zad lo hi w w1):=HT0.out.trans (ht1.touch.wide (by omega) (by omega));replace H2:=Zab (H2.out.kept ht1);replace H3:=Zab (H3.out.touch ht1.touch (by omega));clear ht1 HX0 HT0 H1;have c1:=HX1.out.cell 1;simp at c1;go_wp2_with fail;clear c1;refine (ZkR m0 m1 _ Ms.length _ _ H2.out (by omega) hn2 (by omega)).mono ?_;rintro e w2 ⟨r2,rfl,p3,p4,ht2⟩;have HX2:=Zab (HX1.out.touch ht2.touch (by omega));have HT2:Hid (Zad lo hi w w2):=HT1.out.trans (ht2.touch.wide (by omega) (by omega));replace H3:=Zab (H3.out.touch ht2.touch (by omega))
 clear ht2 HX1 HT1 H2;have c2:=HX2.out.cell 2;simp at c2;go_wp2_with fail;clear c2;refine (Zlw t0 t1 _ Ts _ _ H3.out HT3.out (by omega) (by omega)).mono ?_;rintro e w3 ⟨rfl,ht3,-⟩;have HT4:Hid (Zad lo hi w w3):=HT2.out.trans (ht3.wide (by omega) (by omega));clear ht3 HX2 HT2 H3;go_wp2;go_ret;exact⟨_,rfl,by omega,by omega,HT4.out⟩
end
theorem ZcF {base:Nat} {e:TypeId} {sz n:Nat} {W:World} {v:Value} {cs:List Value} (h:W.ownsRow base e sz v n cs) {g:Nat} (hg:v.ownBlock=some g):g < W.heap.size∧base≤g∧∀ i,W.frozen? ⟨g,i,none⟩=false:=by
 rcases h.2 with ⟨hv,_⟩ | ⟨g',cap,cur,hv,h1,h2,_⟩
 · rw [hv] at hg;cases hg
 · rw [hv] at hg
   have e:g'=g:=by simpa [Value.ownBlock] using hg
   subst e;refine⟨?_,h1,fun i=>by simp [World.frozen?,h2]⟩
   rcases Nat.lt_or_ge g' W.heap.size with h | h
   · exact h
   · rw [Array.getElem?_eq_none h] at h2;cases h2
theorem Zbg {base:Nat} (W:World) (g:Nat) (e:TypeId) (sz:Nat) (hg:W.heap.size=g) (hb:base≤g):(W.alloc (.cells #[] e)).ownsRow base e sz (.slice (some ⟨g,0,none⟩) 0 0) 0 []:=by
 subst hg;exact World.ownsRow_made (base:=base) (e:=e) (size:=sz) W #[] 0 hb Zz_ (by simp)
theorem Zbw {base:Nat} {e:TypeId} {sz n:Nat} {W w':World} {v:Value} {cs:List Value} (h:W.ownsRow base e sz v n cs) (hg:W.grownBy w' v.ownBlock) (hb:base≤W.heap.size):Below base W w':=by
 have hlt:=fun g hg=>@ZcF base e sz n W v cs h g hg
 exact⟨hg.os,hg.tape,hg.output,hg.size,fun k hk=>hg.block k (by omega) fun e=>by have:=(hlt k e.symm).2.1;omega⟩
def ivO (L:List Int):List Value:=L.map (Value.int .i64)
theorem Zg5 (L:List Int):∀ u ∈ ivO L,u.oneCell'=true:=fun u hu=>by
 obtain⟨x,_,rfl⟩:=List.mem_map.1 hu
 rfl
theorem Zau.newsO {lo:Nat} {w W:World} {ad:Addr} {cap:Nat} {L:List Int} (h:Zau lo w (.slice (some ad) L.length cap) L) (hb:Zw_ w W):∀ j u,(ivO L)[j]?=some u→W.cell? (ad.add j)=some u:=by
 intro j u hj
 have hl:j < L.length:=by
  rcases Nat.lt_or_ge j L.length with h | h
  · exact h
  · rw [List.getElem?_eq_none (by unfold ivO;rw [List.length_map];exact h)] at hj;cases hj
 obtain⟨b,off,e,hlt,hc⟩:=h.full' (by omega);injection e with e
 subst e;rw [Go.WideShapes.add_plain,hb.cell (p:=⟨b,off+j,none⟩) hlt,hc j hl,← hj];unfold ivO;rw [List.getElem?_map,List.getElem?_eq_getElem hl]
 rfl
theorem ZhW {base:Nat} {W:World} {v:Value} {L:List Int} (h:W.ownsRow base 3 1 v L.length (ivO L)):Zat base W.heap.size W v L:=by
 by_cases hL:L=[]
 · subst hL
   rcases h.2 with ⟨hv,_⟩ | ⟨g,cap,cur,hv,_⟩
   · exact Or.inl ⟨_,_,hv,rfl⟩
   · exact Or.inl ⟨_,_,hv,rfl⟩
 · rcases h.2 with ⟨_,hn⟩ | ⟨g,cap,cur,hv,h1,h2,h3,h4,_⟩
   · exact absurd (List.length_eq_zero_iff.1 hn) hL
   · have hl:=ZcF h (g:=g) (by rw [hv];rfl)
     have ho:=h;subst hv;refine Or.inr ⟨g,0,cap,rfl,hL,Nat.le_trans h3 h4,hl.1,fun i hi=>?_,hl.2.1,hl.1,fun i=>hl.2.2 _⟩;rw [Nat.zero_add,ho.cellAt i (by omega)];unfold ivO;rw [List.getElem?_map,List.getElem?_eq_getElem hi]
     rfl
theorem ZiD (lo:Nat) (v:Value) (L:List Int) (w:World) (hv:Zau lo w v L) (hn:L.length≤1048576) :
 Calls prog 210 #[v] w fun e w'=>∃ v',e=.returned v'∧Zw_ w w'∧Zat w.heap.size w'.heap.size w' v' L:=by
 have hnil:=fun W a n c=>Lib.run_eql_slice_nil (P:=prog) W 60 3 a n c 0 0 underlying60
 obtain⟨i0,hi,hz0,hz1,hz2⟩:=info_parts Tryz.info3;have HI:=Zab (And.intro hi (And.intro hz0 (And.intro hz1 hz2)));clear hi hz0 hz1 hz2;have HV:=Zab hv;obtain⟨a,cap,rfl⟩:=hv.form;clear hv
 cases a with
 | none=>
  have hL:L=[]:=by
   rcases HV.out with ⟨_,_,_,h⟩ | ⟨_,_,_,h,_⟩
   · exact h
   · injection h with h;cases h
  subst hL;go_enter func210,ntmps210;go_wp2;go_ret;exact⟨_,rfl,Below.refl _ _,Or.inl ⟨_,_,rfl,rfl⟩⟩
 | some ad=>
  go_enter func210,ntmps210;go_wp2_with (at_builtin;refine wpList_append_own_at _ rfl (.tmp 5) (.tmp 6) 60 rfl w.heap.size 3 i0 (.int .i64 0) 1 8 underlying60 HI.out.1 HI.out.2.1 HI.out.2.2.1 HI.out.2.2.2 rfl (by decide) _ 0 [] rfl (Zbg _ _ 3 1 rfl Zl_) ad L.length cap (ivO L) rfl (by unfold ivO;rw [List.length_map,Nat.mul_one]) (HV.out.newsO (Zac _ _)) (Zg5 _) (by unfold maxLen;omega) (by omega) (by simp) ?_;intro v' w4 hown4 hgrow4 hnil4 hat4);rw [Nat.zero_add,List.nil_append] at hown4;have HO:Hid (Zat w.heap.size w4.heap.size w4 v' L):=ZhW hown4;have HB:Hid (Zw_ w w4):=(Zac _ _).trans (Zbw (Zbg w w.heap.size 3 1 rfl Zl_) hgrow4 (by simp));clear hown4 hgrow4 hnil4 hat4;go_wp2;go_ret;exact⟨_,rfl,HB.out,HO.out⟩
def ZfG:List Le→List Value
 | []=>[]
 | x :: L=>.string x.tm :: .string x.re :: .int .i64 x.mo :: .int .i64 x.fr :: ZfG L
theorem Zgz:∀ L:List Le,(ZfG L).length=L.length*4
 | []=>rfl
 | x :: L=>by simp only [ZfG,List.length_cons,Zgz L];omega
theorem ZlA:∀ (L:List Le) (i:Nat) (h:i < L.length),(ZfG L)[i*4]?=some (.string L[i].tm)∧(ZfG L)[i*4+1]?=some (.string L[i].re)∧(ZfG L)[i*4+2]?=some (.int .i64 L[i].mo)∧(ZfG L)[i*4+3]?=some (.int .i64 L[i].fr)
 | [],i,h=>by simp at h
 | x :: L,0,_=>⟨rfl,rfl,rfl,rfl⟩
 | x :: L,i+1,h=>by
  have:=ZlA L i (by simpa using h);rw [show (i+1)*4=i*4+1+1+1+1 by omega];exact this
theorem Zip:∀ (L:List Le),∀ u ∈ ZfG L,u.oneCell'=true
 | [],u,hu=>by simp [ZfG] at hu
 | x :: L,u,hu=>by
  simp only [ZfG,List.mem_cons] at hu
  rcases hu with rfl | rfl | rfl | rfl | hu
  · rfl
  · rfl
  · rfl
  · rfl
  · exact Zip L u hu
theorem Zkj {lo:Nat} {w W:World} {ad:Addr} {cap:Nat} {L:List Le} (h:ZbB lo w (.slice (some ad) L.length cap) L) (hb:Zw_ w W):∀ j u,(ZfG L)[j]?=some u→W.cell? (ad.add j)=some u:=by
 intro j u hj
 have hl:j < L.length*4:=by
  rcases Nat.lt_or_ge j (L.length*4) with h | h
  · exact h
  · rw [List.getElem?_eq_none (by rw [Zgz];exact h)] at hj;cases hj
 obtain⟨b,off,e,hlt,-,hc⟩:=h.full' (by omega);injection e with e
 subst e;have hi:j / 4 < L.length:=by omega
 obtain⟨_,hcc⟩:=hc (j / 4) hi;obtain⟨h0,h1,h2,h3⟩:=hcc;obtain⟨v0,v1,v2,v3⟩:=ZlA L (j / 4) hi;rw [Go.WideShapes.add_plain,hb.cell (p:=⟨b,off+j,none⟩) hlt];have hm:j=j / 4*4∨j=j / 4*4+1∨j=j / 4*4+2∨j=j / 4*4+3:=by omega
 rcases hm with hm | hm | hm | hm
 · have e1:(ZfG L)[j]?=(ZfG L)[j / 4*4]?:=congrArg (fun q=>(ZfG L)[q]?) hm
   have e2:w.cell? ⟨b,off+j,none⟩=w.cell? ⟨b,off+j / 4*4,none⟩:=congrArg (fun q=>w.cell? ⟨b,q,none⟩) (by omega);exact e2.trans (h0.trans (v0.symm.trans (e1.symm.trans hj)))
 · have e1:(ZfG L)[j]?=(ZfG L)[j / 4*4+1]?:=congrArg (fun q=>(ZfG L)[q]?) hm
   have e2:w.cell? ⟨b,off+j,none⟩=w.cell? ⟨b,off+j / 4*4+1,none⟩:=congrArg (fun q=>w.cell? ⟨b,q,none⟩) (by omega);exact e2.trans (h1.trans (v1.symm.trans (e1.symm.trans hj)))
 · have e1:(ZfG L)[j]?=(ZfG L)[j / 4*4+2]?:=congrArg (fun q=>(ZfG L)[q]?) hm
   have e2:w.cell? ⟨b,off+j,none⟩=w.cell? ⟨b,off+j / 4*4+2,none⟩:=congrArg (fun q=>w.cell? ⟨b,q,none⟩) (by omega);exact e2.trans (h2.trans (v2.symm.trans (e1.symm.trans hj)))
 · have e1:(ZfG L)[j]?=(ZfG L)[j / 4*4+3]?:=congrArg (fun q=>(ZfG L)[q]?) hm
   have e2:w.cell? ⟨b,off+j,none⟩=w.cell? ⟨b,off+j / 4*4+3,none⟩:=congrArg (fun q=>w.cell? ⟨b,q,none⟩) (by omega);exact e2.trans (h3.trans (v3.symm.trans (e1.symm.trans hj)))
theorem ZlG {base:Nat} {W:World} {v:Value} {L:List Le} (h:W.ownsRow base 92 4 v L.length (ZfG L)) (hz:∀ i (hi:i < L.length),Zdt L[i]):ZaO base W.heap.size W v L:=by
 by_cases hL:L=[]
 · subst hL
   rcases h.2 with ⟨hv,_⟩ | ⟨g,cap,cur,hv,_⟩
   · exact Or.inl ⟨_,_,hv,rfl⟩
   · exact Or.inl ⟨_,_,hv,rfl⟩
 · rcases h.2 with ⟨_,hn⟩ | ⟨g,cap,cur,hv,h1,h2,h3,h4,_⟩
   · exact absurd (List.length_eq_zero_iff.1 hn) hL
   · have hl:=ZcF h (g:=g) (by rw [hv];rfl)
     have ho:=h;have h0:0 < L.length:=List.length_pos_iff.2 hL
     subst hv;refine Or.inr ⟨g,0,cap,fun _=>g+1,fun i=>if h:i < L.length then L[i] else L[0],rfl,hL,Nat.le_trans h3 h4,h3,fun i hi=>by simp [hi],hl.1,hl.2.1,Nat.lt_succ_self _,hl.1,fun _ _=>Nat.le_refl _,hl.1,hl.2.2,fun i hi=>?_⟩;obtain⟨v0,v1,v2,v3⟩:=ZlA L i hi;simp only [hi,dif_pos];have ce:∀ j,j < 4→W.cell? ⟨g,0+i*4+j,none⟩=(ZfG L)[i*4+j]?:=fun j hj=>by rw [Nat.zero_add];exact ho.cellAt _ (by omega)
     exact⟨hz i hi,⟨(ce 0 (by omega)).trans v0,(ce 1 (by omega)).trans v1,(ce 2 (by omega)).trans v2,(ce 3 (by omega)).trans v3⟩⟩
theorem ZjR (lo:Nat) (v:Value) (L:List Le) (w:World) (hv:ZbB lo w v L) (hn:L.length≤1048576) :
 Calls prog 166 #[v] w fun e w'=>∃ v',e=.returned v'∧Zw_ w w'∧ZaO w.heap.size w'.heap.size w' v' L:=by
 have hnil:=fun W a n c=>Lib.run_eql_slice_nil (P:=prog) W 37 92 a n c 0 0 underlying37
 obtain⟨i0,hi,hz0,hz1,hz2⟩:=info_parts Tryz.info92;have HI:=Zab (And.intro hi (And.intro hz0 (And.intro hz1 hz2)));clear hi hz0 hz1 hz2;have HV:=Zab hv
 have HZ:Hid (∀ i (hi:i < L.length),Zdt L[i]):=fun i hi=>by
  obtain⟨_,_,_,_,_,_,_,hc⟩:=hv.full (fun e=>by rw [e] at hi;simp at hi);exact (hc i hi).1
 obtain⟨a,cap,rfl⟩:=hv.form;clear hv
 cases a with
 | none=>
  have hL:L=[]:=by
   rcases HV.out with ⟨_,_,_,h⟩ | ⟨_,_,_,h,_⟩
   · exact h
   · injection h with h;cases h
  subst hL;go_enter func166,ntmps166;go_wp2;go_ret;exact⟨_,rfl,Below.refl _ _,Or.inl ⟨_,_,rfl,rfl⟩⟩
 | some ad=>
  go_enter func166,ntmps166;go_wp2_with (at_builtin;refine wpList_append_own_at _ rfl (.tmp 5) (.tmp 6) 37 rfl w.heap.size 92 i0 (.agg #[.string ⟨#[]⟩,.string ⟨#[]⟩,.int .i64 0,.int .i64 0]) 4 48 underlying37 HI.out.1 HI.out.2.1 HI.out.2.2.1 HI.out.2.2.2 rfl (by decide) _ 0 [] rfl (Zbg _ _ 92 4 rfl Zl_) ad L.length cap (ZfG L) rfl (Zgz _) (Zkj HV.out (Zac _ _)) (Zip _) (by unfold maxLen;omega) (by omega) (by simp) ?_;intro v' w4 hown4 hgrow4 hnil4 hat4);rw [Nat.zero_add,List.nil_append] at hown4;have HO:Hid (ZaO w.heap.size w4.heap.size w4 v' L):=ZlG hown4 HZ.out;have HB:Hid (Zw_ w w4):=(Zac _ _).trans (Zbw (Zbg w w.heap.size 92 4 rfl Zl_) hgrow4 (by simp));clear hown4 hgrow4 hnil4 hat4;go_wp2;go_ret;exact⟨_,rfl,HB.out,HO.out⟩
def Zch:List Pu→List Value
 | []=>[]
 | x :: L=>.string x.dr :: .string x.tm :: .string x.re :: .int .i64 x.am :: .int .i64 x.un :: Zch L
theorem Zc7:∀ L:List Pu,(Zch L).length=L.length*5
 | []=>rfl
 | x :: L=>by simp only [Zch,List.length_cons,Zc7 L];omega
theorem ZkO:∀ (L:List Pu) (i:Nat) (h:i < L.length),(Zch L)[i*5]?=some (.string L[i].dr)∧(Zch L)[i*5+1]?=some (.string L[i].tm)∧(Zch L)[i*5+2]?=some (.string L[i].re)∧(Zch L)[i*5+3]?=some (.int .i64 L[i].am)∧(Zch L)[i*5+4]?=some (.int .i64 L[i].un)
 | [],i,h=>by simp at h
 | x :: L,0,_=>⟨rfl,rfl,rfl,rfl,rfl⟩
 | x :: L,i+1,h=>by
  have:=ZkO L i (by simpa using h);rw [show (i+1)*5=i*5+1+1+1+1+1 by omega];exact this
theorem Zfy:∀ (L:List Pu),∀ u ∈ Zch L,u.oneCell'=true
 | [],u,hu=>by simp [Zch] at hu
 | x :: L,u,hu=>by
  simp only [Zch,List.mem_cons] at hu
  rcases hu with rfl | rfl | rfl | rfl | rfl | hu
  · rfl
  · rfl
  · rfl
  · rfl
  · rfl
  · exact Zfy L u hu
theorem Zel {lo:Nat} {w W:World} {ad:Addr} {cap:Nat} {L:List Pu} (h:ZbK lo w (.slice (some ad) L.length cap) L) (hb:Zw_ w W):∀ j u,(Zch L)[j]?=some u→W.cell? (ad.add j)=some u:=by
 intro j u hj
 have hl:j < L.length*5:=by
  rcases Nat.lt_or_ge j (L.length*5) with h | h
  · exact h
  · rw [List.getElem?_eq_none (by rw [Zc7];exact h)] at hj;cases hj
 obtain⟨b,off,e,hlt,-,hc⟩:=h.full' (by omega);injection e with e
 subst e;have hi:j / 5 < L.length:=by omega
 obtain⟨_,hcc⟩:=hc (j / 5) hi;obtain⟨h0,h1,h2,h3,h4⟩:=hcc;obtain⟨v0,v1,v2,v3,v4⟩:=ZkO L (j / 5) hi;rw [Go.WideShapes.add_plain,hb.cell (p:=⟨b,off+j,none⟩) hlt];have hm:j=j / 5*5∨j=j / 5*5+1∨j=j / 5*5+2∨j=j / 5*5+3∨j=j / 5*5+4:=by omega
 rcases hm with hm | hm | hm | hm | hm
 · have e1:(Zch L)[j]?=(Zch L)[j / 5*5]?:=congrArg (fun q=>(Zch L)[q]?) hm
   have e2:w.cell? ⟨b,off+j,none⟩=w.cell? ⟨b,off+j / 5*5,none⟩:=congrArg (fun q=>w.cell? ⟨b,q,none⟩) (by omega);exact e2.trans (h0.trans (v0.symm.trans (e1.symm.trans hj)))
 · have e1:(Zch L)[j]?=(Zch L)[j / 5*5+1]?:=congrArg (fun q=>(Zch L)[q]?) hm
   have e2:w.cell? ⟨b,off+j,none⟩=w.cell? ⟨b,off+j / 5*5+1,none⟩:=congrArg (fun q=>w.cell? ⟨b,q,none⟩) (by omega);exact e2.trans (h1.trans (v1.symm.trans (e1.symm.trans hj)))
 · have e1:(Zch L)[j]?=(Zch L)[j / 5*5+2]?:=congrArg (fun q=>(Zch L)[q]?) hm
   have e2:w.cell? ⟨b,off+j,none⟩=w.cell? ⟨b,off+j / 5*5+2,none⟩:=congrArg (fun q=>w.cell? ⟨b,q,none⟩) (by omega);exact e2.trans (h2.trans (v2.symm.trans (e1.symm.trans hj)))
 · have e1:(Zch L)[j]?=(Zch L)[j / 5*5+3]?:=congrArg (fun q=>(Zch L)[q]?) hm
   have e2:w.cell? ⟨b,off+j,none⟩=w.cell? ⟨b,off+j / 5*5+3,none⟩:=congrArg (fun q=>w.cell? ⟨b,q,none⟩) (by omega);exact e2.trans (h3.trans (v3.symm.trans (e1.symm.trans hj)))
 · have e1:(Zch L)[j]?=(Zch L)[j / 5*5+4]?:=congrArg (fun q=>(Zch L)[q]?) hm
   have e2:w.cell? ⟨b,off+j,none⟩=w.cell? ⟨b,off+j / 5*5+4,none⟩:=congrArg (fun q=>w.cell? ⟨b,q,none⟩) (by omega);exact e2.trans (h4.trans (v4.symm.trans (e1.symm.trans hj)))
theorem ZgH {base:Nat} {W:World} {v:Value} {L:List Pu} (h:W.ownsRow base 94 5 v L.length (Zch L)) (hz:∀ i (hi:i < L.length),Zcr L[i]):Za5 base W.heap.size W v L:=by
 by_cases hL:L=[]
 · subst hL
   rcases h.2 with ⟨hv,_⟩ | ⟨g,cap,cur,hv,_⟩
   · exact Or.inl ⟨_,_,hv,rfl⟩
   · exact Or.inl ⟨_,_,hv,rfl⟩
 · rcases h.2 with ⟨_,hn⟩ | ⟨g,cap,cur,hv,h1,h2,h3,h4,_⟩
   · exact absurd (List.length_eq_zero_iff.1 hn) hL
   · have hl:=ZcF h (g:=g) (by rw [hv];rfl)
     have ho:=h;have h0:0 < L.length:=List.length_pos_iff.2 hL
     subst hv;refine Or.inr ⟨g,0,cap,fun _=>g+1,fun i=>if h:i < L.length then L[i] else L[0],rfl,hL,Nat.le_trans h3 h4,h3,fun i hi=>by simp [hi],hl.1,hl.2.1,Nat.lt_succ_self _,hl.1,fun _ _=>Nat.le_refl _,hl.1,hl.2.2,fun i hi=>?_⟩;obtain⟨v0,v1,v2,v3,v4⟩:=ZkO L i hi;simp only [hi,dif_pos];have ce:∀ j,j < 5→W.cell? ⟨g,0+i*5+j,none⟩=(Zch L)[i*5+j]?:=fun j hj=>by rw [Nat.zero_add];exact ho.cellAt _ (by omega)
     exact⟨hz i hi,⟨(ce 0 (by omega)).trans v0,(ce 1 (by omega)).trans v1,(ce 2 (by omega)).trans v2,(ce 3 (by omega)).trans v3,(ce 4 (by omega)).trans v4⟩⟩
theorem Zkb (lo:Nat) (v:Value) (L:List Pu) (w:World) (hv:ZbK lo w v L) (hn:L.length≤1048576) :
 Calls prog 167 #[v] w fun e w'=>∃ v',e=.returned v'∧Zw_ w w'∧Za5 w.heap.size w'.heap.size w' v' L:=by
 have hnil:=fun W a n c=>Lib.run_eql_slice_nil (P:=prog) W 38 94 a n c 0 0 underlying38
 obtain⟨i0,hi,hz0,hz1,hz2⟩:=info_parts Tryz.info94;have HI:=Zab (And.intro hi (And.intro hz0 (And.intro hz1 hz2)));clear hi hz0 hz1 hz2;have HV:=Zab hv
 have HZ:Hid (∀ i (hi:i < L.length),Zcr L[i]):=fun i hi=>by
  obtain⟨_,_,_,_,_,_,_,hc⟩:=hv.full (fun e=>by rw [e] at hi;simp at hi);exact (hc i hi).1
 obtain⟨a,cap,rfl⟩:=hv.form;clear hv
 cases a with
 | none=>
  have hL:L=[]:=by
   rcases HV.out with ⟨_,_,_,h⟩ | ⟨_,_,_,h,_⟩
   · exact h
   · injection h with h;cases h
  subst hL;go_enter func167,ntmps167;go_wp2;go_ret;exact⟨_,rfl,Below.refl _ _,Or.inl ⟨_,_,rfl,rfl⟩⟩
 | some ad=>
  go_enter func167,ntmps167;go_wp2_with (at_builtin;refine wpList_append_own_at _ rfl (.tmp 5) (.tmp 6) 38 rfl w.heap.size 94 i0 (.agg #[.string ⟨#[]⟩,.string ⟨#[]⟩,.string ⟨#[]⟩,.int .i64 0,.int .i64 0]) 5 64 underlying38 HI.out.1 HI.out.2.1 HI.out.2.2.1 HI.out.2.2.2 rfl (by decide) _ 0 [] rfl (Zbg _ _ 94 5 rfl Zl_) ad L.length cap (Zch L) rfl (Zc7 _) (Zel HV.out (Zac _ _)) (Zfy _) (by unfold maxLen;omega) (by omega) (by simp) ?_;intro v' w4 hown4 hgrow4 hnil4 hat4);rw [Nat.zero_add,List.nil_append] at hown4;have HO:Hid (Za5 w.heap.size w4.heap.size w4 v' L):=ZgH hown4 HZ.out;have HB:Hid (Zw_ w w4):=(Zac _ _).trans (Zbw (Zbg w w.heap.size 94 5 rfl Zl_) hgrow4 (by simp));clear hown4 hgrow4 hnil4 hat4;go_wp2;go_ret;exact⟨_,rfl,HB.out,HO.out⟩
theorem Zms (lo:Nat) (x:Gr) (vv0:Value) (w:World) (hv0:Zau lo w vv0 x.vb) (hn:ZdC x) :
 Calls prog 165 #[.agg #[.int .i64 x.nu,.string x.tw,.string x.gb,vv0,.string x.kd,.string x.tm,.string x.pf]] w
  fun e w'=>∃ z0,e=.returned (.agg #[.int .i64 x.nu,.string x.tw,.string x.gb,z0,.string x.kd,.string x.tm,.string x.pf])∧Zw_ w w'∧Zat w.heap.size w'.heap.size w' z0 x.vb:=by
 have HV:=Zab hv0;obtain⟨a,cap,rfl⟩:=hv0.form;clear hv0;go_enter func165,ntmps165;go_wp2_with fail;refine (ZiD lo _ x.vb _ (HV.out.below ?_) hn).mono ?_
 · exact (Zb_.alloc Zl_ _).alloc (by simp) _
 rintro e w1 ⟨v',rfl,hb,hs⟩;obtain⟨a',cap',rfl⟩:=hs.form;have HS:Hid (Zat (w.heap.size+2) w1.heap.size w1 (.slice a' x.vb.length cap') x.vb):=hs.wide (by simp) Zl_;clear hs;have hz:w.heap.size+1 < w1.heap.size:=by have:=hb.size;simp at this;omega
 have hc:∀ b o,b < w.heap.size+2→w1.cell? ⟨b,o,none⟩=_:=fun b o h=>hb.cell (p:=⟨b,o,none⟩) (by simpa using h)
 have hf:∀ b o,b < w.heap.size+2→w1.frozen? ⟨b,o,none⟩=_:=fun b o h=>hb.frozen (p:=⟨b,o,none⟩) (by simpa using h)
 have HB:Hid (Zw_ w w1):=((Zb_.alloc Zl_ _).alloc (by simp) _).trans (hb.mono (by simp;omega));clear hb;go_wp2;refine bodyPost_ret (v:=.agg #[.int .i64 x.nu,.string x.tw,.string x.gb,(.slice a' x.vb.length cap'),.string x.kd,.string x.tm,.string x.pf]) (by simp [results,results165,go_sem,hc]) rfl ⟨_,rfl,?_,?_⟩
 · repeat (refine Below.setCell ?_ (by simp only [];omega) _)
   exact HB.out
 · refine Zat.wide (lo:=w.heap.size+2) (hi:=w1.heap.size) ?_ (by omega) (by simp [World.setCell])
   repeat (refine Zat.setLow ?_ (by simp only [];omega) _)
   exact HS.out
theorem Zle (lo:Nat) (v:Value) (Xl:List Ob) (w:World) (hv:Zbs lo w v Xl) (hn:ZbD Xl) :
 Calls prog 162 #[v,.func (.func 163) #[] #[]] w fun e w'=>∃ v',e=.returned v'∧Zw_ w w'∧Za2 w.heap.size w'.heap.size w' v' Xl:=by
 have hnil:=fun W a n c=>Lib.run_eql_slice_nil (P:=prog) W 35 155 a n c 0 0 underlying35
 obtain⟨i0,hi,hz0,hz1,hz2⟩:=info_parts Tryz.info155;have HSM:=Zab hn.2;have hn1:=hn.1;clear hn
 by_cases hL:Xl=[]
 · subst hL
   obtain⟨a,cap,rfl⟩:=hv.form;clear hv
   have hmk:∀ u:World,(Instr.makeSlice 35 (.int .i64 0) (.int .i64 0)).run prog u=.ok (.slice (some ⟨u.heap.size,0,none⟩) 0 0) (u.alloc (.cells (madeCells (Value.cells (.agg #[.string ⟨#[]⟩,.string ⟨#[]⟩,.string ⟨#[]⟩,.slice none 0 0,.bool false,.slice none 0 0,.int .i64 0])) 0) 155)):=fun u=>by
    have h:=run_make (P:=prog) u 35 155 i0 _ underlying35 hi hz0 .i64 .i64 0 0 (by omega) (by omega) (by omega) (by omega)
    simpa [hz1] using h
   cases a with
   | none=>
    go_enter func162,ntmps162;go_wp2;go_ret;exact⟨_,rfl,Below.refl _ _,Or.inl ⟨_,_,rfl,rfl⟩⟩
   | some ad=>
    go_enter func162,ntmps162;go_wp2
    go_loop [15] (fun i=>i=.int .i64 0) (fun _=>0)
    case atStart=>rfl
    case round=>
     subst hrel;go_wp2;go_ret;exact⟨_,rfl,Zb_.alloc Zl_ _,Or.inl ⟨_,_,rfl,rfl⟩⟩
 · obtain⟨b,off,cap,rfl,hm,hbw,_,hc⟩:=hv.full hL
   clear hv;have HM:Hid (Xl.length≤maxLen):=hm;unfold maxLen at hm
   have hmk:∀ u:World,(Instr.makeSlice 35 (.int .i64 (Xl.length:Int)) (.int .i64 (Xl.length:Int))).run prog u=.ok (.slice (some ⟨u.heap.size,0,none⟩) Xl.length Xl.length) (u.alloc (.cells (madeCells (Value.cells (.agg #[.string ⟨#[]⟩,.string ⟨#[]⟩,.string ⟨#[]⟩,.slice none 0 0,.bool false,.slice none 0 0,.int .i64 0])) (Xl.length*7)) 155)):=fun u=>by
    have h:=run_make (P:=prog) u 35 155 i0 _ underlying35 hi hz0 .i64 .i64 Xl.length Xl.length (by omega) (by omega) (by rw [hz2];omega) (by omega);rw [hz1] at h
    simpa using h
   clear hi hz0 hz1 hz2;go_enter func162,ntmps162;go_wp2;clear hmk hnil
   go_loopw [15] (fun i wr=>∃ (k:Nat) (c:Nat→Nat),i=.int .i64 k∧k≤Xl.length∧Zw_ w wr∧Za3 wr w.heap.size Xl k c) (fun i _=>Xl.length - (intOf i).toNat)
   case atStart=>exact⟨0,_,rfl,by omega,Zb_.alloc Zl_ _,Za3.new w Xl _⟩
   case round=>
    obtain⟨k,c,rfl,hk,hb,hf⟩:=hrel
    by_cases hlt:k < Xl.length
    · obtain⟨hs,vv0,vv1,hc,hv0,hv1⟩:=hc k hlt
      have HB:=Zab hb;have HF:=Zab hf;have HSZ:=Zab hs;obtain⟨x0,y0,rfl⟩:=hv0.at.form';obtain⟨x1,y1,rfl⟩:=hv1.at.form';obtain⟨c0,c1,c2,c3,c4,c5,c6⟩:=hc.below hb hbw;have HV0:=Zab (hv0.below hb);clear hv0;have HV1:=Zab (hv1.below hb);clear hv1;clear hc hb hf hs;go_wp2_with fail;generalize hWx:wr.alloc _=Wx;have hx:Below wr.heap.size wr Wx:=by rw [← hWx];exact Zac _ _
      clear hWx;refine (Ze6 _ _ _ _ _ _ _ Xl[k].vs Xl[k].hs _ (HV0.out.below hx).at (HV1.out.below hx).at (HSM.out k hlt).1 (HSM.out k hlt).2).mono ?_;rintro e w1 ⟨z0,z1,rfl,hb1,mid,hmid,hmw,hO0,hO1⟩;obtain⟨s0,t0,rfl⟩:=hO0.at.form';obtain⟨s1,t1,rfl⟩:=hO1.at.form';have hck:c k≤Wx.heap.size:=Nat.le_trans HF.out.2.2.1 hx.size;have hf1:=(HF.out.below hx).below hb1;have hB:Hid (Zw_ w w1):=HB.out.trans ((hx.trans (hb1.mono hx.size)).mono HB.out.size);have HST:=Zab (hf1.step hlt HSZ.out w1.heap.size (Nat.le_trans hck hb1.size) Zl_ (Nat.le_trans hck hmid) hmw (hO0.wide hck Zl_) hO1);have hfr:=hf1.free;obtain⟨o0,ho0⟩:=hf1.there (k*7) (by omega);obtain⟨o1,ho1⟩:=hf1.there (k*7+1) (by omega);obtain⟨o2,ho2⟩:=hf1.there (k*7+2) (by omega);obtain⟨o3,ho3⟩:=hf1.there (k*7+3) (by omega);obtain⟨o4,ho4⟩:=hf1.there (k*7+4) (by omega)
      obtain⟨o5,ho5⟩:=hf1.there (k*7+5) (by omega);obtain⟨o6,ho6⟩:=hf1.there (k*7+6) (by omega);clear hf1 hb1 hx HF HB c0 c1 c2 c3 c4 c5 c6;go_wp2;go_roundw
      case rel=>
       exact⟨k+1,_,by go_num,by omega,(((((((hB.out.setCell Zl_ _).setCell Zl_ _).setCell Zl_ _).setCell Zl_ _).setCell Zl_ _).setCell Zl_ _).setCell Zl_ _),HST.out⟩
      case measure=>simp [intOf];omega
    · have e:k=Xl.length:=by omega
      go_wp2;go_ret;exact⟨_,rfl,hb,hf.own e hL HM.out⟩
theorem Zlv (lo:Nat) (v:Value) (Xl:List Gr) (w:World) (hv:ZbY lo w v Xl) (hn:Zds Xl) :
 Calls prog 164 #[v,.func (.func 165) #[] #[]] w fun e w'=>∃ v',e=.returned v'∧Zw_ w w'∧Za8 w.heap.size w'.heap.size w' v' Xl:=by
 have hnil:=fun W a n c=>Lib.run_eql_slice_nil (P:=prog) W 36 158 a n c 0 0 underlying36
 obtain⟨i0,hi,hz0,hz1,hz2⟩:=info_parts Tryz.info158;have HSM:=Zab hn.2;have hn1:=hn.1;clear hn
 by_cases hL:Xl=[]
 · subst hL
   obtain⟨a,cap,rfl⟩:=hv.form;clear hv
   have hmk:∀ u:World,(Instr.makeSlice 36 (.int .i64 0) (.int .i64 0)).run prog u=.ok (.slice (some ⟨u.heap.size,0,none⟩) 0 0) (u.alloc (.cells (madeCells (Value.cells (.agg #[.int .i64 0,.string ⟨#[]⟩,.string ⟨#[]⟩,.slice none 0 0,.string ⟨#[]⟩,.string ⟨#[]⟩,.string ⟨#[]⟩])) 0) 158)):=fun u=>by
    have h:=run_make (P:=prog) u 36 158 i0 _ underlying36 hi hz0 .i64 .i64 0 0 (by omega) (by omega) (by omega) (by omega)
    simpa [hz1] using h
   cases a with
   | none=>
    go_enter func164,ntmps164;go_wp2;go_ret;exact⟨_,rfl,Below.refl _ _,Or.inl ⟨_,_,rfl,rfl⟩⟩
   | some ad=>
    go_enter func164,ntmps164;go_wp2
    go_loop [15] (fun i=>i=.int .i64 0) (fun _=>0)
    case atStart=>rfl
    case round=>
     subst hrel;go_wp2;go_ret;exact⟨_,rfl,Zb_.alloc Zl_ _,Or.inl ⟨_,_,rfl,rfl⟩⟩
 · obtain⟨b,off,cap,rfl,hm,hbw,_,hc⟩:=hv.full hL
   clear hv;have HM:Hid (Xl.length≤maxLen):=hm;unfold maxLen at hm
   have hmk:∀ u:World,(Instr.makeSlice 36 (.int .i64 (Xl.length:Int)) (.int .i64 (Xl.length:Int))).run prog u=.ok (.slice (some ⟨u.heap.size,0,none⟩) Xl.length Xl.length) (u.alloc (.cells (madeCells (Value.cells (.agg #[.int .i64 0,.string ⟨#[]⟩,.string ⟨#[]⟩,.slice none 0 0,.string ⟨#[]⟩,.string ⟨#[]⟩,.string ⟨#[]⟩])) (Xl.length*7)) 158)):=fun u=>by
    have h:=run_make (P:=prog) u 36 158 i0 _ underlying36 hi hz0 .i64 .i64 Xl.length Xl.length (by omega) (by omega) (by rw [hz2];omega) (by omega);rw [hz1] at h
    simpa using h
   clear hi hz0 hz1 hz2;go_enter func164,ntmps164;go_wp2;clear hmk hnil
   go_loopw [15] (fun i wr=>∃ (k:Nat) (c:Nat→Nat),i=.int .i64 k∧k≤Xl.length∧Zw_ w wr∧Za4 wr w.heap.size Xl k c) (fun i _=>Xl.length - (intOf i).toNat)
   case atStart=>exact⟨0,_,rfl,by omega,Zb_.alloc Zl_ _,Za4.new w Xl _⟩
   case round=>
    obtain⟨k,c,rfl,hk,hb,hf⟩:=hrel
    by_cases hlt:k < Xl.length
    · obtain⟨hs,vv0,hc,hv0⟩:=hc k hlt
      have HB:=Zab hb;have HF:=Zab hf;have HSZ:=Zab hs;obtain⟨x0,y0,rfl⟩:=hv0.form;obtain⟨c0,c1,c2,c3,c4,c5,c6⟩:=hc.below hb hbw;have HV0:=Zab (hv0.below hb);clear hv0;clear hc hb hf hs;go_wp2_with fail;generalize hWx:wr.alloc _=Wx;have hx:Below wr.heap.size wr Wx:=by rw [← hWx];exact Zac _ _
      clear hWx;refine (Zms 0 Xl[k] _ _ ((HV0.out.below hx).mono Zz_) (HSM.out k hlt)).mono ?_;rintro e w1 ⟨z0,rfl,hb1,hO0⟩;obtain⟨s0,t0,rfl⟩:=hO0.form;have hck:c k≤Wx.heap.size:=Nat.le_trans HF.out.2.2.1 hx.size;have hf1:=(HF.out.below hx).below hb1;have hB:Hid (Zw_ w w1):=HB.out.trans ((hx.trans (hb1.mono hx.size)).mono HB.out.size);have HST:=Zab (hf1.step hlt HSZ.out w1.heap.size (Nat.le_trans hck hb1.size) Zl_ (Nat.le_trans hck hb1.size) (hO0.wide hck Zl_));have hfr:=hf1.free;obtain⟨o0,ho0⟩:=hf1.there (k*7) (by omega);obtain⟨o1,ho1⟩:=hf1.there (k*7+1) (by omega);obtain⟨o2,ho2⟩:=hf1.there (k*7+2) (by omega);obtain⟨o3,ho3⟩:=hf1.there (k*7+3) (by omega);obtain⟨o4,ho4⟩:=hf1.there (k*7+4) (by omega);obtain⟨o5,ho5⟩:=hf1.there (k*7+5) (by omega);obtain⟨o6,ho6⟩:=hf1.there (k*7+6) (by omega)
      clear hf1 hb1 hx HF HB c0 c1 c2 c3 c4 c5 c6;go_wp2;go_roundw
      case rel=>
       exact⟨k+1,_,by go_num,by omega,(((((((hB.out.setCell Zl_ _).setCell Zl_ _).setCell Zl_ _).setCell Zl_ _).setCell Zl_ _).setCell Zl_ _).setCell Zl_ _),HST.out⟩
      case measure=>simp [intOf];omega
    · have e:k=Xl.length:=by omega
      go_wp2;go_ret;exact⟨_,rfl,hb,hf.own e hL HM.out⟩
section
variable (lo:Nat) (ov gv lv pv:Value) (B:Bk) (w:World)
theorem Zkl (h:ZaW lo w ov gv lv pv B) (hn:ZaA B) :
 Calls prog 108 #[.agg #[.int .i64 B.now,.int .i64 B.tick,.int .i64 B.given,ov,gv,lv,pv]] w
  fun e w'=>∃ b0 m0 b1 m1 b2 m2 b3 m3,e=.returned (.agg #[.int .i64 B.now,.int .i64 B.tick,.int .i64 B.given,.slice b0 B.os.length m0,.slice b1 B.gs.length m1,.slice b2 B.ls.length m2,.slice b3 B.ps.length m3])∧Zw_ w w'∧
   Zax (w.heap.size+2) w'.heap.size w' (.slice b0 B.os.length m0) (.slice b1 B.gs.length m1) (.slice b2 B.ls.length m2) (.slice b3 B.ps.length m3) B:=by
 have HL:=Zab h;obtain⟨a0,k0,rfl⟩:=h.obs.form;obtain⟨a1,k1,rfl⟩:=h.grs.form;obtain⟨a2,k2,rfl⟩:=h.les.form;obtain⟨a3,k3,rfl⟩:=h.pus.form;obtain⟨hn0,hn1,hn2,hn3⟩:=hn;replace hn2:=hn2.1;replace hn3:=hn3.1;clear h;go_enter func108,ntmps108;go_wp2_with fail
 obtain⟨wz,hwz,HX0,HR0,HB0⟩:∃ wz,wz=(w.alloc (.cells #[.int .i64 B.now,.int .i64 B.tick,.int .i64 B.given,.slice a0 B.os.length k0,.slice a1 B.gs.length k1,.slice a2 B.ls.length k2,.slice a3 B.ps.length k3] 40)).alloc (.cells #[.int .i64 0,.int .i64 0,.int .i64 0,.slice none 0 0,.slice none 0 0,.slice none 0 0,.slice none 0 0] 40)∧
  Hid (Box wz w.heap.size #[.int .i64 B.now,.int .i64 B.tick,.int .i64 B.given,.slice a0 B.os.length k0,.slice a1 B.gs.length k1,.slice a2 B.ls.length k2,.slice a3 B.ps.length k3])∧Hid (Box wz (w.heap.size+1) #[.int .i64 0,.int .i64 0,.int .i64 0,.slice none 0 0,.slice none 0 0,.slice none 0 0,.slice none 0 0])∧Hid (Zw_ w wz):=
  ⟨_,rfl,(Box.new w _ _ _ rfl).on (Zac _ _),Box.new _ _ _ _ (by simp),(Zac _ _).trans ((Zac _ _).mono (by simp))⟩
 rw [← hwz];clear hwz;generalize wz=v0 at*;have hz0:w.heap.size+2≤v0.heap.size:=by have:=HR0.out.lt;omega
 refine (Zle lo _ B.os _ (HL.out.below HB0.out).obs hn0).mono ?_;rintro e w0 ⟨u0,rfl,hb0,hs0⟩;obtain⟨b0,m0,rfl⟩:=hs0.form;have GX:=Zab (HX0.out.on hb0);have GR:=Zab (HR0.out.on hb0);have GB:=Zab (HB0.out.trans (hb0.mono HB0.out.size));have GN:=Zab hs0;have hsz0:=hb0.size;clear hb0 hs0 HX0 HR0 HB0;have o0:=GX.out.cell 3;have f0:=GX.out.free 3;have x1:=GX.out.cell 4;simp at o0 f0 x1;go_wp2_with fail;clear o0 f0 x1
 obtain⟨v1,hwq,HX1,HR1,HB1,hq1,HS0⟩:∃ wq,wq=w0.setCell ⟨w.heap.size,3,none⟩ (.slice b0 B.os.length m0)∧
  Hid (Box wq w.heap.size #[.int .i64 B.now,.int .i64 B.tick,.int .i64 B.given,.slice b0 B.os.length m0,.slice a1 B.gs.length k1,.slice a2 B.ls.length k2,.slice a3 B.ps.length k3])∧Hid (Box wq (w.heap.size+1) #[.int .i64 0,.int .i64 0,.int .i64 0,.slice none 0 0,.slice none 0 0,.slice none 0 0,.slice none 0 0])∧Hid (Zw_ w wq)∧wq.heap.size=w0.heap.size∧Hid (Za2 v0.heap.size w0.heap.size wq (.slice b0 B.os.length m0) B.os):=
  ⟨_,rfl,GX.out.set (k:=3) (.slice b0 B.os.length m0) (by simp),GR.out.setFar (by simp only [];omega) _,GB.out.setCell (by simp only [];omega) _,by simp [World.setCell],GN.out.setLow (by simp only [];omega) _⟩
 rw [← hwq];clear hwq GX GR GB GN;have hz1:w.heap.size+2≤v1.heap.size:=by omega
 refine (Zlv lo _ B.gs _ (HL.out.below HB1.out).grs hn1).mono ?_;rintro e w1 ⟨u1,rfl,hb1,hs1⟩;obtain⟨b1,m1,rfl⟩:=hs1.form;have GX:=Zab (HX1.out.on hb1);have GR:=Zab (HR1.out.on hb1);have GB:=Zab (HB1.out.trans (hb1.mono HB1.out.size));have GN:=Zab hs1;have hsz1:=hb1.size;have G0:=Zab (HS0.out.below hb1);clear hb1 hs1 HX1 HR1 HB1 HS0;have o0:=GX.out.cell 4;have f0:=GX.out.free 4;have x1:=GX.out.cell 5;simp at o0 f0 x1;go_wp2_with fail;clear o0 f0 x1
 obtain⟨v2,hwq,HX2,HR2,HB2,hq2,HS1,HS0⟩:∃ wq,wq=w1.setCell ⟨w.heap.size,4,none⟩ (.slice b1 B.gs.length m1)∧
  Hid (Box wq w.heap.size #[.int .i64 B.now,.int .i64 B.tick,.int .i64 B.given,.slice b0 B.os.length m0,.slice b1 B.gs.length m1,.slice a2 B.ls.length k2,.slice a3 B.ps.length k3])∧Hid (Box wq (w.heap.size+1) #[.int .i64 0,.int .i64 0,.int .i64 0,.slice none 0 0,.slice none 0 0,.slice none 0 0,.slice none 0 0])∧Hid (Zw_ w wq)∧wq.heap.size=w1.heap.size∧Hid (Za8 v1.heap.size w1.heap.size wq (.slice b1 B.gs.length m1) B.gs)∧Hid (Za2 v0.heap.size w0.heap.size wq (.slice b0 B.os.length m0) B.os):=
  ⟨_,rfl,GX.out.set (k:=4) (.slice b1 B.gs.length m1) (by simp),GR.out.setFar (by simp only [];omega) _,GB.out.setCell (by simp only [];omega) _,by simp [World.setCell],GN.out.setLow (by simp only [];omega) _,G0.out.setLow (by simp only [];omega) _⟩
 rw [← hwq];clear hwq GX GR GB GN G0;have hz2:w.heap.size+2≤v2.heap.size:=by omega
 refine (ZjR lo _ B.ls _ (HL.out.below HB2.out).les hn2).mono ?_;rintro e w2 ⟨u2,rfl,hb2,hs2⟩;obtain⟨b2,m2,rfl⟩:=hs2.form;have GX:=Zab (HX2.out.on hb2);have GR:=Zab (HR2.out.on hb2);have GB:=Zab (HB2.out.trans (hb2.mono HB2.out.size));have GN:=Zab hs2;have hsz2:=hb2.size;have G0:=Zab (HS0.out.below hb2);have G1:=Zab (HS1.out.below hb2);clear hb2 hs2 HX2 HR2 HB2 HS0 HS1;have o0:=GX.out.cell 5;have f0:=GX.out.free 5;have x1:=GX.out.cell 6;simp at o0 f0 x1;go_wp2_with fail;clear o0 f0 x1
 obtain⟨v3,hwq,HX3,HR3,HB3,hq3,HS2,HS0,HS1⟩:∃ wq,wq=w2.setCell ⟨w.heap.size,5,none⟩ (.slice b2 B.ls.length m2)∧
  Hid (Box wq w.heap.size #[.int .i64 B.now,.int .i64 B.tick,.int .i64 B.given,.slice b0 B.os.length m0,.slice b1 B.gs.length m1,.slice b2 B.ls.length m2,.slice a3 B.ps.length k3])∧Hid (Box wq (w.heap.size+1) #[.int .i64 0,.int .i64 0,.int .i64 0,.slice none 0 0,.slice none 0 0,.slice none 0 0,.slice none 0 0])∧Hid (Zw_ w wq)∧wq.heap.size=w2.heap.size∧Hid (ZaO v2.heap.size w2.heap.size wq (.slice b2 B.ls.length m2) B.ls)∧Hid (Za2 v0.heap.size w0.heap.size wq (.slice b0 B.os.length m0) B.os)∧Hid (Za8 v1.heap.size w1.heap.size wq (.slice b1 B.gs.length m1) B.gs):=
  ⟨_,rfl,GX.out.set (k:=5) (.slice b2 B.ls.length m2) (by simp),GR.out.setFar (by simp only [];omega) _,GB.out.setCell (by simp only [];omega) _,by simp [World.setCell],GN.out.setLow (by simp only [];omega) _,G0.out.setLow (by simp only [];omega) _,G1.out.setLow (by simp only [];omega) _⟩
 rw [← hwq];clear hwq GX GR GB GN G0 G1;have hz3:w.heap.size+2≤v3.heap.size:=by omega
 refine (Zkb lo _ B.ps _ (HL.out.below HB3.out).pus hn3).mono ?_;rintro e w3 ⟨u3,rfl,hb3,hs3⟩;obtain⟨b3,m3,rfl⟩:=hs3.form;have GX:=Zab (HX3.out.on hb3);have GR:=Zab (HR3.out.on hb3);have GB:=Zab (HB3.out.trans (hb3.mono HB3.out.size));have GN:=Zab hs3;have hsz3:=hb3.size;have G0:=Zab (HS0.out.below hb3);have G1:=Zab (HS1.out.below hb3);have G2:=Zab (HS2.out.below hb3);clear hb3 hs3 HX3 HR3 HB3 HS0 HS1 HS2;have o0:=GX.out.cell 0;have o1:=GX.out.cell 1;have o2:=GX.out.cell 2;have o3:=GX.out.cell 3;have o4:=GX.out.cell 4;have o5:=GX.out.cell 5;have o6:=GX.out.cell 6;have f6:=GX.out.free 6;have r0:=GR.out.cell 0;have g0:=GR.out.free 0;have r1:=GR.out.cell 1;have g1:=GR.out.free 1;have r2:=GR.out.cell 2;have g2:=GR.out.free 2;have r3:=GR.out.cell 3;have g3:=GR.out.free 3;have r4:=GR.out.cell 4;have g4:=GR.out.free 4;have r5:=GR.out.cell 5;have g5:=GR.out.free 5
 have r6:=GR.out.cell 6;have g6:=GR.out.free 6;simp at o0 r0 o1 r1 o2 r2 o3 r3 o4 r4 o5 r5 o6 r6;go_wp2;refine bodyPost_ret (v:=.agg #[.int .i64 B.now,.int .i64 B.tick,.int .i64 B.given,.slice b0 B.os.length m0,.slice b1 B.gs.length m1,.slice b2 B.ls.length m2,.slice b3 B.ps.length m3]) (by simp [results,results108,go_sem,r0,r1,r2,r3,r4,r5,r6]) rfl ⟨_,_,_,_,_,_,_,_,rfl,?_,v0.heap.size,w0.heap.size,v1.heap.size,w1.heap.size,v2.heap.size,w2.heap.size,v3.heap.size,w3.heap.size,⟨?_,?_,?_,?_,by omega,by omega,by omega,by omega,by omega,by omega⟩,?_,?_,?_,?_⟩
 · repeat (refine Below.setCell ?_ (by simp only [];omega) _)
   exact GB.out
 · simp [World.setCell];omega
 · simp [World.setCell];omega
 · simp [World.setCell];omega
 · simp [World.setCell];omega
 · repeat (refine Za2.setLow ?_ (by simp only [];omega) _)
   exact G0.out
 · repeat (refine Za8.setLow ?_ (by simp only [];omega) _)
   exact G1.out
 · repeat (refine ZaO.setLow ?_ (by simp only [];omega) _)
   exact G2.out
 · repeat (refine Za5.setLow ?_ (by simp only [];omega) _)
   exact GN.out
end
end Go.Proofs.YtfohnageehneoaaGreat
