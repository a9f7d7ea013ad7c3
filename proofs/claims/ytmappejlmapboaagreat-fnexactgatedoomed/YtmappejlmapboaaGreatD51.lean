import Derived.Test.YtmappejlmapboaaGreatD48
set_option maxHeartbeats 16000000
set_option maxRecDepth 100000
open Go.Proofs.Tryz
namespace Go.Proofs.YtmappejlmapboaaGreat
open Go.RowKit Go.Deep
section
variable {hi:Nat} {v:Value}
theorem ZbW.setLow {lo:Nat}{w:World}{Xl:List Ob} (h:ZbW lo hi w v Xl) {p:Addr} (hp:p.block < lo) (u:Value):ZbW lo hi (w.setCell p u) v Xl:=h.touch (Zag.setCell p.block (p.block+1) w p u ⟨Nat.le_refl _,Nat.lt_succ_self _⟩) (Or.inr hp)
theorem Zb8.setLow {lo:Nat}{w:World}{Xl:List Gr} (h:Zb8 lo hi w v Xl) {p:Addr} (hp:p.block < lo) (u:Value):Zb8 lo hi (w.setCell p u) v Xl:=h.touch (Zag.setCell p.block (p.block+1) w p u ⟨Nat.le_refl _,Nat.lt_succ_self _⟩) (Or.inr hp)
theorem Zco.setLow {lo:Nat}{w:World}{Xl:List Le} (h:Zco lo hi w v Xl) {p:Addr} (hp:p.block < lo) (u:Value):Zco lo hi (w.setCell p u) v Xl:=h.touch (Zag.setCell p.block (p.block+1) w p u ⟨Nat.le_refl _,Nat.lt_succ_self _⟩) (Or.inr hp)
theorem Zcv.setLow {lo:Nat}{w:World}{Xl:List Pu} (h:Zcv lo hi w v Xl) {p:Addr} (hp:p.block < lo) (u:Value):Zcv lo hi (w.setCell p u) v Xl:=h.touch (Zag.setCell p.block (p.block+1) w p u ⟨Nat.le_refl _,Nat.lt_succ_self _⟩) (Or.inr hp)
section
variable (lo:Nat) (ov gv lv pv:Value) (B:Bk) (w:World)
theorem ZmJ (h:ZaU lo w ov gv lv pv B) (hn:Zbp B) :
 Calls prog 11 #[.agg #[.int .i64 B.now,.int .i64 B.tick,.int .i64 B.given,ov,gv,lv,pv]] w
  fun e w'=>∃ b0 m0 b1 m1 b2 m2 b3 m3,e=.returned (.agg #[.int .i64 B.now,.int .i64 B.tick,.int .i64 B.given,.slice b0 B.os.length m0,.slice b1 B.gs.length m1,.slice b2 B.ls.length m2,.slice b3 B.ps.length m3])/\Zw_ w w'/\
   Zde w.heap.size w'.heap.size w' (.slice b0 B.os.length m0) (.slice b1 B.gs.length m1) (.slice b2 B.ls.length m2) (.slice b3 B.ps.length m3) B:=by
 have HL:=Zab h;obtain⟨a0,k0,rfl⟩:=h.obs.form;obtain⟨a1,k1,rfl⟩:=h.grs.form;obtain⟨a2,k2,rfl⟩:=h.les.form;obtain⟨a3,k3,rfl⟩:=h.pus.form;obtain⟨hn0,hn1,hn2,hn3⟩:=hn;clear h;go_enter func11,ntmps11;go_wp2_with fail
 obtain⟨wz,hwz,HX0,HR0,HO0,HB0⟩:∃ wz,wz=((w.alloc (.cells #[.int .i64 B.now,.int .i64 B.tick,.int .i64 B.given,.slice a0 B.os.length k0,.slice a1 B.gs.length k1,.slice a2 B.ls.length k2,.slice a3 B.ps.length k3] 32)).alloc (.cells #[.int .i64 0,.int .i64 0,.int .i64 0,.slice none 0 0,.slice none 0 0,.slice none 0 0,.slice none 0 0] 48)).alloc (.cells #[.int .i64 B.now,.int .i64 B.tick,.int .i64 B.given,.slice none 0 0,.slice none 0 0,.slice none 0 0,.slice none 0 0] 48)/\
  Hd (Box wz w.heap.size #[.int .i64 B.now,.int .i64 B.tick,.int .i64 B.given,.slice a0 B.os.length k0,.slice a1 B.gs.length k1,.slice a2 B.ls.length k2,.slice a3 B.ps.length k3])/\Hd (Box wz (w.heap.size+1) #[.int .i64 0,.int .i64 0,.int .i64 0,.slice none 0 0,.slice none 0 0,.slice none 0 0,.slice none 0 0])/\Hd (Box wz (w.heap.size+1+1) #[.int .i64 B.now,.int .i64 B.tick,.int .i64 B.given,.slice none 0 0,.slice none 0 0,.slice none 0 0,.slice none 0 0])/\Hd (Zw_ w wz):=
  ⟨_,rfl,((Box.new w _ _ _ rfl).on (Zac _ _)).on (Zac _ _),(Box.new _ _ _ _ (by simp)).on (Zac _ _),Box.new _ _ _ _ (by simp),((Zac _ _).trans ((Zac _ _).mono (by simp))).trans ((Zac _ _).mono (by simp;omega))⟩
 rw [<- hwz];clear hwz;generalize wz=v0 at*;have hz0:w.heap.size+3<=v0.heap.size:=by have:=HO0.o.lt;omega
 refine (Zpb lo _ B.os _ (HL.o.below HB0.o).obs hn0).mono ?_;rintro e w0 ⟨u0,rfl,hb0,hs0⟩;obtain⟨b0,m0,rfl⟩:=hs0.form;have GX:=Zab (HX0.o.on hb0);have GR:=Zab (HR0.o.on hb0);have GO:=Zab (HO0.o.on hb0);have GB:=Zab (HB0.o.trans (hb0.mono HB0.o.size));have GN:=Zab hs0;have hsz0:=hb0.size;clear hb0 hs0 HX0 HR0 HO0 HB0;have o0:=GO.o.cell 3;have f0:=GO.o.free 3;have x1:=GX.o.cell 4;simp at o0 f0 x1;go_wp2_with fail;clear o0 f0 x1
 obtain⟨v1,hwq,HX1,HR1,HO1,HB1,hq1,HS0⟩:∃ wq,wq=w0.setCell ⟨w.heap.size+1+1,3,none⟩ (.slice b0 B.os.length m0)/\
  Hd (Box wq w.heap.size #[.int .i64 B.now,.int .i64 B.tick,.int .i64 B.given,.slice a0 B.os.length k0,.slice a1 B.gs.length k1,.slice a2 B.ls.length k2,.slice a3 B.ps.length k3])/\Hd (Box wq (w.heap.size+1) #[.int .i64 0,.int .i64 0,.int .i64 0,.slice none 0 0,.slice none 0 0,.slice none 0 0,.slice none 0 0])/\Hd (Box wq (w.heap.size+1+1) #[.int .i64 B.now,.int .i64 B.tick,.int .i64 B.given,.slice b0 B.os.length m0,.slice none 0 0,.slice none 0 0,.slice none 0 0])/\Hd (Zw_ w wq)/\wq.heap.size=w0.heap.size/\Hd (ZbW v0.heap.size w0.heap.size wq (.slice b0 B.os.length m0) B.os):=
  ⟨_,rfl,GX.o.setFar (by simp only [];omega) _,GR.o.setFar (by simp only [];omega) _,GO.o.set (k:=3) (.slice b0 B.os.length m0) (by simp),GB.o.setCell (by simp only [];omega) _,by simp [World.setCell],GN.o.setLow (by simp only [];omega) _⟩
 rw [<- hwq];clear hwq GX GR GO GB GN;have hz1:w.heap.size+3<=v1.heap.size:=by omega
 refine (Zo5 lo _ B.gs _ (HL.o.below HB1.o).grs hn1).mono ?_;rintro e w1 ⟨u1,rfl,hb1,hs1⟩;obtain⟨b1,m1,rfl⟩:=hs1.form;have GX:=Zab (HX1.o.on hb1);have GR:=Zab (HR1.o.on hb1);have GO:=Zab (HO1.o.on hb1);have GB:=Zab (HB1.o.trans (hb1.mono HB1.o.size));have GN:=Zab hs1;have hsz1:=hb1.size;have G0:=Zab (HS0.o.below hb1);clear hb1 hs1 HX1 HR1 HO1 HB1 HS0;have o0:=GO.o.cell 4;have f0:=GO.o.free 4;have x1:=GX.o.cell 5;simp at o0 f0 x1;go_wp2_with fail;clear o0 f0 x1
 obtain⟨v2,hwq,HX2,HR2,HO2,HB2,hq2,HS1,HS0⟩:∃ wq,wq=w1.setCell ⟨w.heap.size+1+1,4,none⟩ (.slice b1 B.gs.length m1)/\
  Hd (Box wq w.heap.size #[.int .i64 B.now,.int .i64 B.tick,.int .i64 B.given,.slice a0 B.os.length k0,.slice a1 B.gs.length k1,.slice a2 B.ls.length k2,.slice a3 B.ps.length k3])/\Hd (Box wq (w.heap.size+1) #[.int .i64 0,.int .i64 0,.int .i64 0,.slice none 0 0,.slice none 0 0,.slice none 0 0,.slice none 0 0])/\Hd (Box wq (w.heap.size+1+1) #[.int .i64 B.now,.int .i64 B.tick,.int .i64 B.given,.slice b0 B.os.length m0,.slice b1 B.gs.length m1,.slice none 0 0,.slice none 0 0])/\Hd (Zw_ w wq)/\wq.heap.size=w1.heap.size/\Hd (Zb8 v1.heap.size w1.heap.size wq (.slice b1 B.gs.length m1) B.gs)/\Hd (ZbW v0.heap.size w0.heap.size wq (.slice b0 B.os.length m0) B.os):=
  ⟨_,rfl,GX.o.setFar (by simp only [];omega) _,GR.o.setFar (by simp only [];omega) _,GO.o.set (k:=4) (.slice b1 B.gs.length m1) (by simp),GB.o.setCell (by simp only [];omega) _,by simp [World.setCell],GN.o.setLow (by simp only [];omega) _,G0.o.setLow (by simp only [];omega) _⟩
 rw [<- hwq];clear hwq GX GR GO GB GN G0;have hz2:w.heap.size+3<=v2.heap.size:=by omega
 refine (Zo8 lo _ B.ls _ (HL.o.below HB2.o).les hn2).mono ?_;rintro e w2 ⟨u2,rfl,hb2,hs2⟩;obtain⟨b2,m2,rfl⟩:=hs2.form;have GX:=Zab (HX2.o.on hb2);have GR:=Zab (HR2.o.on hb2);have GO:=Zab (HO2.o.on hb2);have GB:=Zab (HB2.o.trans (hb2.mono HB2.o.size));have GN:=Zab hs2;have hsz2:=hb2.size;have G0:=Zab (HS0.o.below hb2);have G1:=Zab (HS1.o.below hb2);clear hb2 hs2 HX2 HR2 HO2 HB2 HS0 HS1;have o0:=GO.o.cell 5;have f0:=GO.o.free 5;have x1:=GX.o.cell 6;simp at o0 f0 x1;go_wp2_with fail;clear o0 f0 x1
 obtain⟨v3,hwq,HX3,HR3,HO3,HB3,hq3,HS2,HS0,HS1⟩:∃ wq,wq=w2.setCell ⟨w.heap.size+1+1,5,none⟩ (.slice b2 B.ls.length m2)/\
  Hd (Box wq w.heap.size #[.int .i64 B.now,.int .i64 B.tick,.int .i64 B.given,.slice a0 B.os.length k0,.slice a1 B.gs.length k1,.slice a2 B.ls.length k2,.slice a3 B.ps.length k3])/\Hd (Box wq (w.heap.size+1) #[.int .i64 0,.int .i64 0,.int .i64 0,.slice none 0 0,.slice none 0 0,.slice none 0 0,.slice none 0 0])/\Hd (Box wq (w.heap.size+1+1) #[.int .i64 B.now,.int .i64 B.tick,.int .i64 B.given,.slice b0 B.os.length m0,.slice b1 B.gs.length m1,.slice b2 B.ls.length m2,.slice none 0 0])/\Hd (Zw_ w wq)/\wq.heap.size=w2.heap.size/\Hd (Zco v2.heap.size w2.heap.size wq (.slice b2 B.ls.length m2) B.ls)/\Hd (ZbW v0.heap.size w0.heap.size wq (.slice b0 B.os.length m0) B.os)/\Hd (Zb8 v1.heap.size w1.heap.size wq (.slice b1 B.gs.length m1) B.gs):=
  ⟨_,rfl,GX.o.setFar (by simp only [];omega) _,GR.o.setFar (by simp only [];omega) _,GO.o.set (k:=5) (.slice b2 B.ls.length m2) (by simp),GB.o.setCell (by simp only [];omega) _,by simp [World.setCell],GN.o.setLow (by simp only [];omega) _,G0.o.setLow (by simp only [];omega) _,G1.o.setLow (by simp only [];omega) _⟩
 rw [<- hwq];clear hwq GX GR GO GB GN G0 G1;have hz3:w.heap.size+3<=v3.heap.size:=by omega
 refine (Zpc lo _ B.ps _ (HL.o.below HB3.o).pus hn3).mono ?_;rintro e w3 ⟨u3,rfl,hb3,hs3⟩;obtain⟨b3,m3,rfl⟩:=hs3.form;have GX:=Zab (HX3.o.on hb3);have GR:=Zab (HR3.o.on hb3);have GO:=Zab (HO3.o.on hb3);have GB:=Zab (HB3.o.trans (hb3.mono HB3.o.size));have GN:=Zab hs3;have hsz3:=hb3.size;have G0:=Zab (HS0.o.below hb3);have G1:=Zab (HS1.o.below hb3);have G2:=Zab (HS2.o.below hb3);clear hb3 hs3 HX3 HR3 HO3 HB3 HS0 HS1 HS2;have o0:=GO.o.cell 0;have o1:=GO.o.cell 1;have o2:=GO.o.cell 2;have o3:=GO.o.cell 3;have o4:=GO.o.cell 4;have o5:=GO.o.cell 5;have o6:=GO.o.cell 6;have f6:=GO.o.free 6;have r0:=GR.o.cell 0;have g0:=GR.o.free 0;have r1:=GR.o.cell 1;have g1:=GR.o.free 1;have r2:=GR.o.cell 2;have g2:=GR.o.free 2;have r3:=GR.o.cell 3;have g3:=GR.o.free 3;have r4:=GR.o.cell 4;have g4:=GR.o.free 4;have r5:=GR.o.cell 5
 have g5:=GR.o.free 5;have r6:=GR.o.cell 6;have g6:=GR.o.free 6;simp at o0 r0 o1 r1 o2 r2 o3 r3 o4 r4 o5 r5 o6 r6;go_wp2;refine bodyPost_ret (v:=.agg #[.int .i64 B.now,.int .i64 B.tick,.int .i64 B.given,.slice b0 B.os.length m0,.slice b1 B.gs.length m1,.slice b2 B.ls.length m2,.slice b3 B.ps.length m3]) (by simp [results,results11,go_sem,r0,r1,r2,r3,r4,r5,r6]) rfl ⟨_,_,_,_,_,_,_,_,rfl,?_,v0.heap.size,w0.heap.size,v1.heap.size,w1.heap.size,v2.heap.size,w2.heap.size,v3.heap.size,w3.heap.size,⟨?_,?_,?_,?_,by omega,by omega,by omega,by omega,by omega,by omega⟩,?_,?_,?_,?_⟩
 . repeat (refine Below.setCell ?_ (by simp only [];omega) _)
   exact GB.o
 . simp [World.setCell];omega
 . simp [World.setCell];omega
 . simp [World.setCell];omega
 . simp [World.setCell];omega
 . repeat (refine ZbW.setLow ?_ (by simp only [];omega) _)
   exact G0.o
 . repeat (refine Zb8.setLow ?_ (by simp only [];omega) _)
   exact G1.o
 . repeat (refine Zco.setLow ?_ (by simp only [];omega) _)
   exact G2.o
 . repeat (refine Zcv.setLow ?_ (by simp only [];omega) _)
   exact GN.o
end
end
variable {w':World} {v:Value}
theorem ZbS.set' (lo hi:Nat) (w:World) (p:Addr) (u:Value) (h:lo<=p.block/\p.block < hi):ZbS lo hi w (w.setCell p u):=by
 by_cases hc:(w.cell? p).isSome=true
 . exact ZbS.setCell lo hi w p u h hc
 . refine⟨Zag.setCell lo hi w p u h,fun q _ hq=>?_,fun q _=>by rw [World.frozen?_setCell]⟩
   have hne:q≠p:=fun e=>hc (e ▸ hq)
   rw [show (w.setCell p u).cell? q=w.cell? q from by apply World.cell?_setCell_other;first | exact hne | exact hne.symm];exact hq
theorem ZrA.far {lo hi lo' hi':Nat}{w:World}{n:Nat} (h:ZrA lo hi w v n) (k:ZbS lo' hi' w w') (ho:hi'<=lo\/hi<=lo'):ZrA lo hi w' v n:=by
 rcases h with h | ⟨b,off,cap,m,h1,h2,h3,h4,h5,h6,h7,h8,h9⟩
 . exact Or.inl h
 . refine Or.inr ⟨b,off,cap,m,h1,h2,h3,h4,h5,h6,h7,h8,fun i hi hj=>?_⟩
   obtain⟨fv,nf,hs,hf,hn⟩:=h9 i hi hj;have g1:=h7 0 i Zz_;have g2:=h7 (i+1) n (by omega);refine⟨fv,nf,⟨Zk_ hs.lt k.touch.size,k.there _ hs.lt hs.c0,(k.touch.cell (p:=⟨b,off+i*2+1,none⟩) hs.lt (by simp only [];omega)).trans hs.one,fun i=>(k.frz _ hs.lt).trans (hs.fr i)⟩,hf.kept k (by omega),hn⟩
def Znu (lo hi:Nat) (w:World) (v:Value) (Ss:List Sh):Prop:=ZaI lo w v Ss/\ZrA lo hi w v Ss.length
def Zpt (lo hi:Nat) (w:World) (v:Value) (Ms:List Md):Prop:=Zbe lo w v Ms/\Zrz lo hi w v Ms.length
theorem Znu.below {lo hi:Nat}{w:World}{Ss:List Sh} (h:Znu lo hi w v Ss) (hb:Zw_ w w'):Znu lo hi w' v Ss:=⟨h.1.below hb,h.2.below hb⟩
theorem Zpt.below {lo hi:Nat}{w:World}{Ms:List Md} (h:Zpt lo hi w v Ms) (hb:Zw_ w w'):Zpt lo hi w' v Ms:=⟨h.1.below hb,h.2.below hb⟩
theorem Znu.setLow {lo hi:Nat}{w:World}{Ss:List Sh} (h:Znu lo hi w v Ss) {p:Addr} (hp:p.block < lo) (u:Value):Znu lo hi (w.setCell p u) v Ss:=⟨h.1.set' hp u,h.2.far (ZbS.set' p.block (p.block+1) w p u ⟨Nat.le_refl _,Nat.lt_succ_self _⟩) (Or.inl hp)⟩
theorem Zpt.setLow {lo hi:Nat}{w:World}{Ms:List Md} (h:Zpt lo hi w v Ms) {p:Addr} (hp:p.block < lo) (u:Value):Zpt lo hi (w.setCell p u) v Ms:=⟨h.1.setCell hp u,h.2.kept (ZbS.set' p.block (p.block+1) w p u ⟨Nat.le_refl _,Nat.lt_succ_self _⟩)⟩
theorem Znu.form {lo hi:Nat}{w:World}{Ss:List Sh} (h:Znu lo hi w v Ss):∃ a cap,v=.slice a Ss.length cap:=h.1.form
theorem Zpt.form {lo hi:Nat}{w:World}{Ms:List Md} (h:Zpt lo hi w v Ms):∃ a cap,v=.slice a Ms.length cap:=h.1.form
theorem Zcp.setLow {lo hi:Nat}{w:World}{Xl:List Tm} (h:Zcp lo hi w v Xl) {p:Addr} (hp:p.block < lo) (u:Value):Zcp lo hi (w.setCell p u) v Xl:=h.touch (Zag.setCell p.block (p.block+1) w p u ⟨Nat.le_refl _,Nat.lt_succ_self _⟩) (Or.inr hp)
def Zhu (lo hi:Nat) (w:World) (sv mv tv:Value) (Ss:List Sh) (Ms:List Md) (Ts:List Tm):Prop:=
 ∃ s0 s1 m0 m1 t0 t1:Nat,(lo<=s0/\s1<=hi)/\(lo<=m0/\m1<=hi)/\(lo<=t0/\t1<=hi)/\s1<=t0/\m1<=t0/\Znu s0 s1 w sv Ss/\Zpt m0 m1 w mv Ms/\Zcp t0 t1 w tv Ts
theorem Zhu.at {lo hi:Nat}{w:World}{sv mv tv:Value}{Ss:List Sh}{Ms:List Md}{Ts:List Tm} (h:Zhu lo hi w sv mv tv Ss Ms Ts):ZbH lo w sv mv tv Ss Ms Ts:=by
 obtain⟨s0,s1,m0,m1,t0,t1,g1,g2,g3,-,-,h1,h2,h3⟩:=h;exact⟨h1.1.mono g1.1,h2.1.mono g2.1,h3.at.mono g3.1⟩
theorem Zhu.below {lo hi:Nat}{w:World}{sv mv tv:Value}{Ss:List Sh}{Ms:List Md}{Ts:List Tm} (h:Zhu lo hi w sv mv tv Ss Ms Ts) (hb:Zw_ w w'):Zhu lo hi w' sv mv tv Ss Ms Ts:=by
 obtain⟨s0,s1,m0,m1,t0,t1,g1,g2,g3,g4,g5,h1,h2,h3⟩:=h;exact⟨s0,s1,m0,m1,t0,t1,g1,g2,g3,g4,g5,h1.below hb,h2.below hb,h3.below hb⟩
section
variable (lo hi:Nat) (sv mv tv:Value) (Ss:List Sh) (Ms:List Md) (Ts:List Tm) (w:World)
theorem Zo7 (h:ZbH lo w sv mv tv Ss Ms Ts) (hn:ZfU Ss Ms Ts) :
 Calls prog 10 #[.agg #[sv,mv,tv]] w
  fun e w'=>∃ b0 m0 b1 m1 b2 m2,e=.returned (.agg #[.slice b0 Ss.length m0,.slice b1 Ms.length m1,.slice b2 Ts.length m2])/\Zw_ w w'/\
   Zhu w.heap.size w'.heap.size w' (.slice b0 Ss.length m0) (.slice b1 Ms.length m1) (.slice b2 Ts.length m2) Ss Ms Ts:=by
 have HL:=Zab h;obtain⟨a0,k0,rfl⟩:=h.shs.form;obtain⟨a1,k1,rfl⟩:=h.mds.form;obtain⟨a2,k2,rfl⟩:=h.tms.form;clear h;go_enter func10,ntmps10;go_wp2_with fail
 obtain⟨wz,hwz,HX0,HR0,HO0,HB0⟩:∃ wz,wz=((w.alloc (.cells #[.slice a0 Ss.length k0,.slice a1 Ms.length k1,.slice a2 Ts.length k2] 26)).alloc (.cells #[.slice none 0 0,.slice none 0 0,.slice none 0 0] 41)).alloc (.cells #[.slice none 0 0,.slice none 0 0,.slice none 0 0] 41)/\
  Hd (Box wz w.heap.size #[.slice a0 Ss.length k0,.slice a1 Ms.length k1,.slice a2 Ts.length k2])/\Hd (Box wz (w.heap.size+1) #[.slice none 0 0,.slice none 0 0,.slice none 0 0])/\Hd (Box wz (w.heap.size+1+1) #[.slice none 0 0,.slice none 0 0,.slice none 0 0])/\Hd (Zw_ w wz):=
  ⟨_,rfl,((Box.new w _ _ _ rfl).on (Zac _ _)).on (Zac _ _),(Box.new _ _ _ _ (by simp)).on (Zac _ _),Box.new _ _ _ _ (by simp),((Zac _ _).trans ((Zac _ _).mono (by simp))).trans ((Zac _ _).mono (by simp;omega))⟩
 rw [<- hwz];clear hwz;generalize wz=v0 at*;have hz0:w.heap.size+3<=v0.heap.size:=by have:=HO0.o.lt;omega
 refine (Zpe lo _ Ss _ (HL.o.below HB0.o).shs hn.1).mono ?_;rintro e w0 ⟨u0,rfl,hb0,hs0a,hs0b⟩;have hs0:Znu v0.heap.size w0.heap.size w0 u0 Ss:=⟨hs0a,hs0b⟩;obtain⟨b0,m0,rfl⟩:=hs0.form;have GX:=Zab (HX0.o.on hb0);have GR:=Zab (HR0.o.on hb0);have GO:=Zab (HO0.o.on hb0);have GB:=Zab (HB0.o.trans (hb0.mono HB0.o.size));have GN:=Zab hs0;have hsz0:=hb0.size;clear hb0 hs0 HX0 HR0 HO0 HB0 hs0a hs0b;have o0:=GO.o.cell 0;have f0:=GO.o.free 0;have x1:=GX.o.cell 1;simp at o0 f0 x1;go_wp2_with fail;clear o0 f0 x1
 obtain⟨v1,hwq,HX1,HR1,HO1,HB1,hq1,HS0⟩:∃ wq,wq=w0.setCell ⟨w.heap.size+1+1,0,none⟩ (.slice b0 Ss.length m0)/\
  Hd (Box wq w.heap.size #[.slice a0 Ss.length k0,.slice a1 Ms.length k1,.slice a2 Ts.length k2])/\Hd (Box wq (w.heap.size+1) #[.slice none 0 0,.slice none 0 0,.slice none 0 0])/\Hd (Box wq (w.heap.size+1+1) #[.slice b0 Ss.length m0,.slice none 0 0,.slice none 0 0])/\Hd (Zw_ w wq)/\wq.heap.size=w0.heap.size/\Hd (Znu v0.heap.size w0.heap.size wq (.slice b0 Ss.length m0) Ss):=
  ⟨_,rfl,GX.o.setFar (by simp only [];omega) _,GR.o.setFar (by simp only [];omega) _,GO.o.set (k:=0) (.slice b0 Ss.length m0) (by simp),GB.o.setCell (by simp only [];omega) _,by simp [World.setCell],GN.o.setLow (by simp only [];omega) _⟩
 rw [<- hwq];clear hwq GX GR GO GB GN;have hz1:w.heap.size+3<=v1.heap.size:=by omega
 refine (Zjq lo _ Ms _ (HL.o.below HB1.o).mds hn.2.1).mono ?_;rintro e w1 ⟨u1,rfl,hb1,hs1a,hs1b⟩;have hs1:Zpt v1.heap.size w1.heap.size w1 u1 Ms:=⟨hs1a,hs1b⟩;obtain⟨b1,m1,rfl⟩:=hs1.form;have GX:=Zab (HX1.o.on hb1);have GR:=Zab (HR1.o.on hb1);have GO:=Zab (HO1.o.on hb1);have GB:=Zab (HB1.o.trans (hb1.mono HB1.o.size));have GN:=Zab hs1;have hsz1:=hb1.size;have G0:=Zab (HS0.o.below hb1);clear hb1 hs1 HX1 HR1 HO1 HB1 HS0 hs1a hs1b;have o0:=GO.o.cell 1;have f0:=GO.o.free 1;have x1:=GX.o.cell 2;simp at o0 f0 x1;go_wp2_with fail;clear o0 f0 x1
 obtain⟨v2,hwq,HX2,HR2,HO2,HB2,hq2,HS1,HS0⟩:∃ wq,wq=w1.setCell ⟨w.heap.size+1+1,1,none⟩ (.slice b1 Ms.length m1)/\
  Hd (Box wq w.heap.size #[.slice a0 Ss.length k0,.slice a1 Ms.length k1,.slice a2 Ts.length k2])/\Hd (Box wq (w.heap.size+1) #[.slice none 0 0,.slice none 0 0,.slice none 0 0])/\Hd (Box wq (w.heap.size+1+1) #[.slice b0 Ss.length m0,.slice b1 Ms.length m1,.slice none 0 0])/\Hd (Zw_ w wq)/\wq.heap.size=w1.heap.size/\Hd (Zpt v1.heap.size w1.heap.size wq (.slice b1 Ms.length m1) Ms)/\Hd (Znu v0.heap.size w0.heap.size wq (.slice b0 Ss.length m0) Ss):=
  ⟨_,rfl,GX.o.setFar (by simp only [];omega) _,GR.o.setFar (by simp only [];omega) _,GO.o.set (k:=1) (.slice b1 Ms.length m1) (by simp),GB.o.setCell (by simp only [];omega) _,by simp [World.setCell],GN.o.setLow (by simp only [];omega) _,G0.o.setLow (by simp only [];omega) _⟩
 rw [<- hwq];clear hwq GX GR GO GB GN G0;have hz2:w.heap.size+3<=v2.heap.size:=by omega
 refine (Zpf lo _ Ts _ (HL.o.below HB2.o).tms (Zdx.of hn.2.2)).mono ?_;rintro e w2 ⟨u2,rfl,hb2,hs2⟩;have hs2:Zcp v2.heap.size w2.heap.size w2 u2 Ts:=hs2;obtain⟨b2,m2,rfl⟩:=hs2.form;have GX:=Zab (HX2.o.on hb2);have GR:=Zab (HR2.o.on hb2);have GO:=Zab (HO2.o.on hb2);have GB:=Zab (HB2.o.trans (hb2.mono HB2.o.size));have GN:=Zab hs2;have hsz2:=hb2.size;have G0:=Zab (HS0.o.below hb2);have G1:=Zab (HS1.o.below hb2);clear hb2 hs2 HX2 HR2 HO2 HB2 HS0 HS1;have o0:=GO.o.cell 0;have o1:=GO.o.cell 1;have o2:=GO.o.cell 2;have f2:=GO.o.free 2;have r0:=GR.o.cell 0;have g0:=GR.o.free 0;have r1:=GR.o.cell 1;have g1:=GR.o.free 1;have r2:=GR.o.cell 2;have g2:=GR.o.free 2;simp at o0 o1 o2 r0 r1 r2;go_wp2
 refine bodyPost_ret (v:=.agg #[.slice b0 Ss.length m0,.slice b1 Ms.length m1,.slice b2 Ts.length m2]) (by simp [results,results10,go_sem,r0,r1,r2]) rfl ⟨_,_,_,_,_,_,rfl,?_,v0.heap.size,w0.heap.size,v1.heap.size,w1.heap.size,v2.heap.size,w2.heap.size,?_,?_,?_,by omega,by omega,?_,?_,?_⟩
 . repeat (refine Below.setCell ?_ (by simp only [];omega) _)
   exact GB.o
 . simp [World.setCell];omega
 . simp [World.setCell];omega
 . simp [World.setCell];omega
 . repeat (refine Znu.setLow ?_ (by simp only [];omega) _)
   exact G0.o
 . repeat (refine Zpt.setLow ?_ (by simp only [];omega) _)
   exact G1.o
 . repeat (refine Zcp.setLow ?_ (by simp only [];omega) _)
   exact GN.o
theorem Zmh (h:Zhu lo hi w sv mv tv Ss Ms Ts) (hn:ZfU Ss Ms Ts) (hhi:hi<=w.heap.size) :
 Calls prog 16 #[.agg #[sv,mv,tv],.int .i64 1] w fun e w'=>∃ r:Int,e=.returned (.int .i64 r)/\1<=r/\r<=1700000000000000000/\Zag lo hi w w':=by
 obtain⟨s0,s1,m0,m1,t0,t1,⟨y1,y2⟩,⟨y3,y4⟩,⟨y5,y6⟩,y7,y8,h1,h2,h3⟩:=h;have hn1:=hn.1.1;have hn2:=hn.2.1;have hn3:=hn.2.2;have HT3:Hd (Zdx Ts):=Zdx.of hn3;have zt:=Zne HT3.o (i:=Ts.length) Zl_;have H1:=Zab h1.2;have H2:=Zab h2.2;have H3:=Zab h3;obtain⟨a0,k0,rfl⟩:=h1.form;obtain⟨a1,k1,rfl⟩:=h2.form;obtain⟨a2,k2,rfl⟩:=h3.form;clear h1 h2 h3 hn;go_enter func16,ntmps16;go_wp2_with fail;generalize hWa:w.alloc _=Wa;have hb:Zw_ w Wa:=by rw [<- hWa];exact Zac w _
 have HX0:Hd (Box Wa w.heap.size #[.slice a0 Ss.length k0,.slice a1 Ms.length k1,.slice a2 Ts.length k2]):=by rw [<- hWa];exact Box.new _ _ _ _ rfl
 have HT0:Hd (Zag lo hi w Wa):=Zag.below hb;replace H1:=Zab (H1.o.below hb);replace H2:=Zab (H2.o.below hb);replace H3:=Zab (H3.o.below hb);clear hWa hb;refine (Zmm s0 s1 _ Ss.length _ _ H1.o (by omega) hn1 (by omega)).mono ?_;rintro e w1 ⟨r1,rfl,p1,p2,ht1⟩;have HX1:=Zab (HX0.o.touch ht1.touch (by omega));have HT1:Hd (Zag lo hi w w1):=HT0.o.trans (ht1.touch.wide (by omega) (by omega));replace H2:=Zab (H2.o.kept ht1);replace H3:=Zab (H3.o.touch ht1.touch (by omega));clear ht1 HX0 HT0 H1;have c1:=HX1.o.cell 1;simp at c1;go_wp2_with fail;clear c1;refine (Zmj m0 m1 _ Ms.length _ _ H2.o (by omega) hn2 (by omega)).mono ?_;rintro e w2 ⟨r2,rfl,p3,p4,ht2⟩;have HX2:=Zab (HX1.o.touch ht2.touch (by omega));have HT2:Hd (Zag lo hi w w2):=HT1.o.trans (ht2.touch.wide (by omega) (by omega));replace H3:=Zab (H3.o.touch ht2.touch (by omega))
 clear ht2 HX1 HT1 H2;have c2:=HX2.o.cell 2;simp at c2;go_wp2_with fail;clear c2;refine (Zmn t0 t1 _ Ts _ _ H3.o HT3.o (by omega) (by omega)).mono ?_;rintro e w3 ⟨rfl,ht3,-⟩;have HT4:Hd (Zag lo hi w w3):=HT2.o.trans (ht3.wide (by omega) (by omega));clear ht3 HX2 HT2 H3;go_wp2;go_ret;exact⟨_,rfl,by omega,by omega,HT4.o⟩
end
end Go.Proofs.YtmappejlmapboaaGreat
