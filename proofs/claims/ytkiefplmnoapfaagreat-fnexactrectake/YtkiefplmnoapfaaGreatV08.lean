import Derived.Test.YtkiefplmnoapfaaGreatV06
import Derived.Test.YtkiefplmnoapfaaGreatV07
import Derived.Maps.AppendAt
import Derived.ArgAppend
set_option maxHeartbeats 16000000
set_option maxRecDepth 100000
open Go.Proofs.Tryz
namespace Go.Proofs.YtkiefplmnoapfaaGreat
open Go.RowKit Go.Deep
section
variable {w w' v wr v':World} {b o n d0 d1 lo hi c0 c1 off lo' hi':Nat} {x y:Rm} {vv0:Value} {Xl:List Rm}
structure Zgv (x:Rm):Prop where
 s0:x.tx.size<=maxLen
structure Zcy (w:World) (b o:Nat) (x:Rm) (vv0:Value):Prop where
 c0:w.cell? ⟨b,o,none⟩=some (.int .i64 x.kd)
 c1:w.cell? ⟨b,o+1,none⟩=some (.int .i64 x.fr)
 c2:w.cell? ⟨b,o+2,none⟩=some (.int .i64 x.tt)
 c3:w.cell? ⟨b,o+3,none⟩=some (.int .i64 x.ba)
 c4:w.cell? ⟨b,o+4,none⟩=some (.int .i64 x.ix)
 c5:w.cell? ⟨b,o+5,none⟩=some (.int .i64 x.kn)
 c6:w.cell? ⟨b,o+6,none⟩=some (.string x.tx)
 c7:w.cell? ⟨b,o+7,none⟩=some vv0
theorem Zcy.below (h:Zcy w b o x vv0) {m:Nat} (hb:Below m w w') (hlt:b < m):Zcy w' b o x vv0:=by
 have e:∀ o,w'.cell? ⟨b,o,none⟩=w.cell? ⟨b,o,none⟩:=fun o=>hb.cell (p:=⟨b,o,none⟩) hlt
 exact⟨by rw [e];exact h.c0,by rw [e];exact h.c1,by rw [e];exact h.c2,by rw [e];exact h.c3,by rw [e];exact h.c4,by rw [e];exact h.c5,by rw [e];exact h.c6,by rw [e];exact h.c7⟩
theorem Zcy.rng {a:Option Addr}{k:Nat} (h:Zcy w b o x (.slice a x.sl.length k)):w.rangeAt b o (rmL x a k):=fun j v hv=>by
 match j,hv with
 | 0,hv=>cases hv;exact h.c0
 | 1,hv=>cases hv;exact h.c1
 | 2,hv=>cases hv;exact h.c2
 | 3,hv=>cases hv;exact h.c3
 | 4,hv=>cases hv;exact h.c4
 | 5,hv=>cases hv;exact h.c5
 | 6,hv=>cases hv;exact h.c6
 | 7,hv=>cases hv;exact h.c7
theorem Zap.near {v:Value}{Xl:List Rs} (h:Zap lo hi w v Xl) (hn:Zcc b o n d0 d1 w w') (hi':hi<=d0\/d1<=lo) (hb:b < lo\/hi<=b):Zap lo hi w' v Xl:=by
 rcases h with h | ⟨b',off,cap,c,X,h1,h2,h3,h4,h5,h6⟩
 . exact Or.inl h
 . refine Or.inr ⟨b',off,cap,c,X,h1,h2,h3,h4,h5,?_⟩
   have k1:=h6.low;have k2:=h6.bh;have hbk:w'.heap[b']?=w.heap[b']?:=hn.block b' h6.lt (by omega) (by omega);have e:∀ i,w'.cell? ⟨b',i,none⟩=w.cell? ⟨b',i,none⟩:=fun i=>World.cell?_of_block hbk
   refine⟨Zk_ h6.lt hn.size,h6.low,h6.bc,h6.bh,h6.mono,h6.top,fun i=>(World.frozen?_of_block hbk).trans (h6.frz i),fun i hi''=>?_⟩;obtain⟨hs,hc⟩:=h6.row i hi'';obtain⟨q0,q1⟩:=hc;exact⟨hs,(e _).trans q0,(e _).trans q1⟩
theorem Zib (L:List Rs):∀ i,i<=L.length->Zbo L i=2*i:=by
 intro i
 induction i with
 | zero=>intro _;simp [Zbo]
 | succ i ih=>
  intro h;rw [Zc1 (by omega),ih (by omega)];unfold Zku
  omega
theorem ZeK (L:List Rs):Zbo L L.length=2*L.length:=Zib L _ Zl_
def ZcN (b o c0 c1:Nat) (w:World) (x:Rm):Prop:=Zgv x/\∃ (vv0:Value),c0<=c1/\Zcy w b o x vv0/\Zap c0 c1 w vv0 x.sl
theorem ZcN.near {o1:Nat} (h:ZcN b o c0 c1 w x) (hn:Zcc b o1 8 d0 d1 w w') (ho:o+8<=o1\/o1+8<=o) (hi:c1<=d0\/d1<=c0) (hb:b < c0\/c1<=b):ZcN b o c0 c1 w' x:=by
 obtain⟨hs,vv0,q0,hc,l0⟩:=h;obtain⟨h0,h1,h2,h3,h4,h5,h6,h7⟩:=hc;have e:∀ t,t < 8->w'.cell? ⟨b,o+t,none⟩=w.cell? ⟨b,o+t,none⟩:=fun t ht=>hn.cell _ (by omega)
 have e0:w'.cell? ⟨b,o,none⟩=w.cell? ⟨b,o,none⟩:=hn.cell _ (by omega);exact⟨hs,vv0,q0,⟨e0.trans h0,(e 1 (by omega)).trans h1,(e 2 (by omega)).trans h2,(e 3 (by omega)).trans h3,(e 4 (by omega)).trans h4,(e 5 (by omega)).trans h5,(e 6 (by omega)).trans h6,(e 7 (by omega)).trans h7⟩,l0.near hn (by omega) (by omega)⟩
theorem ZcN.touch (h:ZcN b o c0 c1 w x) (ht:Zad lo hi w w') (hlt:b < w.heap.size) (hb:b < lo\/hi<=b) (hi':c1<=lo\/hi<=c0):ZcN b o c0 c1 w' x:=by
 obtain⟨hs,vv0,q0,hc,l0⟩:=h;obtain⟨h0,h1,h2,h3,h4,h5,h6,h7⟩:=hc;exact⟨hs,vv0,q0,⟨(ht.cell (p:=⟨b,o,none⟩) hlt hb).trans h0,(ht.cell (p:=⟨b,o+1,none⟩) hlt hb).trans h1,(ht.cell (p:=⟨b,o+2,none⟩) hlt hb).trans h2,(ht.cell (p:=⟨b,o+3,none⟩) hlt hb).trans h3,(ht.cell (p:=⟨b,o+4,none⟩) hlt hb).trans h4,(ht.cell (p:=⟨b,o+5,none⟩) hlt hb).trans h5,(ht.cell (p:=⟨b,o+6,none⟩) hlt hb).trans h6,(ht.cell (p:=⟨b,o+7,none⟩) hlt hb).trans h7⟩,l0.touch ht (by omega)⟩
theorem ZcN.below (h:ZcN b o c0 c1 w x) (ht:Zw_ w w') (hlt:b < w.heap.size):ZcN b o c0 c1 w' x:=by
 obtain⟨hs,vv0,q0,hc,l0⟩:=h;obtain⟨h0,h1,h2,h3,h4,h5,h6,h7⟩:=hc;exact⟨hs,vv0,q0,⟨(ht.cell (p:=⟨b,o,none⟩) hlt).trans h0,(ht.cell (p:=⟨b,o+1,none⟩) hlt).trans h1,(ht.cell (p:=⟨b,o+2,none⟩) hlt).trans h2,(ht.cell (p:=⟨b,o+3,none⟩) hlt).trans h3,(ht.cell (p:=⟨b,o+4,none⟩) hlt).trans h4,(ht.cell (p:=⟨b,o+5,none⟩) hlt).trans h5,(ht.cell (p:=⟨b,o+6,none⟩) hlt).trans h6,(ht.cell (p:=⟨b,o+7,none⟩) hlt).trans h7⟩,l0.below ht⟩
structure Zdl (lo hi:Nat) (w:World) (b off n:Nat) (c:Nat->Nat×Nat) (X:Nat->Rm):Prop where
 lt:b < w.heap.size
 low:lo<=b
 bh:b < hi
 seg:∀ i,i < n->lo<=(c i).1/\(c i).2<=hi/\(b < (c i).1\/(c i).2<=b)
 ap:∀ i j,i < n->j < n->i≠j->(c i).2<=(c j).1\/(c j).2<=(c i).1
 frz:∀ i,w.frozen? ⟨b,i,none⟩=false
 row:∀ i,i < n->ZcN b (off+i*8) (c i).1 (c i).2 w (X i)
theorem Zdl.near {c:Nat->Nat×Nat}{X:Nat->Rm} (h:Zdl lo hi w b off n c X) {j:Nat} (hj:j < n) (hn:Zcc b (off+j*8) 8 (c j).1 (c j).2 w w') {x:Rm} (hx:ZcN b (off+j*8) (c j).1 (c j).2 w' x):Zdl lo hi w' b off n c (fun i=>if i=j then x else X i):=by
 refine⟨Zk_ h.lt hn.size,h.low,h.bh,h.seg,h.ap,fun i=>(hn.frz i).trans (h.frz i),fun i hi'=>?_⟩
 by_cases e:i=j
 . subst e;rw [if_pos rfl];exact hx
 . rw [if_neg e]
   refine (h.row i hi').near hn (by omega) ?_ (h.seg i hi').2.2;exact h.ap i j hi' hj e
theorem Zdl.touch {c:Nat->Nat×Nat}{X:Nat->Rm} (h:Zdl lo hi w b off n c X) (ht:Zad lo' hi' w w') (ho:hi<=lo'\/hi'<=lo):Zdl lo hi w' b off n c X:=by
 have h1:=h.low;have h2:=h.bh;refine⟨Zk_ h.lt ht.size,h.low,h.bh,h.seg,h.ap,fun i=>(ht.frozen (p:=⟨b,i,none⟩) h.lt (by simp only [];omega)).trans (h.frz i),fun i hi'=>?_⟩;have h5:=h.seg i hi';exact (h.row i hi').touch ht h.lt (by omega) (by omega)
theorem Zdl.below {c:Nat->Nat×Nat}{X:Nat->Rm} (h:Zdl lo hi w b off n c X) (ht:Zw_ w w'):Zdl lo hi w' b off n c X:=
 ⟨Zk_ h.lt ht.size,h.low,h.bh,h.seg,h.ap,fun i=>(ht.frozen (p:=⟨b,i,none⟩) h.lt).trans (h.frz i),fun i hi'=>(h.row i hi').below ht h.lt⟩
theorem Zdl.to {c:Nat->Nat×Nat}{X Y:Nat->Rm} (h:Zdl lo hi w b off n c X) (e:∀ i,i < n->X i=Y i):Zdl lo hi w b off n c Y:=
 ⟨h.lt,h.low,h.bh,h.seg,h.ap,h.frz,fun i hi'=>e i hi' ▸ h.row i hi'⟩
def Zbs (lo hi:Nat) (w:World) (v:Value) (Xl:List Rm):Prop:=
 (∃ (a:Option Addr) (cap:Nat),v=.slice a 0 cap/\Xl=[])\/
 ∃ (b off cap:Nat) (c:Nat->Nat×Nat) (X:Nat->Rm),v=.slice (some ⟨b,off,none⟩) Xl.length cap/\Xl≠[]/\Xl.length<=maxLen/\Xl.length<=cap/\(∀ i (h:i < Xl.length),X i=Xl[i])/\Zdl lo hi w b off Xl.length c X
theorem Zbs.touch {v:Value} (h:Zbs lo hi w v Xl) (ht:Zad lo' hi' w w') (ho:hi<=lo'\/hi'<=lo):Zbs lo hi w' v Xl:=by
 rcases h with h | ⟨b,off,cap,c,X,h1,h2,h3,h4,h5,h6⟩
 . exact Or.inl h
 . exact Or.inr ⟨b,off,cap,c,X,h1,h2,h3,h4,h5,h6.touch ht ho⟩
theorem Zbs.below {v:Value} (h:Zbs lo hi w v Xl) (ht:Zw_ w w'):Zbs lo hi w' v Xl:=by
 rcases h with h | ⟨b,off,cap,c,X,h1,h2,h3,h4,h5,h6⟩
 . exact Or.inl h
 . exact Or.inr ⟨b,off,cap,c,X,h1,h2,h3,h4,h5,h6.below ht⟩
theorem Zbs.form {v:Value} (h:Zbs lo hi w v Xl):∃ a cap,v=.slice a Xl.length cap:=by
 rcases h with ⟨a,cap,h,rfl⟩ | ⟨b,off,cap,c,X,h1,_⟩
 . exact⟨a,cap,h⟩
 . exact⟨_,cap,h1⟩
theorem Zbs.at {v:Value} (h:Zbs lo hi w v Xl):Zbg lo w v Xl:=by
 rcases h with h | ⟨b,off,cap,c,X,h1,h2,h3,h4,h5,h6⟩
 . exact Or.inl h
 . refine Or.inr ⟨b,off,cap,h1,h2,h3,h6.lt,h6.low,h4,fun i hi'=>?_⟩
   have hr:=h6.row i hi';have g0:=h6.seg i hi';rw [h5 i hi'] at hr;obtain⟨hs,vv0,q0,hc,l0⟩:=hr;obtain⟨a0,k0,rfl⟩:=l0.form;exact⟨_,hc.rng,a0,k0,rfl,l0.at.mono (by omega),hs.s0⟩
def Zjt (k:Int) (x:Rm):Rm:=⟨k,k+1,k+1+1,k+1+1+1,k+1+1+1+1,k+1+1+1+1+1,mtB (k+1+1+1+1+1+1),Zct (k+1+1+1+1+1+1+1) x.sl⟩
def Zkt (x:Rm):Nat:=7+2*x.sl.length
def ZbC (Xl:List Rm) (i:Nat):Nat:=((Xl.take i).map Zkt).sum
def Ze5 (k:Int) (Xl:List Rm):List Rm:=Xl.mapIdx (fun i x=>Zjt (k+(ZbC Xl i:Int)) x)
theorem ZaQ (k:Int) (Xl:List Rm):(Ze5 k Xl).length=Xl.length:=by unfold Ze5;simp
theorem Zek (k:Int) (Xl:List Rm) (i:Nat) (h:i < (Ze5 k Xl).length) (h':i < Xl.length):(Ze5 k Xl)[i]=Zjt (k+(ZbC Xl i:Int)) Xl[i]:=List.getElem_mapIdx (f:=fun i x=>Zjt (k+(ZbC Xl i:Int)) x) (h:=h)
theorem Zc0 {i:Nat} (h:i < Xl.length):ZbC Xl (i+1)=ZbC Xl i+Zkt Xl[i]:=by
 unfold ZbC;rw [List.take_succ_eq_append_getElem h,List.map_append,List.sum_append];simp
theorem ZdZ (hn:ZbQ Xl):∀ {i:Nat},i<=Xl.length->ZbC Xl i<=i*3000000:=by
 intro i
 induction i with
 | zero=>intro _;simp [ZbC]
 | succ i ih=>
  intro hi';have h1:=ih (by omega);rw [Zc0 (by omega)]
  have h2:Zkt Xl[i]<=3000000:=by
   have hsm:=(hn.2 i (by omega)).1;unfold Zkt
   omega
  omega
structure ZcP (wr:World) (b o c0 c1:Nat) (vv0:Value) (v:World) (y:Rm):Prop where
 near:Zcc b o 8 c0 c1 wr v
 bc:b < c0\/c1<=b
 q0:c0<=c1
 cells:Zcy v b o y vv0
 l0:Zap c0 c1 v vv0 y.sl
 frz:∀ i,v.frozen? ⟨b,i,none⟩=false
 lt:b < v.heap.size
theorem ZcP.below (h:ZcP wr b o c0 c1 vv0 v y) (hb:Below v.heap.size v v'):ZcP wr b o c0 c1 vv0 v' y:=
 ⟨h.near.trans (Zcc.below hb h.lt),h.bc,h.q0,h.cells.below hb h.lt,h.l0.below hb,fun i=>(hb.frozen (p:=⟨b,i,none⟩) h.lt).trans (h.frz i),Zk_ h.lt hb.size⟩
theorem ZcP.s0 (h:ZcP wr b o c0 c1 vv0 v y) (u:Int):ZcP wr b o c0 c1 vv0 (v.setCell ⟨b,o,none⟩ (.int .i64 u)) { y with kd:=u }:=by
 obtain⟨h0,h1,h2,h3,h4,h5,h6,h7⟩:=h.cells;have ht:Zad b (b+1) v (v.setCell ⟨b,o,none⟩ (.int .i64 u)):=Zad.setCell _ _ _ _ _ ⟨Nat.le_refl _,by simp only [];omega⟩;have hbc:=h.bc;have hq0:=h.q0;exact⟨h.near.trans (Zcc.set _ _ _ _ _ _ _ _ (by omega) (by omega)),h.bc,h.q0,⟨World.cell?_setCell_same' _ _ _ (by rw [h0];rfl),(cne (by omega)).trans h1,(cne (by omega)).trans h2,(cne (by omega)).trans h3,(cne (by omega)).trans h4,(cne (by omega)).trans h5,(cne (by omega)).trans h6,(cne (by omega)).trans h7⟩,h.l0.touch ht (by omega),fun i=>by rw [World.frozen?_setCell];exact h.frz i,by simpa [World.setCell] using h.lt⟩
theorem ZcP.s1 (h:ZcP wr b o c0 c1 vv0 v y) (u:Int):ZcP wr b o c0 c1 vv0 (v.setCell ⟨b,o+1,none⟩ (.int .i64 u)) { y with fr:=u }:=by
 obtain⟨h0,h1,h2,h3,h4,h5,h6,h7⟩:=h.cells;have ht:Zad b (b+1) v (v.setCell ⟨b,o+1,none⟩ (.int .i64 u)):=Zad.setCell _ _ _ _ _ ⟨Nat.le_refl _,by simp only [];omega⟩;have hbc:=h.bc;have hq0:=h.q0;exact⟨h.near.trans (Zcc.set _ _ _ _ _ _ _ _ (by omega) (by omega)),h.bc,h.q0,⟨(cne (by omega)).trans h0,World.cell?_setCell_same' _ _ _ (by rw [h1];rfl),(cne (by omega)).trans h2,(cne (by omega)).trans h3,(cne (by omega)).trans h4,(cne (by omega)).trans h5,(cne (by omega)).trans h6,(cne (by omega)).trans h7⟩,h.l0.touch ht (by omega),fun i=>by rw [World.frozen?_setCell];exact h.frz i,by simpa [World.setCell] using h.lt⟩
theorem ZcP.s2 (h:ZcP wr b o c0 c1 vv0 v y) (u:Int):ZcP wr b o c0 c1 vv0 (v.setCell ⟨b,o+2,none⟩ (.int .i64 u)) { y with tt:=u }:=by
 obtain⟨h0,h1,h2,h3,h4,h5,h6,h7⟩:=h.cells;have ht:Zad b (b+1) v (v.setCell ⟨b,o+2,none⟩ (.int .i64 u)):=Zad.setCell _ _ _ _ _ ⟨Nat.le_refl _,by simp only [];omega⟩;have hbc:=h.bc;have hq0:=h.q0;exact⟨h.near.trans (Zcc.set _ _ _ _ _ _ _ _ (by omega) (by omega)),h.bc,h.q0,⟨(cne (by omega)).trans h0,(cne (by omega)).trans h1,World.cell?_setCell_same' _ _ _ (by rw [h2];rfl),(cne (by omega)).trans h3,(cne (by omega)).trans h4,(cne (by omega)).trans h5,(cne (by omega)).trans h6,(cne (by omega)).trans h7⟩,h.l0.touch ht (by omega),fun i=>by rw [World.frozen?_setCell];exact h.frz i,by simpa [World.setCell] using h.lt⟩
theorem ZcP.s3 (h:ZcP wr b o c0 c1 vv0 v y) (u:Int):ZcP wr b o c0 c1 vv0 (v.setCell ⟨b,o+3,none⟩ (.int .i64 u)) { y with ba:=u }:=by
 obtain⟨h0,h1,h2,h3,h4,h5,h6,h7⟩:=h.cells;have ht:Zad b (b+1) v (v.setCell ⟨b,o+3,none⟩ (.int .i64 u)):=Zad.setCell _ _ _ _ _ ⟨Nat.le_refl _,by simp only [];omega⟩;have hbc:=h.bc;have hq0:=h.q0;exact⟨h.near.trans (Zcc.set _ _ _ _ _ _ _ _ (by omega) (by omega)),h.bc,h.q0,⟨(cne (by omega)).trans h0,(cne (by omega)).trans h1,(cne (by omega)).trans h2,World.cell?_setCell_same' _ _ _ (by rw [h3];rfl),(cne (by omega)).trans h4,(cne (by omega)).trans h5,(cne (by omega)).trans h6,(cne (by omega)).trans h7⟩,h.l0.touch ht (by omega),fun i=>by rw [World.frozen?_setCell];exact h.frz i,by simpa [World.setCell] using h.lt⟩
theorem ZcP.s4 (h:ZcP wr b o c0 c1 vv0 v y) (u:Int):ZcP wr b o c0 c1 vv0 (v.setCell ⟨b,o+4,none⟩ (.int .i64 u)) { y with ix:=u }:=by
 obtain⟨h0,h1,h2,h3,h4,h5,h6,h7⟩:=h.cells;have ht:Zad b (b+1) v (v.setCell ⟨b,o+4,none⟩ (.int .i64 u)):=Zad.setCell _ _ _ _ _ ⟨Nat.le_refl _,by simp only [];omega⟩;have hbc:=h.bc;have hq0:=h.q0;exact⟨h.near.trans (Zcc.set _ _ _ _ _ _ _ _ (by omega) (by omega)),h.bc,h.q0,⟨(cne (by omega)).trans h0,(cne (by omega)).trans h1,(cne (by omega)).trans h2,(cne (by omega)).trans h3,World.cell?_setCell_same' _ _ _ (by rw [h4];rfl),(cne (by omega)).trans h5,(cne (by omega)).trans h6,(cne (by omega)).trans h7⟩,h.l0.touch ht (by omega),fun i=>by rw [World.frozen?_setCell];exact h.frz i,by simpa [World.setCell] using h.lt⟩
theorem ZcP.s5 (h:ZcP wr b o c0 c1 vv0 v y) (u:Int):ZcP wr b o c0 c1 vv0 (v.setCell ⟨b,o+5,none⟩ (.int .i64 u)) { y with kn:=u }:=by
 obtain⟨h0,h1,h2,h3,h4,h5,h6,h7⟩:=h.cells;have ht:Zad b (b+1) v (v.setCell ⟨b,o+5,none⟩ (.int .i64 u)):=Zad.setCell _ _ _ _ _ ⟨Nat.le_refl _,by simp only [];omega⟩;have hbc:=h.bc;have hq0:=h.q0;exact⟨h.near.trans (Zcc.set _ _ _ _ _ _ _ _ (by omega) (by omega)),h.bc,h.q0,⟨(cne (by omega)).trans h0,(cne (by omega)).trans h1,(cne (by omega)).trans h2,(cne (by omega)).trans h3,(cne (by omega)).trans h4,World.cell?_setCell_same' _ _ _ (by rw [h5];rfl),(cne (by omega)).trans h6,(cne (by omega)).trans h7⟩,h.l0.touch ht (by omega),fun i=>by rw [World.frozen?_setCell];exact h.frz i,by simpa [World.setCell] using h.lt⟩
theorem ZcP.s6 (h:ZcP wr b o c0 c1 vv0 v y) (u:Zy_):ZcP wr b o c0 c1 vv0 (v.setCell ⟨b,o+6,none⟩ (.string u)) { y with tx:=u }:=by
 obtain⟨h0,h1,h2,h3,h4,h5,h6,h7⟩:=h.cells;have ht:Zad b (b+1) v (v.setCell ⟨b,o+6,none⟩ (.string u)):=Zad.setCell _ _ _ _ _ ⟨Nat.le_refl _,by simp only [];omega⟩;have hbc:=h.bc;have hq0:=h.q0;exact⟨h.near.trans (Zcc.set _ _ _ _ _ _ _ _ (by omega) (by omega)),h.bc,h.q0,⟨(cne (by omega)).trans h0,(cne (by omega)).trans h1,(cne (by omega)).trans h2,(cne (by omega)).trans h3,(cne (by omega)).trans h4,(cne (by omega)).trans h5,World.cell?_setCell_same' _ _ _ (by rw [h6];rfl),(cne (by omega)).trans h7⟩,h.l0.touch ht (by omega),fun i=>by rw [World.frozen?_setCell];exact h.frz i,by simpa [World.setCell] using h.lt⟩
theorem ZcP.m0' (h:ZcP wr b o c0 c1 vv0 v y) (ht:Zad c0 c1 v v') {L:List Rs} (hl:Zap c0 c1 v' vv0 L):ZcP wr b o c0 c1 vv0 v' { y with sl:=L }:=by
 obtain⟨h0,h1,h2,h3,h4,h5,h6,h7⟩:=h.cells;have hbc:=h.bc;have hq0:=h.q0;have hlt:=h.lt;have e:∀ i,v'.cell? ⟨b,i,none⟩=v.cell? ⟨b,i,none⟩:=fun i=>ht.cell (p:=⟨b,i,none⟩) h.lt (by simp only [];omega)
 exact⟨h.near.trans (Zcc.touch ht h.lt (by omega) (by omega) (by omega)),h.bc,h.q0,⟨(e _).trans h0,(e _).trans h1,(e _).trans h2,(e _).trans h3,(e _).trans h4,(e _).trans h5,(e _).trans h6,(e _).trans h7⟩,hl,fun i=>(ht.frozen (p:=⟨b,i,none⟩) h.lt (by simp only [];omega)).trans (h.frz i),Zk_ h.lt ht.size⟩
end
section
variable {lo hi:Nat} {w:World} {v:Value} {Xl:List Rs}
theorem Zap.wide {lo' hi':Nat} (h:Zap lo hi w v Xl) (h1:lo'<=lo) (h2:hi<=hi'):Zap lo' hi' w v Xl:=by
 rcases h with h | ⟨b,off,cap,c,X,e1,e2,e3,e4,e5,e6⟩
 . exact Or.inl h
 . exact Or.inr ⟨b,off,cap,c,X,e1,e2,e3,e4,e5,⟨e6.lt,Nat.le_trans h1 e6.low,e6.bc,Zk_ e6.bh h2,e6.mono,Nat.le_trans e6.top h2,e6.frz,e6.row⟩⟩
theorem Zap.set (h:Zap lo hi w v Xl) {p:Addr} (hp:p.block < lo) (u:Value):Zap lo hi (w.setCell p u) v Xl:=h.touch (Zad.setCell p.block (p.block+1) w p u ⟨Nat.le_refl _,Nat.lt_succ_self _⟩) (Or.inr hp)
theorem Zbs.set {Xl:List Rm} (h:Zbs lo hi w v Xl) {p:Addr} (hp:p.block < lo) (u:Value):Zbs lo hi (w.setCell p u) v Xl:=h.touch (Zad.setCell p.block (p.block+1) w p u ⟨Nat.le_refl _,Nat.lt_succ_self _⟩) (Or.inr hp)
theorem ZbJ.set {Xl:List Ra} (h:ZbJ lo hi w v Xl) {p:Addr} (hp:p.block < lo) (u:Value):ZbJ lo hi (w.setCell p u) v Xl:=h.touch (Zad.setCell p.block (p.block+1) w p u ⟨Nat.le_refl _,Nat.lt_succ_self _⟩) (Or.inr hp)
theorem Za5.set {Xl:List Zy_} (h:Za5 lo hi w v Xl) {p:Addr} (hp:p.block < lo) (u:Value):Za5 lo hi (w.setCell p u) v Xl:=h.touch (Zad.setCell p.block (p.block+1) w p u ⟨Nat.le_refl _,Nat.lt_succ_self _⟩) (Or.inr hp)
theorem ZaF.set {Xl:List Int} (h:ZaF lo hi w v Xl) {p:Addr} (hp:p.block < lo) (u:Value):ZaF lo hi (w.setCell p u) v Xl:=h.touch (Zad.setCell p.block (p.block+1) w p u ⟨Nat.le_refl _,Nat.lt_succ_self _⟩) (Or.inr hp)
end
section
variable {wr w1:World} {B k:Nat} {Xl:List Rs}
def Zbb (wr:World) (B:Nat) (Xl:List Rs) (k:Nat) (c:Nat->Nat):Prop:=
 B < c 0/\(∀ i,i < k->c i<=c (i+1))/\c k<=wr.heap.size/\∃ f,wr.rowIs B 108 (Xl.length*2) f/\∀ i (h:i < Xl.length),i < k->ZaV Xl[i]/\f (i*2)=.int .i64 Xl[i].ba/\f (i*2+1)=.string Xl[i].tx
theorem Zbb.le {c:Nat->Nat} (h:Zbb wr B Xl k c) {i:Nat}:∀ {j:Nat},i<=j->j<=k->c i<=c j:=by
 intro j
 induction j with
 | zero=>intro hij _;have:i=0:=by omega
         subst this;exact Nat.le_refl _
 | succ j ih=>
  intro hij hjn
  by_cases e:i=j+1
  . subst e;exact Nat.le_refl _
  . exact Nat.le_trans (ih (by omega) (by omega)) (h.2.1 j (by omega))
theorem Zbb.below {c:Nat->Nat} (h:Zbb wr B Xl k c) (hb:Below wr.heap.size wr w1):Zbb w1 B Xl k c:=by
 obtain⟨g1,g2,g3,f,hr,hall⟩:=h;refine⟨g1,g2,Nat.le_trans g3 hb.size,f,hr.of_block (hb.block B hr.lt),fun i hi hik=>?_⟩;obtain⟨hz,h0,h1⟩:=hall i hi hik;exact⟨hz,h0,h1⟩
theorem Zbb.free {c:Nat->Nat} (h:Zbb wr B Xl k c) (i:Nat):wr.frozen? ⟨B,i,none⟩=false:=by
 obtain⟨_,_,_,f,hr,_⟩:=h;exact hr.frozen i
theorem Zbb.there {c:Nat->Nat} (h:Zbb wr B Xl k c) (i:Nat) (hi:i < Xl.length*2):∃ v,wr.cell? ⟨B,i,none⟩=some v:=by
 obtain⟨_,_,_,f,hr,_⟩:=h;exact⟨_,hr.cell hi⟩
theorem Zbb.step {c:Nat->Nat} (h:Zbb w1 B Xl k c) (hk:k < Xl.length) (hz:ZaV Xl[k]) (d:Nat) (hd0:c k<=d) (hd:d<=w1.heap.size) :
 Zbb ((w1.setCell ⟨B,k*2,none⟩ (.int .i64 Xl[k].ba)).setCell ⟨B,k*2+1,none⟩ (.string Xl[k].tx)) B Xl (k+1) (fun j=>if j<=k then c j else d):=by
 have hle:=fun i (hi:i<=k)=>h.le (i:=0) (j:=i) Zz_ hi
 have hle2:=fun i (hi:i < k)=>h.le (i:=i+1) (j:=k) (by omega) Zl_
 obtain⟨g1,g2,g3,f,hr,hall⟩:=h;have hts:Zad B (B+1) w1 ((w1.setCell ⟨B,k*2,none⟩ (.int .i64 Xl[k].ba)).setCell ⟨B,k*2+1,none⟩ (.string Xl[k].tx)):=(Zad.setB B _ _ _).trans (Zad.setB B _ _ _);refine⟨by simpa using g1,fun i hi=>?_,?_,_,((hr.set _ _).set _ _),fun i hi hik=>?_⟩
 . dsimp only
   by_cases e:i=k
   . subst e;rw [if_pos Zl_,if_neg (by omega)];exact hd0
   . rw [if_pos (by omega),if_pos (by omega)];exact g2 i (by omega)
 . dsimp only;rw [if_neg (by omega)];exact Nat.le_trans hd hts.size
 by_cases e:i=k
 . subst e
   have hb0:=hle i Zl_;exact⟨hz,by simp,by simp⟩
 . have hb0:=hle i (by omega)
   obtain⟨hz,h0,h1⟩:=hall i hi (by omega);refine⟨hz,?_,?_⟩
   . rw [if_neg (by omega),if_neg (by omega)];exact h0
   . rw [if_neg (by omega),if_neg (by omega)];exact h1
theorem Zbb.own {c:Nat->Nat} (h:Zbb wr B Xl k c) (hk:k=Xl.length) (hne:Xl≠[]) (hm:Xl.length<=maxLen):Zap B wr.heap.size wr (.slice (some ⟨B,0,none⟩) Xl.length Xl.length) Xl:=by
 subst hk;obtain⟨g1,g2,g3,f,hr,hall⟩:=h;have h0:0 < Xl.length:=List.length_pos_iff.2 hne
 refine Or.inr ⟨B,0,Xl.length,c,fun i=>if h:i < Xl.length then Xl[i] else Xl[0],rfl,hne,hm,Nat.le_refl _,fun i hi=>by simp [hi],hr.lt,Nat.le_refl _,g1,hr.lt,g2,g3,fun i=>hr.frozen i,fun i hi=>?_⟩;obtain⟨hz,h0,h1⟩:=hall i hi hi;simp only [hi,dif_pos];rw [Nat.zero_add];exact⟨hz,⟨by rw [hr.cell (by omega),h0],by rw [hr.cell (by omega),h1]⟩⟩
theorem Zbb.new (w:World) (Xl:List Rs) (z:Array Value):Zbb (w.alloc (.cells (madeCells z (Xl.length*2)) 108)) w.heap.size Xl 0 (fun _=>w.heap.size+1):=by
 refine⟨Nat.lt_succ_self _,fun i hi=>by omega,by simp,fun i=>(madeCells z (Xl.length*2)).getD i default,?_,fun i _ h=>by omega⟩;have:=World.rowIs_alloc w (madeCells z (Xl.length*2)) 108 (fun i=>(madeCells z (Xl.length*2)).getD i default) (fun i hi=>by simp [Array.getD,hi])
 rwa [size_madeCells] at this
theorem ZdJ (lo:Nat) (v:Value) (Xl:List Rs) (w:World) (hv:Zaq lo w v Xl) (hn:Zbe Xl) :
 Calls prog 36 #[v] w fun e w'=>∃ v',e=.returned v'/\Zw_ w w'/\Zap w.heap.size w'.heap.size w' v' Xl:=by
 obtain⟨i0,hi,hz0,hz1,hz2⟩:=info_parts Tryz.info108;have HSM:=Zaa hn.2;have hn1:=hn.1;clear hn
 by_cases hL:Xl=[]
 . subst hL
   obtain⟨a,cap,rfl⟩:=hv.form;clear hv
   have hmk:∀ u:World,(Instr.makeSlice 35 (.int .i64 0) (.int .i64 0)).run prog u=.ok (.slice (some ⟨u.heap.size,0,none⟩) 0 0) (u.alloc (.cells (madeCells (Value.cells (.agg #[.int .i64 0,.string ⟨#[]⟩])) 0) 108)):=fun u=>by
    have h:=run_make (P:=prog) u 35 108 i0 _ underlying35 hi hz0 .i64 .i64 0 0 (by omega) (by omega) (by omega) (by omega)
    simpa [hz1] using h
   go_enter func36,ntmps36;go_wp2
   go_loop [4] (fun i=>i=.int .i64 0) (fun _=>0)
   case atStart=>rfl
   case round=>
    subst hrel;go_wp2;go_ret;exact⟨_,rfl,Zb_.alloc Zl_ _,Or.inl ⟨_,_,rfl,rfl⟩⟩
 . obtain⟨b,off,cap,rfl,hm,hbw,_,hc⟩:=hv.full hL
   clear hv;have HM:Hd (Xl.length<=maxLen):=hm;unfold maxLen at hm
   have hmk:∀ u:World,(Instr.makeSlice 35 (.int .i64 (Xl.length:Int)) (.int .i64 (Xl.length:Int))).run prog u=.ok (.slice (some ⟨u.heap.size,0,none⟩) Xl.length Xl.length) (u.alloc (.cells (madeCells (Value.cells (.agg #[.int .i64 0,.string ⟨#[]⟩])) (Xl.length*2)) 108)):=fun u=>by
    have h:=run_make (P:=prog) u 35 108 i0 _ underlying35 hi hz0 .i64 .i64 Xl.length Xl.length (by omega) (by omega) (by rw [hz2];omega) (by omega);rw [hz1] at h
    simpa using h
   clear hi hz0 hz1 hz2;go_enter func36,ntmps36;go_wp2;clear hmk
   go_loopw [4] (fun i wr=>∃ (k:Nat) (c:Nat->Nat),i=.int .i64 k/\k<=Xl.length/\Zw_ w wr/\Zbb wr w.heap.size Xl k c) (fun i _=>Xl.length - (intOf i).toNat)
   case atStart=>exact⟨0,_,rfl,by omega,Zb_.alloc Zl_ _,Zbb.new w Xl _⟩
   case round=>
    obtain⟨k,c,rfl,hk,hb,hf⟩:=hrel
    by_cases hlt:k < Xl.length
    . obtain⟨hs,hc⟩:=hc k hlt
      have HB:=Zaa hb;have HF:=Zaa hf;have HSZ:=Zaa hs;obtain⟨c0,c1⟩:=hc.below hb hbw;clear hc hb hf hs;go_wp2_with fail;refine (ZgR _ _).mono ?_;rintro e w1 ⟨rfl,hb1⟩;have hf1:=HF.o.below hb1;have hB:Hd (Zw_ w w1):=HB.o.trans (hb1.mono HB.o.size);have HST:=Zaa (hf1.step hlt HSZ.o w1.heap.size (Nat.le_trans HF.o.2.2.1 hb1.size) Zl_);have hfr:=hf1.free;obtain⟨o0,ho0⟩:=hf1.there (k*2) (by omega);obtain⟨o1,ho1⟩:=hf1.there (k*2+1) (by omega);clear hf1 hb1 HF HB c0 c1;go_wp2;go_roundw
      . 
       exact⟨k+1,_,by go_num,by omega,((hB.o.setCell Zl_ _).setCell Zl_ _),HST.o⟩
      . simp [intOf];omega
    . have e:k=Xl.length:=by omega
      go_wp2;go_ret;exact⟨_,rfl,hb,hf.own e hL HM.o⟩
end
theorem ZcD (lo hi:Nat) (v:Value) (Xl:List Rs) (k:Int) (w:World) (hv:Zap lo hi w v Xl) (hn:Zbe Xl) (h0:0<=k) (hk:k<=2000000000000000000) :
 Calls prog 50 #[v,.int .i64 k] w fun e w'=>e=.returned (.int .i64 (k+(Zbo Xl Xl.length:Int)))/\Zad lo hi w w'/\Zap lo hi w' v (Zct k Xl):=by
 rcases hv with ⟨a,cap,rfl,rfl⟩ | ⟨b,off,cap,c,X,rfl,hne,hm,hcap,hX,hR⟩
 . go_enter func50,ntmps50
   go_wp2
   go_loop [5,1] (fun i q=>i=.int .i64 0/\q=.int .i64 k) (fun _ _=>0)
   case atStart=>exact⟨rfl,rfl⟩
   case round=>
    obtain⟨rfl,rfl⟩:=hrel;go_wp2;go_ret;exact⟨by simp [Zbo],Zad.refl _ _ _,Or.inl ⟨_,_,rfl,rfl⟩⟩
 . have hlen:=hn.1
   have HN:=Zaa hn;have HX:=Zaa hX;have HR0:=Zaa hR;have HM:=Zaa hm;have HC:=Zaa hcap;have HNE:=Zaa hne;clear hn hX hR hm hcap hne;go_enter func50,ntmps50;go_wp2
   go_loopw [5,1] (fun i q wr=>∃ j:Nat,i=.int .i64 j/\q=.int .i64 (k+(Zbo Xl j:Int))/\j<=Xl.length/\Zad lo hi w wr/\Zc7 lo hi wr b off Xl.length c (fun i=>if i < j then Zkw (k+(Zbo Xl i:Int)) (X i) else X i)) (fun i _ _=>Xl.length - (intOf i).toNat)
   case atStart=>exact⟨0,rfl,by simp [Zbo],by omega,Zad.refl _ _ _,HR0.o.to (fun i _=>by simp)⟩
   case round=>
    obtain⟨j,rfl,rfl,hj,ht,hr⟩:=hrel;have HT:=Zaa ht;have HR:=Zaa hr;clear ht hr HR0
    by_cases hlt:j < Xl.length
    . have hpos:=Zdu HN.o (i:=j) (by omega)
      have HP:=Zaa (Zc1 hlt)
      have hone:ZdC b (off+j*2) (c j) (c (j+1)) wr (X j):=by
       have:=HR.o.row j hlt;simp only [Nat.lt_irrefl,if_false] at this;exact this
      have hxj:X j=Xl[j]:=HX.o j hlt;obtain⟨x,hx⟩:∃ x,x=X j:=⟨_,rfl⟩
      rw [<- hx] at hone;obtain⟨hs,hc⟩:=hone;have HXJ:=Zaa hxj;have HXX:=Zaa hx;obtain⟨K,hK⟩:∃ K,K=k+(Zbo Xl j:Int):=⟨_,rfl⟩
      rw [<- hK];have hK0:0<=K:=by omega
      have hK1:K<=2500000000000000000:=by omega
      have HK:=Zaa hK;have HBC:Hd (b < c j):=Zk_ HR.o.bc (HR.o.le Zz_ (by omega));have HS:Hd (ZhC wr b (off+j*2) (c j) (c (j+1)) wr x):=⟨Zcc.refl _ _ _ _ _ _,HBC.o,hc,HR.o.frz,HR.o.lt⟩;clear hpos hxj hx hs hc hK;obtain⟨d0,d1⟩:=HS.o.cells;have fz:=HS.o.frz;go_wp2_with fail;clear d0 d1 fz;obtain⟨v1,hv1,HS1⟩:∃ v',v'=(wr.setCell ⟨b,off+j*2,none⟩ (.int .i64 (K)))/\Hd (ZhC wr b (off+j*2) (c j) (c (j+1)) v' ⟨K,x.tx⟩):=⟨_,rfl,(HS.o.s0 (K))⟩
      rw [<- hv1];clear hv1 HS;refine (Zby _ _ (by omega)).mono ?_;rintro e v2 ⟨rfl,hb⟩;have HS2:=Zaa (HS1.o.below hb);clear hb HS1;obtain⟨d0,d1⟩:=HS2.o.cells;have fz:=HS2.o.frz;go_wp2;clear d0 d1 fz;obtain⟨v3,hv3,HS3⟩:∃ v',v'=(v2.setCell ⟨b,off+j*2+1,none⟩ (.string (mtB (K+1))))/\Hd (ZhC wr b (off+j*2) (c j) (c (j+1)) v' ⟨K,mtB (K+1)⟩):=⟨_,rfl,(HS2.o.s1 (mtB (K+1)))⟩
      rw [<- hv3];clear hv3 HS2;have HW:Hd (Zku Xl[j]=2):=by unfold Hd;rw [<- HXJ.o,<- HXX.o];rfl
      have HQ:Hd ((K+1+1:Int)=k+(Zbo Xl (j+1):Int)):=by
       have h1:=HP.o;have h2:=HW.o;have h3:=HK.o;unfold Hd
       omega
      have HRN:=Zaa (HR.o.near hlt HS3.o.near (show ZdC b (off+j*2) (c j) (c (j+1)) v3 (Zkw K x) from ⟨⟨Ze6 _ (by omega)⟩,HS3.o.cells⟩));have HTN:=Zaa (HS3.o.near.wide HR.o.lt (lo':=lo) (hi':=hi) (by have:=HBC.o;have:=HR.o.low;omega) (Nat.le_trans (HR.o.le (by omega) Zl_) HR.o.top) ⟨HR.o.low,HR.o.bh⟩);go_roundw
      . 
       refine⟨j+1,by go_num,congrArg (Value.int .i64) HQ.o,by omega,HT.o.trans HTN.o,HRN.o.to (fun i hi'=>?_)⟩
       by_cases e:i=j
       . subst e
         rw [if_pos rfl,if_pos (by omega),<- HK.o,HXX.o]
       . rw [if_neg e]
         by_cases e2:i < j
         . rw [if_pos e2,if_pos (by omega)]
         . rw [if_neg e2,if_neg (by omega)]
      . simp [intOf];omega
    . have e:j=Xl.length:=by omega
      subst e;go_wp2;go_ret;refine⟨rfl,HT.o,Or.inr ⟨b,off,cap,c,fun i=>Zkw (k+(Zbo Xl i:Int)) (X i),by rw [ZaL],?_,by rw [ZaL];exact HM.o,by rw [ZaL];exact HC.o,fun i h=>?_,?_⟩⟩
      . intro e
        have:=congrArg List.length e;rw [ZaL] at this;exact HNE.o (List.length_eq_zero_iff.1 (by simpa using this))
      . have h':i < Xl.length:=by rw [ZaL] at h;exact h
        rw [ZfH _ _ _ _ h',<- HX.o i h']
      . rw [ZaL]
        exact HR.o.to (fun i hi'=>by rw [if_pos hi'])
theorem Zdc (lo hi:Nat) (v:Value) (Xl:List Rs) (k:Int) (w:World) (hv:Zap lo hi w v (Zct k Xl)) (hn:Zbe Xl) (h0:0<=k) (hk:k<=2000000000000000000) :
 Calls prog 55 #[v,.int .i64 k] w fun e w'=>e=.returned (.int .i64 (k+(Zbo Xl Xl.length:Int)))/\Zw_ w w':=by
 have HA:=Zaa hv.at;have HN:=Zaa hn;have hlen:=hn.1;obtain⟨a,cap,hv'⟩:=hv.form;rw [ZaL] at hv';subst hv';clear hv hn;go_enter func55,ntmps55;go_wp2
 go_loopw [5,1] (fun i q wr=>∃ j:Nat,i=.int .i64 j/\q=.int .i64 (k+(Zbo Xl j:Int))/\j<=Xl.length/\Zw_ w wr) (fun i _ _=>Xl.length - (intOf i).toNat)
 case atStart=>exact⟨0,rfl,by simp [Zbo],by omega,Below.refl _ _⟩
 case round=>
  obtain⟨j,rfl,rfl,hj,hb⟩:=hrel;have HB0:=Zaa hb;clear hb
  by_cases hlt:j < Xl.length
  . obtain⟨b,off,rfl,hbw,-,hc⟩:=HA.o.full' (by rw [ZaL];omega)
    have hcj:=hc j (by rw [ZaL];omega);rw [ZfH _ _ _ _ hlt] at hcj;have hpos:=Zdu HN.o (i:=j) (by omega);have HP:=Zaa (Zc1 hlt);obtain⟨x,hx⟩:∃ x,x=Xl[j]:=⟨_,rfl⟩
    rw [<- hx] at hcj;have HXX:=Zaa hx;obtain⟨K,hK⟩:∃ K,K=k+(Zbo Xl j:Int):=⟨_,rfl⟩
    rw [<- hK] at hcj;rw [<- hK];have hK0:0<=K:=by omega
    have hK1:K<=2500000000000000000:=by omega
    have HK:=Zaa hK;obtain⟨_,hcl⟩:=hcj;have HC:=Zaa hcl;clear hc hcl hx hK hpos;have d0:wr.cell? ⟨b,off+j*2,none⟩=some (.int .i64 (K)):=(HC.o.below HB0.o hbw).c0;have d1:wr.cell? ⟨b,off+j*2+1,none⟩=some (.string (mtB (K+1))):=(HC.o.below HB0.o hbw).c1;have x0:∀ X:In (Up wr),X.w.cell? ⟨b,off+j*2+1,none⟩=some (.string (mtB (K+1))):=fun X=>Up.cell X d1
    have xn:Nonempty (In (Up wr)):=⟨⟨wr,Below.refl _ _⟩⟩;have xs:=fun (X:In (Up wr))=>Zbn X
    go_wp2;clear d0 d1;refine Zaf (Up wr) (by kernel_rfl) (by kernel_rfl) (Zb_.drew) ?_
    repeat (go_big_quiet_step (first|(go_at_call 67;rename_i X;exact (Zby _ _ (by omega)).mono fun _ _ h=>⟨h.1,Up.next X h.2⟩)))
    refine wpQuiet_nil ?_;intro w1 hw;obtain⟨Y,hY⟩:=hw;have HB1:Hd (Zw_ w w1):=HB0.o.trans (Below.mono (show Below wr.heap.size wr w1 by rw [hY];exact Y.h) HB0.o.size);clear hY Y x0 xs xn HB0;have d0:w1.cell? ⟨b,off+j*2,none⟩=some (.int .i64 (K)):=(HC.o.below HB1.o hbw).c0;have d1:w1.cell? ⟨b,off+j*2+1,none⟩=some (.string (mtB (K+1))):=(HC.o.below HB1.o hbw).c1;go_wp2;clear d0 d1;have HW:Hd (Zku Xl[j]=2):=by unfold Hd;rw [<- HXX.o];rfl
    have HQ:Hd ((K+1+1:Int)=k+(Zbo Xl (j+1):Int)):=by
     have h1:=HP.o;have h2:=HW.o;have h3:=HK.o;unfold Hd
     omega
    go_roundw
    . exact⟨j+1,by go_num,congrArg (Value.int .i64) HQ.o,by omega,HB1.o⟩
    . simp [intOf];omega
  . have e:j=Xl.length:=by omega
    subst e;go_wp2;go_ret;exact⟨rfl,HB0.o⟩
theorem Zgc (lo hi:Nat) (v:Value) (Xl:List Ra) (k:Int) (w:World) (hv:ZbJ lo hi w v Xl) (hn:Zb3 Xl) (h0:0<=k) (hk:k<=2000000000000000000) :
 Calls prog 51 #[v,.int .i64 k] w fun e w'=>e=.returned (.int .i64 (k+(ZbB Xl Xl.length:Int)))/\Zad lo hi w w'/\ZbJ lo hi w' v (Ze4 k Xl):=by
 rcases hv with ⟨a,cap,rfl,rfl⟩ | ⟨b,off,cap,c,X,rfl,hne,hm,hcap,hX,hR⟩
 . go_enter func51,ntmps51
   go_wp2
   go_loop [5,1] (fun i q=>i=.int .i64 0/\q=.int .i64 k) (fun _ _=>0)
   case atStart=>exact⟨rfl,rfl⟩
   case round=>
    obtain⟨rfl,rfl⟩:=hrel;go_wp2;go_ret;exact⟨by simp [ZbB],Zad.refl _ _ _,Or.inl ⟨_,_,rfl,rfl⟩⟩
 . have hlen:=hn.1
   have HN:=Zaa hn;have HX:=Zaa hX;have HR0:=Zaa hR;have HM:=Zaa hm;have HC:=Zaa hcap;have HNE:=Zaa hne;clear hn hX hR hm hcap hne;go_enter func51,ntmps51;go_wp2
   go_loopw [5,1] (fun i q wr=>∃ j:Nat,i=.int .i64 j/\q=.int .i64 (k+(ZbB Xl j:Int))/\j<=Xl.length/\Zad lo hi w wr/\Zdk lo hi wr b off Xl.length c (fun i=>if i < j then Zjs (k+(ZbB Xl i:Int)) (X i) else X i)) (fun i _ _=>Xl.length - (intOf i).toNat)
   case atStart=>exact⟨0,rfl,by simp [ZbB],by omega,Zad.refl _ _ _,HR0.o.to (fun i _=>by simp)⟩
   case round=>
    obtain⟨j,rfl,rfl,hj,ht,hr⟩:=hrel;have HT:=Zaa ht;have HR:=Zaa hr;clear ht hr HR0
    by_cases hlt:j < Xl.length
    . have hpos:=ZdY HN.o (i:=j) (by omega)
      have HP:=Zaa (ZcZ hlt)
      have hone:ZcL b (off+j*2) (c j).1 (c j).2 wr (X j):=by
       have:=HR.o.row j hlt;simp only [Nat.lt_irrefl,if_false] at this;exact this
      have hxj:X j=Xl[j]:=HX.o j hlt;obtain⟨x,hx⟩:∃ x,x=X j:=⟨_,rfl⟩
      rw [<- hx] at hone;obtain⟨hs,vv0,q0,hc,l0⟩:=hone;have hs0:x.fr.length<=1048576:=by have:=HN.o.2 j hlt;rw [hx,hxj];unfold Zci ZaN at this;omega
      have HXJ:=Zaa hxj;have HXX:=Zaa hx;obtain⟨K,hK⟩:∃ K,K=k+(ZbB Xl j:Int):=⟨_,rfl⟩
      rw [<- hK];have hK0:0<=K:=by omega
      have hK1:K<=2500000000000000000:=by omega
      have HK:=Zaa hK;have HBC:Hd (b < (c j).1\/(c j).2<=b):=(HR.o.seg j hlt).2.2;have HS:Hd (ZhB wr b (off+j*2) (c j).1 (c j).2 vv0 wr x):=⟨Zcc.refl _ _ _ _ _ _,HBC.o,q0,hc,l0,HR.o.frz,HR.o.lt⟩;clear hpos hxj hx hs hc l0 q0 hK;obtain⟨d0,d1⟩:=HS.o.cells;have fz:=HS.o.frz;go_wp2_with fail;clear d0 d1 fz;obtain⟨v1,hv1,HS1⟩:∃ v',v'=(wr.setCell ⟨b,off+j*2,none⟩ (.int .i64 (K)))/\Hd (ZhB wr b (off+j*2) (c j).1 (c j).2 vv0 v' ⟨K,x.fr⟩):=⟨_,rfl,(HS.o.s0 (K))⟩
      rw [<- hv1];clear hv1 HS;refine (ZcC _ _ _ x.fr _ _ HS1.o.l0 (by omega) (by omega)).mono ?_;rintro e v2 ⟨rfl,ht,hl⟩;have HS2:Hd (ZhB wr b (off+j*2) (c j).1 (c j).2 vv0 v2 ⟨K,Zcs (K+1) x.fr.length⟩):=HS1.o.m0' ht hl;clear ht hl HS1;obtain⟨d0,d1⟩:=HS2.o.cells;have fz:=HS2.o.frz;go_wp2;clear d0 d1 fz;have HW:Hd (Zks Xl[j]=1+x.fr.length):=by unfold Hd;rw [<- HXJ.o,<- HXX.o];rfl
      have HQ:Hd ((K+1+(x.fr.length:Int):Int)=k+(ZbB Xl (j+1):Int)):=by
       have h1:=HP.o;have h2:=HW.o;have h3:=HK.o;unfold Hd
       omega
      have HRN:=Zaa (HR.o.near hlt HS2.o.near (show ZcL b (off+j*2) (c j).1 (c j).2 v2 (Zjs K x) from ⟨rfl,_,HS2.o.q0,HS2.o.cells,HS2.o.l0⟩));have HTN:=Zaa (HS2.o.near.wide HR.o.lt (lo':=lo) (hi':=hi) (HR.o.seg j hlt).1 (HR.o.seg j hlt).2.1 ⟨HR.o.low,HR.o.bh⟩);go_roundw
      . 
       refine⟨j+1,by go_num,congrArg (Value.int .i64) HQ.o,by omega,HT.o.trans HTN.o,HRN.o.to (fun i hi'=>?_)⟩
       by_cases e:i=j
       . subst e
         rw [if_pos rfl,if_pos (by omega),<- HK.o,HXX.o]
       . rw [if_neg e]
         by_cases e2:i < j
         . rw [if_pos e2,if_pos (by omega)]
         . rw [if_neg e2,if_neg (by omega)]
      . simp [intOf];omega
    . have e:j=Xl.length:=by omega
      subst e;go_wp2;go_ret;refine⟨rfl,HT.o,Or.inr ⟨b,off,cap,c,fun i=>Zjs (k+(ZbB Xl i:Int)) (X i),by rw [ZaP],?_,by rw [ZaP];exact HM.o,by rw [ZaP];exact HC.o,fun i h=>?_,?_⟩⟩
      . intro e
        have:=congrArg List.length e;rw [ZaP] at this;exact HNE.o (List.length_eq_zero_iff.1 (by simpa using this))
      . have h':i < Xl.length:=by rw [ZaP] at h;exact h
        rw [Zej _ _ _ _ h',<- HX.o i h']
      . rw [ZaP]
        exact HR.o.to (fun i hi'=>by rw [if_pos hi'])
variable {n g:Nat} {w:World} {cur:Array Value} {e:TypeId}
def Zai {X:Type} (f:X->List Value):List X->List Value
 | []=>[]
 | x :: r=>f x ++ Zai f r
theorem Zaw {X:Type}{f:X->List Value} (h:∀ x,(f x).length=n):∀ L:List X,(Zai f L).length=L.length*n
 | []=>by simp [Zai]
 | x :: r=>by rw [Zai,List.length_append,h,Zaw h r,List.length_cons,Nat.succ_mul,Nat.add_comm]
theorem Zbw {X:Type}{f:X->List Value} (h:∀ x,(f x).length=n):∀ (L:List X) (i t:Nat) (hi:i < L.length),t < n->(Zai f L)[i*n+t]?=(f L[i])[t]?
 | [],i,t,hi,_=>by simp at hi
 | x :: r,0,t,hi,ht=>by
  rw [Zai,Nat.zero_mul,Nat.zero_add,List.getElem?_append_left (by rw [h];exact ht)]
  rfl
 | x :: r,i+1,t,hi,ht=>by
  rw [Zai,List.getElem?_append_right (by rw [h,Nat.succ_mul];omega),h,show (i+1)*n+t - n=i*n+t by rw [Nat.succ_mul];omega,Zbw h r i t (by simpa using hi) ht]
  rfl
theorem Zbv {X:Type}{f:X->List Value}:∀ A B:List X,Zai f (A ++ B)=Zai f A ++ Zai f B
 | [],B=>rfl
 | x :: r,B=>by rw [List.cons_append,Zai,Zai,Zbv r B,List.append_assoc]
theorem ZcR {X:Type}{f:X->List Value}{L:List X}{u:Value} (hu:u ∈ Zai f L):∃ x ∈ L,u ∈ f x:=by
 induction L with
 | nil=>cases hu
 | cons x r ih=>
  rw [Zai,List.mem_append] at hu
  rcases hu with hu | hu
  . exact⟨x,List.mem_cons_self ..,hu⟩
  . obtain⟨y,hy,h⟩:=ih hu
    exact⟨y,List.mem_cons_of_mem _ hy,h⟩
theorem Zd9 (h:w.heap[g]?=some (.cells cur e (0,0))) (i:Nat):w.frozen? ⟨g,i,none⟩=false:=by
 simp [World.frozen?,h]
theorem Zdq {fz:Nat×Nat} (h:w.heap[g]?=some (.cells cur e fz)) (i:Nat):w.cell? ⟨g,i,none⟩=cur[i]?:=by
 simp [World.cell?,h]
theorem ZdE {X:Type}{f:X->List Value}{s:Nat} (hs:∀ x,(f x).length=s) {L:List X} {n j:Nat} {u:Value} (hn:n<=L.length) (h:(Zai f (L.drop n))[j]?=some u):(Zai f L)[n*s+j]?=some u:=by
 have e:Zai f L=Zai f (L.take n) ++ Zai f (L.drop n):=by rw [<- Zbv,List.take_append_drop]
 have hl:(Zai f (L.take n)).length=n*s:=by rw [Zaw hs,List.length_take,Nat.min_eq_left hn]
 rw [e,List.getElem?_append_right (by omega),hl,show n*s+j - n*s=j by omega];exact h
theorem wpList_append_run {P:Program}{w':World}{v v1 v2:Value}{ops:Array Oper}{rest:List Oper}{o:Oper}{a:Act}{Q:Exit->Act->World->Prop} (hgd:o.guard=none) (s x:Operand) (t:TypeId)
 (ho:o.op=.call { callee:=.builtin .append,args:=#[s,x],argTypes:=#[t,t] }) (hs:a.eval s=v1) (hx:a.eval x=v2) (hr:(Builtin.append_ #[t,t] o.type #[v1,v2]).run P w=.ok v w')
 (h:wpList P ops Q rest (a.put o.dst v) w'):wpList P ops Q (o :: rest) a w:=by
 refine wpList_plain hgd fun K hK=>?_
 unfold Oper.wp execOp;simp only [ho,resolve,invoke,builtin,Sem.run_bind,Sem.run_pure,Result.andThen_ok,List.map_toArray,List.map_cons,List.map_nil,hs,hx,hr];exact hK _ _ h
end Go.Proofs.YtkiefplmnoapfaaGreat
