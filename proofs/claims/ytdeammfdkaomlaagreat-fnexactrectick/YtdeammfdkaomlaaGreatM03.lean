import Derived.Test.YtdeammfdkaomlaaGreatM01
import Derived.Test.YtdeammfdkaomlaaGreatM02
open Go.Proofs.Tryz
namespace Go.Proofs.YtdeammfdkaomlaaGreat
open Go.RowKit Go.Deep
variable {w w' v wr v':World} {b o n d0 d1 lo hi c0 c1 lo' hi' off:Nat} {x y:Rm} {vv0:Value} {Xl:List Rm}
structure Zgp (x:Rm):Prop where
 s0:x.tx.size<=maxLen
structure Zco (w:World) (b o:Nat) (x:Rm) (vv0:Value):Prop where
 c0:w.cell? ⟨b,o,none⟩=some (.int .i64 x.kd)
 c1:w.cell? ⟨b,o+1,none⟩=some (.int .i64 x.fr)
 c2:w.cell? ⟨b,o+2,none⟩=some (.int .i64 x.tt)
 c3:w.cell? ⟨b,o+3,none⟩=some (.int .i64 x.ba)
 c4:w.cell? ⟨b,o+4,none⟩=some (.int .i64 x.ix)
 c5:w.cell? ⟨b,o+5,none⟩=some (.int .i64 x.kn)
 c6:w.cell? ⟨b,o+6,none⟩=some (.string x.tx)
 c7:w.cell? ⟨b,o+7,none⟩=some vv0
theorem Zco.below (h:Zco w b o x vv0) {m:Nat} (hb:Below m w w') (hlt:b < m):Zco w' b o x vv0:=by
 have e:∀ o,w'.cell? ⟨b,o,none⟩=w.cell? ⟨b,o,none⟩:=fun o=>hb.cell (p:=⟨b,o,none⟩) hlt
 exact⟨by rw [e];exact h.c0,by rw [e];exact h.c1,by rw [e];exact h.c2,by rw [e];exact h.c3,by rw [e];exact h.c4,by rw [e];exact h.c5,by rw [e];exact h.c6,by rw [e];exact h.c7⟩
theorem Zco.rng {a:Option Addr}{k:Nat} (h:Zco w b o x (.slice a x.sl.length k)):w.rangeAt b o (rmL x a k):=fun j v hv=>by
 match j,hv with
 | 0,hv=>cases hv;exact h.c0
 | 1,hv=>cases hv;exact h.c1
 | 2,hv=>cases hv;exact h.c2
 | 3,hv=>cases hv;exact h.c3
 | 4,hv=>cases hv;exact h.c4
 | 5,hv=>cases hv;exact h.c5
 | 6,hv=>cases hv;exact h.c6
 | 7,hv=>cases hv;exact h.c7
theorem Zap.near {v:Value}{Xl:List Rs} (h:Zap lo hi w v Xl) (hn:Zb8 b o n d0 d1 w w') (hi':hi<=d0\/d1<=lo) (hb:b < lo\/hi<=b):Zap lo hi w' v Xl:=by
 rcases h with h | ⟨b',off,cap,c,X,h1,h2,h3,h4,h5,h6⟩
 . exact Or.inl h
 . refine Or.inr ⟨b',off,cap,c,X,h1,h2,h3,h4,h5,?_⟩
   have k1:=h6.low;have k2:=h6.bh;have hbk:w'.heap[b']?=w.heap[b']?:=hn.block b' h6.lt (by omega) (by omega);have e:∀ i,w'.cell? ⟨b',i,none⟩=w.cell? ⟨b',i,none⟩:=fun i=>World.cell?_of_block hbk
   refine⟨Zk_ h6.lt hn.size,h6.low,h6.bc,h6.bh,h6.mono,h6.top,fun i=>(World.frozen?_of_block hbk).trans (h6.frz i),fun i hi''=>?_⟩;obtain⟨hs,hc⟩:=h6.row i hi'';obtain⟨q0,q1⟩:=hc;exact⟨hs,(e _).trans q0,(e _).trans q1⟩
theorem Zig (L:List Rs):∀ i,i<=L.length->Zbr L i=2*i:=by
 intro i
 induction i with
 | zero=>intro _;simp [Zbr]
 | succ i ih=>
  intro h;rw [ZcN (by omega),ih (by omega)];unfold Zkz
  omega
theorem ZeI (L:List Rs):Zbr L L.length=2*L.length:=Zig L _ Zl_
def Zc4 (b o c0 c1:Nat) (w:World) (x:Rm):Prop:=Zgp x/\∃ (vv0:Value),c0<=c1/\Zco w b o x vv0/\Zap c0 c1 w vv0 x.sl
theorem Zc4.near {o1:Nat} (h:Zc4 b o c0 c1 w x) (hn:Zb8 b o1 8 d0 d1 w w') (ho:o+8<=o1\/o1+8<=o) (hi:c1<=d0\/d1<=c0) (hb:b < c0\/c1<=b):Zc4 b o c0 c1 w' x:=by
 obtain⟨hs,vv0,q0,hc,l0⟩:=h;obtain⟨h0,h1,h2,h3,h4,h5,h6,h7⟩:=hc;have e:∀ t,t < 8->w'.cell? ⟨b,o+t,none⟩=w.cell? ⟨b,o+t,none⟩:=fun t ht=>hn.cell _ (by omega)
 have e0:w'.cell? ⟨b,o,none⟩=w.cell? ⟨b,o,none⟩:=hn.cell _ (by omega);exact⟨hs,vv0,q0,⟨e0.trans h0,(e 1 (by omega)).trans h1,(e 2 (by omega)).trans h2,(e 3 (by omega)).trans h3,(e 4 (by omega)).trans h4,(e 5 (by omega)).trans h5,(e 6 (by omega)).trans h6,(e 7 (by omega)).trans h7⟩,l0.near hn (by omega) (by omega)⟩
theorem Zc4.touch (h:Zc4 b o c0 c1 w x) (ht:Zad lo hi w w') (hlt:b < w.heap.size) (hb:b < lo\/hi<=b) (hi':c1<=lo\/hi<=c0):Zc4 b o c0 c1 w' x:=by
 obtain⟨hs,vv0,q0,hc,l0⟩:=h;obtain⟨h0,h1,h2,h3,h4,h5,h6,h7⟩:=hc;exact⟨hs,vv0,q0,⟨(ht.cell (p:=⟨b,o,none⟩) hlt hb).trans h0,(ht.cell (p:=⟨b,o+1,none⟩) hlt hb).trans h1,(ht.cell (p:=⟨b,o+2,none⟩) hlt hb).trans h2,(ht.cell (p:=⟨b,o+3,none⟩) hlt hb).trans h3,(ht.cell (p:=⟨b,o+4,none⟩) hlt hb).trans h4,(ht.cell (p:=⟨b,o+5,none⟩) hlt hb).trans h5,(ht.cell (p:=⟨b,o+6,none⟩) hlt hb).trans h6,(ht.cell (p:=⟨b,o+7,none⟩) hlt hb).trans h7⟩,l0.touch ht (by omega)⟩
theorem Zc4.below (h:Zc4 b o c0 c1 w x) (ht:Zw_ w w') (hlt:b < w.heap.size):Zc4 b o c0 c1 w' x:=by
 obtain⟨hs,vv0,q0,hc,l0⟩:=h;obtain⟨h0,h1,h2,h3,h4,h5,h6,h7⟩:=hc;exact⟨hs,vv0,q0,⟨(ht.cell (p:=⟨b,o,none⟩) hlt).trans h0,(ht.cell (p:=⟨b,o+1,none⟩) hlt).trans h1,(ht.cell (p:=⟨b,o+2,none⟩) hlt).trans h2,(ht.cell (p:=⟨b,o+3,none⟩) hlt).trans h3,(ht.cell (p:=⟨b,o+4,none⟩) hlt).trans h4,(ht.cell (p:=⟨b,o+5,none⟩) hlt).trans h5,(ht.cell (p:=⟨b,o+6,none⟩) hlt).trans h6,(ht.cell (p:=⟨b,o+7,none⟩) hlt).trans h7⟩,l0.below ht⟩
structure ZfL (lo hi:Nat) (w:World) (b off n:Nat) (c:Nat->Nat×Nat) (X:Nat->Rm):Prop where
 lt:b < w.heap.size
 low:lo<=b
 bh:b < hi
 seg:∀ i,i < n->lo<=(c i).1/\(c i).2<=hi/\(b < (c i).1\/(c i).2<=b)
 ap:∀ i j,i < n->j < n->i≠j->(c i).2<=(c j).1\/(c j).2<=(c i).1
 frz:∀ i,w.frozen? ⟨b,i,none⟩=false
 row:∀ i,i < n->Zc4 b (off+i*8) (c i).1 (c i).2 w (X i)
theorem ZfL.touch {c:Nat->Nat×Nat}{X:Nat->Rm} (h:ZfL lo hi w b off n c X) (ht:Zad lo' hi' w w') (ho:hi<=lo'\/hi'<=lo):ZfL lo hi w' b off n c X:=by
 have h1:=h.low;have h2:=h.bh;refine⟨Zk_ h.lt ht.size,h.low,h.bh,h.seg,h.ap,fun i=>(ht.frozen (p:=⟨b,i,none⟩) h.lt (by simp only [];omega)).trans (h.frz i),fun i hi'=>?_⟩;have h5:=h.seg i hi';exact (h.row i hi').touch ht h.lt (by omega) (by omega)
theorem ZfL.below {c:Nat->Nat×Nat}{X:Nat->Rm} (h:ZfL lo hi w b off n c X) (ht:Zw_ w w'):ZfL lo hi w' b off n c X:=
 ⟨Zk_ h.lt ht.size,h.low,h.bh,h.seg,h.ap,fun i=>(ht.frozen (p:=⟨b,i,none⟩) h.lt).trans (h.frz i),fun i hi'=>(h.row i hi').below ht h.lt⟩
def Zbm (lo hi:Nat) (w:World) (v:Value) (Xl:List Rm):Prop:=
 (∃ (a:Option Addr) (cap:Nat),v=.slice a 0 cap/\Xl=[])\/
 ∃ (b off cap:Nat) (c:Nat->Nat×Nat) (X:Nat->Rm),v=.slice (some ⟨b,off,none⟩) Xl.length cap/\Xl≠[]/\Xl.length<=maxLen/\Xl.length<=cap/\(∀ i (h:i < Xl.length),X i=Xl[i])/\ZfL lo hi w b off Xl.length c X
theorem Zbm.touch {v:Value} (h:Zbm lo hi w v Xl) (ht:Zad lo' hi' w w') (ho:hi<=lo'\/hi'<=lo):Zbm lo hi w' v Xl:=by
 rcases h with h | ⟨b,off,cap,c,X,h1,h2,h3,h4,h5,h6⟩
 . exact Or.inl h
 . exact Or.inr ⟨b,off,cap,c,X,h1,h2,h3,h4,h5,h6.touch ht ho⟩
theorem Zbm.below {v:Value} (h:Zbm lo hi w v Xl) (ht:Zw_ w w'):Zbm lo hi w' v Xl:=by
 rcases h with h | ⟨b,off,cap,c,X,h1,h2,h3,h4,h5,h6⟩
 . exact Or.inl h
 . exact Or.inr ⟨b,off,cap,c,X,h1,h2,h3,h4,h5,h6.below ht⟩
theorem Zbm.form {v:Value} (h:Zbm lo hi w v Xl):∃ a cap,v=.slice a Xl.length cap:=by
 rcases h with ⟨a,cap,h,rfl⟩ | ⟨b,off,cap,c,X,h1,_⟩
 . exact⟨a,cap,h⟩
 . exact⟨_,cap,h1⟩
theorem Zbm.at {v:Value} (h:Zbm lo hi w v Xl):Zbd lo w v Xl:=by
 rcases h with h | ⟨b,off,cap,c,X,h1,h2,h3,h4,h5,h6⟩
 . exact Or.inl h
 . refine Or.inr ⟨b,off,cap,h1,h2,h3,h6.lt,h6.low,h4,fun i hi'=>?_⟩
   have hr:=h6.row i hi';have g0:=h6.seg i hi';rw [h5 i hi'] at hr;obtain⟨hs,vv0,q0,hc,l0⟩:=hr;obtain⟨a0,k0,rfl⟩:=l0.form;exact⟨_,hc.rng,a0,k0,rfl,l0.at.mono (by omega),hs.s0⟩
def ZkB (k:Int) (x:Rm):Rm:=⟨k,k+1,k+1+1,k+1+1+1,k+1+1+1+1,k+1+1+1+1+1,mtB (k+1+1+1+1+1+1),Zcr (k+1+1+1+1+1+1+1) x.sl⟩
def ZkG (x:Rm):Nat:=7+2*x.sl.length
def ZbX (Xl:List Rm) (i:Nat):Nat:=((Xl.take i).map ZkG).sum
def Zfs (k:Int) (Xl:List Rm):List Rm:=Xl.mapIdx (fun i x=>ZkB (k+(ZbX Xl i:Int)) x)
theorem Zbi (k:Int) (Xl:List Rm):(Zfs k Xl).length=Xl.length:=by unfold Zfs;simp
theorem Zft (k:Int) (Xl:List Rm) (i:Nat) (h:i < (Zfs k Xl).length) (h':i < Xl.length):(Zfs k Xl)[i]=ZkB (k+(ZbX Xl i:Int)) Xl[i]:=List.getElem_mapIdx (f:=fun i x=>ZkB (k+(ZbX Xl i:Int)) x) (h:=h)
theorem Zdv {i:Nat} (h:i < Xl.length):ZbX Xl (i+1)=ZbX Xl i+ZkG Xl[i]:=by
 unfold ZbX;rw [List.take_succ_eq_append_getElem h,List.map_append,List.sum_append];simp
theorem ZdV (hn:ZbJ Xl):∀ {i:Nat},i<=Xl.length->ZbX Xl i<=i*3000000:=by
 intro i
 induction i with
 | zero=>intro _;simp [ZbX]
 | succ i ih=>
  intro hi';have h1:=ih (by omega);rw [Zdv (by omega)]
  have h2:ZkG Xl[i]<=3000000:=by
   have hsm:=(hn.2 i (by omega)).1;unfold ZkG
   omega
  omega
structure ZcS (wr:World) (b o c0 c1:Nat) (vv0:Value) (v:World) (y:Rm):Prop where
 near:Zb8 b o 8 c0 c1 wr v
 bc:b < c0\/c1<=b
 q0:c0<=c1
 cells:Zco v b o y vv0
 l0:Zap c0 c1 v vv0 y.sl
 frz:∀ i,v.frozen? ⟨b,i,none⟩=false
 lt:b < v.heap.size
theorem ZcS.below (h:ZcS wr b o c0 c1 vv0 v y) (hb:Below v.heap.size v v'):ZcS wr b o c0 c1 vv0 v' y:=
 ⟨h.near.trans (Zb8.below hb h.lt),h.bc,h.q0,h.cells.below hb h.lt,h.l0.below hb,fun i=>(hb.frozen (p:=⟨b,i,none⟩) h.lt).trans (h.frz i),Zk_ h.lt hb.size⟩
theorem ZcS.s0 (h:ZcS wr b o c0 c1 vv0 v y) (u:Int):ZcS wr b o c0 c1 vv0 (v.setCell ⟨b,o,none⟩ (.int .i64 u)) { y with kd:=u }:=by
 obtain⟨h0,h1,h2,h3,h4,h5,h6,h7⟩:=h.cells;have ht:Zad b (b+1) v (v.setCell ⟨b,o,none⟩ (.int .i64 u)):=Zad.setCell _ _ _ _ _ ⟨Nat.le_refl _,by simp only [];omega⟩;have hbc:=h.bc;have hq0:=h.q0;exact⟨h.near.trans (Zb8.set _ _ _ _ _ _ _ _ (by omega) (by omega)),h.bc,h.q0,⟨World.cell?_setCell_same' _ _ _ (by rw [h0];rfl),(cne (by omega)).trans h1,(cne (by omega)).trans h2,(cne (by omega)).trans h3,(cne (by omega)).trans h4,(cne (by omega)).trans h5,(cne (by omega)).trans h6,(cne (by omega)).trans h7⟩,h.l0.touch ht (by omega),fun i=>by rw [World.frozen?_setCell];exact h.frz i,by simpa [World.setCell] using h.lt⟩
theorem ZcS.s1 (h:ZcS wr b o c0 c1 vv0 v y) (u:Int):ZcS wr b o c0 c1 vv0 (v.setCell ⟨b,o+1,none⟩ (.int .i64 u)) { y with fr:=u }:=by
 obtain⟨h0,h1,h2,h3,h4,h5,h6,h7⟩:=h.cells;have ht:Zad b (b+1) v (v.setCell ⟨b,o+1,none⟩ (.int .i64 u)):=Zad.setCell _ _ _ _ _ ⟨Nat.le_refl _,by simp only [];omega⟩;have hbc:=h.bc;have hq0:=h.q0;exact⟨h.near.trans (Zb8.set _ _ _ _ _ _ _ _ (by omega) (by omega)),h.bc,h.q0,⟨(cne (by omega)).trans h0,World.cell?_setCell_same' _ _ _ (by rw [h1];rfl),(cne (by omega)).trans h2,(cne (by omega)).trans h3,(cne (by omega)).trans h4,(cne (by omega)).trans h5,(cne (by omega)).trans h6,(cne (by omega)).trans h7⟩,h.l0.touch ht (by omega),fun i=>by rw [World.frozen?_setCell];exact h.frz i,by simpa [World.setCell] using h.lt⟩
theorem ZcS.s2 (h:ZcS wr b o c0 c1 vv0 v y) (u:Int):ZcS wr b o c0 c1 vv0 (v.setCell ⟨b,o+2,none⟩ (.int .i64 u)) { y with tt:=u }:=by
 obtain⟨h0,h1,h2,h3,h4,h5,h6,h7⟩:=h.cells;have ht:Zad b (b+1) v (v.setCell ⟨b,o+2,none⟩ (.int .i64 u)):=Zad.setCell _ _ _ _ _ ⟨Nat.le_refl _,by simp only [];omega⟩;have hbc:=h.bc;have hq0:=h.q0;exact⟨h.near.trans (Zb8.set _ _ _ _ _ _ _ _ (by omega) (by omega)),h.bc,h.q0,⟨(cne (by omega)).trans h0,(cne (by omega)).trans h1,World.cell?_setCell_same' _ _ _ (by rw [h2];rfl),(cne (by omega)).trans h3,(cne (by omega)).trans h4,(cne (by omega)).trans h5,(cne (by omega)).trans h6,(cne (by omega)).trans h7⟩,h.l0.touch ht (by omega),fun i=>by rw [World.frozen?_setCell];exact h.frz i,by simpa [World.setCell] using h.lt⟩
theorem ZcS.s3 (h:ZcS wr b o c0 c1 vv0 v y) (u:Int):ZcS wr b o c0 c1 vv0 (v.setCell ⟨b,o+3,none⟩ (.int .i64 u)) { y with ba:=u }:=by
 obtain⟨h0,h1,h2,h3,h4,h5,h6,h7⟩:=h.cells;have ht:Zad b (b+1) v (v.setCell ⟨b,o+3,none⟩ (.int .i64 u)):=Zad.setCell _ _ _ _ _ ⟨Nat.le_refl _,by simp only [];omega⟩;have hbc:=h.bc;have hq0:=h.q0;exact⟨h.near.trans (Zb8.set _ _ _ _ _ _ _ _ (by omega) (by omega)),h.bc,h.q0,⟨(cne (by omega)).trans h0,(cne (by omega)).trans h1,(cne (by omega)).trans h2,World.cell?_setCell_same' _ _ _ (by rw [h3];rfl),(cne (by omega)).trans h4,(cne (by omega)).trans h5,(cne (by omega)).trans h6,(cne (by omega)).trans h7⟩,h.l0.touch ht (by omega),fun i=>by rw [World.frozen?_setCell];exact h.frz i,by simpa [World.setCell] using h.lt⟩
theorem ZcS.s4 (h:ZcS wr b o c0 c1 vv0 v y) (u:Int):ZcS wr b o c0 c1 vv0 (v.setCell ⟨b,o+4,none⟩ (.int .i64 u)) { y with ix:=u }:=by
 obtain⟨h0,h1,h2,h3,h4,h5,h6,h7⟩:=h.cells;have ht:Zad b (b+1) v (v.setCell ⟨b,o+4,none⟩ (.int .i64 u)):=Zad.setCell _ _ _ _ _ ⟨Nat.le_refl _,by simp only [];omega⟩;have hbc:=h.bc;have hq0:=h.q0;exact⟨h.near.trans (Zb8.set _ _ _ _ _ _ _ _ (by omega) (by omega)),h.bc,h.q0,⟨(cne (by omega)).trans h0,(cne (by omega)).trans h1,(cne (by omega)).trans h2,(cne (by omega)).trans h3,World.cell?_setCell_same' _ _ _ (by rw [h4];rfl),(cne (by omega)).trans h5,(cne (by omega)).trans h6,(cne (by omega)).trans h7⟩,h.l0.touch ht (by omega),fun i=>by rw [World.frozen?_setCell];exact h.frz i,by simpa [World.setCell] using h.lt⟩
theorem ZcS.s5 (h:ZcS wr b o c0 c1 vv0 v y) (u:Int):ZcS wr b o c0 c1 vv0 (v.setCell ⟨b,o+5,none⟩ (.int .i64 u)) { y with kn:=u }:=by
 obtain⟨h0,h1,h2,h3,h4,h5,h6,h7⟩:=h.cells;have ht:Zad b (b+1) v (v.setCell ⟨b,o+5,none⟩ (.int .i64 u)):=Zad.setCell _ _ _ _ _ ⟨Nat.le_refl _,by simp only [];omega⟩;have hbc:=h.bc;have hq0:=h.q0;exact⟨h.near.trans (Zb8.set _ _ _ _ _ _ _ _ (by omega) (by omega)),h.bc,h.q0,⟨(cne (by omega)).trans h0,(cne (by omega)).trans h1,(cne (by omega)).trans h2,(cne (by omega)).trans h3,(cne (by omega)).trans h4,World.cell?_setCell_same' _ _ _ (by rw [h5];rfl),(cne (by omega)).trans h6,(cne (by omega)).trans h7⟩,h.l0.touch ht (by omega),fun i=>by rw [World.frozen?_setCell];exact h.frz i,by simpa [World.setCell] using h.lt⟩
theorem ZcS.s6 (h:ZcS wr b o c0 c1 vv0 v y) (u:Zy_):ZcS wr b o c0 c1 vv0 (v.setCell ⟨b,o+6,none⟩ (.string u)) { y with tx:=u }:=by
 obtain⟨h0,h1,h2,h3,h4,h5,h6,h7⟩:=h.cells;have ht:Zad b (b+1) v (v.setCell ⟨b,o+6,none⟩ (.string u)):=Zad.setCell _ _ _ _ _ ⟨Nat.le_refl _,by simp only [];omega⟩;have hbc:=h.bc;have hq0:=h.q0;exact⟨h.near.trans (Zb8.set _ _ _ _ _ _ _ _ (by omega) (by omega)),h.bc,h.q0,⟨(cne (by omega)).trans h0,(cne (by omega)).trans h1,(cne (by omega)).trans h2,(cne (by omega)).trans h3,(cne (by omega)).trans h4,(cne (by omega)).trans h5,World.cell?_setCell_same' _ _ _ (by rw [h6];rfl),(cne (by omega)).trans h7⟩,h.l0.touch ht (by omega),fun i=>by rw [World.frozen?_setCell];exact h.frz i,by simpa [World.setCell] using h.lt⟩
theorem ZcS.m0' (h:ZcS wr b o c0 c1 vv0 v y) (ht:Zad c0 c1 v v') {L:List Rs} (hl:Zap c0 c1 v' vv0 L):ZcS wr b o c0 c1 vv0 v' { y with sl:=L }:=by
 obtain⟨h0,h1,h2,h3,h4,h5,h6,h7⟩:=h.cells;have hbc:=h.bc;have hq0:=h.q0;have hlt:=h.lt;have e:∀ i,v'.cell? ⟨b,i,none⟩=v.cell? ⟨b,i,none⟩:=fun i=>ht.cell (p:=⟨b,i,none⟩) h.lt (by simp only [];omega)
 exact⟨h.near.trans (Zb8.touch ht h.lt (by omega) (by omega) (by omega)),h.bc,h.q0,⟨(e _).trans h0,(e _).trans h1,(e _).trans h2,(e _).trans h3,(e _).trans h4,(e _).trans h5,(e _).trans h6,(e _).trans h7⟩,hl,fun i=>(ht.frozen (p:=⟨b,i,none⟩) h.lt (by simp only [];omega)).trans (h.frz i),Zk_ h.lt ht.size⟩
end Go.Proofs.YtdeammfdkaomlaaGreat
