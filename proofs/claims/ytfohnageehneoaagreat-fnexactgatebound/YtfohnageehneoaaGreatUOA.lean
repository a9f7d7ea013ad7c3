import Derived.Test.YtfohnageehneoaaGreatULA
set_option maxHeartbeats 16000000
set_option maxRecDepth 100000
open Go.Proofs.Tryz
namespace Go.Proofs.YtfohnageehneoaaGreat
open Go.RowKit Go.Deep
variable {W0 v w w' wr v':World} {b n lo hi lo' hi' i c0 c1 o1 d0 d1 off m1:Nat} {L:List Int} {x:Le} {Xl:List Tm} {y:Gr} {vv0 vv1:Value}
abbrev Upo (W0:World):World->Prop:=fun W=>Below W0.heap.size W0 W
theorem Upo.cell (X:In (Upo W0)) {p:Addr} {v:Value} (h:W0.cell? p=some v):X.w.cell? p=some v:=
 (Below.cell (show Below W0.heap.size W0 X.w from X.h) (World.block_lt_of_cell? W0 _ h)).trans h
theorem Upo.next (X:In (Upo W0)) {W':World} (h:Below X.w.heap.size X.w W'):∃ Y:In (Upo W0),W'=Y.w:=
 ⟨⟨W',X.h.trans (h.mono X.h.size)⟩,rfl⟩
structure ZbX (b o n lo hi:Nat) (w w':World):Prop where
 os:w'.os=w.os
 tape:w'.tape=w.tape
 output:w'.output=w.output
 size:w.heap.size<=w'.heap.size
 block:∀ k,k < w.heap.size->k≠b->(k < lo\/hi<=k)->w'.heap[k]?=w.heap[k]?
 cell:∀ i,(i < o\/o+n<=i)->w'.cell? ⟨b,i,none⟩=w.cell? ⟨b,i,none⟩
 frz:∀ i,w'.frozen? ⟨b,i,none⟩=w.frozen? ⟨b,i,none⟩
theorem ZbX.refl (b o n lo hi:Nat) (w:World):ZbX b o n lo hi w w:=⟨rfl,rfl,rfl,Nat.le_refl _,fun _ _ _ _=>rfl,fun _ _=>rfl,fun _=>rfl⟩
theorem ZbX.trans {o:Nat}{u:World} (h:ZbX b o n lo hi u v) (k:ZbX b o n lo hi v w):ZbX b o n lo hi u w:=
 ⟨k.os.trans h.os,k.tape.trans h.tape,k.output.trans h.output,Nat.le_trans h.size k.size,fun i hi' hb ho=>(k.block i (Zk_ hi' h.size) hb ho).trans (h.block i hi' hb ho),fun i hi'=>(k.cell i hi').trans (h.cell i hi'),fun i=>(k.frz i).trans (h.frz i)⟩
theorem ZbX.below {o:Nat} (h:Zw_ w w') (hb:b < w.heap.size):ZbX b o n lo hi w w':=
 ⟨h.os,h.tape,h.output,h.size,fun k hk _ _=>h.block k hk,fun i _=>h.cell (p:=⟨b,i,none⟩) hb,fun i=>h.frozen (p:=⟨b,i,none⟩) hb⟩
theorem ZbX.touch {o:Nat} (h:Zad lo' hi' w w') (hb:b < w.heap.size) (h1:lo<=lo') (h2:hi'<=hi) (hx:b < lo'\/hi'<=b):ZbX b o n lo hi w w':=
 ⟨h.os,h.tape,h.output,h.size,fun k hk _ ho=>h.block k hk (by omega),fun i _=>h.cell (p:=⟨b,i,none⟩) hb hx,fun i=>h.frozen (p:=⟨b,i,none⟩) hb hx⟩
theorem ZbX.set (b o n lo hi:Nat) (w:World) (i:Nat) (u:Value) (h1:o<=i) (h2:i < o+n):ZbX b o n lo hi w (w.setCell ⟨b,i,none⟩ u):=
 ⟨rfl,rfl,rfl,by simp [World.setCell],fun k _ hb _=>Below.heap_setCell _ _ _ _ hb,fun j hj=>by apply World.cell?_setCell_other;simp only [ne_eq,Addr.mk.injEq,not_and];omega,fun j=>by rw [World.frozen?_setCell]⟩
theorem ZbX.wide {o:Nat} (h:ZbX b o n lo hi w w') (_hb:b < w.heap.size) (h1:lo'<=lo) (h2:hi<=hi') (hx:lo'<=b/\b < hi'):Zad lo' hi' w w':=
 ⟨h.os,h.tape,h.output,h.size,fun k hk ho=>h.block k hk (by omega) (by omega)⟩
theorem ZbX.o {o:Nat} (h:ZbX b o n lo hi w w') {p:Addr} (hp:p.block < w.heap.size) (hb:p.block≠b) (ho:p.block < lo\/hi<=p.block):w'.cell? p=w.cell? p/\w'.frozen? p=w.frozen? p:=
 ⟨World.cell?_of_block (w:=w) (h.block p.block hp hb ho),World.frozen?_of_block (w:=w) (h.block p.block hp hb ho)⟩
theorem Zae.near {o:Nat}{v:Value}{L:List Zy_} (h:Zae lo hi w v L) (ht:ZbX b o n lo' hi' w w') (ho:hi<=lo'\/hi'<=lo) (hb:b < lo\/hi<=b):Zae lo hi w' v L:=by
 rcases h with h | ⟨g,off,cap,h1,h2,h3,h4,h5,h6,h7,h8,h9⟩
 . exact Or.inl h
 . exact Or.inr ⟨g,off,cap,h1,h2,h3,Zk_ h4 ht.size,fun i hi'=>((ht.o (p:=⟨g,off+i,none⟩) h4 (by simp only [ne_eq];omega) (by dsimp;omega)).1).trans (h5 i hi'),h6,h7,h8,fun i=>((ht.o (p:=⟨g,off+i,none⟩) h4 (by simp only [ne_eq];omega) (by dsimp;omega)).2).trans (h9 i)⟩
theorem Zae.in' {v:Value}{L:List Zy_} (h:Zae lo hi w v L):Zaq lo w v L:=by
 rcases h with h | ⟨g,off,cap,h1,h2,h3,h4,h5,h6,h7,h8,h9⟩
 . exact Or.inl h
 . exact Or.inr ⟨g,off,cap,h1,h2,h3,h4,h5,h6,h7⟩
theorem cne {j:Nat}{u:Value} (h:i≠j):(v.setCell ⟨b,i,none⟩ u).cell? ⟨b,j,none⟩=v.cell? ⟨b,j,none⟩:=by
 apply World.cell?_setCell_other;simp only [ne_eq,Addr.mk.injEq,not_and]
 omega
theorem Zad.setB (B:Nat) (w:World) (i:Nat) (u:Value):Zad B (B+1) w (w.setCell ⟨B,i,none⟩ u):=Zad.setCell _ _ _ _ _ ⟨Nat.le_refl _,Nat.lt_succ_self _⟩
def Zat (lo hi:Nat) (w:World) (v:Value) (L:List Int):Prop:=
 (∃ (a:Option Addr) (cap:Nat),v=.slice a 0 cap/\L=[])\/
 ∃ (b off cap:Nat),v=.slice (some ⟨b,off,none⟩) L.length cap/\L≠[]/\L.length<=maxLen/\b < w.heap.size/\
  (∀ i (h:i < L.length),w.cell? ⟨b,off+i,none⟩=some (.int .i64 L[i]))/\lo<=b/\b < hi/\∀ i,w.frozen? ⟨b,off+i,none⟩=false
theorem Zat.near {o:Nat}{v:Value} (h:Zat lo hi w v L) (ht:ZbX b o n lo' hi' w w') (ho:hi<=lo'\/hi'<=lo) (hb:b < lo\/hi<=b):Zat lo hi w' v L:=by
 rcases h with h | ⟨g,off,cap,h1,h2,h3,h4,h5,h7,h8,h9⟩
 . exact Or.inl h
 . exact Or.inr ⟨g,off,cap,h1,h2,h3,Zk_ h4 ht.size,fun i hi'=>((ht.o (p:=⟨g,off+i,none⟩) h4 (by simp only [ne_eq];omega) (by dsimp;omega)).1).trans (h5 i hi'),h7,h8,fun i=>((ht.o (p:=⟨g,off+i,none⟩) h4 (by simp only [ne_eq];omega) (by dsimp;omega)).2).trans (h9 i)⟩
theorem Zat.below {v:Value} (h:Zat lo hi w v L) (hb:Zw_ w w'):Zat lo hi w' v L:=by
 rcases h with h | ⟨g,off,cap,h1,h2,h3,h4,h5,h7,h8,h9⟩
 . exact Or.inl h
 . exact Or.inr ⟨g,off,cap,h1,h2,h3,Zk_ h4 hb.size,fun i hi'=>(hb.cell (p:=⟨g,off+i,none⟩) h4).trans (h5 i hi'),h7,h8,fun i=>(hb.frozen (p:=⟨g,off+i,none⟩) h4).trans (h9 i)⟩
theorem Zat.touch {v:Value} (h:Zat lo hi w v L) (ht:Zad lo' hi' w w') (ho:hi<=lo'\/hi'<=lo):Zat lo hi w' v L:=by
 rcases h with h | ⟨b,off,cap,h1,h2,h3,h4,h5,h7,h8,h9⟩
 . exact Or.inl h
 . exact Or.inr ⟨b,off,cap,h1,h2,h3,Zk_ h4 ht.size,fun i hi'=>(ht.cell (p:=⟨b,off+i,none⟩) h4 (by dsimp;omega)).trans (h5 i hi'),h7,h8,fun i=>(ht.frozen (p:=⟨b,off+i,none⟩) h4 (by dsimp;omega)).trans (h9 i)⟩
theorem Zat.in' {v:Value} (h:Zat lo hi w v L):Zau lo w v L:=by
 rcases h with h | ⟨g,off,cap,h1,h2,h3,h4,h5,h7,h8,h9⟩
 . exact Or.inl h
 . exact Or.inr ⟨g,off,cap,h1,h2,h3,h4,h7,h5⟩
theorem Zat.wide {v:Value} (h:Zat lo hi w v L) (h1:lo'<=lo) (h2:hi<=hi'):Zat lo' hi' w v L:=by
 rcases h with h | ⟨g,off,cap,e1,e2,e3,e4,e5,e7,e8,e9⟩
 . exact Or.inl h
 . exact Or.inr ⟨g,off,cap,e1,e2,e3,e4,e5,by omega,by omega,e9⟩
theorem Zat.form {v:Value} (h:Zat lo hi w v L):∃ a cap,v=.slice a L.length cap:=by
 rcases h with ⟨a,cap,h,rfl⟩ | ⟨b,off,cap,h,_⟩
 . exact⟨a,cap,h⟩
 . exact⟨_,cap,h⟩
def ZdS (k:Int) (n:Nat):List Int:=(List.range n).map fun (i:Nat)=>k+(i:Int)
theorem Zb2 (k:Int) (n:Nat):(ZdS k n).length=n:=by simp [ZdS]
theorem ZhZ (k:Int) (n i:Nat) (h:i < (ZdS k n).length):(ZdS k n)[i]=k+i:=by simp [ZdS]
theorem Zjy (lo hi:Nat) (v:Value) (L:List Int) (k:Int) (w:World) (hv:Zat lo hi w v L) (h0:0<=k) (hk:k+L.length<=4000000000000000000) :
 Calls prog 124 #[v,.int .i64 k] w fun e w'=>e=.returned (.int .i64 (k+L.length))/\Zad lo hi w w'/\Zat lo hi w' v (ZdS k L.length):=by
 rcases hv with ⟨a,cap,rfl,rfl⟩ | ⟨b,off,cap,rfl,hne,hm,hbw,hc,hlo,hhi,hfr⟩
 . go_enter func124,ntmps124
   go_wp2
   go_loop [5,1] (fun i q=>i=.int .i64 0/\q=.int .i64 k) (fun _ _=>0)
   case atStart=>exact⟨rfl,rfl⟩
   case round=>
    obtain⟨rfl,rfl⟩:=hrel;go_wp2;go_ret;exact⟨by simp,Zad.refl _ _ _,Or.inl ⟨_,_,rfl,rfl⟩⟩
 . unfold maxLen at hm
   go_enter func124,ntmps124;go_wp2
   go_loopw [5,1] (fun i q wr=>∃ j:Nat,i=.int .i64 j/\q=.int .i64 (k+j)/\j<=L.length/\Zad lo hi w wr/\(∀ i,i < j->wr.cell? ⟨b,off+i,none⟩=some (.int .i64 (k+i)))/\(∀ i (h:i < L.length),j<=i->wr.cell? ⟨b,off+i,none⟩=some (.int .i64 L[i]))/\∀ i,wr.frozen? ⟨b,off+i,none⟩=false) (fun i _ _=>L.length - (intOf i).toNat)
   case atStart=>exact⟨0,rfl,by simp,by omega,Zad.refl _ _ _,fun i h=>by omega,fun i h _=>hc i h,hfr⟩
   case round=>
    obtain⟨j,rfl,rfl,hj,ht,hA,hB,hF⟩:=hrel;have HT:=Zab ht;have HA:=Zab hA;have HBB:=Zab hB;have HF:=Zab hF;clear ht hA hB hF
    by_cases hlt:j < L.length
    . have hcj:wr.cell? ⟨b,off+j,none⟩=some (.int .i64 L[j]):=HBB.o j hlt Zl_
      have hfj:wr.frozen? ⟨b,off+j,none⟩=false:=HF.o j;go_wp2;go_roundw
      . 
       refine⟨j+1,by go_num,by go_num,by omega,HT.o.trans (Zad.setCell _ _ _ _ _ ⟨hlo,hhi⟩),fun i hi'=>?_,fun i h hi'=>?_,fun i=>?_⟩
       . by_cases e:i=j
         . subst e;exact World.cell?_setCell_same' _ _ _ (by rw [hcj];rfl)
         . rw [show (wr.setCell ⟨b,off+j,none⟩ (.int .i64 (k+j))).cell? ⟨b,off+i,none⟩=wr.cell? ⟨b,off+i,none⟩ from by apply World.cell?_setCell_other;simp only [ne_eq,Addr.mk.injEq,not_and];omega]
           exact HA.o i (by omega)
       . rw [show (wr.setCell ⟨b,off+j,none⟩ (.int .i64 (k+j))).cell? ⟨b,off+i,none⟩=wr.cell? ⟨b,off+i,none⟩ from by apply World.cell?_setCell_other;simp only [ne_eq,Addr.mk.injEq,not_and];omega]
         exact HBB.o i h (by omega)
       . rw [World.frozen?_setCell]
         exact HF.o i
      . simp [intOf];omega
    . have e:j=L.length:=by omega
      subst e;go_wp2;go_ret;refine⟨rfl,HT.o,Or.inr ⟨b,off,cap,by rw [Zb2],?_,by rw [Zb2];unfold maxLen;omega,Zk_ hbw HT.o.size,fun i h=>?_,hlo,hhi,HF.o⟩⟩
      . intro e;have:=congrArg List.length e;rw [Zb2] at this;simp at this;exact hne this
      . rw [ZhZ];exact HA.o i (by rw [Zb2] at h;exact h)
theorem Zjm (lo:Nat) (v:Value) (n:Nat) (k:Int) (w:World) (hv:Zau lo w v (ZdS k n)) (h0:0<=k) (hk:k+n<=4000000000000000000) :
 Calls prog 126 #[v,.int .i64 k] w fun e w'=>e=.returned (.int .i64 (k+n))/\Zw_ w w':=by
 have HV:=Zab hv;obtain⟨a,cap,rfl⟩:=hv.form;clear hv;rw [Zb2] at HV;rw [Zb2];go_enter func126,ntmps126;go_wp2
 go_loop [5,1] (fun i q=>∃ j:Nat,i=.int .i64 j/\q=.int .i64 (k+j)/\j<=n) (fun i _=>n - (intOf i).toNat)
 case atStart=>exact⟨0,rfl,by simp,by omega⟩
 case round=>
  obtain⟨j,rfl,rfl,hj⟩:=hrel
  by_cases hlt:j < n
  . obtain⟨b,off,rfl,hbw,hc⟩:=HV.o.full' (by rw [Zb2];omega)
    have hcj:w.cell? ⟨b,off+j,none⟩=some (.int .i64 (k+j)):=by rw [hc j (by rw [Zb2];omega),ZhZ]
    clear hc;go_wp2
    go_round
    . exact⟨j+1,by go_num,by go_num,by omega⟩
    . simp [intOf];omega
  . have e:j=n:=by omega
    subst e;go_wp2;go_ret;exact⟨rfl,Below.refl _ _⟩
def ZfI (b o _c0 _c1:Nat) (w:World) (x:Le):Prop:=Zco x/\ZcV w b o x
theorem ZfI.near {o:Nat} (h:ZfI b o c0 c1 w x) (hn:ZbX b o1 4 d0 d1 w w') (ho:o+4<=o1\/o1+4<=o) (hi:c1<=d0\/d1<=c0) (hb:b < c0\/c1<=b):ZfI b o c0 c1 w' x:=by
 obtain⟨hs,hc⟩:=h;obtain⟨h0,h1,h2,h3⟩:=hc;have e:∀ t,t < 4->w'.cell? ⟨b,o+t,none⟩=w.cell? ⟨b,o+t,none⟩:=fun t ht=>hn.cell _ (by omega)
 have e0:w'.cell? ⟨b,o,none⟩=w.cell? ⟨b,o,none⟩:=hn.cell _ (by omega);exact⟨hs,⟨e0.trans h0,(e 1 (by omega)).trans h1,(e 2 (by omega)).trans h2,(e 3 (by omega)).trans h3⟩⟩
theorem ZfI.touch {o:Nat} (h:ZfI b o c0 c1 w x) (ht:Zad lo hi w w') (hlt:b < w.heap.size) (hb:b < lo\/hi<=b) (_hi:c1<=lo\/hi<=c0):ZfI b o c0 c1 w' x:=by
 obtain⟨hs,hc⟩:=h;obtain⟨h0,h1,h2,h3⟩:=hc;exact⟨hs,⟨(ht.cell (p:=⟨b,o,none⟩) hlt hb).trans h0,(ht.cell (p:=⟨b,o+1,none⟩) hlt hb).trans h1,(ht.cell (p:=⟨b,o+2,none⟩) hlt hb).trans h2,(ht.cell (p:=⟨b,o+3,none⟩) hlt hb).trans h3⟩⟩
theorem ZfI.below {o:Nat} (h:ZfI b o c0 c1 w x) (ht:Zw_ w w') (hlt:b < w.heap.size):ZfI b o c0 c1 w' x:=by
 obtain⟨hs,hc⟩:=h;obtain⟨h0,h1,h2,h3⟩:=hc;exact⟨hs,⟨(ht.cell (p:=⟨b,o,none⟩) hlt).trans h0,(ht.cell (p:=⟨b,o+1,none⟩) hlt).trans h1,(ht.cell (p:=⟨b,o+2,none⟩) hlt).trans h2,(ht.cell (p:=⟨b,o+3,none⟩) hlt).trans h3⟩⟩
structure ZeM (lo hi:Nat) (w:World) (b off n:Nat) (c:Nat->Nat) (X:Nat->Le):Prop where
 lt:b < w.heap.size
 low:lo<=b
 bc:b < c 0
 bh:b < hi
 mono:∀ i,i < n->c i<=c (i+1)
 top:c n<=hi
 frz:∀ i,w.frozen? ⟨b,i,none⟩=false
 row:∀ i,i < n->ZfI b (off+i*4) (c i) (c (i+1)) w (X i)
theorem ZeM.le {c:Nat->Nat}{X:Nat->Le} (h:ZeM lo hi w b off n c X) {i:Nat}:∀ {j:Nat},i<=j->j<=n->c i<=c j:=by
 intro j
 induction j with
 | zero=>intro hij _;have:i=0:=by omega
         subst this;exact Nat.le_refl _
 | succ j ih=>
  intro hij hjn
  by_cases e:i=j+1
  . subst e;exact Nat.le_refl _
  . exact Nat.le_trans (ih (by omega) (by omega)) (h.mono j (by omega))
theorem ZeM.near {c:Nat->Nat}{X:Nat->Le} (h:ZeM lo hi w b off n c X) {j:Nat} (hj:j < n) (hn:ZbX b (off+j*4) 4 (c j) (c (j+1)) w w') {x:Le} (hx:ZfI b (off+j*4) (c j) (c (j+1)) w' x):ZeM lo hi w' b off n c (fun i=>if i=j then x else X i):=by
 refine⟨Zk_ h.lt hn.size,h.low,h.bc,h.bh,h.mono,h.top,fun i=>(hn.frz i).trans (h.frz i),fun i hi'=>?_⟩
 by_cases e:i=j
 . subst e;rw [if_pos rfl];exact hx
 . rw [if_neg e]
   have h0:=h.le (Nat.zero_le i) (by omega);have hbc:=h.bc;refine (h.row i hi').near hn (by omega) ?_ (by omega)
   rcases Nat.lt_or_ge i j with hij | hij
   . exact Or.inl (h.le (by omega) (by omega))
   . exact Or.inr (h.le (by omega) (by omega))
theorem ZeM.touch {c:Nat->Nat}{X:Nat->Le} (h:ZeM lo hi w b off n c X) (ht:Zad lo' hi' w w') (ho:hi<=lo'\/hi'<=lo):ZeM lo hi w' b off n c X:=by
 have h1:=h.low;have h2:=h.bh;have h3:=h.top;have h4:=h.bc;refine⟨Zk_ h.lt ht.size,h.low,h.bc,h.bh,h.mono,h.top,fun i=>(ht.frozen (p:=⟨b,i,none⟩) h.lt (by dsimp;omega)).trans (h.frz i),fun i hi'=>?_⟩;have h5:=h.le (Nat.zero_le i) (by omega);have h6:=h.le (i:=i+1) (j:=n) (by omega) Zl_;exact (h.row i hi').touch ht h.lt (by omega) (by omega)
theorem ZeM.below {c:Nat->Nat}{X:Nat->Le} (h:ZeM lo hi w b off n c X) (ht:Zw_ w w'):ZeM lo hi w' b off n c X:=
 ⟨Zk_ h.lt ht.size,h.low,h.bc,h.bh,h.mono,h.top,fun i=>(ht.frozen (p:=⟨b,i,none⟩) h.lt).trans (h.frz i),fun i hi'=>(h.row i hi').below ht h.lt⟩
theorem ZeM.to {c:Nat->Nat}{X Y:Nat->Le} (h:ZeM lo hi w b off n c X) (e:∀ i,i < n->X i=Y i):ZeM lo hi w b off n c Y:=
 ⟨h.lt,h.low,h.bc,h.bh,h.mono,h.top,h.frz,fun i hi'=>e i hi' ▸ h.row i hi'⟩
def ZaJ (lo hi:Nat) (w:World) (v:Value) (Xl:List Le):Prop:=
 (∃ (a:Option Addr) (cap:Nat),v=.slice a 0 cap/\Xl=[])\/
 ∃ (b off cap:Nat) (c:Nat->Nat) (X:Nat->Le),v=.slice (some ⟨b,off,none⟩) Xl.length cap/\Xl≠[]/\Xl.length<=maxLen/\Xl.length<=cap/\(∀ i (h:i < Xl.length),X i=Xl[i])/\ZeM lo hi w b off Xl.length c X
theorem ZaJ.touch {v:Value}{Xl:List Le} (h:ZaJ lo hi w v Xl) (ht:Zad lo' hi' w w') (ho:hi<=lo'\/hi'<=lo):ZaJ lo hi w' v Xl:=by
 rcases h with h | ⟨b,off,cap,c,X,h1,h2,h3,h4,h5,h6⟩
 . exact Or.inl h
 . exact Or.inr ⟨b,off,cap,c,X,h1,h2,h3,h4,h5,h6.touch ht ho⟩
theorem ZaJ.below {v:Value}{Xl:List Le} (h:ZaJ lo hi w v Xl) (ht:Zw_ w w'):ZaJ lo hi w' v Xl:=by
 rcases h with h | ⟨b,off,cap,c,X,h1,h2,h3,h4,h5,h6⟩
 . exact Or.inl h
 . exact Or.inr ⟨b,off,cap,c,X,h1,h2,h3,h4,h5,h6.below ht⟩
theorem ZaJ.form {v:Value}{Xl:List Le} (h:ZaJ lo hi w v Xl):∃ a cap,v=.slice a Xl.length cap:=by
 rcases h with ⟨a,cap,h,rfl⟩ | ⟨b,off,cap,c,X,h1,_⟩
 . exact⟨a,cap,h⟩
 . exact⟨_,cap,h1⟩
theorem ZaJ.at {v:Value}{Xl:List Le} (h:ZaJ lo hi w v Xl):ZbG lo w v Xl:=by
 rcases h with h | ⟨b,off,cap,c,X,h1,h2,h3,h4,h5,h6⟩
 . exact Or.inl h
 . refine Or.inr ⟨b,off,cap,h1,h2,h3,h6.lt,h6.low,h4,fun i hi'=>?_⟩
   have hr:=h6.row i hi';rw [h5 i hi'] at hr;obtain⟨hs,hc⟩:=hr;exact⟨hs,hc⟩
def Zsk (k:Int) (_x:Le):Le:=⟨mtB (k),mtB (k+1),k+1+1,k+1+1+1⟩
def Zsn (_x:Le):Nat:=4
def ZcG (Xl:List Le) (i:Nat):Nat:=((Xl.take i).map Zsn).sum
def Zko (k:Int) (Xl:List Le):List Le:=Xl.mapIdx (fun i x=>Zsk (k+(ZcG Xl i:Int)) x)
theorem ZbN (k:Int) (Xl:List Le):(Zko k Xl).length=Xl.length:=by unfold Zko;simp
theorem Zjx (k:Int) (Xl:List Le) (i:Nat) (h:i < (Zko k Xl).length) (h':i < Xl.length):(Zko k Xl)[i]=Zsk (k+(ZcG Xl i:Int)) Xl[i]:=List.getElem_mapIdx (f:=fun i x=>Zsk (k+(ZcG Xl i:Int)) x) (h:=h)
theorem ZfY {Xl:List Le} (h:i < Xl.length):ZcG Xl (i+1)=ZcG Xl i+Zsn Xl[i]:=by
 unfold ZcG;rw [List.take_succ_eq_append_getElem h,List.map_append,List.sum_append];simp
theorem Zi2 {Xl:List Le} (hn:Zd7 Xl):∀ {i:Nat},i<=Xl.length->ZcG Xl i<=i*3000000:=by
 intro i
 induction i with
 | zero=>intro _;simp [ZcG]
 | succ i ih=>
  intro hi';have h1:=ih (by omega);rw [ZfY (by omega)]
  have h2:Zsn Xl[i]<=3000000:=by
   have hsm:=hn.2 i (by omega);unfold Zhs at hsm;unfold Zsn
   omega
  omega
structure ZiF (wr:World) (b o c0 c1:Nat) (v:World) (y:Le):Prop where
 near:ZbX b o 4 c0 c1 wr v
 bc:b < c0
 cells:ZcV v b o y
 frz:∀ i,v.frozen? ⟨b,i,none⟩=false
 lt:b < v.heap.size
theorem ZiF.below {o:Nat}{y:Le} (h:ZiF wr b o c0 c1 v y) (hb:Below v.heap.size v v'):ZiF wr b o c0 c1 v' y:=
 ⟨h.near.trans (ZbX.below hb h.lt),h.bc,h.cells.below hb h.lt,fun i=>(hb.frozen (p:=⟨b,i,none⟩) h.lt).trans (h.frz i),Zk_ h.lt hb.size⟩
theorem ZiF.s0 {o:Nat}{y:Le} (h:ZiF wr b o c0 c1 v y) (u:Zy_):ZiF wr b o c0 c1 (v.setCell ⟨b,o,none⟩ (.string u)) { y with tm:=u }:=by
 obtain⟨h0,h1,h2,h3⟩:=h.cells;have ht:Zad b (b+1) v (v.setCell ⟨b,o,none⟩ (.string u)):=Zad.setCell _ _ _ _ _ ⟨Nat.le_refl _,by dsimp;omega⟩;have hbc:=h.bc;exact⟨h.near.trans (ZbX.set _ _ _ _ _ _ _ _ (by omega) (by omega)),h.bc,⟨World.cell?_setCell_same' _ _ _ (by rw [h0];rfl),(cne (by omega)).trans h1,(cne (by omega)).trans h2,(cne (by omega)).trans h3⟩,fun i=>by rw [World.frozen?_setCell];exact h.frz i,by simpa [World.setCell] using h.lt⟩
theorem ZiF.s1 {o:Nat}{y:Le} (h:ZiF wr b o c0 c1 v y) (u:Zy_):ZiF wr b o c0 c1 (v.setCell ⟨b,o+1,none⟩ (.string u)) { y with re:=u }:=by
 obtain⟨h0,h1,h2,h3⟩:=h.cells;have ht:Zad b (b+1) v (v.setCell ⟨b,o+1,none⟩ (.string u)):=Zad.setCell _ _ _ _ _ ⟨Nat.le_refl _,by dsimp;omega⟩;have hbc:=h.bc;exact⟨h.near.trans (ZbX.set _ _ _ _ _ _ _ _ (by omega) (by omega)),h.bc,⟨(cne (by omega)).trans h0,World.cell?_setCell_same' _ _ _ (by rw [h1];rfl),(cne (by omega)).trans h2,(cne (by omega)).trans h3⟩,fun i=>by rw [World.frozen?_setCell];exact h.frz i,by simpa [World.setCell] using h.lt⟩
theorem ZiF.s2 {o:Nat}{y:Le} (h:ZiF wr b o c0 c1 v y) (u:Int):ZiF wr b o c0 c1 (v.setCell ⟨b,o+2,none⟩ (.int .i64 u)) { y with mo:=u }:=by
 obtain⟨h0,h1,h2,h3⟩:=h.cells;have ht:Zad b (b+1) v (v.setCell ⟨b,o+2,none⟩ (.int .i64 u)):=Zad.setCell _ _ _ _ _ ⟨Nat.le_refl _,by dsimp;omega⟩;have hbc:=h.bc;exact⟨h.near.trans (ZbX.set _ _ _ _ _ _ _ _ (by omega) (by omega)),h.bc,⟨(cne (by omega)).trans h0,(cne (by omega)).trans h1,World.cell?_setCell_same' _ _ _ (by rw [h2];rfl),(cne (by omega)).trans h3⟩,fun i=>by rw [World.frozen?_setCell];exact h.frz i,by simpa [World.setCell] using h.lt⟩
theorem ZiF.s3 {o:Nat}{y:Le} (h:ZiF wr b o c0 c1 v y) (u:Int):ZiF wr b o c0 c1 (v.setCell ⟨b,o+3,none⟩ (.int .i64 u)) { y with fr:=u }:=by
 obtain⟨h0,h1,h2,h3⟩:=h.cells;have ht:Zad b (b+1) v (v.setCell ⟨b,o+3,none⟩ (.int .i64 u)):=Zad.setCell _ _ _ _ _ ⟨Nat.le_refl _,by dsimp;omega⟩;have hbc:=h.bc;exact⟨h.near.trans (ZbX.set _ _ _ _ _ _ _ _ (by omega) (by omega)),h.bc,⟨(cne (by omega)).trans h0,(cne (by omega)).trans h1,(cne (by omega)).trans h2,World.cell?_setCell_same' _ _ _ (by rw [h3];rfl)⟩,fun i=>by rw [World.frozen?_setCell];exact h.frz i,by simpa [World.setCell] using h.lt⟩
def Zf5 (b o _c0 _c1:Nat) (w:World) (x:Pu):Prop:=Zds x/\ZcS w b o x
theorem Zf5.near {o:Nat}{x:Pu} (h:Zf5 b o c0 c1 w x) (hn:ZbX b o1 5 d0 d1 w w') (ho:o+5<=o1\/o1+5<=o) (hi:c1<=d0\/d1<=c0) (hb:b < c0\/c1<=b):Zf5 b o c0 c1 w' x:=by
 obtain⟨hs,hc⟩:=h;obtain⟨h0,h1,h2,h3,h4⟩:=hc;have e:∀ t,t < 5->w'.cell? ⟨b,o+t,none⟩=w.cell? ⟨b,o+t,none⟩:=fun t ht=>hn.cell _ (by omega)
 have e0:w'.cell? ⟨b,o,none⟩=w.cell? ⟨b,o,none⟩:=hn.cell _ (by omega);exact⟨hs,⟨e0.trans h0,(e 1 (by omega)).trans h1,(e 2 (by omega)).trans h2,(e 3 (by omega)).trans h3,(e 4 (by omega)).trans h4⟩⟩
theorem Zf5.touch {o:Nat}{x:Pu} (h:Zf5 b o c0 c1 w x) (ht:Zad lo hi w w') (hlt:b < w.heap.size) (hb:b < lo\/hi<=b) (_hi:c1<=lo\/hi<=c0):Zf5 b o c0 c1 w' x:=by
 obtain⟨hs,hc⟩:=h;obtain⟨h0,h1,h2,h3,h4⟩:=hc;exact⟨hs,⟨(ht.cell (p:=⟨b,o,none⟩) hlt hb).trans h0,(ht.cell (p:=⟨b,o+1,none⟩) hlt hb).trans h1,(ht.cell (p:=⟨b,o+2,none⟩) hlt hb).trans h2,(ht.cell (p:=⟨b,o+3,none⟩) hlt hb).trans h3,(ht.cell (p:=⟨b,o+4,none⟩) hlt hb).trans h4⟩⟩
theorem Zf5.below {o:Nat}{x:Pu} (h:Zf5 b o c0 c1 w x) (ht:Zw_ w w') (hlt:b < w.heap.size):Zf5 b o c0 c1 w' x:=by
 obtain⟨hs,hc⟩:=h;obtain⟨h0,h1,h2,h3,h4⟩:=hc;exact⟨hs,⟨(ht.cell (p:=⟨b,o,none⟩) hlt).trans h0,(ht.cell (p:=⟨b,o+1,none⟩) hlt).trans h1,(ht.cell (p:=⟨b,o+2,none⟩) hlt).trans h2,(ht.cell (p:=⟨b,o+3,none⟩) hlt).trans h3,(ht.cell (p:=⟨b,o+4,none⟩) hlt).trans h4⟩⟩
structure ZeO (lo hi:Nat) (w:World) (b off n:Nat) (c:Nat->Nat) (X:Nat->Pu):Prop where
 lt:b < w.heap.size
 low:lo<=b
 bc:b < c 0
 bh:b < hi
 mono:∀ i,i < n->c i<=c (i+1)
 top:c n<=hi
 frz:∀ i,w.frozen? ⟨b,i,none⟩=false
 row:∀ i,i < n->Zf5 b (off+i*5) (c i) (c (i+1)) w (X i)
theorem ZeO.le {c:Nat->Nat}{X:Nat->Pu} (h:ZeO lo hi w b off n c X) {i:Nat}:∀ {j:Nat},i<=j->j<=n->c i<=c j:=by
 intro j
 induction j with
 | zero=>intro hij _;have:i=0:=by omega
         subst this;exact Nat.le_refl _
 | succ j ih=>
  intro hij hjn
  by_cases e:i=j+1
  . subst e;exact Nat.le_refl _
  . exact Nat.le_trans (ih (by omega) (by omega)) (h.mono j (by omega))
theorem ZeO.near {c:Nat->Nat}{X:Nat->Pu} (h:ZeO lo hi w b off n c X) {j:Nat} (hj:j < n) (hn:ZbX b (off+j*5) 5 (c j) (c (j+1)) w w') {x:Pu} (hx:Zf5 b (off+j*5) (c j) (c (j+1)) w' x):ZeO lo hi w' b off n c (fun i=>if i=j then x else X i):=by
 refine⟨Zk_ h.lt hn.size,h.low,h.bc,h.bh,h.mono,h.top,fun i=>(hn.frz i).trans (h.frz i),fun i hi'=>?_⟩
 by_cases e:i=j
 . subst e;rw [if_pos rfl];exact hx
 . rw [if_neg e]
   have h0:=h.le (Nat.zero_le i) (by omega);have hbc:=h.bc;refine (h.row i hi').near hn (by omega) ?_ (by omega)
   rcases Nat.lt_or_ge i j with hij | hij
   . exact Or.inl (h.le (by omega) (by omega))
   . exact Or.inr (h.le (by omega) (by omega))
theorem ZeO.touch {c:Nat->Nat}{X:Nat->Pu} (h:ZeO lo hi w b off n c X) (ht:Zad lo' hi' w w') (ho:hi<=lo'\/hi'<=lo):ZeO lo hi w' b off n c X:=by
 have h1:=h.low;have h2:=h.bh;have h3:=h.top;have h4:=h.bc;refine⟨Zk_ h.lt ht.size,h.low,h.bc,h.bh,h.mono,h.top,fun i=>(ht.frozen (p:=⟨b,i,none⟩) h.lt (by dsimp;omega)).trans (h.frz i),fun i hi'=>?_⟩;have h5:=h.le (Nat.zero_le i) (by omega);have h6:=h.le (i:=i+1) (j:=n) (by omega) Zl_;exact (h.row i hi').touch ht h.lt (by omega) (by omega)
theorem ZeO.below {c:Nat->Nat}{X:Nat->Pu} (h:ZeO lo hi w b off n c X) (ht:Zw_ w w'):ZeO lo hi w' b off n c X:=
 ⟨Zk_ h.lt ht.size,h.low,h.bc,h.bh,h.mono,h.top,fun i=>(ht.frozen (p:=⟨b,i,none⟩) h.lt).trans (h.frz i),fun i hi'=>(h.row i hi').below ht h.lt⟩
theorem ZeO.to {c:Nat->Nat}{X Y:Nat->Pu} (h:ZeO lo hi w b off n c X) (e:∀ i,i < n->X i=Y i):ZeO lo hi w b off n c Y:=
 ⟨h.lt,h.low,h.bc,h.bh,h.mono,h.top,h.frz,fun i hi'=>e i hi' ▸ h.row i hi'⟩
def Zbx (lo hi:Nat) (w:World) (v:Value) (Xl:List Pu):Prop:=
 (∃ (a:Option Addr) (cap:Nat),v=.slice a 0 cap/\Xl=[])\/
 ∃ (b off cap:Nat) (c:Nat->Nat) (X:Nat->Pu),v=.slice (some ⟨b,off,none⟩) Xl.length cap/\Xl≠[]/\Xl.length<=maxLen/\Xl.length<=cap/\(∀ i (h:i < Xl.length),X i=Xl[i])/\ZeO lo hi w b off Xl.length c X
theorem Zbx.touch {v:Value}{Xl:List Pu} (h:Zbx lo hi w v Xl) (ht:Zad lo' hi' w w') (ho:hi<=lo'\/hi'<=lo):Zbx lo hi w' v Xl:=by
 rcases h with h | ⟨b,off,cap,c,X,h1,h2,h3,h4,h5,h6⟩
 . exact Or.inl h
 . exact Or.inr ⟨b,off,cap,c,X,h1,h2,h3,h4,h5,h6.touch ht ho⟩
theorem Zbx.below {v:Value}{Xl:List Pu} (h:Zbx lo hi w v Xl) (ht:Zw_ w w'):Zbx lo hi w' v Xl:=by
 rcases h with h | ⟨b,off,cap,c,X,h1,h2,h3,h4,h5,h6⟩
 . exact Or.inl h
 . exact Or.inr ⟨b,off,cap,c,X,h1,h2,h3,h4,h5,h6.below ht⟩
theorem Zbx.form {v:Value}{Xl:List Pu} (h:Zbx lo hi w v Xl):∃ a cap,v=.slice a Xl.length cap:=by
 rcases h with ⟨a,cap,h,rfl⟩ | ⟨b,off,cap,c,X,h1,_⟩
 . exact⟨a,cap,h⟩
 . exact⟨_,cap,h1⟩
theorem Zbx.at {v:Value}{Xl:List Pu} (h:Zbx lo hi w v Xl):ZbW lo w v Xl:=by
 rcases h with h | ⟨b,off,cap,c,X,h1,h2,h3,h4,h5,h6⟩
 . exact Or.inl h
 . refine Or.inr ⟨b,off,cap,h1,h2,h3,h6.lt,h6.low,h4,fun i hi'=>?_⟩
   have hr:=h6.row i hi';rw [h5 i hi'] at hr;obtain⟨hs,hc⟩:=hr;exact⟨hs,hc⟩
def Zse (k:Int) (_x:Pu):Pu:=⟨mtB (k),mtB (k+1),mtB (k+1+1),k+1+1+1,k+1+1+1+1⟩
def Zsc (_x:Pu):Nat:=5
def Zc3 (Xl:List Pu) (i:Nat):Nat:=((Xl.take i).map Zsc).sum
def ZjY (k:Int) (Xl:List Pu):List Pu:=Xl.mapIdx (fun i x=>Zse (k+(Zc3 Xl i:Int)) x)
theorem ZbT (k:Int) (Xl:List Pu):(ZjY k Xl).length=Xl.length:=by unfold ZjY;simp
theorem ZjE (k:Int) (Xl:List Pu) (i:Nat) (h:i < (ZjY k Xl).length) (h':i < Xl.length):(ZjY k Xl)[i]=Zse (k+(Zc3 Xl i:Int)) Xl[i]:=List.getElem_mapIdx (f:=fun i x=>Zse (k+(Zc3 Xl i:Int)) x) (h:=h)
theorem ZfT {Xl:List Pu} (h:i < Xl.length):Zc3 Xl (i+1)=Zc3 Xl i+Zsc Xl[i]:=by
 unfold Zc3;rw [List.take_succ_eq_append_getElem h,List.map_append,List.sum_append];simp
theorem ZiG {Xl:List Pu} (hn:ZdV Xl):∀ {i:Nat},i<=Xl.length->Zc3 Xl i<=i*3000000:=by
 intro i
 induction i with
 | zero=>intro _;simp [Zc3]
 | succ i ih=>
  intro hi';have h1:=ih (by omega);rw [ZfT (by omega)]
  have h2:Zsc Xl[i]<=3000000:=by
   have hsm:=hn.2 i (by omega);unfold Zhp at hsm;unfold Zsc
   omega
  omega
structure Zhy (wr:World) (b o c0 c1:Nat) (v:World) (y:Pu):Prop where
 near:ZbX b o 5 c0 c1 wr v
 bc:b < c0
 cells:ZcS v b o y
 frz:∀ i,v.frozen? ⟨b,i,none⟩=false
 lt:b < v.heap.size
theorem Zhy.below {o:Nat}{y:Pu} (h:Zhy wr b o c0 c1 v y) (hb:Below v.heap.size v v'):Zhy wr b o c0 c1 v' y:=
 ⟨h.near.trans (ZbX.below hb h.lt),h.bc,h.cells.below hb h.lt,fun i=>(hb.frozen (p:=⟨b,i,none⟩) h.lt).trans (h.frz i),Zk_ h.lt hb.size⟩
theorem Zhy.s0 {o:Nat}{y:Pu} (h:Zhy wr b o c0 c1 v y) (u:Zy_):Zhy wr b o c0 c1 (v.setCell ⟨b,o,none⟩ (.string u)) { y with dr:=u }:=by
 obtain⟨h0,h1,h2,h3,h4⟩:=h.cells;have ht:Zad b (b+1) v (v.setCell ⟨b,o,none⟩ (.string u)):=Zad.setCell _ _ _ _ _ ⟨Nat.le_refl _,by dsimp;omega⟩;have hbc:=h.bc;exact⟨h.near.trans (ZbX.set _ _ _ _ _ _ _ _ (by omega) (by omega)),h.bc,⟨World.cell?_setCell_same' _ _ _ (by rw [h0];rfl),(cne (by omega)).trans h1,(cne (by omega)).trans h2,(cne (by omega)).trans h3,(cne (by omega)).trans h4⟩,fun i=>by rw [World.frozen?_setCell];exact h.frz i,by simpa [World.setCell] using h.lt⟩
theorem Zhy.s1 {o:Nat}{y:Pu} (h:Zhy wr b o c0 c1 v y) (u:Zy_):Zhy wr b o c0 c1 (v.setCell ⟨b,o+1,none⟩ (.string u)) { y with tm:=u }:=by
 obtain⟨h0,h1,h2,h3,h4⟩:=h.cells;have ht:Zad b (b+1) v (v.setCell ⟨b,o+1,none⟩ (.string u)):=Zad.setCell _ _ _ _ _ ⟨Nat.le_refl _,by dsimp;omega⟩;have hbc:=h.bc;exact⟨h.near.trans (ZbX.set _ _ _ _ _ _ _ _ (by omega) (by omega)),h.bc,⟨(cne (by omega)).trans h0,World.cell?_setCell_same' _ _ _ (by rw [h1];rfl),(cne (by omega)).trans h2,(cne (by omega)).trans h3,(cne (by omega)).trans h4⟩,fun i=>by rw [World.frozen?_setCell];exact h.frz i,by simpa [World.setCell] using h.lt⟩
theorem Zhy.s2 {o:Nat}{y:Pu} (h:Zhy wr b o c0 c1 v y) (u:Zy_):Zhy wr b o c0 c1 (v.setCell ⟨b,o+2,none⟩ (.string u)) { y with re:=u }:=by
 obtain⟨h0,h1,h2,h3,h4⟩:=h.cells;have ht:Zad b (b+1) v (v.setCell ⟨b,o+2,none⟩ (.string u)):=Zad.setCell _ _ _ _ _ ⟨Nat.le_refl _,by dsimp;omega⟩;have hbc:=h.bc;exact⟨h.near.trans (ZbX.set _ _ _ _ _ _ _ _ (by omega) (by omega)),h.bc,⟨(cne (by omega)).trans h0,(cne (by omega)).trans h1,World.cell?_setCell_same' _ _ _ (by rw [h2];rfl),(cne (by omega)).trans h3,(cne (by omega)).trans h4⟩,fun i=>by rw [World.frozen?_setCell];exact h.frz i,by simpa [World.setCell] using h.lt⟩
theorem Zhy.s3 {o:Nat}{y:Pu} (h:Zhy wr b o c0 c1 v y) (u:Int):Zhy wr b o c0 c1 (v.setCell ⟨b,o+3,none⟩ (.int .i64 u)) { y with am:=u }:=by
 obtain⟨h0,h1,h2,h3,h4⟩:=h.cells;have ht:Zad b (b+1) v (v.setCell ⟨b,o+3,none⟩ (.int .i64 u)):=Zad.setCell _ _ _ _ _ ⟨Nat.le_refl _,by dsimp;omega⟩;have hbc:=h.bc;exact⟨h.near.trans (ZbX.set _ _ _ _ _ _ _ _ (by omega) (by omega)),h.bc,⟨(cne (by omega)).trans h0,(cne (by omega)).trans h1,(cne (by omega)).trans h2,World.cell?_setCell_same' _ _ _ (by rw [h3];rfl),(cne (by omega)).trans h4⟩,fun i=>by rw [World.frozen?_setCell];exact h.frz i,by simpa [World.setCell] using h.lt⟩
theorem Zhy.s4 {o:Nat}{y:Pu} (h:Zhy wr b o c0 c1 v y) (u:Int):Zhy wr b o c0 c1 (v.setCell ⟨b,o+4,none⟩ (.int .i64 u)) { y with un:=u }:=by
 obtain⟨h0,h1,h2,h3,h4⟩:=h.cells;have ht:Zad b (b+1) v (v.setCell ⟨b,o+4,none⟩ (.int .i64 u)):=Zad.setCell _ _ _ _ _ ⟨Nat.le_refl _,by dsimp;omega⟩;have hbc:=h.bc;exact⟨h.near.trans (ZbX.set _ _ _ _ _ _ _ _ (by omega) (by omega)),h.bc,⟨(cne (by omega)).trans h0,(cne (by omega)).trans h1,(cne (by omega)).trans h2,(cne (by omega)).trans h3,World.cell?_setCell_same' _ _ _ (by rw [h4];rfl)⟩,fun i=>by rw [World.frozen?_setCell];exact h.frz i,by simpa [World.setCell] using h.lt⟩
def ZfN (b o c0 c1:Nat) (w:World) (x:Gr):Prop:=ZdD x/\∃ (vv0:Value),c0<=c1/\ZcX w b o x vv0/\Zat c0 c1 w vv0 x.vb
theorem ZfN.near {o:Nat}{x:Gr} (h:ZfN b o c0 c1 w x) (hn:ZbX b o1 7 d0 d1 w w') (ho:o+7<=o1\/o1+7<=o) (hi:c1<=d0\/d1<=c0) (hb:b < c0\/c1<=b):ZfN b o c0 c1 w' x:=by
 obtain⟨hs,vv0,q0,hc,l0⟩:=h;obtain⟨h0,h1,h2,h3,h4,h5,h6⟩:=hc;have e:∀ t,t < 7->w'.cell? ⟨b,o+t,none⟩=w.cell? ⟨b,o+t,none⟩:=fun t ht=>hn.cell _ (by omega)
 have e0:w'.cell? ⟨b,o,none⟩=w.cell? ⟨b,o,none⟩:=hn.cell _ (by omega);exact⟨hs,vv0,q0,⟨e0.trans h0,(e 1 (by omega)).trans h1,(e 2 (by omega)).trans h2,(e 3 (by omega)).trans h3,(e 4 (by omega)).trans h4,(e 5 (by omega)).trans h5,(e 6 (by omega)).trans h6⟩,l0.near hn (by omega) (by omega)⟩
theorem ZfN.touch {o:Nat}{x:Gr} (h:ZfN b o c0 c1 w x) (ht:Zad lo hi w w') (hlt:b < w.heap.size) (hb:b < lo\/hi<=b) (hi':c1<=lo\/hi<=c0):ZfN b o c0 c1 w' x:=by
 obtain⟨hs,vv0,q0,hc,l0⟩:=h;obtain⟨h0,h1,h2,h3,h4,h5,h6⟩:=hc;exact⟨hs,vv0,q0,⟨(ht.cell (p:=⟨b,o,none⟩) hlt hb).trans h0,(ht.cell (p:=⟨b,o+1,none⟩) hlt hb).trans h1,(ht.cell (p:=⟨b,o+2,none⟩) hlt hb).trans h2,(ht.cell (p:=⟨b,o+3,none⟩) hlt hb).trans h3,(ht.cell (p:=⟨b,o+4,none⟩) hlt hb).trans h4,(ht.cell (p:=⟨b,o+5,none⟩) hlt hb).trans h5,(ht.cell (p:=⟨b,o+6,none⟩) hlt hb).trans h6⟩,l0.touch ht (by omega)⟩
theorem ZfN.below {o:Nat}{x:Gr} (h:ZfN b o c0 c1 w x) (ht:Zw_ w w') (hlt:b < w.heap.size):ZfN b o c0 c1 w' x:=by
 obtain⟨hs,vv0,q0,hc,l0⟩:=h;obtain⟨h0,h1,h2,h3,h4,h5,h6⟩:=hc;exact⟨hs,vv0,q0,⟨(ht.cell (p:=⟨b,o,none⟩) hlt).trans h0,(ht.cell (p:=⟨b,o+1,none⟩) hlt).trans h1,(ht.cell (p:=⟨b,o+2,none⟩) hlt).trans h2,(ht.cell (p:=⟨b,o+3,none⟩) hlt).trans h3,(ht.cell (p:=⟨b,o+4,none⟩) hlt).trans h4,(ht.cell (p:=⟨b,o+5,none⟩) hlt).trans h5,(ht.cell (p:=⟨b,o+6,none⟩) hlt).trans h6⟩,l0.below ht⟩
structure ZfC (lo hi:Nat) (w:World) (b off n:Nat) (c:Nat->Nat×Nat) (X:Nat->Gr):Prop where
 lt:b < w.heap.size
 low:lo<=b
 bh:b < hi
 seg:∀ i,i < n->lo<=(c i).1/\(c i).2<=hi/\(b < (c i).1\/(c i).2<=b)
 mono:∀ i j,i < j->j < n->(c i).2<=(c j).1
 frz:∀ i,w.frozen? ⟨b,i,none⟩=false
 row:∀ i,i < n->ZfN b (off+i*7) (c i).1 (c i).2 w (X i)
theorem ZfC.near {c:Nat->Nat×Nat}{X:Nat->Gr} (h:ZfC lo hi w b off n c X) {j:Nat} (hj:j < n) (hn:ZbX b (off+j*7) 7 (c j).1 (c j).2 w w') {x:Gr} (hx:ZfN b (off+j*7) (c j).1 (c j).2 w' x):ZfC lo hi w' b off n c (fun i=>if i=j then x else X i):=by
 refine⟨Zk_ h.lt hn.size,h.low,h.bh,h.seg,h.mono,fun i=>(hn.frz i).trans (h.frz i),fun i hi'=>?_⟩
 by_cases e:i=j
 . subst e;rw [if_pos rfl];exact hx
 . rw [if_neg e]
   refine (h.row i hi').near hn (by omega) ?_ (h.seg i hi').2.2
   rcases Nat.lt_or_ge i j with hij | hij
   . exact Or.inl (h.mono i j hij hj)
   . exact Or.inr (h.mono j i (by omega) hi')
theorem ZfC.touch {c:Nat->Nat×Nat}{X:Nat->Gr} (h:ZfC lo hi w b off n c X) (ht:Zad lo' hi' w w') (ho:hi<=lo'\/hi'<=lo):ZfC lo hi w' b off n c X:=by
 have h1:=h.low;have h2:=h.bh;refine⟨Zk_ h.lt ht.size,h.low,h.bh,h.seg,h.mono,fun i=>(ht.frozen (p:=⟨b,i,none⟩) h.lt (by dsimp;omega)).trans (h.frz i),fun i hi'=>?_⟩;have h5:=h.seg i hi';exact (h.row i hi').touch ht h.lt (by omega) (by omega)
theorem ZfC.below {c:Nat->Nat×Nat}{X:Nat->Gr} (h:ZfC lo hi w b off n c X) (ht:Zw_ w w'):ZfC lo hi w' b off n c X:=
 ⟨Zk_ h.lt ht.size,h.low,h.bh,h.seg,h.mono,fun i=>(ht.frozen (p:=⟨b,i,none⟩) h.lt).trans (h.frz i),fun i hi'=>(h.row i hi').below ht h.lt⟩
theorem ZfC.to {c:Nat->Nat×Nat}{X Y:Nat->Gr} (h:ZfC lo hi w b off n c X) (e:∀ i,i < n->X i=Y i):ZfC lo hi w b off n c Y:=
 ⟨h.lt,h.low,h.bh,h.seg,h.mono,h.frz,fun i hi'=>e i hi' ▸ h.row i hi'⟩
def Zbe (lo hi:Nat) (w:World) (v:Value) (Xl:List Gr):Prop:=
 (∃ (a:Option Addr) (cap:Nat),v=.slice a 0 cap/\Xl=[])\/
 ∃ (b off cap:Nat) (c:Nat->Nat×Nat) (X:Nat->Gr),v=.slice (some ⟨b,off,none⟩) Xl.length cap/\Xl≠[]/\Xl.length<=maxLen/\Xl.length<=cap/\(∀ i (h:i < Xl.length),X i=Xl[i])/\ZfC lo hi w b off Xl.length c X
theorem Zbe.touch {v:Value}{Xl:List Gr} (h:Zbe lo hi w v Xl) (ht:Zad lo' hi' w w') (ho:hi<=lo'\/hi'<=lo):Zbe lo hi w' v Xl:=by
 rcases h with h | ⟨b,off,cap,c,X,h1,h2,h3,h4,h5,h6⟩
 . exact Or.inl h
 . exact Or.inr ⟨b,off,cap,c,X,h1,h2,h3,h4,h5,h6.touch ht ho⟩
theorem Zbe.below {v:Value}{Xl:List Gr} (h:Zbe lo hi w v Xl) (ht:Zw_ w w'):Zbe lo hi w' v Xl:=by
 rcases h with h | ⟨b,off,cap,c,X,h1,h2,h3,h4,h5,h6⟩
 . exact Or.inl h
 . exact Or.inr ⟨b,off,cap,c,X,h1,h2,h3,h4,h5,h6.below ht⟩
theorem Zbe.form {v:Value}{Xl:List Gr} (h:Zbe lo hi w v Xl):∃ a cap,v=.slice a Xl.length cap:=by
 rcases h with ⟨a,cap,h,rfl⟩ | ⟨b,off,cap,c,X,h1,_⟩
 . exact⟨a,cap,h⟩
 . exact⟨_,cap,h1⟩
theorem Zbe.at {v:Value}{Xl:List Gr} (h:Zbe lo hi w v Xl):Zb4 lo w v Xl:=by
 rcases h with h | ⟨b,off,cap,c,X,h1,h2,h3,h4,h5,h6⟩
 . exact Or.inl h
 . refine Or.inr ⟨b,off,cap,h1,h2,h3,h6.lt,h6.low,h4,fun i hi'=>?_⟩
   have hr:=h6.row i hi';have g0:=h6.seg i hi';rw [h5 i hi'] at hr;obtain⟨hs,vv0,q0,hc,l0⟩:=hr;exact⟨hs,vv0,hc,(l0.in').mono (by omega)⟩
def Zsf (k:Int) (x:Gr):Gr:=⟨k,mtB (k+1),mtB (k+1+1),ZdS (k+1+1+1) x.vb.length,mtB (k+1+1+1+x.vb.length),mtB (k+1+1+1+x.vb.length+1),mtB (k+1+1+1+x.vb.length+1+1)⟩
def Zsm (x:Gr):Nat:=6+x.vb.length
def Zcr (Xl:List Gr) (i:Nat):Nat:=((Xl.take i).map Zsm).sum
def ZjD (k:Int) (Xl:List Gr):List Gr:=Xl.mapIdx (fun i x=>Zsf (k+(Zcr Xl i:Int)) x)
theorem ZbP (k:Int) (Xl:List Gr):(ZjD k Xl).length=Xl.length:=by unfold ZjD;simp
theorem ZjH (k:Int) (Xl:List Gr) (i:Nat) (h:i < (ZjD k Xl).length) (h':i < Xl.length):(ZjD k Xl)[i]=Zsf (k+(Zcr Xl i:Int)) Xl[i]:=List.getElem_mapIdx (f:=fun i x=>Zsf (k+(Zcr Xl i:Int)) x) (h:=h)
theorem Zf2 {Xl:List Gr} (h:i < Xl.length):Zcr Xl (i+1)=Zcr Xl i+Zsm Xl[i]:=by
 unfold Zcr;rw [List.take_succ_eq_append_getElem h,List.map_append,List.sum_append];simp
theorem ZiP {Xl:List Gr} (hn:Zdu Xl):∀ {i:Nat},i<=Xl.length->Zcr Xl i<=i*3000000:=by
 intro i
 induction i with
 | zero=>intro _;simp [Zcr]
 | succ i ih=>
  intro hi';have h1:=ih (by omega);rw [Zf2 (by omega)]
  have h2:Zsm Xl[i]<=3000000:=by
   have hsm:=hn.2 i (by omega);unfold Zdy at hsm;unfold Zsm
   omega
  omega
structure ZeX (wr:World) (b o c0 c1:Nat) (vv0:Value) (v:World) (y:Gr):Prop where
 near:ZbX b o 7 c0 c1 wr v
 bc:b < c0\/c1<=b
 q0:c0<=c1
 cells:ZcX v b o y vv0
 l0:Zat c0 c1 v vv0 y.vb
 frz:∀ i,v.frozen? ⟨b,i,none⟩=false
 lt:b < v.heap.size
theorem ZeX.below {o:Nat} (h:ZeX wr b o c0 c1 vv0 v y) (hb:Below v.heap.size v v'):ZeX wr b o c0 c1 vv0 v' y:=
 ⟨h.near.trans (ZbX.below hb h.lt),h.bc,h.q0,h.cells.below hb h.lt,h.l0.below hb,fun i=>(hb.frozen (p:=⟨b,i,none⟩) h.lt).trans (h.frz i),Zk_ h.lt hb.size⟩
theorem ZeX.s0 {o:Nat} (h:ZeX wr b o c0 c1 vv0 v y) (u:Int):ZeX wr b o c0 c1 vv0 (v.setCell ⟨b,o,none⟩ (.int .i64 u)) { y with nu:=u }:=by
 obtain⟨h0,h1,h2,h3,h4,h5,h6⟩:=h.cells;have ht:Zad b (b+1) v (v.setCell ⟨b,o,none⟩ (.int .i64 u)):=Zad.setCell _ _ _ _ _ ⟨Nat.le_refl _,by dsimp;omega⟩;have hbc:=h.bc;have hq0:=h.q0;exact⟨h.near.trans (ZbX.set _ _ _ _ _ _ _ _ (by omega) (by omega)),h.bc,h.q0,⟨World.cell?_setCell_same' _ _ _ (by rw [h0];rfl),(cne (by omega)).trans h1,(cne (by omega)).trans h2,(cne (by omega)).trans h3,(cne (by omega)).trans h4,(cne (by omega)).trans h5,(cne (by omega)).trans h6⟩,h.l0.touch ht (by omega),fun i=>by rw [World.frozen?_setCell];exact h.frz i,by simpa [World.setCell] using h.lt⟩
theorem ZeX.s1 {o:Nat} (h:ZeX wr b o c0 c1 vv0 v y) (u:Zy_):ZeX wr b o c0 c1 vv0 (v.setCell ⟨b,o+1,none⟩ (.string u)) { y with tw:=u }:=by
 obtain⟨h0,h1,h2,h3,h4,h5,h6⟩:=h.cells;have ht:Zad b (b+1) v (v.setCell ⟨b,o+1,none⟩ (.string u)):=Zad.setCell _ _ _ _ _ ⟨Nat.le_refl _,by dsimp;omega⟩;have hbc:=h.bc;have hq0:=h.q0;exact⟨h.near.trans (ZbX.set _ _ _ _ _ _ _ _ (by omega) (by omega)),h.bc,h.q0,⟨(cne (by omega)).trans h0,World.cell?_setCell_same' _ _ _ (by rw [h1];rfl),(cne (by omega)).trans h2,(cne (by omega)).trans h3,(cne (by omega)).trans h4,(cne (by omega)).trans h5,(cne (by omega)).trans h6⟩,h.l0.touch ht (by omega),fun i=>by rw [World.frozen?_setCell];exact h.frz i,by simpa [World.setCell] using h.lt⟩
theorem ZeX.s2 {o:Nat} (h:ZeX wr b o c0 c1 vv0 v y) (u:Zy_):ZeX wr b o c0 c1 vv0 (v.setCell ⟨b,o+2,none⟩ (.string u)) { y with gb:=u }:=by
 obtain⟨h0,h1,h2,h3,h4,h5,h6⟩:=h.cells;have ht:Zad b (b+1) v (v.setCell ⟨b,o+2,none⟩ (.string u)):=Zad.setCell _ _ _ _ _ ⟨Nat.le_refl _,by dsimp;omega⟩;have hbc:=h.bc;have hq0:=h.q0;exact⟨h.near.trans (ZbX.set _ _ _ _ _ _ _ _ (by omega) (by omega)),h.bc,h.q0,⟨(cne (by omega)).trans h0,(cne (by omega)).trans h1,World.cell?_setCell_same' _ _ _ (by rw [h2];rfl),(cne (by omega)).trans h3,(cne (by omega)).trans h4,(cne (by omega)).trans h5,(cne (by omega)).trans h6⟩,h.l0.touch ht (by omega),fun i=>by rw [World.frozen?_setCell];exact h.frz i,by simpa [World.setCell] using h.lt⟩
theorem ZeX.s4 {o:Nat} (h:ZeX wr b o c0 c1 vv0 v y) (u:Zy_):ZeX wr b o c0 c1 vv0 (v.setCell ⟨b,o+4,none⟩ (.string u)) { y with kd:=u }:=by
 obtain⟨h0,h1,h2,h3,h4,h5,h6⟩:=h.cells;have ht:Zad b (b+1) v (v.setCell ⟨b,o+4,none⟩ (.string u)):=Zad.setCell _ _ _ _ _ ⟨Nat.le_refl _,by dsimp;omega⟩;have hbc:=h.bc;have hq0:=h.q0;exact⟨h.near.trans (ZbX.set _ _ _ _ _ _ _ _ (by omega) (by omega)),h.bc,h.q0,⟨(cne (by omega)).trans h0,(cne (by omega)).trans h1,(cne (by omega)).trans h2,(cne (by omega)).trans h3,World.cell?_setCell_same' _ _ _ (by rw [h4];rfl),(cne (by omega)).trans h5,(cne (by omega)).trans h6⟩,h.l0.touch ht (by omega),fun i=>by rw [World.frozen?_setCell];exact h.frz i,by simpa [World.setCell] using h.lt⟩
theorem ZeX.s5 {o:Nat} (h:ZeX wr b o c0 c1 vv0 v y) (u:Zy_):ZeX wr b o c0 c1 vv0 (v.setCell ⟨b,o+5,none⟩ (.string u)) { y with tm:=u }:=by
 obtain⟨h0,h1,h2,h3,h4,h5,h6⟩:=h.cells;have ht:Zad b (b+1) v (v.setCell ⟨b,o+5,none⟩ (.string u)):=Zad.setCell _ _ _ _ _ ⟨Nat.le_refl _,by dsimp;omega⟩;have hbc:=h.bc;have hq0:=h.q0;exact⟨h.near.trans (ZbX.set _ _ _ _ _ _ _ _ (by omega) (by omega)),h.bc,h.q0,⟨(cne (by omega)).trans h0,(cne (by omega)).trans h1,(cne (by omega)).trans h2,(cne (by omega)).trans h3,(cne (by omega)).trans h4,World.cell?_setCell_same' _ _ _ (by rw [h5];rfl),(cne (by omega)).trans h6⟩,h.l0.touch ht (by omega),fun i=>by rw [World.frozen?_setCell];exact h.frz i,by simpa [World.setCell] using h.lt⟩
theorem ZeX.s6 {o:Nat} (h:ZeX wr b o c0 c1 vv0 v y) (u:Zy_):ZeX wr b o c0 c1 vv0 (v.setCell ⟨b,o+6,none⟩ (.string u)) { y with pf:=u }:=by
 obtain⟨h0,h1,h2,h3,h4,h5,h6⟩:=h.cells;have ht:Zad b (b+1) v (v.setCell ⟨b,o+6,none⟩ (.string u)):=Zad.setCell _ _ _ _ _ ⟨Nat.le_refl _,by dsimp;omega⟩;have hbc:=h.bc;have hq0:=h.q0;exact⟨h.near.trans (ZbX.set _ _ _ _ _ _ _ _ (by omega) (by omega)),h.bc,h.q0,⟨(cne (by omega)).trans h0,(cne (by omega)).trans h1,(cne (by omega)).trans h2,(cne (by omega)).trans h3,(cne (by omega)).trans h4,(cne (by omega)).trans h5,World.cell?_setCell_same' _ _ _ (by rw [h6];rfl)⟩,h.l0.touch ht (by omega),fun i=>by rw [World.frozen?_setCell];exact h.frz i,by simpa [World.setCell] using h.lt⟩
theorem ZeX.m0' {o:Nat} (h:ZeX wr b o c0 c1 vv0 v y) (ht:Zad c0 c1 v v') {L:List Int} (hl:Zat c0 c1 v' vv0 L):ZeX wr b o c0 c1 vv0 v' { y with vb:=L }:=by
 obtain⟨h0,h1,h2,h3,h4,h5,h6⟩:=h.cells;have hbc:=h.bc;have hq0:=h.q0;have hlt:=h.lt;have e:∀ i,v'.cell? ⟨b,i,none⟩=v.cell? ⟨b,i,none⟩:=fun i=>ht.cell (p:=⟨b,i,none⟩) h.lt (by dsimp;omega)
 exact⟨h.near.trans (ZbX.touch ht h.lt (by omega) (by omega) (by omega)),h.bc,h.q0,⟨(e _).trans h0,(e _).trans h1,(e _).trans h2,(e _).trans h3,(e _).trans h4,(e _).trans h5,(e _).trans h6⟩,hl,fun i=>(ht.frozen (p:=⟨b,i,none⟩) h.lt (by dsimp;omega)).trans (h.frz i),Zk_ h.lt ht.size⟩
def ZfR (b o c0 c1:Nat) (w:World) (x:Ob):Prop:=ZcN x/\∃ (vv0 vv1:Value) (m1:Nat),c0<=m1/\m1<=c1/\ZcT w b o x vv0 vv1/\Zae c0 m1 w vv0 x.vs/\Zae m1 c1 w vv1 x.hs
theorem ZfR.near {o:Nat}{x:Ob} (h:ZfR b o c0 c1 w x) (hn:ZbX b o1 7 d0 d1 w w') (ho:o+7<=o1\/o1+7<=o) (hi:c1<=d0\/d1<=c0) (hb:b < c0\/c1<=b):ZfR b o c0 c1 w' x:=by
 obtain⟨hs,vv0,vv1,m1,q0,q1,hc,l0,l1⟩:=h;obtain⟨h0,h1,h2,h3,h4,h5,h6⟩:=hc;have e:∀ t,t < 7->w'.cell? ⟨b,o+t,none⟩=w.cell? ⟨b,o+t,none⟩:=fun t ht=>hn.cell _ (by omega)
 have e0:w'.cell? ⟨b,o,none⟩=w.cell? ⟨b,o,none⟩:=hn.cell _ (by omega);exact⟨hs,vv0,vv1,m1,q0,q1,⟨e0.trans h0,(e 1 (by omega)).trans h1,(e 2 (by omega)).trans h2,(e 3 (by omega)).trans h3,(e 4 (by omega)).trans h4,(e 5 (by omega)).trans h5,(e 6 (by omega)).trans h6⟩,l0.near hn (by omega) (by omega),l1.near hn (by omega) (by omega)⟩
theorem ZfR.touch {o:Nat}{x:Ob} (h:ZfR b o c0 c1 w x) (ht:Zad lo hi w w') (hlt:b < w.heap.size) (hb:b < lo\/hi<=b) (hi':c1<=lo\/hi<=c0):ZfR b o c0 c1 w' x:=by
 obtain⟨hs,vv0,vv1,m1,q0,q1,hc,l0,l1⟩:=h;obtain⟨h0,h1,h2,h3,h4,h5,h6⟩:=hc;exact⟨hs,vv0,vv1,m1,q0,q1,⟨(ht.cell (p:=⟨b,o,none⟩) hlt hb).trans h0,(ht.cell (p:=⟨b,o+1,none⟩) hlt hb).trans h1,(ht.cell (p:=⟨b,o+2,none⟩) hlt hb).trans h2,(ht.cell (p:=⟨b,o+3,none⟩) hlt hb).trans h3,(ht.cell (p:=⟨b,o+4,none⟩) hlt hb).trans h4,(ht.cell (p:=⟨b,o+5,none⟩) hlt hb).trans h5,(ht.cell (p:=⟨b,o+6,none⟩) hlt hb).trans h6⟩,l0.touch ht (by omega),l1.touch ht (by omega)⟩
theorem ZfR.below {o:Nat}{x:Ob} (h:ZfR b o c0 c1 w x) (ht:Zw_ w w') (hlt:b < w.heap.size):ZfR b o c0 c1 w' x:=by
 obtain⟨hs,vv0,vv1,m1,q0,q1,hc,l0,l1⟩:=h;obtain⟨h0,h1,h2,h3,h4,h5,h6⟩:=hc;exact⟨hs,vv0,vv1,m1,q0,q1,⟨(ht.cell (p:=⟨b,o,none⟩) hlt).trans h0,(ht.cell (p:=⟨b,o+1,none⟩) hlt).trans h1,(ht.cell (p:=⟨b,o+2,none⟩) hlt).trans h2,(ht.cell (p:=⟨b,o+3,none⟩) hlt).trans h3,(ht.cell (p:=⟨b,o+4,none⟩) hlt).trans h4,(ht.cell (p:=⟨b,o+5,none⟩) hlt).trans h5,(ht.cell (p:=⟨b,o+6,none⟩) hlt).trans h6⟩,l0.below ht,l1.below ht⟩
structure Zfr (lo hi:Nat) (w:World) (b off n:Nat) (c:Nat->Nat×Nat) (X:Nat->Ob):Prop where
 lt:b < w.heap.size
 low:lo<=b
 bh:b < hi
 seg:∀ i,i < n->lo<=(c i).1/\(c i).2<=hi/\(b < (c i).1\/(c i).2<=b)
 mono:∀ i j,i < j->j < n->(c i).2<=(c j).1
 frz:∀ i,w.frozen? ⟨b,i,none⟩=false
 row:∀ i,i < n->ZfR b (off+i*7) (c i).1 (c i).2 w (X i)
theorem Zfr.near {c:Nat->Nat×Nat}{X:Nat->Ob} (h:Zfr lo hi w b off n c X) {j:Nat} (hj:j < n) (hn:ZbX b (off+j*7) 7 (c j).1 (c j).2 w w') {x:Ob} (hx:ZfR b (off+j*7) (c j).1 (c j).2 w' x):Zfr lo hi w' b off n c (fun i=>if i=j then x else X i):=by
 refine⟨Zk_ h.lt hn.size,h.low,h.bh,h.seg,h.mono,fun i=>(hn.frz i).trans (h.frz i),fun i hi'=>?_⟩
 by_cases e:i=j
 . subst e;rw [if_pos rfl];exact hx
 . rw [if_neg e]
   refine (h.row i hi').near hn (by omega) ?_ (h.seg i hi').2.2
   rcases Nat.lt_or_ge i j with hij | hij
   . exact Or.inl (h.mono i j hij hj)
   . exact Or.inr (h.mono j i (by omega) hi')
theorem Zfr.touch {c:Nat->Nat×Nat}{X:Nat->Ob} (h:Zfr lo hi w b off n c X) (ht:Zad lo' hi' w w') (ho:hi<=lo'\/hi'<=lo):Zfr lo hi w' b off n c X:=by
 have h1:=h.low;have h2:=h.bh;refine⟨Zk_ h.lt ht.size,h.low,h.bh,h.seg,h.mono,fun i=>(ht.frozen (p:=⟨b,i,none⟩) h.lt (by dsimp;omega)).trans (h.frz i),fun i hi'=>?_⟩;have h5:=h.seg i hi';exact (h.row i hi').touch ht h.lt (by omega) (by omega)
theorem Zfr.below {c:Nat->Nat×Nat}{X:Nat->Ob} (h:Zfr lo hi w b off n c X) (ht:Zw_ w w'):Zfr lo hi w' b off n c X:=
 ⟨Zk_ h.lt ht.size,h.low,h.bh,h.seg,h.mono,fun i=>(ht.frozen (p:=⟨b,i,none⟩) h.lt).trans (h.frz i),fun i hi'=>(h.row i hi').below ht h.lt⟩
theorem Zfr.to {c:Nat->Nat×Nat}{X Y:Nat->Ob} (h:Zfr lo hi w b off n c X) (e:∀ i,i < n->X i=Y i):Zfr lo hi w b off n c Y:=
 ⟨h.lt,h.low,h.bh,h.seg,h.mono,h.frz,fun i hi'=>e i hi' ▸ h.row i hi'⟩
def Za6 (lo hi:Nat) (w:World) (v:Value) (Xl:List Ob):Prop:=
 (∃ (a:Option Addr) (cap:Nat),v=.slice a 0 cap/\Xl=[])\/
 ∃ (b off cap:Nat) (c:Nat->Nat×Nat) (X:Nat->Ob),v=.slice (some ⟨b,off,none⟩) Xl.length cap/\Xl≠[]/\Xl.length<=maxLen/\Xl.length<=cap/\(∀ i (h:i < Xl.length),X i=Xl[i])/\Zfr lo hi w b off Xl.length c X
theorem Za6.touch {v:Value}{Xl:List Ob} (h:Za6 lo hi w v Xl) (ht:Zad lo' hi' w w') (ho:hi<=lo'\/hi'<=lo):Za6 lo hi w' v Xl:=by
 rcases h with h | ⟨b,off,cap,c,X,h1,h2,h3,h4,h5,h6⟩
 . exact Or.inl h
 . exact Or.inr ⟨b,off,cap,c,X,h1,h2,h3,h4,h5,h6.touch ht ho⟩
theorem Za6.below {v:Value}{Xl:List Ob} (h:Za6 lo hi w v Xl) (ht:Zw_ w w'):Za6 lo hi w' v Xl:=by
 rcases h with h | ⟨b,off,cap,c,X,h1,h2,h3,h4,h5,h6⟩
 . exact Or.inl h
 . exact Or.inr ⟨b,off,cap,c,X,h1,h2,h3,h4,h5,h6.below ht⟩
theorem Za6.form {v:Value}{Xl:List Ob} (h:Za6 lo hi w v Xl):∃ a cap,v=.slice a Xl.length cap:=by
 rcases h with ⟨a,cap,h,rfl⟩ | ⟨b,off,cap,c,X,h1,_⟩
 . exact⟨a,cap,h⟩
 . exact⟨_,cap,h1⟩
theorem Za6.at {v:Value}{Xl:List Ob} (h:Za6 lo hi w v Xl):Zbu lo w v Xl:=by
 rcases h with h | ⟨b,off,cap,c,X,h1,h2,h3,h4,h5,h6⟩
 . exact Or.inl h
 . refine Or.inr ⟨b,off,cap,h1,h2,h3,h6.lt,h6.low,h4,fun i hi'=>?_⟩
   have hr:=h6.row i hi';have g0:=h6.seg i hi';rw [h5 i hi'] at hr;obtain⟨hs,vv0,vv1,m1,q0,q1,hc,l0,l1⟩:=hr;exact⟨hs,vv0,vv1,hc,(l0.in').mono (by omega),(l1.in').mono (by omega)⟩
def Zsj (k:Int) (x:Ob):Ob:=⟨mtB (k),mtB (k+1),mtB (k+1+1),Zeo (k+1+1+1) x.vs.length,((k+1+1+1+x.vs.length) % 3 == 0),Zeo (k+1+1+1+x.vs.length+1) x.hs.length,k+1+1+1+x.vs.length+1+x.hs.length⟩
def Zsi (x:Ob):Nat:=5+x.vs.length+x.hs.length
def Zcd (Xl:List Ob) (i:Nat):Nat:=((Xl.take i).map Zsi).sum
def Zj9 (k:Int) (Xl:List Ob):List Ob:=Xl.mapIdx (fun i x=>Zsj (k+(Zcd Xl i:Int)) x)
theorem ZbK (k:Int) (Xl:List Ob):(Zj9 k Xl).length=Xl.length:=by unfold Zj9;simp
theorem ZjW (k:Int) (Xl:List Ob) (i:Nat) (h:i < (Zj9 k Xl).length) (h':i < Xl.length):(Zj9 k Xl)[i]=Zsj (k+(Zcd Xl i:Int)) Xl[i]:=List.getElem_mapIdx (f:=fun i x=>Zsj (k+(Zcd Xl i:Int)) x) (h:=h)
theorem ZfS {Xl:List Ob} (h:i < Xl.length):Zcd Xl (i+1)=Zcd Xl i+Zsi Xl[i]:=by
 unfold Zcd;rw [List.take_succ_eq_append_getElem h,List.map_append,List.sum_append];simp
theorem ZiZ {Xl:List Ob} (hn:Zbp Xl):∀ {i:Nat},i<=Xl.length->Zcd Xl i<=i*3000000:=by
 intro i
 induction i with
 | zero=>intro _;simp [Zcd]
 | succ i ih=>
  intro hi';have h1:=ih (by omega);rw [ZfS (by omega)]
  have h2:Zsi Xl[i]<=3000000:=by
   have hsm:=hn.2 i (by omega);unfold Zdx at hsm;unfold Zsi
   omega
  omega
structure ZeW (wr:World) (b o c0 c1 m1:Nat) (vv0 vv1:Value) (v:World) (y:Ob):Prop where
 near:ZbX b o 7 c0 c1 wr v
 bc:b < c0\/c1<=b
 q0:c0<=m1
 q1:m1<=c1
 cells:ZcT v b o y vv0 vv1
 l0:Zae c0 m1 v vv0 y.vs
 l1:Zae m1 c1 v vv1 y.hs
 frz:∀ i,v.frozen? ⟨b,i,none⟩=false
 lt:b < v.heap.size
theorem ZeW.below {o:Nat}{y:Ob} (h:ZeW wr b o c0 c1 m1 vv0 vv1 v y) (hb:Below v.heap.size v v'):ZeW wr b o c0 c1 m1 vv0 vv1 v' y:=
 ⟨h.near.trans (ZbX.below hb h.lt),h.bc,h.q0,h.q1,h.cells.below hb h.lt,h.l0.below hb,h.l1.below hb,fun i=>(hb.frozen (p:=⟨b,i,none⟩) h.lt).trans (h.frz i),Zk_ h.lt hb.size⟩
theorem ZeW.s0 {o:Nat}{y:Ob} (h:ZeW wr b o c0 c1 m1 vv0 vv1 v y) (u:Zy_):ZeW wr b o c0 c1 m1 vv0 vv1 (v.setCell ⟨b,o,none⟩ (.string u)) { y with kd:=u }:=by
 obtain⟨h0,h1,h2,h3,h4,h5,h6⟩:=h.cells;have ht:Zad b (b+1) v (v.setCell ⟨b,o,none⟩ (.string u)):=Zad.setCell _ _ _ _ _ ⟨Nat.le_refl _,by dsimp;omega⟩;have hbc:=h.bc;have hq0:=h.q0;have hq1:=h.q1;exact⟨h.near.trans (ZbX.set _ _ _ _ _ _ _ _ (by omega) (by omega)),h.bc,h.q0,h.q1,⟨World.cell?_setCell_same' _ _ _ (by rw [h0];rfl),(cne (by omega)).trans h1,(cne (by omega)).trans h2,(cne (by omega)).trans h3,(cne (by omega)).trans h4,(cne (by omega)).trans h5,(cne (by omega)).trans h6⟩,h.l0.touch ht (by omega),h.l1.touch ht (by omega),fun i=>by rw [World.frozen?_setCell];exact h.frz i,by simpa [World.setCell] using h.lt⟩
theorem ZeW.s1 {o:Nat}{y:Ob} (h:ZeW wr b o c0 c1 m1 vv0 vv1 v y) (u:Zy_):ZeW wr b o c0 c1 m1 vv0 vv1 (v.setCell ⟨b,o+1,none⟩ (.string u)) { y with nm:=u }:=by
 obtain⟨h0,h1,h2,h3,h4,h5,h6⟩:=h.cells;have ht:Zad b (b+1) v (v.setCell ⟨b,o+1,none⟩ (.string u)):=Zad.setCell _ _ _ _ _ ⟨Nat.le_refl _,by dsimp;omega⟩;have hbc:=h.bc;have hq0:=h.q0;have hq1:=h.q1;exact⟨h.near.trans (ZbX.set _ _ _ _ _ _ _ _ (by omega) (by omega)),h.bc,h.q0,h.q1,⟨(cne (by omega)).trans h0,World.cell?_setCell_same' _ _ _ (by rw [h1];rfl),(cne (by omega)).trans h2,(cne (by omega)).trans h3,(cne (by omega)).trans h4,(cne (by omega)).trans h5,(cne (by omega)).trans h6⟩,h.l0.touch ht (by omega),h.l1.touch ht (by omega),fun i=>by rw [World.frozen?_setCell];exact h.frz i,by simpa [World.setCell] using h.lt⟩
theorem ZeW.s2 {o:Nat}{y:Ob} (h:ZeW wr b o c0 c1 m1 vv0 vv1 v y) (u:Zy_):ZeW wr b o c0 c1 m1 vv0 vv1 (v.setCell ⟨b,o+2,none⟩ (.string u)) { y with tm:=u }:=by
 obtain⟨h0,h1,h2,h3,h4,h5,h6⟩:=h.cells;have ht:Zad b (b+1) v (v.setCell ⟨b,o+2,none⟩ (.string u)):=Zad.setCell _ _ _ _ _ ⟨Nat.le_refl _,by dsimp;omega⟩;have hbc:=h.bc;have hq0:=h.q0;have hq1:=h.q1;exact⟨h.near.trans (ZbX.set _ _ _ _ _ _ _ _ (by omega) (by omega)),h.bc,h.q0,h.q1,⟨(cne (by omega)).trans h0,(cne (by omega)).trans h1,World.cell?_setCell_same' _ _ _ (by rw [h2];rfl),(cne (by omega)).trans h3,(cne (by omega)).trans h4,(cne (by omega)).trans h5,(cne (by omega)).trans h6⟩,h.l0.touch ht (by omega),h.l1.touch ht (by omega),fun i=>by rw [World.frozen?_setCell];exact h.frz i,by simpa [World.setCell] using h.lt⟩
theorem ZeW.s4 {o:Nat}{y:Ob} (h:ZeW wr b o c0 c1 m1 vv0 vv1 v y) (u:Bool):ZeW wr b o c0 c1 m1 vv0 vv1 (v.setCell ⟨b,o+4,none⟩ (.bool u)) { y with en:=u }:=by
 obtain⟨h0,h1,h2,h3,h4,h5,h6⟩:=h.cells;have ht:Zad b (b+1) v (v.setCell ⟨b,o+4,none⟩ (.bool u)):=Zad.setCell _ _ _ _ _ ⟨Nat.le_refl _,by dsimp;omega⟩;have hbc:=h.bc;have hq0:=h.q0;have hq1:=h.q1;exact⟨h.near.trans (ZbX.set _ _ _ _ _ _ _ _ (by omega) (by omega)),h.bc,h.q0,h.q1,⟨(cne (by omega)).trans h0,(cne (by omega)).trans h1,(cne (by omega)).trans h2,(cne (by omega)).trans h3,World.cell?_setCell_same' _ _ _ (by rw [h4];rfl),(cne (by omega)).trans h5,(cne (by omega)).trans h6⟩,h.l0.touch ht (by omega),h.l1.touch ht (by omega),fun i=>by rw [World.frozen?_setCell];exact h.frz i,by simpa [World.setCell] using h.lt⟩
theorem ZeW.s6 {o:Nat}{y:Ob} (h:ZeW wr b o c0 c1 m1 vv0 vv1 v y) (u:Int):ZeW wr b o c0 c1 m1 vv0 vv1 (v.setCell ⟨b,o+6,none⟩ (.int .i64 u)) { y with ver:=u }:=by
 obtain⟨h0,h1,h2,h3,h4,h5,h6⟩:=h.cells;have ht:Zad b (b+1) v (v.setCell ⟨b,o+6,none⟩ (.int .i64 u)):=Zad.setCell _ _ _ _ _ ⟨Nat.le_refl _,by dsimp;omega⟩;have hbc:=h.bc;have hq0:=h.q0;have hq1:=h.q1;exact⟨h.near.trans (ZbX.set _ _ _ _ _ _ _ _ (by omega) (by omega)),h.bc,h.q0,h.q1,⟨(cne (by omega)).trans h0,(cne (by omega)).trans h1,(cne (by omega)).trans h2,(cne (by omega)).trans h3,(cne (by omega)).trans h4,(cne (by omega)).trans h5,World.cell?_setCell_same' _ _ _ (by rw [h6];rfl)⟩,h.l0.touch ht (by omega),h.l1.touch ht (by omega),fun i=>by rw [World.frozen?_setCell];exact h.frz i,by simpa [World.setCell] using h.lt⟩
theorem ZeW.m0' {o:Nat}{y:Ob} (h:ZeW wr b o c0 c1 m1 vv0 vv1 v y) (ht:Zad c0 m1 v v') {L:List Zy_} (hl:Zae c0 m1 v' vv0 L):ZeW wr b o c0 c1 m1 vv0 vv1 v' { y with vs:=L }:=by
 obtain⟨h0,h1,h2,h3,h4,h5,h6⟩:=h.cells;have hbc:=h.bc;have hq0:=h.q0;have hq1:=h.q1;have hlt:=h.lt;have e:∀ i,v'.cell? ⟨b,i,none⟩=v.cell? ⟨b,i,none⟩:=fun i=>ht.cell (p:=⟨b,i,none⟩) h.lt (by dsimp;omega)
 exact⟨h.near.trans (ZbX.touch ht h.lt (by omega) (by omega) (by omega)),h.bc,h.q0,h.q1,⟨(e _).trans h0,(e _).trans h1,(e _).trans h2,(e _).trans h3,(e _).trans h4,(e _).trans h5,(e _).trans h6⟩,hl,h.l1.touch ht (by omega),fun i=>(ht.frozen (p:=⟨b,i,none⟩) h.lt (by dsimp;omega)).trans (h.frz i),Zk_ h.lt ht.size⟩
theorem ZeW.m1' {o:Nat}{y:Ob} (h:ZeW wr b o c0 c1 m1 vv0 vv1 v y) (ht:Zad m1 c1 v v') {L:List Zy_} (hl:Zae m1 c1 v' vv1 L):ZeW wr b o c0 c1 m1 vv0 vv1 v' { y with hs:=L }:=by
 obtain⟨h0,h1,h2,h3,h4,h5,h6⟩:=h.cells;have hbc:=h.bc;have hq0:=h.q0;have hq1:=h.q1;have hlt:=h.lt;have e:∀ i,v'.cell? ⟨b,i,none⟩=v.cell? ⟨b,i,none⟩:=fun i=>ht.cell (p:=⟨b,i,none⟩) h.lt (by dsimp;omega)
 exact⟨h.near.trans (ZbX.touch ht h.lt (by omega) (by omega) (by omega)),h.bc,h.q0,h.q1,⟨(e _).trans h0,(e _).trans h1,(e _).trans h2,(e _).trans h3,(e _).trans h4,(e _).trans h5,(e _).trans h6⟩,h.l0.touch ht (by omega),hl,fun i=>(ht.frozen (p:=⟨b,i,none⟩) h.lt (by dsimp;omega)).trans (h.frz i),Zk_ h.lt ht.size⟩
def ZoX (_:Tm):Prop:=True
def Zdr (Xl:List Tm):Prop:=Xl.length<=1048576/\∀ i (h:i < Xl.length),ZoX Xl[i]
theorem Zdr.of (h:Xl.length<=1048576):Zdr Xl:=⟨h,fun _ _=>trivial⟩
def Zf1 (b o _c0 _c1:Nat) (w:World) (x:Tm):Prop:=ZeZ x/\Zd6 w b o x
theorem Zf1.near {o:Nat}{x:Tm} (h:Zf1 b o c0 c1 w x) (hn:ZbX b o1 2 d0 d1 w w') (ho:o+2<=o1\/o1+2<=o) (hi:c1<=d0\/d1<=c0) (hb:b < c0\/c1<=b):Zf1 b o c0 c1 w' x:=by
 obtain⟨hs,hc⟩:=h;obtain⟨h0,h1⟩:=hc;have e:∀ t,t < 2->w'.cell? ⟨b,o+t,none⟩=w.cell? ⟨b,o+t,none⟩:=fun t ht=>hn.cell _ (by omega)
 have e0:w'.cell? ⟨b,o,none⟩=w.cell? ⟨b,o,none⟩:=hn.cell _ (by omega);exact⟨hs,⟨e0.trans h0,(e 1 (by omega)).trans h1⟩⟩
theorem Zf1.touch {o:Nat}{x:Tm} (h:Zf1 b o c0 c1 w x) (ht:Zad lo hi w w') (hlt:b < w.heap.size) (hb:b < lo\/hi<=b) (_hi:c1<=lo\/hi<=c0):Zf1 b o c0 c1 w' x:=by
 obtain⟨hs,hc⟩:=h;obtain⟨h0,h1⟩:=hc;exact⟨hs,⟨(ht.cell (p:=⟨b,o,none⟩) hlt hb).trans h0,(ht.cell (p:=⟨b,o+1,none⟩) hlt hb).trans h1⟩⟩
theorem Zf1.below {o:Nat}{x:Tm} (h:Zf1 b o c0 c1 w x) (ht:Zw_ w w') (hlt:b < w.heap.size):Zf1 b o c0 c1 w' x:=by
 obtain⟨hs,hc⟩:=h;obtain⟨h0,h1⟩:=hc;exact⟨hs,⟨(ht.cell (p:=⟨b,o,none⟩) hlt).trans h0,(ht.cell (p:=⟨b,o+1,none⟩) hlt).trans h1⟩⟩
structure ZeP (lo hi:Nat) (w:World) (b off n:Nat) (c:Nat->Nat) (X:Nat->Tm):Prop where
 lt:b < w.heap.size
 low:lo<=b
 bc:b < c 0
 bh:b < hi
 mono:∀ i,i < n->c i<=c (i+1)
 top:c n<=hi
 frz:∀ i,w.frozen? ⟨b,i,none⟩=false
 row:∀ i,i < n->Zf1 b (off+i*2) (c i) (c (i+1)) w (X i)
theorem ZeP.le {c:Nat->Nat}{X:Nat->Tm} (h:ZeP lo hi w b off n c X) {i:Nat}:∀ {j:Nat},i<=j->j<=n->c i<=c j:=by
 intro j
 induction j with
 | zero=>intro hij _;have:i=0:=by omega
         subst this;exact Nat.le_refl _
 | succ j ih=>
  intro hij hjn
  by_cases e:i=j+1
  . subst e;exact Nat.le_refl _
  . exact Nat.le_trans (ih (by omega) (by omega)) (h.mono j (by omega))
theorem ZeP.near {c:Nat->Nat}{X:Nat->Tm} (h:ZeP lo hi w b off n c X) {j:Nat} (hj:j < n) (hn:ZbX b (off+j*2) 2 (c j) (c (j+1)) w w') {x:Tm} (hx:Zf1 b (off+j*2) (c j) (c (j+1)) w' x):ZeP lo hi w' b off n c (fun i=>if i=j then x else X i):=by
 refine⟨Zk_ h.lt hn.size,h.low,h.bc,h.bh,h.mono,h.top,fun i=>(hn.frz i).trans (h.frz i),fun i hi'=>?_⟩
 by_cases e:i=j
 . subst e;rw [if_pos rfl];exact hx
 . rw [if_neg e]
   have h0:=h.le (Nat.zero_le i) (by omega);have hbc:=h.bc;refine (h.row i hi').near hn (by omega) ?_ (by omega)
   rcases Nat.lt_or_ge i j with hij | hij
   . exact Or.inl (h.le (by omega) (by omega))
   . exact Or.inr (h.le (by omega) (by omega))
theorem ZeP.touch {c:Nat->Nat}{X:Nat->Tm} (h:ZeP lo hi w b off n c X) (ht:Zad lo' hi' w w') (ho:hi<=lo'\/hi'<=lo):ZeP lo hi w' b off n c X:=by
 have h1:=h.low;have h2:=h.bh;have h3:=h.top;have h4:=h.bc;refine⟨Zk_ h.lt ht.size,h.low,h.bc,h.bh,h.mono,h.top,fun i=>(ht.frozen (p:=⟨b,i,none⟩) h.lt (by dsimp;omega)).trans (h.frz i),fun i hi'=>?_⟩;have h5:=h.le (Nat.zero_le i) (by omega);have h6:=h.le (i:=i+1) (j:=n) (by omega) Zl_;exact (h.row i hi').touch ht h.lt (by omega) (by omega)
theorem ZeP.below {c:Nat->Nat}{X:Nat->Tm} (h:ZeP lo hi w b off n c X) (ht:Zw_ w w'):ZeP lo hi w' b off n c X:=
 ⟨Zk_ h.lt ht.size,h.low,h.bc,h.bh,h.mono,h.top,fun i=>(ht.frozen (p:=⟨b,i,none⟩) h.lt).trans (h.frz i),fun i hi'=>(h.row i hi').below ht h.lt⟩
theorem ZeP.to {c:Nat->Nat}{X Y:Nat->Tm} (h:ZeP lo hi w b off n c X) (e:∀ i,i < n->X i=Y i):ZeP lo hi w b off n c Y:=
 ⟨h.lt,h.low,h.bc,h.bh,h.mono,h.top,h.frz,fun i hi'=>e i hi' ▸ h.row i hi'⟩
def Zcq (lo hi:Nat) (w:World) (v:Value) (Xl:List Tm):Prop:=
 (∃ (a:Option Addr) (cap:Nat),v=.slice a 0 cap/\Xl=[])\/
 ∃ (b off cap:Nat) (c:Nat->Nat) (X:Nat->Tm),v=.slice (some ⟨b,off,none⟩) Xl.length cap/\Xl≠[]/\Xl.length<=maxLen/\Xl.length<=cap/\(∀ i (h:i < Xl.length),X i=Xl[i])/\ZeP lo hi w b off Xl.length c X
theorem Zcq.touch {v:Value} (h:Zcq lo hi w v Xl) (ht:Zad lo' hi' w w') (ho:hi<=lo'\/hi'<=lo):Zcq lo hi w' v Xl:=by
 rcases h with h | ⟨b,off,cap,c,X,h1,h2,h3,h4,h5,h6⟩
 . exact Or.inl h
 . exact Or.inr ⟨b,off,cap,c,X,h1,h2,h3,h4,h5,h6.touch ht ho⟩
theorem Zcq.below {v:Value} (h:Zcq lo hi w v Xl) (ht:Zw_ w w'):Zcq lo hi w' v Xl:=by
 rcases h with h | ⟨b,off,cap,c,X,h1,h2,h3,h4,h5,h6⟩
 . exact Or.inl h
 . exact Or.inr ⟨b,off,cap,c,X,h1,h2,h3,h4,h5,h6.below ht⟩
theorem Zcq.form {v:Value} (h:Zcq lo hi w v Xl):∃ a cap,v=.slice a Xl.length cap:=by
 rcases h with ⟨a,cap,h,rfl⟩ | ⟨b,off,cap,c,X,h1,_⟩
 . exact⟨a,cap,h⟩
 . exact⟨_,cap,h1⟩
theorem Zcq.at {v:Value} (h:Zcq lo hi w v Xl):Zbn lo w v Xl:=by
 rcases h with h | ⟨b,off,cap,c,X,h1,h2,h3,h4,h5,h6⟩
 . exact Or.inl h
 . refine Or.inr ⟨b,off,cap,h1,h2,h3,h6.lt,h6.low,h4,fun i hi'=>?_⟩
   have hr:=h6.row i hi';rw [h5 i hi'] at hr;obtain⟨hs,hc⟩:=hr;exact⟨hs,hc⟩
def Zsd (k:Int) (_x:Tm):Tm:=⟨mtB (k),mtB (k+1)⟩
def ZsD (_x:Tm):Nat:=2
def ZeN (Xl:List Tm) (i:Nat):Nat:=((Xl.take i).map ZsD).sum
def Zpv (k:Int) (Xl:List Tm):List Tm:=Xl.mapIdx (fun i x=>Zsd (k+(ZeN Xl i:Int)) x)
theorem ZdH (k:Int) (Xl:List Tm):(Zpv k Xl).length=Xl.length:=by unfold Zpv;simp
theorem Zpw (k:Int) (Xl:List Tm) (i:Nat) (h:i < (Zpv k Xl).length) (h':i < Xl.length):(Zpv k Xl)[i]=Zsd (k+(ZeN Xl i:Int)) Xl[i]:=List.getElem_mapIdx (f:=fun i x=>Zsd (k+(ZeN Xl i:Int)) x) (h:=h)
theorem Zh6 (h:i < Xl.length):ZeN Xl (i+1)=ZeN Xl i+ZsD Xl[i]:=by
 unfold ZeN;rw [List.take_succ_eq_append_getElem h,List.map_append,List.sum_append];simp
theorem ZlS (hn:Zdr Xl):∀ {i:Nat},i<=Xl.length->ZeN Xl i<=i*3000000:=by
 intro i
 induction i with
 | zero=>intro _;simp [ZeN]
 | succ i ih=>
  intro hi';have h1:=ih (by omega);rw [Zh6 (by omega)]
  have h2:ZsD Xl[i]<=3000000:=by
   have hsm:=hn.2 i (by omega);unfold ZoX at hsm;unfold ZsD
   omega
  omega
structure ZnR (wr:World) (b o c0 c1:Nat) (v:World) (y:Tm):Prop where
 near:ZbX b o 2 c0 c1 wr v
 bc:b < c0
 cells:Zd6 v b o y
 frz:∀ i,v.frozen? ⟨b,i,none⟩=false
 lt:b < v.heap.size
theorem ZnR.below {o:Nat}{y:Tm} (h:ZnR wr b o c0 c1 v y) (hb:Below v.heap.size v v'):ZnR wr b o c0 c1 v' y:=
 ⟨h.near.trans (ZbX.below hb h.lt),h.bc,h.cells.below hb h.lt,fun i=>(hb.frozen (p:=⟨b,i,none⟩) h.lt).trans (h.frz i),Zk_ h.lt hb.size⟩
theorem ZnR.s0 {o:Nat}{y:Tm} (h:ZnR wr b o c0 c1 v y) (u:Zy_):ZnR wr b o c0 c1 (v.setCell ⟨b,o,none⟩ (.string u)) { y with nm:=u }:=by
 obtain⟨h0,h1⟩:=h.cells;have ht:Zad b (b+1) v (v.setCell ⟨b,o,none⟩ (.string u)):=Zad.setCell _ _ _ _ _ ⟨Nat.le_refl _,by dsimp;omega⟩;have hbc:=h.bc;exact⟨h.near.trans (ZbX.set _ _ _ _ _ _ _ _ (by omega) (by omega)),h.bc,⟨World.cell?_setCell_same' _ _ _ (by rw [h0];rfl),(cne (by omega)).trans h1⟩,fun i=>by rw [World.frozen?_setCell];exact h.frz i,by simpa [World.setCell] using h.lt⟩
theorem ZnR.s1 {o:Nat}{y:Tm} (h:ZnR wr b o c0 c1 v y) (u:Zy_):ZnR wr b o c0 c1 (v.setCell ⟨b,o+1,none⟩ (.string u)) { y with ov:=u }:=by
 obtain⟨h0,h1⟩:=h.cells;have ht:Zad b (b+1) v (v.setCell ⟨b,o+1,none⟩ (.string u)):=Zad.setCell _ _ _ _ _ ⟨Nat.le_refl _,by dsimp;omega⟩;have hbc:=h.bc;exact⟨h.near.trans (ZbX.set _ _ _ _ _ _ _ _ (by omega) (by omega)),h.bc,⟨(cne (by omega)).trans h0,World.cell?_setCell_same' _ _ _ (by rw [h1];rfl)⟩,fun i=>by rw [World.frozen?_setCell];exact h.frz i,by simpa [World.setCell] using h.lt⟩
theorem Zlk (lo hi:Nat) (v:Value) (Xl:List Le) (k:Int) (w:World) (hv:ZaJ lo hi w v Xl) (hn:Zd7 Xl) (h0:0<=k) (hk:k<=2000000000000000000) :
 Calls prog 63 #[v,.int .i64 k] w fun e w'=>e=.returned (.int .i64 (k+(ZcG Xl Xl.length:Int)))/\Zad lo hi w w'/\ZaJ lo hi w' v (Zko k Xl):=by
 rcases hv with ⟨a,cap,rfl,rfl⟩ | ⟨b,off,cap,c,X,rfl,hne,hm,hcap,hX,hR⟩
 . go_enter func63,ntmps63
   go_wp2
   go_loop [5,1] (fun i q=>i=.int .i64 0/\q=.int .i64 k) (fun _ _=>0)
   case atStart=>exact⟨rfl,rfl⟩
   case round=>
    obtain⟨rfl,rfl⟩:=hrel;go_wp2;go_ret;exact⟨by simp [ZcG],Zad.refl _ _ _,Or.inl ⟨_,_,rfl,rfl⟩⟩
 . have hlen:=hn.1
   have HN:=Zab hn;have HX:=Zab hX;have HR0:=Zab hR;have HM:=Zab hm;have HC:=Zab hcap;have HNE:=Zab hne;clear hn hX hR hm hcap hne;go_enter func63,ntmps63;go_wp2
   go_loopw [5,1] (fun i q wr=>∃ j:Nat,i=.int .i64 j/\q=.int .i64 (k+(ZcG Xl j:Int))/\j<=Xl.length/\Zad lo hi w wr/\ZeM lo hi wr b off Xl.length c (fun i=>if i < j then Zsk (k+(ZcG Xl i:Int)) (X i) else X i)) (fun i _ _=>Xl.length - (intOf i).toNat)
   case atStart=>exact⟨0,rfl,by simp [ZcG],by omega,Zad.refl _ _ _,HR0.o.to (fun i _=>by simp)⟩
   case round=>
    obtain⟨j,rfl,rfl,hj,ht,hr⟩:=hrel;have HT:=Zab ht;have HR:=Zab hr;clear ht hr HR0
    by_cases hlt:j < Xl.length
    . have hpos:=Zi2 HN.o (i:=j) (by omega)
      have HP:=Zab (ZfY hlt)
      have hone:ZfI b (off+j*4) (c j) (c (j+1)) wr (X j):=by
       have:=HR.o.row j hlt;simp only [Nat.lt_irrefl,if_false] at this;exact this
      have hxj:X j=Xl[j]:=HX.o j hlt;obtain⟨x,hx⟩:∃ x,x=X j:=⟨_,rfl⟩
      rw [<- hx] at hone;obtain⟨hs,hc⟩:=hone;have HXJ:=Zab hxj;have HXX:=Zab hx;obtain⟨K,hK⟩:∃ K,K=k+(ZcG Xl j:Int):=⟨_,rfl⟩
      rw [<- hK];have hK0:0<=K:=by omega
      have hK1:K<=2500000000000000000:=by omega
      have HK:=Zab hK;have HBC:Hd (b < c j):=Zk_ HR.o.bc (HR.o.le Zz_ (by omega));have HS:Hd (ZiF wr b (off+j*4) (c j) (c (j+1)) wr x):=⟨ZbX.refl _ _ _ _ _ _,HBC.o,hc,HR.o.frz,HR.o.lt⟩;clear hpos hxj hx hs hc hK;obtain⟨d0,d1,d2,d3⟩:=HS.o.cells;have fz:=HS.o.frz;go_wp2_with fail;clear d0 d1 d2 d3 fz;refine (Zah _ _ (by omega)).mono ?_;rintro e v1 ⟨rfl,hb⟩;have HS1:=Zab (HS.o.below hb);clear hb HS;obtain⟨d0,d1,d2,d3⟩:=HS1.o.cells;have fz:=HS1.o.frz;go_wp2_with fail;clear d0 d1 d2 d3 fz;obtain⟨v2,hv2,HS2⟩:∃ v',v'=(v1.setCell ⟨b,off+j*4,none⟩ (.string (mtB (K))))/\Hd (ZiF wr b (off+j*4) (c j) (c (j+1)) v' ⟨mtB (K),x.re,x.mo,x.fr⟩):=⟨_,rfl,(HS1.o.s0 (mtB (K)))⟩
      rw [<- hv2];clear hv2 HS1;refine (Zah _ _ (by omega)).mono ?_;rintro e v3 ⟨rfl,hb⟩;have HS3:=Zab (HS2.o.below hb);clear hb HS2;obtain⟨d0,d1,d2,d3⟩:=HS3.o.cells;have fz:=HS3.o.frz;go_wp2;clear d0 d1 d2 d3 fz;obtain⟨v4,hv4,HS4⟩:∃ v',v'=(((v3.setCell ⟨b,off+j*4+1,none⟩ (.string (mtB (K+1)))).setCell ⟨b,off+j*4+2,none⟩ (.int .i64 (K+1+1))).setCell ⟨b,off+j*4+3,none⟩ (.int .i64 (K+1+1+1)))/\Hd (ZiF wr b (off+j*4) (c j) (c (j+1)) v' ⟨mtB (K),mtB (K+1),K+1+1,K+1+1+1⟩):=⟨_,rfl,(((HS3.o.s1 (mtB (K+1))).s2 (K+1+1)).s3 (K+1+1+1))⟩
      rw [<- hv4];clear hv4 HS3;have HW:Hd (Zsn Xl[j]=4):=by unfold Hd;rw [<- HXJ.o,<- HXX.o];rfl
      have HQ:Hd ((K+1+1+1+1:Int)=k+(ZcG Xl (j+1):Int)):=by
       have h1:=HP.o;have h2:=HW.o;have h3:=HK.o;unfold Hd
       omega
      have HRN:=Zab (HR.o.near hlt HS4.o.near (show ZfI b (off+j*4) (c j) (c (j+1)) v4 (Zsk K x) from ⟨⟨Zb5 _ (by omega),Zb5 _ (by omega)⟩,HS4.o.cells⟩));have HTN:=Zab (HS4.o.near.wide HR.o.lt (lo':=lo) (hi':=hi) (by have:=HBC.o;have:=HR.o.low;omega) (Nat.le_trans (HR.o.le (by omega) Zl_) HR.o.top) ⟨HR.o.low,HR.o.bh⟩);go_roundw
      . 
       refine⟨j+1,by go_num,congrArg (Value.int .i64) HQ.o,by omega,HT.o.trans HTN.o,HRN.o.to (fun i hi'=>?_)⟩
       by_cases e:i=j
       . subst e
         rw [if_pos rfl,if_pos (by omega),<- HK.o,HXX.o]
       . rw [if_neg e]
         by_cases e2:i < j
         . rw [if_pos e2,if_pos (by omega)]
         . rw [if_neg e2,if_neg (by omega)]
      . simp [intOf];omega
    . have e:j=Xl.length:=by omega
      subst e;go_wp2;go_ret;refine⟨rfl,HT.o,Or.inr ⟨b,off,cap,c,fun i=>Zsk (k+(ZcG Xl i:Int)) (X i),by rw [ZbN],?_,by rw [ZbN];exact HM.o,by rw [ZbN];exact HC.o,fun i h=>?_,?_⟩⟩
      . intro e
        have:=congrArg List.length e;rw [ZbN] at this;exact HNE.o (List.length_eq_zero_iff.1 (by simpa using this))
      . have h':i < Xl.length:=by rw [ZbN] at h;exact h
        rw [Zjx _ _ _ _ h',<- HX.o i h']
      . rw [ZbN]
        exact HR.o.to (fun i hi'=>by rw [if_pos hi'])
theorem ZkK (lo hi:Nat) (v:Value) (Xl:List Pu) (k:Int) (w:World) (hv:Zbx lo hi w v Xl) (hn:ZdV Xl) (h0:0<=k) (hk:k<=2000000000000000000) :
 Calls prog 64 #[v,.int .i64 k] w fun e w'=>e=.returned (.int .i64 (k+(Zc3 Xl Xl.length:Int)))/\Zad lo hi w w'/\Zbx lo hi w' v (ZjY k Xl):=by
 rcases hv with ⟨a,cap,rfl,rfl⟩ | ⟨b,off,cap,c,X,rfl,hne,hm,hcap,hX,hR⟩
 . go_enter func64,ntmps64
   go_wp2
   go_loop [5,1] (fun i q=>i=.int .i64 0/\q=.int .i64 k) (fun _ _=>0)
   case atStart=>exact⟨rfl,rfl⟩
   case round=>
    obtain⟨rfl,rfl⟩:=hrel;go_wp2;go_ret;exact⟨by simp [Zc3],Zad.refl _ _ _,Or.inl ⟨_,_,rfl,rfl⟩⟩
 . have hlen:=hn.1
   have HN:=Zab hn;have HX:=Zab hX;have HR0:=Zab hR;have HM:=Zab hm;have HC:=Zab hcap;have HNE:=Zab hne;clear hn hX hR hm hcap hne;go_enter func64,ntmps64;go_wp2
   go_loopw [5,1] (fun i q wr=>∃ j:Nat,i=.int .i64 j/\q=.int .i64 (k+(Zc3 Xl j:Int))/\j<=Xl.length/\Zad lo hi w wr/\ZeO lo hi wr b off Xl.length c (fun i=>if i < j then Zse (k+(Zc3 Xl i:Int)) (X i) else X i)) (fun i _ _=>Xl.length - (intOf i).toNat)
   case atStart=>exact⟨0,rfl,by simp [Zc3],by omega,Zad.refl _ _ _,HR0.o.to (fun i _=>by simp)⟩
   case round=>
    obtain⟨j,rfl,rfl,hj,ht,hr⟩:=hrel;have HT:=Zab ht;have HR:=Zab hr;clear ht hr HR0
    by_cases hlt:j < Xl.length
    . have hpos:=ZiG HN.o (i:=j) (by omega)
      have HP:=Zab (ZfT hlt)
      have hone:Zf5 b (off+j*5) (c j) (c (j+1)) wr (X j):=by
       have:=HR.o.row j hlt;simp only [Nat.lt_irrefl,if_false] at this;exact this
      have hxj:X j=Xl[j]:=HX.o j hlt;obtain⟨x,hx⟩:∃ x,x=X j:=⟨_,rfl⟩
      rw [<- hx] at hone;obtain⟨hs,hc⟩:=hone;have HXJ:=Zab hxj;have HXX:=Zab hx;obtain⟨K,hK⟩:∃ K,K=k+(Zc3 Xl j:Int):=⟨_,rfl⟩
      rw [<- hK];have hK0:0<=K:=by omega
      have hK1:K<=2500000000000000000:=by omega
      have HK:=Zab hK;have HBC:Hd (b < c j):=Zk_ HR.o.bc (HR.o.le Zz_ (by omega));have HS:Hd (Zhy wr b (off+j*5) (c j) (c (j+1)) wr x):=⟨ZbX.refl _ _ _ _ _ _,HBC.o,hc,HR.o.frz,HR.o.lt⟩;clear hpos hxj hx hs hc hK;obtain⟨d0,d1,d2,d3,d4⟩:=HS.o.cells;have fz:=HS.o.frz;go_wp2_with fail;clear d0 d1 d2 d3 d4 fz;refine (Zah _ _ (by omega)).mono ?_;rintro e v1 ⟨rfl,hb⟩;have HS1:=Zab (HS.o.below hb);clear hb HS;obtain⟨d0,d1,d2,d3,d4⟩:=HS1.o.cells;have fz:=HS1.o.frz;go_wp2_with fail;clear d0 d1 d2 d3 d4 fz;obtain⟨v2,hv2,HS2⟩:∃ v',v'=(v1.setCell ⟨b,off+j*5,none⟩ (.string (mtB (K))))/\Hd (Zhy wr b (off+j*5) (c j) (c (j+1)) v' ⟨mtB (K),x.tm,x.re,x.am,x.un⟩):=⟨_,rfl,(HS1.o.s0 (mtB (K)))⟩
      rw [<- hv2];clear hv2 HS1;refine (Zah _ _ (by omega)).mono ?_;rintro e v3 ⟨rfl,hb⟩;have HS3:=Zab (HS2.o.below hb);clear hb HS2;obtain⟨d0,d1,d2,d3,d4⟩:=HS3.o.cells;have fz:=HS3.o.frz;go_wp2_with fail;clear d0 d1 d2 d3 d4 fz;obtain⟨v4,hv4,HS4⟩:∃ v',v'=(v3.setCell ⟨b,off+j*5+1,none⟩ (.string (mtB (K+1))))/\Hd (Zhy wr b (off+j*5) (c j) (c (j+1)) v' ⟨mtB (K),mtB (K+1),x.re,x.am,x.un⟩):=⟨_,rfl,(HS3.o.s1 (mtB (K+1)))⟩
      rw [<- hv4];clear hv4 HS3;refine (Zah _ _ (by omega)).mono ?_;rintro e v5 ⟨rfl,hb⟩;have HS5:=Zab (HS4.o.below hb);clear hb HS4;obtain⟨d0,d1,d2,d3,d4⟩:=HS5.o.cells;have fz:=HS5.o.frz;go_wp2;clear d0 d1 d2 d3 d4 fz;obtain⟨v6,hv6,HS6⟩:∃ v',v'=(((v5.setCell ⟨b,off+j*5+2,none⟩ (.string (mtB (K+1+1)))).setCell ⟨b,off+j*5+3,none⟩ (.int .i64 (K+1+1+1))).setCell ⟨b,off+j*5+4,none⟩ (.int .i64 (K+1+1+1+1)))/\Hd (Zhy wr b (off+j*5) (c j) (c (j+1)) v' ⟨mtB (K),mtB (K+1),mtB (K+1+1),K+1+1+1,K+1+1+1+1⟩):=⟨_,rfl,(((HS5.o.s2 (mtB (K+1+1))).s3 (K+1+1+1)).s4 (K+1+1+1+1))⟩
      rw [<- hv6];clear hv6 HS5;have HW:Hd (Zsc Xl[j]=5):=by unfold Hd;rw [<- HXJ.o,<- HXX.o];rfl
      have HQ:Hd ((K+1+1+1+1+1:Int)=k+(Zc3 Xl (j+1):Int)):=by
       have h1:=HP.o;have h2:=HW.o;have h3:=HK.o;unfold Hd
       omega
      have HRN:=Zab (HR.o.near hlt HS6.o.near (show Zf5 b (off+j*5) (c j) (c (j+1)) v6 (Zse K x) from ⟨⟨Zb5 _ (by omega),Zb5 _ (by omega),Zb5 _ (by omega)⟩,HS6.o.cells⟩));have HTN:=Zab (HS6.o.near.wide HR.o.lt (lo':=lo) (hi':=hi) (by have:=HBC.o;have:=HR.o.low;omega) (Nat.le_trans (HR.o.le (by omega) Zl_) HR.o.top) ⟨HR.o.low,HR.o.bh⟩);go_roundw
      . 
       refine⟨j+1,by go_num,congrArg (Value.int .i64) HQ.o,by omega,HT.o.trans HTN.o,HRN.o.to (fun i hi'=>?_)⟩
       by_cases e:i=j
       . subst e
         rw [if_pos rfl,if_pos (by omega),<- HK.o,HXX.o]
       . rw [if_neg e]
         by_cases e2:i < j
         . rw [if_pos e2,if_pos (by omega)]
         . rw [if_neg e2,if_neg (by omega)]
      . simp [intOf];omega
    . have e:j=Xl.length:=by omega
      subst e;go_wp2;go_ret;refine⟨rfl,HT.o,Or.inr ⟨b,off,cap,c,fun i=>Zse (k+(Zc3 Xl i:Int)) (X i),by rw [ZbT],?_,by rw [ZbT];exact HM.o,by rw [ZbT];exact HC.o,fun i h=>?_,?_⟩⟩
      . intro e
        have:=congrArg List.length e;rw [ZbT] at this;exact HNE.o (List.length_eq_zero_iff.1 (by simpa using this))
      . have h':i < Xl.length:=by rw [ZbT] at h;exact h
        rw [ZjE _ _ _ _ h',<- HX.o i h']
      . rw [ZbT]
        exact HR.o.to (fun i hi'=>by rw [if_pos hi'])
theorem Zk4 (lo hi:Nat) (v:Value) (Xl:List Gr) (k:Int) (w:World) (hv:Zbe lo hi w v Xl) (hn:Zdu Xl) (h0:0<=k) (hk:k<=2000000000000000000) :
 Calls prog 62 #[v,.int .i64 k] w fun e w'=>e=.returned (.int .i64 (k+(Zcr Xl Xl.length:Int)))/\Zad lo hi w w'/\Zbe lo hi w' v (ZjD k Xl):=by
 rcases hv with ⟨a,cap,rfl,rfl⟩ | ⟨b,off,cap,c,X,rfl,hne,hm,hcap,hX,hR⟩
 . go_enter func62,ntmps62
   go_wp2
   go_loop [5,1] (fun i q=>i=.int .i64 0/\q=.int .i64 k) (fun _ _=>0)
   case atStart=>exact⟨rfl,rfl⟩
   case round=>
    obtain⟨rfl,rfl⟩:=hrel;go_wp2;go_ret;exact⟨by simp [Zcr],Zad.refl _ _ _,Or.inl ⟨_,_,rfl,rfl⟩⟩
 . have hlen:=hn.1
   have HN:=Zab hn;have HX:=Zab hX;have HR0:=Zab hR;have HM:=Zab hm;have HC:=Zab hcap;have HNE:=Zab hne;clear hn hX hR hm hcap hne;go_enter func62,ntmps62;go_wp2
   go_loopw [5,1] (fun i q wr=>∃ j:Nat,i=.int .i64 j/\q=.int .i64 (k+(Zcr Xl j:Int))/\j<=Xl.length/\Zad lo hi w wr/\ZfC lo hi wr b off Xl.length c (fun i=>if i < j then Zsf (k+(Zcr Xl i:Int)) (X i) else X i)) (fun i _ _=>Xl.length - (intOf i).toNat)
   case atStart=>exact⟨0,rfl,by simp [Zcr],by omega,Zad.refl _ _ _,HR0.o.to (fun i _=>by simp)⟩
   case round=>
    obtain⟨j,rfl,rfl,hj,ht,hr⟩:=hrel;have HT:=Zab ht;have HR:=Zab hr;clear ht hr HR0
    by_cases hlt:j < Xl.length
    . have hpos:=ZiP HN.o (i:=j) (by omega)
      have HP:=Zab (Zf2 hlt)
      have hone:ZfN b (off+j*7) (c j).1 (c j).2 wr (X j):=by
       have:=HR.o.row j hlt;simp only [Nat.lt_irrefl,if_false] at this;exact this
      have hxj:X j=Xl[j]:=HX.o j hlt;obtain⟨x,hx⟩:∃ x,x=X j:=⟨_,rfl⟩
      rw [<- hx] at hone;obtain⟨hs,vv0,q0,hc,l0⟩:=hone;have hs0:x.vb.length<=1048576:=by have:=HN.o.2 j hlt;rw [hx,hxj];unfold Zdy at this;omega
      have HXJ:=Zab hxj;have HXX:=Zab hx;obtain⟨K,hK⟩:∃ K,K=k+(Zcr Xl j:Int):=⟨_,rfl⟩
      rw [<- hK];have hK0:0<=K:=by omega
      have hK1:K<=2500000000000000000:=by omega
      have HK:=Zab hK;have HBC:Hd (b < (c j).1\/(c j).2<=b):=(HR.o.seg j hlt).2.2;have HS:Hd (ZeX wr b (off+j*7) (c j).1 (c j).2 vv0 wr x):=⟨ZbX.refl _ _ _ _ _ _,HBC.o,q0,hc,l0,HR.o.frz,HR.o.lt⟩;clear hpos hxj hx hs hc l0 q0 hK;obtain⟨d0,d1,d2,d3,d4,d5,d6⟩:=HS.o.cells;have fz:=HS.o.frz;go_wp2_with fail;clear d0 d1 d2 d3 d4 d5 d6 fz;obtain⟨v1,hv1,HS1⟩:∃ v',v'=(wr.setCell ⟨b,off+j*7,none⟩ (.int .i64 (K)))/\Hd (ZeX wr b (off+j*7) (c j).1 (c j).2 vv0 v' ⟨K,x.tw,x.gb,x.vb,x.kd,x.tm,x.pf⟩):=⟨_,rfl,(HS.o.s0 (K))⟩
      rw [<- hv1];clear hv1 HS;refine (Zah _ _ (by omega)).mono ?_;rintro e v2 ⟨rfl,hb⟩;have HS2:=Zab (HS1.o.below hb);clear hb HS1;obtain⟨d0,d1,d2,d3,d4,d5,d6⟩:=HS2.o.cells;have fz:=HS2.o.frz;go_wp2_with fail;clear d0 d1 d2 d3 d4 d5 d6 fz;obtain⟨v3,hv3,HS3⟩:∃ v',v'=(v2.setCell ⟨b,off+j*7+1,none⟩ (.string (mtB (K+1))))/\Hd (ZeX wr b (off+j*7) (c j).1 (c j).2 vv0 v' ⟨K,mtB (K+1),x.gb,x.vb,x.kd,x.tm,x.pf⟩):=⟨_,rfl,(HS2.o.s1 (mtB (K+1)))⟩
      rw [<- hv3];clear hv3 HS2;refine (Zah _ _ (by omega)).mono ?_;rintro e v4 ⟨rfl,hb⟩;have HS4:=Zab (HS3.o.below hb);clear hb HS3;obtain⟨d0,d1,d2,d3,d4,d5,d6⟩:=HS4.o.cells;have fz:=HS4.o.frz;go_wp2_with fail;clear d0 d1 d2 d3 d4 d5 d6 fz;obtain⟨v5,hv5,HS5⟩:∃ v',v'=(v4.setCell ⟨b,off+j*7+2,none⟩ (.string (mtB (K+1+1))))/\Hd (ZeX wr b (off+j*7) (c j).1 (c j).2 vv0 v' ⟨K,mtB (K+1),mtB (K+1+1),x.vb,x.kd,x.tm,x.pf⟩):=⟨_,rfl,(HS4.o.s2 (mtB (K+1+1)))⟩
      rw [<- hv5];clear hv5 HS4;refine (Zjy _ _ _ x.vb _ _ HS5.o.l0 (by omega) (by omega)).mono ?_;rintro e v6 ⟨rfl,ht,hl⟩;have HS6:Hd (ZeX wr b (off+j*7) (c j).1 (c j).2 vv0 v6 ⟨K,mtB (K+1),mtB (K+1+1),ZdS (K+1+1+1) x.vb.length,x.kd,x.tm,x.pf⟩):=HS5.o.m0' ht hl;clear ht hl HS5;obtain⟨d0,d1,d2,d3,d4,d5,d6⟩:=HS6.o.cells;have fz:=HS6.o.frz;go_wp2_with fail;clear d0 d1 d2 d3 d4 d5 d6 fz;refine (Zah _ _ (by omega)).mono ?_;rintro e v7 ⟨rfl,hb⟩;have HS7:=Zab (HS6.o.below hb);clear hb HS6;obtain⟨d0,d1,d2,d3,d4,d5,d6⟩:=HS7.o.cells;have fz:=HS7.o.frz;go_wp2_with fail;clear d0 d1 d2 d3 d4 d5 d6 fz
      obtain⟨v8,hv8,HS8⟩:∃ v',v'=(v7.setCell ⟨b,off+j*7+4,none⟩ (.string (mtB (K+1+1+1+(x.vb.length:Int)))))/\Hd (ZeX wr b (off+j*7) (c j).1 (c j).2 vv0 v' ⟨K,mtB (K+1),mtB (K+1+1),ZdS (K+1+1+1) x.vb.length,mtB (K+1+1+1+(x.vb.length:Int)),x.tm,x.pf⟩):=⟨_,rfl,(HS7.o.s4 (mtB (K+1+1+1+(x.vb.length:Int))))⟩
      rw [<- hv8];clear hv8 HS7;refine (Zah _ _ (by omega)).mono ?_;rintro e v9 ⟨rfl,hb⟩;have HS9:=Zab (HS8.o.below hb);clear hb HS8;obtain⟨d0,d1,d2,d3,d4,d5,d6⟩:=HS9.o.cells;have fz:=HS9.o.frz;go_wp2_with fail;clear d0 d1 d2 d3 d4 d5 d6 fz;obtain⟨v10,hv10,HS10⟩:∃ v',v'=(v9.setCell ⟨b,off+j*7+5,none⟩ (.string (mtB (K+1+1+1+(x.vb.length:Int)+1))))/\Hd (ZeX wr b (off+j*7) (c j).1 (c j).2 vv0 v' ⟨K,mtB (K+1),mtB (K+1+1),ZdS (K+1+1+1) x.vb.length,mtB (K+1+1+1+(x.vb.length:Int)),mtB (K+1+1+1+(x.vb.length:Int)+1),x.pf⟩):=⟨_,rfl,(HS9.o.s5 (mtB (K+1+1+1+(x.vb.length:Int)+1)))⟩
      rw [<- hv10];clear hv10 HS9;refine (Zah _ _ (by omega)).mono ?_;rintro e v11 ⟨rfl,hb⟩;have HS11:=Zab (HS10.o.below hb);clear hb HS10;obtain⟨d0,d1,d2,d3,d4,d5,d6⟩:=HS11.o.cells;have fz:=HS11.o.frz;go_wp2;clear d0 d1 d2 d3 d4 d5 d6 fz;obtain⟨v12,hv12,HS12⟩:∃ v',v'=(v11.setCell ⟨b,off+j*7+6,none⟩ (.string (mtB (K+1+1+1+(x.vb.length:Int)+1+1))))/\Hd (ZeX wr b (off+j*7) (c j).1 (c j).2 vv0 v' ⟨K,mtB (K+1),mtB (K+1+1),ZdS (K+1+1+1) x.vb.length,mtB (K+1+1+1+(x.vb.length:Int)),mtB (K+1+1+1+(x.vb.length:Int)+1),mtB (K+1+1+1+(x.vb.length:Int)+1+1)⟩):=⟨_,rfl,(HS11.o.s6 (mtB (K+1+1+1+(x.vb.length:Int)+1+1)))⟩
      rw [<- hv12];clear hv12 HS11;have HW:Hd (Zsm Xl[j]=6+x.vb.length):=by unfold Hd;rw [<- HXJ.o,<- HXX.o];rfl
      have HQ:Hd ((K+1+1+1+(x.vb.length:Int)+1+1+1:Int)=k+(Zcr Xl (j+1):Int)):=by
       have h1:=HP.o;have h2:=HW.o;have h3:=HK.o;unfold Hd
       omega
      have HRN:=Zab (HR.o.near hlt HS12.o.near (show ZfN b (off+j*7) (c j).1 (c j).2 v12 (Zsf K x) from ⟨⟨Zb5 _ (by omega),Zb5 _ (by omega),Zb5 _ (by omega),Zb5 _ (by omega),Zb5 _ (by omega)⟩,_,HS12.o.q0,HS12.o.cells,HS12.o.l0⟩));have HTN:=Zab (HS12.o.near.wide HR.o.lt (lo':=lo) (hi':=hi) (HR.o.seg j hlt).1 (HR.o.seg j hlt).2.1 ⟨HR.o.low,HR.o.bh⟩);go_roundw
      . 
       refine⟨j+1,by go_num,congrArg (Value.int .i64) HQ.o,by omega,HT.o.trans HTN.o,HRN.o.to (fun i hi'=>?_)⟩
       by_cases e:i=j
       . subst e
         rw [if_pos rfl,if_pos (by omega),<- HK.o,HXX.o]
       . rw [if_neg e]
         by_cases e2:i < j
         . rw [if_pos e2,if_pos (by omega)]
         . rw [if_neg e2,if_neg (by omega)]
      . simp [intOf];omega
    . have e:j=Xl.length:=by omega
      subst e;go_wp2;go_ret;refine⟨rfl,HT.o,Or.inr ⟨b,off,cap,c,fun i=>Zsf (k+(Zcr Xl i:Int)) (X i),by rw [ZbP],?_,by rw [ZbP];exact HM.o,by rw [ZbP];exact HC.o,fun i h=>?_,?_⟩⟩
      . intro e
        have:=congrArg List.length e;rw [ZbP] at this;exact HNE.o (List.length_eq_zero_iff.1 (by simpa using this))
      . have h':i < Xl.length:=by rw [ZbP] at h;exact h
        rw [ZjH _ _ _ _ h',<- HX.o i h']
      . rw [ZbP]
        exact HR.o.to (fun i hi'=>by rw [if_pos hi'])
theorem Zlt (lo hi:Nat) (v:Value) (Xl:List Ob) (k:Int) (w:World) (hv:Za6 lo hi w v Xl) (hn:Zbp Xl) (h0:0<=k) (hk:k<=2000000000000000000) :
 Calls prog 61 #[v,.int .i64 k] w fun e w'=>e=.returned (.int .i64 (k+(Zcd Xl Xl.length:Int)))/\Zad lo hi w w'/\Za6 lo hi w' v (Zj9 k Xl):=by
 rcases hv with ⟨a,cap,rfl,rfl⟩ | ⟨b,off,cap,c,X,rfl,hne,hm,hcap,hX,hR⟩
 . go_enter func61,ntmps61
   go_wp2
   go_loop [5,1] (fun i q=>i=.int .i64 0/\q=.int .i64 k) (fun _ _=>0)
   case atStart=>exact⟨rfl,rfl⟩
   case round=>
    obtain⟨rfl,rfl⟩:=hrel;go_wp2;go_ret;exact⟨by simp [Zcd],Zad.refl _ _ _,Or.inl ⟨_,_,rfl,rfl⟩⟩
 . have hlen:=hn.1
   have HN:=Zab hn;have HX:=Zab hX;have HR0:=Zab hR;have HM:=Zab hm;have HC:=Zab hcap;have HNE:=Zab hne;clear hn hX hR hm hcap hne;go_enter func61,ntmps61;go_wp2
   go_loopw [5,1] (fun i q wr=>∃ j:Nat,i=.int .i64 j/\q=.int .i64 (k+(Zcd Xl j:Int))/\j<=Xl.length/\Zad lo hi w wr/\Zfr lo hi wr b off Xl.length c (fun i=>if i < j then Zsj (k+(Zcd Xl i:Int)) (X i) else X i)) (fun i _ _=>Xl.length - (intOf i).toNat)
   case atStart=>exact⟨0,rfl,by simp [Zcd],by omega,Zad.refl _ _ _,HR0.o.to (fun i _=>by simp)⟩
   case round=>
    obtain⟨j,rfl,rfl,hj,ht,hr⟩:=hrel;have HT:=Zab ht;have HR:=Zab hr;clear ht hr HR0
    by_cases hlt:j < Xl.length
    . have hpos:=ZiZ HN.o (i:=j) (by omega)
      have HP:=Zab (ZfS hlt)
      have hone:ZfR b (off+j*7) (c j).1 (c j).2 wr (X j):=by
       have:=HR.o.row j hlt;simp only [Nat.lt_irrefl,if_false] at this;exact this
      have hxj:X j=Xl[j]:=HX.o j hlt;obtain⟨x,hx⟩:∃ x,x=X j:=⟨_,rfl⟩
      rw [<- hx] at hone;obtain⟨hs,vv0,vv1,m1,q0,q1,hc,l0,l1⟩:=hone;have hs0:x.vs.length<=1048576:=by have:=HN.o.2 j hlt;rw [hx,hxj];unfold Zdx at this;omega
      have hs1:x.hs.length<=1048576:=by have:=HN.o.2 j hlt;rw [hx,hxj];unfold Zdx at this;omega
      have HXJ:=Zab hxj;have HXX:=Zab hx;obtain⟨K,hK⟩:∃ K,K=k+(Zcd Xl j:Int):=⟨_,rfl⟩
      rw [<- hK];have hK0:0<=K:=by omega
      have hK1:K<=2500000000000000000:=by omega
      have HK:=Zab hK;have HBC:Hd (b < (c j).1\/(c j).2<=b):=(HR.o.seg j hlt).2.2;have HS:Hd (ZeW wr b (off+j*7) (c j).1 (c j).2 m1 vv0 vv1 wr x):=⟨ZbX.refl _ _ _ _ _ _,HBC.o,q0,q1,hc,l0,l1,HR.o.frz,HR.o.lt⟩;clear hpos hxj hx hs hc l0 l1 q0 q1 hK;obtain⟨d0,d1,d2,d3,d4,d5,d6⟩:=HS.o.cells;have fz:=HS.o.frz;go_wp2_with fail;clear d0 d1 d2 d3 d4 d5 d6 fz;refine (Zah _ _ (by omega)).mono ?_;rintro e v1 ⟨rfl,hb⟩;have HS1:=Zab (HS.o.below hb);clear hb HS;obtain⟨d0,d1,d2,d3,d4,d5,d6⟩:=HS1.o.cells;have fz:=HS1.o.frz;go_wp2_with fail;clear d0 d1 d2 d3 d4 d5 d6 fz;obtain⟨v2,hv2,HS2⟩:∃ v',v'=(v1.setCell ⟨b,off+j*7,none⟩ (.string (mtB (K))))/\Hd (ZeW wr b (off+j*7) (c j).1 (c j).2 m1 vv0 vv1 v' ⟨mtB (K),x.nm,x.tm,x.vs,x.en,x.hs,x.ver⟩):=⟨_,rfl,(HS1.o.s0 (mtB (K)))⟩
      rw [<- hv2];clear hv2 HS1;refine (Zah _ _ (by omega)).mono ?_;rintro e v3 ⟨rfl,hb⟩;have HS3:=Zab (HS2.o.below hb);clear hb HS2;obtain⟨d0,d1,d2,d3,d4,d5,d6⟩:=HS3.o.cells;have fz:=HS3.o.frz;go_wp2_with fail;clear d0 d1 d2 d3 d4 d5 d6 fz;obtain⟨v4,hv4,HS4⟩:∃ v',v'=(v3.setCell ⟨b,off+j*7+1,none⟩ (.string (mtB (K+1))))/\Hd (ZeW wr b (off+j*7) (c j).1 (c j).2 m1 vv0 vv1 v' ⟨mtB (K),mtB (K+1),x.tm,x.vs,x.en,x.hs,x.ver⟩):=⟨_,rfl,(HS3.o.s1 (mtB (K+1)))⟩
      rw [<- hv4];clear hv4 HS3;refine (Zah _ _ (by omega)).mono ?_;rintro e v5 ⟨rfl,hb⟩;have HS5:=Zab (HS4.o.below hb);clear hb HS4;obtain⟨d0,d1,d2,d3,d4,d5,d6⟩:=HS5.o.cells;have fz:=HS5.o.frz;go_wp2_with fail;clear d0 d1 d2 d3 d4 d5 d6 fz;obtain⟨v6,hv6,HS6⟩:∃ v',v'=(v5.setCell ⟨b,off+j*7+2,none⟩ (.string (mtB (K+1+1))))/\Hd (ZeW wr b (off+j*7) (c j).1 (c j).2 m1 vv0 vv1 v' ⟨mtB (K),mtB (K+1),mtB (K+1+1),x.vs,x.en,x.hs,x.ver⟩):=⟨_,rfl,(HS5.o.s2 (mtB (K+1+1)))⟩
      rw [<- hv6];clear hv6 HS5;refine (Zgc _ _ _ x.vs _ _ HS6.o.l0 (by omega) (by omega)).mono ?_;rintro e v7 ⟨rfl,ht,hl⟩;have HS7:Hd (ZeW wr b (off+j*7) (c j).1 (c j).2 m1 vv0 vv1 v7 ⟨mtB (K),mtB (K+1),mtB (K+1+1),Zeo (K+1+1+1) x.vs.length,x.en,x.hs,x.ver⟩):=HS6.o.m0' ht hl;clear ht hl HS6;obtain⟨d0,d1,d2,d3,d4,d5,d6⟩:=HS7.o.cells;have fz:=HS7.o.frz;go_wp2_with fail;clear d0 d1 d2 d3 d4 d5 d6 fz;obtain⟨v8,hv8,HS8⟩:∃ v',v'=(v7.setCell ⟨b,off+j*7+4,none⟩ (.bool (((K+1+1+1+(x.vs.length:Int)) % 3 == 0))))/\Hd (ZeW wr b (off+j*7) (c j).1 (c j).2 m1 vv0 vv1 v' ⟨mtB (K),mtB (K+1),mtB (K+1+1),Zeo (K+1+1+1) x.vs.length,((K+1+1+1+(x.vs.length:Int)) % 3 == 0),x.hs,x.ver⟩):=⟨_,rfl,(HS7.o.s4 (((K+1+1+1+(x.vs.length:Int)) % 3 == 0)))⟩
      rw [<- hv8];clear hv8 HS7;refine (Zgc _ _ _ x.hs _ _ HS8.o.l1 (by omega) (by omega)).mono ?_;rintro e v9 ⟨rfl,ht,hl⟩;have HS9:Hd (ZeW wr b (off+j*7) (c j).1 (c j).2 m1 vv0 vv1 v9 ⟨mtB (K),mtB (K+1),mtB (K+1+1),Zeo (K+1+1+1) x.vs.length,((K+1+1+1+(x.vs.length:Int)) % 3 == 0),Zeo (K+1+1+1+(x.vs.length:Int)+1) x.hs.length,x.ver⟩):=HS8.o.m1' ht hl;clear ht hl HS8;obtain⟨d0,d1,d2,d3,d4,d5,d6⟩:=HS9.o.cells;have fz:=HS9.o.frz;go_wp2;clear d0 d1 d2 d3 d4 d5 d6 fz
      obtain⟨v10,hv10,HS10⟩:∃ v',v'=(v9.setCell ⟨b,off+j*7+6,none⟩ (.int .i64 (K+1+1+1+(x.vs.length:Int)+1+(x.hs.length:Int))))/\Hd (ZeW wr b (off+j*7) (c j).1 (c j).2 m1 vv0 vv1 v' ⟨mtB (K),mtB (K+1),mtB (K+1+1),Zeo (K+1+1+1) x.vs.length,((K+1+1+1+(x.vs.length:Int)) % 3 == 0),Zeo (K+1+1+1+(x.vs.length:Int)+1) x.hs.length,K+1+1+1+(x.vs.length:Int)+1+(x.hs.length:Int)⟩):=⟨_,rfl,(HS9.o.s6 (K+1+1+1+(x.vs.length:Int)+1+(x.hs.length:Int)))⟩
      rw [<- hv10];clear hv10 HS9;have HW:Hd (Zsi Xl[j]=5+x.vs.length+x.hs.length):=by unfold Hd;rw [<- HXJ.o,<- HXX.o];rfl
      have HQ:Hd ((K+1+1+1+(x.vs.length:Int)+1+(x.hs.length:Int)+1:Int)=k+(Zcd Xl (j+1):Int)):=by
       have h1:=HP.o;have h2:=HW.o;have h3:=HK.o;unfold Hd
       omega
      have HRN:=Zab (HR.o.near hlt HS10.o.near (show ZfR b (off+j*7) (c j).1 (c j).2 v10 (Zsj K x) from ⟨⟨Zb5 _ (by omega),Zb5 _ (by omega),Zb5 _ (by omega)⟩,_,_,_,HS10.o.q0,HS10.o.q1,HS10.o.cells,HS10.o.l0,HS10.o.l1⟩));have HTN:=Zab (HS10.o.near.wide HR.o.lt (lo':=lo) (hi':=hi) (HR.o.seg j hlt).1 (HR.o.seg j hlt).2.1 ⟨HR.o.low,HR.o.bh⟩);go_roundw
      . 
       refine⟨j+1,by go_num,congrArg (Value.int .i64) HQ.o,by omega,HT.o.trans HTN.o,HRN.o.to (fun i hi'=>?_)⟩
       by_cases e:i=j
       . subst e
         rw [if_pos rfl,if_pos (by omega),<- HK.o,HXX.o]
       . rw [if_neg e]
         by_cases e2:i < j
         . rw [if_pos e2,if_pos (by omega)]
         . rw [if_neg e2,if_neg (by omega)]
      . simp [intOf];omega
    . have e:j=Xl.length:=by omega
      subst e;go_wp2;go_ret;refine⟨rfl,HT.o,Or.inr ⟨b,off,cap,c,fun i=>Zsj (k+(Zcd Xl i:Int)) (X i),by rw [ZbK],?_,by rw [ZbK];exact HM.o,by rw [ZbK];exact HC.o,fun i h=>?_,?_⟩⟩
      . intro e
        have:=congrArg List.length e;rw [ZbK] at this;exact HNE.o (List.length_eq_zero_iff.1 (by simpa using this))
      . have h':i < Xl.length:=by rw [ZbK] at h;exact h
        rw [ZjW _ _ _ _ h',<- HX.o i h']
      . rw [ZbK]
        exact HR.o.to (fun i hi'=>by rw [if_pos hi'])
theorem Zlu (lo hi:Nat) (v:Value) (Xl:List Tm) (k:Int) (w:World) (hv:Zcq lo hi w v Xl) (hn:Zdr Xl) (h0:0<=k) (hk:k<=2000000000000000000) :
 Calls prog 60 #[v,.int .i64 k] w fun e w'=>e=.returned (.int .i64 (k+(ZeN Xl Xl.length:Int)))/\Zad lo hi w w'/\Zcq lo hi w' v (Zpv k Xl):=by
 rcases hv with ⟨a,cap,rfl,rfl⟩ | ⟨b,off,cap,c,X,rfl,hne,hm,hcap,hX,hR⟩
 . go_enter func60,ntmps60
   go_wp2
   go_loop [5,1] (fun i q=>i=.int .i64 0/\q=.int .i64 k) (fun _ _=>0)
   case atStart=>exact⟨rfl,rfl⟩
   case round=>
    obtain⟨rfl,rfl⟩:=hrel;go_wp2;go_ret;exact⟨by simp [ZeN],Zad.refl _ _ _,Or.inl ⟨_,_,rfl,rfl⟩⟩
 . have hlen:=hn.1
   have HN:=Zab hn;have HX:=Zab hX;have HR0:=Zab hR;have HM:=Zab hm;have HC:=Zab hcap;have HNE:=Zab hne;clear hn hX hR hm hcap hne;go_enter func60,ntmps60;go_wp2
   go_loopw [5,1] (fun i q wr=>∃ j:Nat,i=.int .i64 j/\q=.int .i64 (k+(ZeN Xl j:Int))/\j<=Xl.length/\Zad lo hi w wr/\ZeP lo hi wr b off Xl.length c (fun i=>if i < j then Zsd (k+(ZeN Xl i:Int)) (X i) else X i)) (fun i _ _=>Xl.length - (intOf i).toNat)
   case atStart=>exact⟨0,rfl,by simp [ZeN],by omega,Zad.refl _ _ _,HR0.o.to (fun i _=>by simp)⟩
   case round=>
    obtain⟨j,rfl,rfl,hj,ht,hr⟩:=hrel;have HT:=Zab ht;have HR:=Zab hr;clear ht hr HR0
    by_cases hlt:j < Xl.length
    . have hpos:=ZlS HN.o (i:=j) (by omega)
      have HP:=Zab (Zh6 hlt)
      have hone:Zf1 b (off+j*2) (c j) (c (j+1)) wr (X j):=by
       have:=HR.o.row j hlt;simp only [Nat.lt_irrefl,if_false] at this;exact this
      have hxj:X j=Xl[j]:=HX.o j hlt;obtain⟨x,hx⟩:∃ x,x=X j:=⟨_,rfl⟩
      rw [<- hx] at hone;obtain⟨hs,hc⟩:=hone;have HXJ:=Zab hxj;have HXX:=Zab hx;obtain⟨K,hK⟩:∃ K,K=k+(ZeN Xl j:Int):=⟨_,rfl⟩
      rw [<- hK];have hK0:0<=K:=by omega
      have hK1:K<=2500000000000000000:=by omega
      have HK:=Zab hK;have HBC:Hd (b < c j):=Zk_ HR.o.bc (HR.o.le Zz_ (by omega));have HS:Hd (ZnR wr b (off+j*2) (c j) (c (j+1)) wr x):=⟨ZbX.refl _ _ _ _ _ _,HBC.o,hc,HR.o.frz,HR.o.lt⟩;clear hpos hxj hx hs hc hK;obtain⟨d0,d1⟩:=HS.o.cells;have fz:=HS.o.frz;go_wp2_with fail;clear d0 d1 fz;refine (Zah _ _ (by omega)).mono ?_;rintro e v1 ⟨rfl,hb⟩;have HS1:=Zab (HS.o.below hb);clear hb HS;obtain⟨d0,d1⟩:=HS1.o.cells;have fz:=HS1.o.frz;go_wp2_with fail;clear d0 d1 fz;obtain⟨v2,hv2,HS2⟩:∃ v',v'=(v1.setCell ⟨b,off+j*2,none⟩ (.string (mtB (K))))/\Hd (ZnR wr b (off+j*2) (c j) (c (j+1)) v' ⟨mtB (K),x.ov⟩):=⟨_,rfl,(HS1.o.s0 (mtB (K)))⟩
      rw [<- hv2];clear hv2 HS1;refine (Zah _ _ (by omega)).mono ?_;rintro e v3 ⟨rfl,hb⟩;have HS3:=Zab (HS2.o.below hb);clear hb HS2;obtain⟨d0,d1⟩:=HS3.o.cells;have fz:=HS3.o.frz;go_wp2;clear d0 d1 fz;obtain⟨v4,hv4,HS4⟩:∃ v',v'=(v3.setCell ⟨b,off+j*2+1,none⟩ (.string (mtB (K+1))))/\Hd (ZnR wr b (off+j*2) (c j) (c (j+1)) v' ⟨mtB (K),mtB (K+1)⟩):=⟨_,rfl,(HS3.o.s1 (mtB (K+1)))⟩
      rw [<- hv4];clear hv4 HS3;have HW:Hd (ZsD Xl[j]=2):=by unfold Hd;rw [<- HXJ.o,<- HXX.o];rfl
      have HQ:Hd ((K+1+1:Int)=k+(ZeN Xl (j+1):Int)):=by
       have h1:=HP.o;have h2:=HW.o;have h3:=HK.o;unfold Hd
       omega
      have HRN:=Zab (HR.o.near hlt HS4.o.near (show Zf1 b (off+j*2) (c j) (c (j+1)) v4 (Zsd K x) from ⟨⟨Zb5 _ (by omega),Zb5 _ (by omega)⟩,HS4.o.cells⟩));have HTN:=Zab (HS4.o.near.wide HR.o.lt (lo':=lo) (hi':=hi) (by have:=HBC.o;have:=HR.o.low;omega) (Nat.le_trans (HR.o.le (by omega) Zl_) HR.o.top) ⟨HR.o.low,HR.o.bh⟩);go_roundw
      . 
       refine⟨j+1,by go_num,congrArg (Value.int .i64) HQ.o,by omega,HT.o.trans HTN.o,HRN.o.to (fun i hi'=>?_)⟩
       by_cases e:i=j
       . subst e
         rw [if_pos rfl,if_pos (by omega),<- HK.o,HXX.o]
       . rw [if_neg e]
         by_cases e2:i < j
         . rw [if_pos e2,if_pos (by omega)]
         . rw [if_neg e2,if_neg (by omega)]
      . simp [intOf];omega
    . have e:j=Xl.length:=by omega
      subst e;go_wp2;go_ret;refine⟨rfl,HT.o,Or.inr ⟨b,off,cap,c,fun i=>Zsd (k+(ZeN Xl i:Int)) (X i),by rw [ZdH],?_,by rw [ZdH];exact HM.o,by rw [ZdH];exact HC.o,fun i h=>?_,?_⟩⟩
      . intro e
        have:=congrArg List.length e;rw [ZdH] at this;exact HNE.o (List.length_eq_zero_iff.1 (by simpa using this))
      . have h':i < Xl.length:=by rw [ZdH] at h;exact h
        rw [Zpw _ _ _ _ h',<- HX.o i h']
      . rw [ZdH]
        exact HR.o.to (fun i hi'=>by rw [if_pos hi'])
end Go.Proofs.YtfohnageehneoaaGreat
