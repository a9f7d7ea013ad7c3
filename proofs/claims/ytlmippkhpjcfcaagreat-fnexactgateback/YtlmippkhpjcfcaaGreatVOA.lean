import Derived.Test.YtlmippkhpjcfcaaGreatVTD
import Derived.Test.YtlmippkhpjcfcaaGreatVBLP
import Derived.Test.YtlmippkhpjcfcaaGreatVBOG
set_option maxHeartbeats 16000000
set_option maxRecDepth 100000
open Go.Proofs.Tryz
namespace Go.Proofs.YtlmippkhpjcfcaaGreat
open Go.RowKit Go.Deep
abbrev Upo (W0:World):World→Prop:=fun W=>Below W0.heap.size W0 W
theorem Upo.cell {W0:World} (X:In (Upo W0)) {p:Addr} {v:Value} (h:W0.cell? p=some v):X.w.cell? p=some v:=
 (Below.cell (show Below W0.heap.size W0 X.w from X.h) (World.block_lt_of_cell? W0 _ h)).trans h
theorem Upo.next {W0:World} (X:In (Upo W0)) {W':World} (h:Below X.w.heap.size X.w W'):∃ Y:In (Upo W0),W'=Y.w:=
 ⟨⟨W',X.h.trans (h.mono X.h.size)⟩,rfl⟩
structure ZbZ (b o n lo hi:Nat) (w w':World):Prop where
 os:w'.os=w.os
 tape:w'.tape=w.tape
 output:w'.output=w.output
 size:w.heap.size≤w'.heap.size
 block:∀ k,k < w.heap.size→k≠b→(k < lo∨hi≤k)→w'.heap[k]?=w.heap[k]?
 cell:∀ i,(i < o∨o+n≤i)→w'.cell? ⟨b,i,none⟩=w.cell? ⟨b,i,none⟩
 frz:∀ i,w'.frozen? ⟨b,i,none⟩=w.frozen? ⟨b,i,none⟩
theorem ZbZ.refl (b o n lo hi:Nat) (w:World):ZbZ b o n lo hi w w:=⟨rfl,rfl,rfl,Nat.le_refl _,fun _ _ _ _=>rfl,fun _ _=>rfl,fun _=>rfl⟩
theorem ZbZ.trans {b o n lo hi:Nat} {u v w:World} (h:ZbZ b o n lo hi u v) (k:ZbZ b o n lo hi v w):ZbZ b o n lo hi u w:=
 ⟨k.os.trans h.os,k.tape.trans h.tape,k.output.trans h.output,Nat.le_trans h.size k.size,fun i hi' hb ho=>(k.block i (Zk_ hi' h.size) hb ho).trans (h.block i hi' hb ho),fun i hi'=>(k.cell i hi').trans (h.cell i hi'),fun i=>(k.frz i).trans (h.frz i)⟩
theorem ZbZ.below {b o n lo hi:Nat} {w w':World} (h:Zw_ w w') (hb:b < w.heap.size):ZbZ b o n lo hi w w':=
 ⟨h.os,h.tape,h.output,h.size,fun k hk _ _=>h.block k hk,fun i _=>h.cell (p:=⟨b,i,none⟩) hb,fun i=>h.frozen (p:=⟨b,i,none⟩) hb⟩
theorem ZbZ.touch {b o n lo hi lo' hi':Nat} {w w':World} (h:Zae lo' hi' w w') (hb:b < w.heap.size) (h1:lo≤lo') (h2:hi'≤hi) (hx:b < lo'∨hi'≤b):ZbZ b o n lo hi w w':=
 ⟨h.os,h.tape,h.output,h.size,fun k hk _ ho=>h.block k hk (by omega),fun i _=>h.cell (p:=⟨b,i,none⟩) hb hx,fun i=>h.frozen (p:=⟨b,i,none⟩) hb hx⟩
theorem ZbZ.set (b o n lo hi:Nat) (w:World) (i:Nat) (u:Value) (h1:o≤i) (h2:i < o+n):ZbZ b o n lo hi w (w.setCell ⟨b,i,none⟩ u):=
 ⟨rfl,rfl,rfl,by simp [World.setCell],fun k _ hb _=>Below.heap_setCell _ _ _ _ hb,fun j hj=>by apply World.cell?_setCell_other;simp only [ne_eq,Addr.mk.injEq,not_and];omega,fun j=>by rw [World.frozen?_setCell]⟩
theorem ZbZ.wide {b o n lo hi lo' hi':Nat} {w w':World} (h:ZbZ b o n lo hi w w') (_hb:b < w.heap.size) (h1:lo'≤lo) (h2:hi≤hi') (hx:lo'≤b∧b < hi'):Zae lo' hi' w w':=
 ⟨h.os,h.tape,h.output,h.size,fun k hk ho=>h.block k hk (by omega) (by omega)⟩
theorem ZbZ.out {b o n lo hi:Nat} {w w':World} (h:ZbZ b o n lo hi w w') {p:Addr} (hp:p.block < w.heap.size) (hb:p.block≠b) (ho:p.block < lo∨hi≤p.block):w'.cell? p=w.cell? p∧w'.frozen? p=w.frozen? p:=
 ⟨World.cell?_of_block (w:=w) (h.block p.block hp hb ho),World.frozen?_of_block (w:=w) (h.block p.block hp hb ho)⟩
theorem Zaf.near {lo hi lo' hi' b o n:Nat} {w w':World} {v:Value} {L:List Zy_} (h:Zaf lo hi w v L) (ht:ZbZ b o n lo' hi' w w') (ho:hi≤lo'∨hi'≤lo) (hb:b < lo∨hi≤b):Zaf lo hi w' v L:=by
 rcases h with h | ⟨g,off,cap,h1,h2,h3,h4,h5,h6,h7,h8,h9⟩
 · exact Or.inl h
 · exact Or.inr ⟨g,off,cap,h1,h2,h3,Zk_ h4 ht.size,fun i hi'=>((ht.out (p:=⟨g,off+i,none⟩) h4 (by simp only [ne_eq];omega) (by simp only [];omega)).1).trans (h5 i hi'),h6,h7,h8,fun i=>((ht.out (p:=⟨g,off+i,none⟩) h4 (by simp only [ne_eq];omega) (by simp only [];omega)).2).trans (h9 i)⟩
theorem Zaf.in' {lo hi:Nat} {w:World} {v:Value} {L:List Zy_} (h:Zaf lo hi w v L):Zaq lo w v L:=by
 rcases h with h | ⟨g,off,cap,h1,h2,h3,h4,h5,h6,h7,h8,h9⟩
 · exact Or.inl h
 · exact Or.inr ⟨g,off,cap,h1,h2,h3,h4,h5,h6,h7⟩
theorem cne {v:World} {b i j:Nat} {u:Value} (h:i≠j):(v.setCell ⟨b,i,none⟩ u).cell? ⟨b,j,none⟩=v.cell? ⟨b,j,none⟩:=by
 apply World.cell?_setCell_other;simp only [ne_eq,Addr.mk.injEq,not_and]
 omega
theorem Zae.setB (B:Nat) (w:World) (i:Nat) (u:Value):Zae B (B+1) w (w.setCell ⟨B,i,none⟩ u):=Zae.setCell _ _ _ _ _ ⟨Nat.le_refl _,Nat.lt_succ_self _⟩
def Zau (lo hi:Nat) (w:World) (v:Value) (L:List Int):Prop:=
 (∃ (a:Option Addr) (cap:Nat),v=.slice a 0 cap∧L=[])∨
 ∃ (b off cap:Nat),v=.slice (some ⟨b,off,none⟩) L.length cap∧L≠[]∧L.length≤maxLen∧b < w.heap.size∧
  (∀ i (h:i < L.length),w.cell? ⟨b,off+i,none⟩=some (.int .i64 L[i]))∧lo≤b∧b < hi∧∀ i,w.frozen? ⟨b,off+i,none⟩=false
theorem Zau.near {lo hi lo' hi' b o n:Nat} {w w':World} {v:Value} {L:List Int} (h:Zau lo hi w v L) (ht:ZbZ b o n lo' hi' w w') (ho:hi≤lo'∨hi'≤lo) (hb:b < lo∨hi≤b):Zau lo hi w' v L:=by
 rcases h with h | ⟨g,off,cap,h1,h2,h3,h4,h5,h7,h8,h9⟩
 · exact Or.inl h
 · exact Or.inr ⟨g,off,cap,h1,h2,h3,Zk_ h4 ht.size,fun i hi'=>((ht.out (p:=⟨g,off+i,none⟩) h4 (by simp only [ne_eq];omega) (by simp only [];omega)).1).trans (h5 i hi'),h7,h8,fun i=>((ht.out (p:=⟨g,off+i,none⟩) h4 (by simp only [ne_eq];omega) (by simp only [];omega)).2).trans (h9 i)⟩
theorem Zau.below {lo hi:Nat} {w w':World} {v:Value} {L:List Int} (h:Zau lo hi w v L) (hb:Zw_ w w'):Zau lo hi w' v L:=by
 rcases h with h | ⟨g,off,cap,h1,h2,h3,h4,h5,h7,h8,h9⟩
 · exact Or.inl h
 · exact Or.inr ⟨g,off,cap,h1,h2,h3,Zk_ h4 hb.size,fun i hi'=>(hb.cell (p:=⟨g,off+i,none⟩) h4).trans (h5 i hi'),h7,h8,fun i=>(hb.frozen (p:=⟨g,off+i,none⟩) h4).trans (h9 i)⟩
theorem Zau.touch {lo hi lo' hi':Nat} {w w':World} {v:Value} {L:List Int} (h:Zau lo hi w v L) (ht:Zae lo' hi' w w') (ho:hi≤lo'∨hi'≤lo):Zau lo hi w' v L:=by
 rcases h with h | ⟨b,off,cap,h1,h2,h3,h4,h5,h7,h8,h9⟩
 · exact Or.inl h
 · exact Or.inr ⟨b,off,cap,h1,h2,h3,Zk_ h4 ht.size,fun i hi'=>(ht.cell (p:=⟨b,off+i,none⟩) h4 (by simp only [];omega)).trans (h5 i hi'),h7,h8,fun i=>(ht.frozen (p:=⟨b,off+i,none⟩) h4 (by simp only [];omega)).trans (h9 i)⟩
theorem Zau.in' {lo hi:Nat} {w:World} {v:Value} {L:List Int} (h:Zau lo hi w v L):Zav lo w v L:=by
 rcases h with h | ⟨g,off,cap,h1,h2,h3,h4,h5,h7,h8,h9⟩
 · exact Or.inl h
 · exact Or.inr ⟨g,off,cap,h1,h2,h3,h4,h7,h5⟩
theorem Zau.wide {lo hi lo' hi':Nat} {w:World} {v:Value} {L:List Int} (h:Zau lo hi w v L) (h1:lo'≤lo) (h2:hi≤hi'):Zau lo' hi' w v L:=by
 rcases h with h | ⟨g,off,cap,e1,e2,e3,e4,e5,e7,e8,e9⟩
 · exact Or.inl h
 · exact Or.inr ⟨g,off,cap,e1,e2,e3,e4,e5,by omega,by omega,e9⟩
theorem Zau.form {lo hi:Nat} {w:World} {v:Value} {L:List Int} (h:Zau lo hi w v L):∃ a cap,v=.slice a L.length cap:=by
 rcases h with ⟨a,cap,h,rfl⟩ | ⟨b,off,cap,h,_⟩
 · exact⟨a,cap,h⟩
 · exact⟨_,cap,h⟩
def ZdT (k:Int) (n:Nat):List Int:=(List.range n).map fun (i:Nat)=>k+(i:Int)
theorem Zb2 (k:Int) (n:Nat):(ZdT k n).length=n:=by simp [ZdT]
theorem ZiJ (k:Int) (n i:Nat) (h:i < (ZdT k n).length):(ZdT k n)[i]=k+i:=by simp [ZdT]
theorem ZkI (lo hi:Nat) (v:Value) (L:List Int) (k:Int) (w:World) (hv:Zau lo hi w v L) (h0:0≤k) (hk:k+L.length≤4000000000000000000) :
 Calls prog 119 #[v,.int .i64 k] w fun e w'=>e=.returned (.int .i64 (k+L.length))∧Zae lo hi w w'∧Zau lo hi w' v (ZdT k L.length):=by
 rcases hv with ⟨a,cap,rfl,rfl⟩ | ⟨b,off,cap,rfl,hne,hm,hbw,hc,hlo,hhi,hfr⟩
 · go_enter func119,ntmps119
   go_wp2
   go_loop [5,1] (fun i q=>i=.int .i64 0∧q=.int .i64 k) (fun _ _=>0)
   case atStart=>exact⟨rfl,rfl⟩
   case round=>
    obtain⟨rfl,rfl⟩:=hrel;go_wp2;go_ret;exact⟨by simp,Zae.refl _ _ _,Or.inl ⟨_,_,rfl,rfl⟩⟩
 · unfold maxLen at hm
   go_enter func119,ntmps119;go_wp2
   go_loopw [5,1] (fun i q wr=>∃ j:Nat,i=.int .i64 j∧q=.int .i64 (k+j)∧j≤L.length∧Zae lo hi w wr∧(∀ i,i < j→wr.cell? ⟨b,off+i,none⟩=some (.int .i64 (k+i)))∧(∀ i (h:i < L.length),j≤i→wr.cell? ⟨b,off+i,none⟩=some (.int .i64 L[i]))∧∀ i,wr.frozen? ⟨b,off+i,none⟩=false) (fun i _ _=>L.length - (intOf i).toNat)
   case atStart=>exact⟨0,rfl,by simp,by omega,Zae.refl _ _ _,fun i h=>by omega,fun i h _=>hc i h,hfr⟩
   case round=>
    obtain⟨j,rfl,rfl,hj,ht,hA,hB,hF⟩:=hrel;have HT:=Zab ht;have HA:=Zab hA;have HBB:=Zab hB;have HF:=Zab hF;clear ht hA hB hF
    by_cases hlt:j < L.length
    · have hcj:wr.cell? ⟨b,off+j,none⟩=some (.int .i64 L[j]):=HBB.out j hlt Zl_
      have hfj:wr.frozen? ⟨b,off+j,none⟩=false:=HF.out j;go_wp2;go_roundw
      case rel=>
       refine⟨j+1,by go_num,by go_num,by omega,HT.out.trans (Zae.setCell _ _ _ _ _ ⟨hlo,hhi⟩),fun i hi'=>?_,fun i h hi'=>?_,fun i=>?_⟩
       · by_cases e:i=j
         · subst e;exact World.cell?_setCell_same' _ _ _ (by rw [hcj];rfl)
         · rw [show (wr.setCell ⟨b,off+j,none⟩ (.int .i64 (k+j))).cell? ⟨b,off+i,none⟩=wr.cell? ⟨b,off+i,none⟩ from by apply World.cell?_setCell_other;simp only [ne_eq,Addr.mk.injEq,not_and];omega]
           exact HA.out i (by omega)
       · rw [show (wr.setCell ⟨b,off+j,none⟩ (.int .i64 (k+j))).cell? ⟨b,off+i,none⟩=wr.cell? ⟨b,off+i,none⟩ from by apply World.cell?_setCell_other;simp only [ne_eq,Addr.mk.injEq,not_and];omega]
         exact HBB.out i h (by omega)
       · rw [World.frozen?_setCell]
         exact HF.out i
      case measure=>simp [intOf];omega
    · have e:j=L.length:=by omega
      subst e;go_wp2;go_ret;refine⟨rfl,HT.out,Or.inr ⟨b,off,cap,by rw [Zb2],?_,by rw [Zb2];unfold maxLen;omega,Zk_ hbw HT.out.size,fun i h=>?_,hlo,hhi,HF.out⟩⟩
      · intro e;have:=congrArg List.length e;rw [Zb2] at this;simp at this;exact hne this
      · rw [ZiJ];exact HA.out i (by rw [Zb2] at h;exact h)
theorem ZkK (lo:Nat) (v:Value) (n:Nat) (k:Int) (w:World) (hv:Zav lo w v (ZdT k n)) (h0:0≤k) (hk:k+n≤4000000000000000000) :
 Calls prog 121 #[v,.int .i64 k] w fun e w'=>e=.returned (.int .i64 (k+n))∧Zw_ w w':=by
 have HV:=Zab hv;obtain⟨a,cap,rfl⟩:=hv.form;clear hv;rw [Zb2] at HV;rw [Zb2];go_enter func121,ntmps121;go_wp2
 go_loop [5,1] (fun i q=>∃ j:Nat,i=.int .i64 j∧q=.int .i64 (k+j)∧j≤n) (fun i _=>n - (intOf i).toNat)
 case atStart=>exact⟨0,rfl,by simp,by omega⟩
 case round=>
  obtain⟨j,rfl,rfl,hj⟩:=hrel
  by_cases hlt:j < n
  · obtain⟨b,off,rfl,hbw,hc⟩:=HV.out.full' (by rw [Zb2];omega)
    have hcj:w.cell? ⟨b,off+j,none⟩=some (.int .i64 (k+j)):=by rw [hc j (by rw [Zb2];omega),ZiJ]
    clear hc;go_wp2
    go_round
    case rel=>exact⟨j+1,by go_num,by go_num,by omega⟩
    case measure=>simp [intOf];omega
  · have e:j=n:=by omega
    subst e;go_wp2;go_ret;exact⟨rfl,Below.refl _ _⟩
def ZfO (b o _c0 _c1:Nat) (w:World) (x:Le):Prop:=Zdv x∧ZcX w b o x
theorem ZfO.near {b o c0 c1 o1 d0 d1:Nat} {w w':World} {x:Le} (h:ZfO b o c0 c1 w x) (hn:ZbZ b o1 4 d0 d1 w w') (ho:o+4≤o1∨o1+4≤o) (hi:c1≤d0∨d1≤c0) (hb:b < c0∨c1≤b):ZfO b o c0 c1 w' x:=by
 obtain⟨hs,hc⟩:=h;obtain⟨h0,h1,h2,h3⟩:=hc;have e:∀ t,t < 4→w'.cell? ⟨b,o+t,none⟩=w.cell? ⟨b,o+t,none⟩:=fun t ht=>hn.cell _ (by omega)
 have e0:w'.cell? ⟨b,o,none⟩=w.cell? ⟨b,o,none⟩:=hn.cell _ (by omega);exact⟨hs,⟨e0.trans h0,(e 1 (by omega)).trans h1,(e 2 (by omega)).trans h2,(e 3 (by omega)).trans h3⟩⟩
theorem ZfO.touch {b o c0 c1:Nat} {lo hi:Nat} {w w':World} {x:Le} (h:ZfO b o c0 c1 w x) (ht:Zae lo hi w w') (hlt:b < w.heap.size) (hb:b < lo∨hi≤b) (_hi:c1≤lo∨hi≤c0):ZfO b o c0 c1 w' x:=by
 obtain⟨hs,hc⟩:=h;obtain⟨h0,h1,h2,h3⟩:=hc;exact⟨hs,⟨(ht.cell (p:=⟨b,o,none⟩) hlt hb).trans h0,(ht.cell (p:=⟨b,o+1,none⟩) hlt hb).trans h1,(ht.cell (p:=⟨b,o+2,none⟩) hlt hb).trans h2,(ht.cell (p:=⟨b,o+3,none⟩) hlt hb).trans h3⟩⟩
theorem ZfO.below {b o c0 c1:Nat} {w w':World} {x:Le} (h:ZfO b o c0 c1 w x) (ht:Zw_ w w') (hlt:b < w.heap.size):ZfO b o c0 c1 w' x:=by
 obtain⟨hs,hc⟩:=h;obtain⟨h0,h1,h2,h3⟩:=hc;exact⟨hs,⟨(ht.cell (p:=⟨b,o,none⟩) hlt).trans h0,(ht.cell (p:=⟨b,o+1,none⟩) hlt).trans h1,(ht.cell (p:=⟨b,o+2,none⟩) hlt).trans h2,(ht.cell (p:=⟨b,o+3,none⟩) hlt).trans h3⟩⟩
structure Ze2 (lo hi:Nat) (w:World) (b off n:Nat) (c:Nat→Nat) (X:Nat→Le):Prop where
 lt:b < w.heap.size
 low:lo≤b
 bc:b < c 0
 bh:b < hi
 mono:∀ i,i < n→c i≤c (i+1)
 top:c n≤hi
 frz:∀ i,w.frozen? ⟨b,i,none⟩=false
 row:∀ i,i < n→ZfO b (off+i*4) (c i) (c (i+1)) w (X i)
theorem Ze2.le {lo hi:Nat} {w:World} {b off n:Nat} {c:Nat→Nat} {X:Nat→Le} (h:Ze2 lo hi w b off n c X) {i:Nat}:∀ {j:Nat},i≤j→j≤n→c i≤c j:=by
 intro j
 induction j with
 | zero=>intro hij _;have:i=0:=by omega
         subst this;exact Nat.le_refl _
 | succ j ih=>
  intro hij hjn
  by_cases e:i=j+1
  · subst e;exact Nat.le_refl _
  · exact Nat.le_trans (ih (by omega) (by omega)) (h.mono j (by omega))
theorem Ze2.near {lo hi:Nat} {w w':World} {b off n:Nat} {c:Nat→Nat} {X:Nat→Le} (h:Ze2 lo hi w b off n c X) {j:Nat} (hj:j < n) (hn:ZbZ b (off+j*4) 4 (c j) (c (j+1)) w w') {x:Le} (hx:ZfO b (off+j*4) (c j) (c (j+1)) w' x):Ze2 lo hi w' b off n c (fun i=>if i=j then x else X i):=by
 refine⟨Zk_ h.lt hn.size,h.low,h.bc,h.bh,h.mono,h.top,fun i=>(hn.frz i).trans (h.frz i),fun i hi'=>?_⟩
 by_cases e:i=j
 · subst e;rw [if_pos rfl];exact hx
 · rw [if_neg e]
   have h0:=h.le (Nat.zero_le i) (by omega);have hbc:=h.bc;refine (h.row i hi').near hn (by omega) ?_ (by omega)
   rcases Nat.lt_or_ge i j with hij | hij
   · exact Or.inl (h.le (by omega) (by omega))
   · exact Or.inr (h.le (by omega) (by omega))
theorem Ze2.touch {lo hi lo' hi':Nat} {w w':World} {b off n:Nat} {c:Nat→Nat} {X:Nat→Le} (h:Ze2 lo hi w b off n c X) (ht:Zae lo' hi' w w') (ho:hi≤lo'∨hi'≤lo):Ze2 lo hi w' b off n c X:=by
 have h1:=h.low;have h2:=h.bh;have h3:=h.top;have h4:=h.bc;refine⟨Zk_ h.lt ht.size,h.low,h.bc,h.bh,h.mono,h.top,fun i=>(ht.frozen (p:=⟨b,i,none⟩) h.lt (by simp only [];omega)).trans (h.frz i),fun i hi'=>?_⟩;have h5:=h.le (Nat.zero_le i) (by omega);have h6:=h.le (i:=i+1) (j:=n) (by omega) Zl_;exact (h.row i hi').touch ht h.lt (by omega) (by omega)
theorem Ze2.below {lo hi:Nat} {w w':World} {b off n:Nat} {c:Nat→Nat} {X:Nat→Le} (h:Ze2 lo hi w b off n c X) (ht:Zw_ w w'):Ze2 lo hi w' b off n c X:=
 ⟨Zk_ h.lt ht.size,h.low,h.bc,h.bh,h.mono,h.top,fun i=>(ht.frozen (p:=⟨b,i,none⟩) h.lt).trans (h.frz i),fun i hi'=>(h.row i hi').below ht h.lt⟩
theorem Ze2.to {lo hi:Nat} {w:World} {b off n:Nat} {c:Nat→Nat} {X Y:Nat→Le} (h:Ze2 lo hi w b off n c X) (e:∀ i,i < n→X i=Y i):Ze2 lo hi w b off n c Y:=
 ⟨h.lt,h.low,h.bc,h.bh,h.mono,h.top,h.frz,fun i hi'=>e i hi' ▸ h.row i hi'⟩
def ZaR (lo hi:Nat) (w:World) (v:Value) (Xl:List Le):Prop:=
 (∃ (a:Option Addr) (cap:Nat),v=.slice a 0 cap∧Xl=[])∨
 ∃ (b off cap:Nat) (c:Nat→Nat) (X:Nat→Le),v=.slice (some ⟨b,off,none⟩) Xl.length cap∧Xl≠[]∧Xl.length≤maxLen∧Xl.length≤cap∧(∀ i (h:i < Xl.length),X i=Xl[i])∧Ze2 lo hi w b off Xl.length c X
theorem ZaR.touch {lo hi lo' hi':Nat} {w w':World} {v:Value} {Xl:List Le} (h:ZaR lo hi w v Xl) (ht:Zae lo' hi' w w') (ho:hi≤lo'∨hi'≤lo):ZaR lo hi w' v Xl:=by
 rcases h with h | ⟨b,off,cap,c,X,h1,h2,h3,h4,h5,h6⟩
 · exact Or.inl h
 · exact Or.inr ⟨b,off,cap,c,X,h1,h2,h3,h4,h5,h6.touch ht ho⟩
theorem ZaR.below {lo hi:Nat} {w w':World} {v:Value} {Xl:List Le} (h:ZaR lo hi w v Xl) (ht:Zw_ w w'):ZaR lo hi w' v Xl:=by
 rcases h with h | ⟨b,off,cap,c,X,h1,h2,h3,h4,h5,h6⟩
 · exact Or.inl h
 · exact Or.inr ⟨b,off,cap,c,X,h1,h2,h3,h4,h5,h6.below ht⟩
theorem ZaR.form {lo hi:Nat} {w:World} {v:Value} {Xl:List Le} (h:ZaR lo hi w v Xl):∃ a cap,v=.slice a Xl.length cap:=by
 rcases h with ⟨a,cap,h,rfl⟩ | ⟨b,off,cap,c,X,h1,_⟩
 · exact⟨a,cap,h⟩
 · exact⟨_,cap,h1⟩
theorem ZaR.at {lo hi:Nat} {w:World} {v:Value} {Xl:List Le} (h:ZaR lo hi w v Xl):ZbG lo w v Xl:=by
 rcases h with h | ⟨b,off,cap,c,X,h1,h2,h3,h4,h5,h6⟩
 · exact Or.inl h
 · refine Or.inr ⟨b,off,cap,h1,h2,h3,h6.lt,h6.low,h4,fun i hi'=>?_⟩
   have hr:=h6.row i hi';rw [h5 i hi'] at hr;obtain⟨hs,hc⟩:=hr;exact⟨hs,hc⟩
def ZsH (k:Int) (_x:Le):Le:=⟨mtB (k),mtB (k+1),k+1+1,k+1+1+1⟩
def Zsx (_x:Le):Nat:=4
def ZcC (Xl:List Le) (i:Nat):Nat:=((Xl.take i).map Zsx).sum
def Zj0 (k:Int) (Xl:List Le):List Le:=Xl.mapIdx (fun i x=>ZsH (k+(ZcC Xl i:Int)) x)
theorem ZbM (k:Int) (Xl:List Le):(Zj0 k Xl).length=Xl.length:=by unfold Zj0;simp
theorem ZjR (k:Int) (Xl:List Le) (i:Nat) (h:i < (Zj0 k Xl).length) (h':i < Xl.length):(Zj0 k Xl)[i]=ZsH (k+(ZcC Xl i:Int)) Xl[i]:=List.getElem_mapIdx (f:=fun i x=>ZsH (k+(ZcC Xl i:Int)) x) (h:=h)
theorem Zgh {Xl:List Le} {i:Nat} (h:i < Xl.length):ZcC Xl (i+1)=ZcC Xl i+Zsx Xl[i]:=by
 unfold ZcC;rw [List.take_succ_eq_append_getElem h,List.map_append,List.sum_append];simp
theorem ZjB {Xl:List Le} (hn:Zed Xl):∀ {i:Nat},i≤Xl.length→ZcC Xl i≤i*3000000:=by
 intro i
 induction i with
 | zero=>intro _;simp [ZcC]
 | succ i ih=>
  intro hi';have h1:=ih (by omega);rw [Zgh (by omega)]
  have h2:Zsx Xl[i]≤3000000:=by
   have hsm:=hn.2 i (by omega);unfold ZhD at hsm;unfold Zsx
   omega
  omega
structure Zjn (wr:World) (b o c0 c1:Nat) (v:World) (y:Le):Prop where
 near:ZbZ b o 4 c0 c1 wr v
 bc:b < c0
 cells:ZcX v b o y
 frz:∀ i,v.frozen? ⟨b,i,none⟩=false
 lt:b < v.heap.size
theorem Zjn.below {wr:World} {b o c0 c1:Nat} {v v':World} {y:Le} (h:Zjn wr b o c0 c1 v y) (hb:Below v.heap.size v v'):Zjn wr b o c0 c1 v' y:=
 ⟨h.near.trans (ZbZ.below hb h.lt),h.bc,h.cells.below hb h.lt,fun i=>(hb.frozen (p:=⟨b,i,none⟩) h.lt).trans (h.frz i),Zk_ h.lt hb.size⟩
theorem Zjn.s0 {wr:World} {b o c0 c1:Nat} {v:World} {y:Le} (h:Zjn wr b o c0 c1 v y) (u:Zy_):Zjn wr b o c0 c1 (v.setCell ⟨b,o,none⟩ (.string u)) { y with tm:=u }:=by
 obtain⟨h0,h1,h2,h3⟩:=h.cells;have ht:Zae b (b+1) v (v.setCell ⟨b,o,none⟩ (.string u)):=Zae.setCell _ _ _ _ _ ⟨Nat.le_refl _,by simp only [];omega⟩;have hbc:=h.bc;exact⟨h.near.trans (ZbZ.set _ _ _ _ _ _ _ _ (by omega) (by omega)),h.bc,⟨World.cell?_setCell_same' _ _ _ (by rw [h0];rfl),(cne (by omega)).trans h1,(cne (by omega)).trans h2,(cne (by omega)).trans h3⟩,fun i=>by rw [World.frozen?_setCell];exact h.frz i,by simpa [World.setCell] using h.lt⟩
theorem Zjn.s1 {wr:World} {b o c0 c1:Nat} {v:World} {y:Le} (h:Zjn wr b o c0 c1 v y) (u:Zy_):Zjn wr b o c0 c1 (v.setCell ⟨b,o+1,none⟩ (.string u)) { y with re:=u }:=by
 obtain⟨h0,h1,h2,h3⟩:=h.cells;have ht:Zae b (b+1) v (v.setCell ⟨b,o+1,none⟩ (.string u)):=Zae.setCell _ _ _ _ _ ⟨Nat.le_refl _,by simp only [];omega⟩;have hbc:=h.bc;exact⟨h.near.trans (ZbZ.set _ _ _ _ _ _ _ _ (by omega) (by omega)),h.bc,⟨(cne (by omega)).trans h0,World.cell?_setCell_same' _ _ _ (by rw [h1];rfl),(cne (by omega)).trans h2,(cne (by omega)).trans h3⟩,fun i=>by rw [World.frozen?_setCell];exact h.frz i,by simpa [World.setCell] using h.lt⟩
theorem Zjn.s2 {wr:World} {b o c0 c1:Nat} {v:World} {y:Le} (h:Zjn wr b o c0 c1 v y) (u:Int):Zjn wr b o c0 c1 (v.setCell ⟨b,o+2,none⟩ (.int .i64 u)) { y with mo:=u }:=by
 obtain⟨h0,h1,h2,h3⟩:=h.cells;have ht:Zae b (b+1) v (v.setCell ⟨b,o+2,none⟩ (.int .i64 u)):=Zae.setCell _ _ _ _ _ ⟨Nat.le_refl _,by simp only [];omega⟩;have hbc:=h.bc;exact⟨h.near.trans (ZbZ.set _ _ _ _ _ _ _ _ (by omega) (by omega)),h.bc,⟨(cne (by omega)).trans h0,(cne (by omega)).trans h1,World.cell?_setCell_same' _ _ _ (by rw [h2];rfl),(cne (by omega)).trans h3⟩,fun i=>by rw [World.frozen?_setCell];exact h.frz i,by simpa [World.setCell] using h.lt⟩
theorem Zjn.s3 {wr:World} {b o c0 c1:Nat} {v:World} {y:Le} (h:Zjn wr b o c0 c1 v y) (u:Int):Zjn wr b o c0 c1 (v.setCell ⟨b,o+3,none⟩ (.int .i64 u)) { y with fr:=u }:=by
 obtain⟨h0,h1,h2,h3⟩:=h.cells;have ht:Zae b (b+1) v (v.setCell ⟨b,o+3,none⟩ (.int .i64 u)):=Zae.setCell _ _ _ _ _ ⟨Nat.le_refl _,by simp only [];omega⟩;have hbc:=h.bc;exact⟨h.near.trans (ZbZ.set _ _ _ _ _ _ _ _ (by omega) (by omega)),h.bc,⟨(cne (by omega)).trans h0,(cne (by omega)).trans h1,(cne (by omega)).trans h2,World.cell?_setCell_same' _ _ _ (by rw [h3];rfl)⟩,fun i=>by rw [World.frozen?_setCell];exact h.frz i,by simpa [World.setCell] using h.lt⟩
def Zf3 (b o _c0 _c1:Nat) (w:World) (x:Pu):Prop:=ZcT x∧ZcV w b o x
theorem Zf3.near {b o c0 c1 o1 d0 d1:Nat} {w w':World} {x:Pu} (h:Zf3 b o c0 c1 w x) (hn:ZbZ b o1 5 d0 d1 w w') (ho:o+5≤o1∨o1+5≤o) (hi:c1≤d0∨d1≤c0) (hb:b < c0∨c1≤b):Zf3 b o c0 c1 w' x:=by
 obtain⟨hs,hc⟩:=h;obtain⟨h0,h1,h2,h3,h4⟩:=hc;have e:∀ t,t < 5→w'.cell? ⟨b,o+t,none⟩=w.cell? ⟨b,o+t,none⟩:=fun t ht=>hn.cell _ (by omega)
 have e0:w'.cell? ⟨b,o,none⟩=w.cell? ⟨b,o,none⟩:=hn.cell _ (by omega);exact⟨hs,⟨e0.trans h0,(e 1 (by omega)).trans h1,(e 2 (by omega)).trans h2,(e 3 (by omega)).trans h3,(e 4 (by omega)).trans h4⟩⟩
theorem Zf3.touch {b o c0 c1:Nat} {lo hi:Nat} {w w':World} {x:Pu} (h:Zf3 b o c0 c1 w x) (ht:Zae lo hi w w') (hlt:b < w.heap.size) (hb:b < lo∨hi≤b) (_hi:c1≤lo∨hi≤c0):Zf3 b o c0 c1 w' x:=by
 obtain⟨hs,hc⟩:=h;obtain⟨h0,h1,h2,h3,h4⟩:=hc;exact⟨hs,⟨(ht.cell (p:=⟨b,o,none⟩) hlt hb).trans h0,(ht.cell (p:=⟨b,o+1,none⟩) hlt hb).trans h1,(ht.cell (p:=⟨b,o+2,none⟩) hlt hb).trans h2,(ht.cell (p:=⟨b,o+3,none⟩) hlt hb).trans h3,(ht.cell (p:=⟨b,o+4,none⟩) hlt hb).trans h4⟩⟩
theorem Zf3.below {b o c0 c1:Nat} {w w':World} {x:Pu} (h:Zf3 b o c0 c1 w x) (ht:Zw_ w w') (hlt:b < w.heap.size):Zf3 b o c0 c1 w' x:=by
 obtain⟨hs,hc⟩:=h;obtain⟨h0,h1,h2,h3,h4⟩:=hc;exact⟨hs,⟨(ht.cell (p:=⟨b,o,none⟩) hlt).trans h0,(ht.cell (p:=⟨b,o+1,none⟩) hlt).trans h1,(ht.cell (p:=⟨b,o+2,none⟩) hlt).trans h2,(ht.cell (p:=⟨b,o+3,none⟩) hlt).trans h3,(ht.cell (p:=⟨b,o+4,none⟩) hlt).trans h4⟩⟩
structure ZeY (lo hi:Nat) (w:World) (b off n:Nat) (c:Nat→Nat) (X:Nat→Pu):Prop where
 lt:b < w.heap.size
 low:lo≤b
 bc:b < c 0
 bh:b < hi
 mono:∀ i,i < n→c i≤c (i+1)
 top:c n≤hi
 frz:∀ i,w.frozen? ⟨b,i,none⟩=false
 row:∀ i,i < n→Zf3 b (off+i*5) (c i) (c (i+1)) w (X i)
theorem ZeY.le {lo hi:Nat} {w:World} {b off n:Nat} {c:Nat→Nat} {X:Nat→Pu} (h:ZeY lo hi w b off n c X) {i:Nat}:∀ {j:Nat},i≤j→j≤n→c i≤c j:=by
 intro j
 induction j with
 | zero=>intro hij _;have:i=0:=by omega
         subst this;exact Nat.le_refl _
 | succ j ih=>
  intro hij hjn
  by_cases e:i=j+1
  · subst e;exact Nat.le_refl _
  · exact Nat.le_trans (ih (by omega) (by omega)) (h.mono j (by omega))
theorem ZeY.near {lo hi:Nat} {w w':World} {b off n:Nat} {c:Nat→Nat} {X:Nat→Pu} (h:ZeY lo hi w b off n c X) {j:Nat} (hj:j < n) (hn:ZbZ b (off+j*5) 5 (c j) (c (j+1)) w w') {x:Pu} (hx:Zf3 b (off+j*5) (c j) (c (j+1)) w' x):ZeY lo hi w' b off n c (fun i=>if i=j then x else X i):=by
 refine⟨Zk_ h.lt hn.size,h.low,h.bc,h.bh,h.mono,h.top,fun i=>(hn.frz i).trans (h.frz i),fun i hi'=>?_⟩
 by_cases e:i=j
 · subst e;rw [if_pos rfl];exact hx
 · rw [if_neg e]
   have h0:=h.le (Nat.zero_le i) (by omega);have hbc:=h.bc;refine (h.row i hi').near hn (by omega) ?_ (by omega)
   rcases Nat.lt_or_ge i j with hij | hij
   · exact Or.inl (h.le (by omega) (by omega))
   · exact Or.inr (h.le (by omega) (by omega))
theorem ZeY.touch {lo hi lo' hi':Nat} {w w':World} {b off n:Nat} {c:Nat→Nat} {X:Nat→Pu} (h:ZeY lo hi w b off n c X) (ht:Zae lo' hi' w w') (ho:hi≤lo'∨hi'≤lo):ZeY lo hi w' b off n c X:=by
 have h1:=h.low;have h2:=h.bh;have h3:=h.top;have h4:=h.bc;refine⟨Zk_ h.lt ht.size,h.low,h.bc,h.bh,h.mono,h.top,fun i=>(ht.frozen (p:=⟨b,i,none⟩) h.lt (by simp only [];omega)).trans (h.frz i),fun i hi'=>?_⟩;have h5:=h.le (Nat.zero_le i) (by omega);have h6:=h.le (i:=i+1) (j:=n) (by omega) Zl_;exact (h.row i hi').touch ht h.lt (by omega) (by omega)
theorem ZeY.below {lo hi:Nat} {w w':World} {b off n:Nat} {c:Nat→Nat} {X:Nat→Pu} (h:ZeY lo hi w b off n c X) (ht:Zw_ w w'):ZeY lo hi w' b off n c X:=
 ⟨Zk_ h.lt ht.size,h.low,h.bc,h.bh,h.mono,h.top,fun i=>(ht.frozen (p:=⟨b,i,none⟩) h.lt).trans (h.frz i),fun i hi'=>(h.row i hi').below ht h.lt⟩
theorem ZeY.to {lo hi:Nat} {w:World} {b off n:Nat} {c:Nat→Nat} {X Y:Nat→Pu} (h:ZeY lo hi w b off n c X) (e:∀ i,i < n→X i=Y i):ZeY lo hi w b off n c Y:=
 ⟨h.lt,h.low,h.bc,h.bh,h.mono,h.top,h.frz,fun i hi'=>e i hi' ▸ h.row i hi'⟩
def ZaY (lo hi:Nat) (w:World) (v:Value) (Xl:List Pu):Prop:=
 (∃ (a:Option Addr) (cap:Nat),v=.slice a 0 cap∧Xl=[])∨
 ∃ (b off cap:Nat) (c:Nat→Nat) (X:Nat→Pu),v=.slice (some ⟨b,off,none⟩) Xl.length cap∧Xl≠[]∧Xl.length≤maxLen∧Xl.length≤cap∧(∀ i (h:i < Xl.length),X i=Xl[i])∧ZeY lo hi w b off Xl.length c X
theorem ZaY.touch {lo hi lo' hi':Nat} {w w':World} {v:Value} {Xl:List Pu} (h:ZaY lo hi w v Xl) (ht:Zae lo' hi' w w') (ho:hi≤lo'∨hi'≤lo):ZaY lo hi w' v Xl:=by
 rcases h with h | ⟨b,off,cap,c,X,h1,h2,h3,h4,h5,h6⟩
 · exact Or.inl h
 · exact Or.inr ⟨b,off,cap,c,X,h1,h2,h3,h4,h5,h6.touch ht ho⟩
theorem ZaY.below {lo hi:Nat} {w w':World} {v:Value} {Xl:List Pu} (h:ZaY lo hi w v Xl) (ht:Zw_ w w'):ZaY lo hi w' v Xl:=by
 rcases h with h | ⟨b,off,cap,c,X,h1,h2,h3,h4,h5,h6⟩
 · exact Or.inl h
 · exact Or.inr ⟨b,off,cap,c,X,h1,h2,h3,h4,h5,h6.below ht⟩
theorem ZaY.form {lo hi:Nat} {w:World} {v:Value} {Xl:List Pu} (h:ZaY lo hi w v Xl):∃ a cap,v=.slice a Xl.length cap:=by
 rcases h with ⟨a,cap,h,rfl⟩ | ⟨b,off,cap,c,X,h1,_⟩
 · exact⟨a,cap,h⟩
 · exact⟨_,cap,h1⟩
theorem ZaY.at {lo hi:Nat} {w:World} {v:Value} {Xl:List Pu} (h:ZaY lo hi w v Xl):ZbD lo w v Xl:=by
 rcases h with h | ⟨b,off,cap,c,X,h1,h2,h3,h4,h5,h6⟩
 · exact Or.inl h
 · refine Or.inr ⟨b,off,cap,h1,h2,h3,h6.lt,h6.low,h4,fun i hi'=>?_⟩
   have hr:=h6.row i hi';rw [h5 i hi'] at hr;obtain⟨hs,hc⟩:=hr;exact⟨hs,hc⟩
def Zsv (k:Int) (_x:Pu):Pu:=⟨mtB (k),mtB (k+1),mtB (k+1+1),k+1+1+1,k+1+1+1+1⟩
def Zsw (_x:Pu):Nat:=5
def Zc9 (Xl:List Pu) (i:Nat):Nat:=((Xl.take i).map Zsw).sum
def Zk1 (k:Int) (Xl:List Pu):List Pu:=Xl.mapIdx (fun i x=>Zsv (k+(Zc9 Xl i:Int)) x)
theorem ZbO (k:Int) (Xl:List Pu):(Zk1 k Xl).length=Xl.length:=by unfold Zk1;simp
theorem ZkB (k:Int) (Xl:List Pu) (i:Nat) (h:i < (Zk1 k Xl).length) (h':i < Xl.length):(Zk1 k Xl)[i]=Zsv (k+(Zc9 Xl i:Int)) Xl[i]:=List.getElem_mapIdx (f:=fun i x=>Zsv (k+(Zc9 Xl i:Int)) x) (h:=h)
theorem Zgj {Xl:List Pu} {i:Nat} (h:i < Xl.length):Zc9 Xl (i+1)=Zc9 Xl i+Zsw Xl[i]:=by
 unfold Zc9;rw [List.take_succ_eq_append_getElem h,List.map_append,List.sum_append];simp
theorem ZiP {Xl:List Pu} (hn:Zd9 Xl):∀ {i:Nat},i≤Xl.length→Zc9 Xl i≤i*3000000:=by
 intro i
 induction i with
 | zero=>intro _;simp [Zc9]
 | succ i ih=>
  intro hi';have h1:=ih (by omega);rw [Zgj (by omega)]
  have h2:Zsw Xl[i]≤3000000:=by
   have hsm:=hn.2 i (by omega);unfold Zhg at hsm;unfold Zsw
   omega
  omega
structure ZhQ (wr:World) (b o c0 c1:Nat) (v:World) (y:Pu):Prop where
 near:ZbZ b o 5 c0 c1 wr v
 bc:b < c0
 cells:ZcV v b o y
 frz:∀ i,v.frozen? ⟨b,i,none⟩=false
 lt:b < v.heap.size
theorem ZhQ.below {wr:World} {b o c0 c1:Nat} {v v':World} {y:Pu} (h:ZhQ wr b o c0 c1 v y) (hb:Below v.heap.size v v'):ZhQ wr b o c0 c1 v' y:=
 ⟨h.near.trans (ZbZ.below hb h.lt),h.bc,h.cells.below hb h.lt,fun i=>(hb.frozen (p:=⟨b,i,none⟩) h.lt).trans (h.frz i),Zk_ h.lt hb.size⟩
theorem ZhQ.s0 {wr:World} {b o c0 c1:Nat} {v:World} {y:Pu} (h:ZhQ wr b o c0 c1 v y) (u:Zy_):ZhQ wr b o c0 c1 (v.setCell ⟨b,o,none⟩ (.string u)) { y with dr:=u }:=by
 obtain⟨h0,h1,h2,h3,h4⟩:=h.cells;have ht:Zae b (b+1) v (v.setCell ⟨b,o,none⟩ (.string u)):=Zae.setCell _ _ _ _ _ ⟨Nat.le_refl _,by simp only [];omega⟩;have hbc:=h.bc;exact⟨h.near.trans (ZbZ.set _ _ _ _ _ _ _ _ (by omega) (by omega)),h.bc,⟨World.cell?_setCell_same' _ _ _ (by rw [h0];rfl),(cne (by omega)).trans h1,(cne (by omega)).trans h2,(cne (by omega)).trans h3,(cne (by omega)).trans h4⟩,fun i=>by rw [World.frozen?_setCell];exact h.frz i,by simpa [World.setCell] using h.lt⟩
theorem ZhQ.s1 {wr:World} {b o c0 c1:Nat} {v:World} {y:Pu} (h:ZhQ wr b o c0 c1 v y) (u:Zy_):ZhQ wr b o c0 c1 (v.setCell ⟨b,o+1,none⟩ (.string u)) { y with tm:=u }:=by
 obtain⟨h0,h1,h2,h3,h4⟩:=h.cells;have ht:Zae b (b+1) v (v.setCell ⟨b,o+1,none⟩ (.string u)):=Zae.setCell _ _ _ _ _ ⟨Nat.le_refl _,by simp only [];omega⟩;have hbc:=h.bc;exact⟨h.near.trans (ZbZ.set _ _ _ _ _ _ _ _ (by omega) (by omega)),h.bc,⟨(cne (by omega)).trans h0,World.cell?_setCell_same' _ _ _ (by rw [h1];rfl),(cne (by omega)).trans h2,(cne (by omega)).trans h3,(cne (by omega)).trans h4⟩,fun i=>by rw [World.frozen?_setCell];exact h.frz i,by simpa [World.setCell] using h.lt⟩
theorem ZhQ.s2 {wr:World} {b o c0 c1:Nat} {v:World} {y:Pu} (h:ZhQ wr b o c0 c1 v y) (u:Zy_):ZhQ wr b o c0 c1 (v.setCell ⟨b,o+2,none⟩ (.string u)) { y with re:=u }:=by
 obtain⟨h0,h1,h2,h3,h4⟩:=h.cells;have ht:Zae b (b+1) v (v.setCell ⟨b,o+2,none⟩ (.string u)):=Zae.setCell _ _ _ _ _ ⟨Nat.le_refl _,by simp only [];omega⟩;have hbc:=h.bc;exact⟨h.near.trans (ZbZ.set _ _ _ _ _ _ _ _ (by omega) (by omega)),h.bc,⟨(cne (by omega)).trans h0,(cne (by omega)).trans h1,World.cell?_setCell_same' _ _ _ (by rw [h2];rfl),(cne (by omega)).trans h3,(cne (by omega)).trans h4⟩,fun i=>by rw [World.frozen?_setCell];exact h.frz i,by simpa [World.setCell] using h.lt⟩
theorem ZhQ.s3 {wr:World} {b o c0 c1:Nat} {v:World} {y:Pu} (h:ZhQ wr b o c0 c1 v y) (u:Int):ZhQ wr b o c0 c1 (v.setCell ⟨b,o+3,none⟩ (.int .i64 u)) { y with am:=u }:=by
 obtain⟨h0,h1,h2,h3,h4⟩:=h.cells;have ht:Zae b (b+1) v (v.setCell ⟨b,o+3,none⟩ (.int .i64 u)):=Zae.setCell _ _ _ _ _ ⟨Nat.le_refl _,by simp only [];omega⟩;have hbc:=h.bc;exact⟨h.near.trans (ZbZ.set _ _ _ _ _ _ _ _ (by omega) (by omega)),h.bc,⟨(cne (by omega)).trans h0,(cne (by omega)).trans h1,(cne (by omega)).trans h2,World.cell?_setCell_same' _ _ _ (by rw [h3];rfl),(cne (by omega)).trans h4⟩,fun i=>by rw [World.frozen?_setCell];exact h.frz i,by simpa [World.setCell] using h.lt⟩
theorem ZhQ.s4 {wr:World} {b o c0 c1:Nat} {v:World} {y:Pu} (h:ZhQ wr b o c0 c1 v y) (u:Int):ZhQ wr b o c0 c1 (v.setCell ⟨b,o+4,none⟩ (.int .i64 u)) { y with un:=u }:=by
 obtain⟨h0,h1,h2,h3,h4⟩:=h.cells;have ht:Zae b (b+1) v (v.setCell ⟨b,o+4,none⟩ (.int .i64 u)):=Zae.setCell _ _ _ _ _ ⟨Nat.le_refl _,by simp only [];omega⟩;have hbc:=h.bc;exact⟨h.near.trans (ZbZ.set _ _ _ _ _ _ _ _ (by omega) (by omega)),h.bc,⟨(cne (by omega)).trans h0,(cne (by omega)).trans h1,(cne (by omega)).trans h2,(cne (by omega)).trans h3,World.cell?_setCell_same' _ _ _ (by rw [h4];rfl)⟩,fun i=>by rw [World.frozen?_setCell];exact h.frz i,by simpa [World.setCell] using h.lt⟩
def Zf5 (b o c0 c1:Nat) (w:World) (x:Gr):Prop:=ZdR x∧∃ (vv0:Value),c0≤c1∧Zc0 w b o x vv0∧Zau c0 c1 w vv0 x.vb
theorem Zf5.near {b o c0 c1 o1 d0 d1:Nat} {w w':World} {x:Gr} (h:Zf5 b o c0 c1 w x) (hn:ZbZ b o1 7 d0 d1 w w') (ho:o+7≤o1∨o1+7≤o) (hi:c1≤d0∨d1≤c0) (hb:b < c0∨c1≤b):Zf5 b o c0 c1 w' x:=by
 obtain⟨hs,vv0,q0,hc,l0⟩:=h;obtain⟨h0,h1,h2,h3,h4,h5,h6⟩:=hc;have e:∀ t,t < 7→w'.cell? ⟨b,o+t,none⟩=w.cell? ⟨b,o+t,none⟩:=fun t ht=>hn.cell _ (by omega)
 have e0:w'.cell? ⟨b,o,none⟩=w.cell? ⟨b,o,none⟩:=hn.cell _ (by omega);exact⟨hs,vv0,q0,⟨e0.trans h0,(e 1 (by omega)).trans h1,(e 2 (by omega)).trans h2,(e 3 (by omega)).trans h3,(e 4 (by omega)).trans h4,(e 5 (by omega)).trans h5,(e 6 (by omega)).trans h6⟩,l0.near hn (by omega) (by omega)⟩
theorem Zf5.touch {b o c0 c1:Nat} {lo hi:Nat} {w w':World} {x:Gr} (h:Zf5 b o c0 c1 w x) (ht:Zae lo hi w w') (hlt:b < w.heap.size) (hb:b < lo∨hi≤b) (hi':c1≤lo∨hi≤c0):Zf5 b o c0 c1 w' x:=by
 obtain⟨hs,vv0,q0,hc,l0⟩:=h;obtain⟨h0,h1,h2,h3,h4,h5,h6⟩:=hc;exact⟨hs,vv0,q0,⟨(ht.cell (p:=⟨b,o,none⟩) hlt hb).trans h0,(ht.cell (p:=⟨b,o+1,none⟩) hlt hb).trans h1,(ht.cell (p:=⟨b,o+2,none⟩) hlt hb).trans h2,(ht.cell (p:=⟨b,o+3,none⟩) hlt hb).trans h3,(ht.cell (p:=⟨b,o+4,none⟩) hlt hb).trans h4,(ht.cell (p:=⟨b,o+5,none⟩) hlt hb).trans h5,(ht.cell (p:=⟨b,o+6,none⟩) hlt hb).trans h6⟩,l0.touch ht (by omega)⟩
theorem Zf5.below {b o c0 c1:Nat} {w w':World} {x:Gr} (h:Zf5 b o c0 c1 w x) (ht:Zw_ w w') (hlt:b < w.heap.size):Zf5 b o c0 c1 w' x:=by
 obtain⟨hs,vv0,q0,hc,l0⟩:=h;obtain⟨h0,h1,h2,h3,h4,h5,h6⟩:=hc;exact⟨hs,vv0,q0,⟨(ht.cell (p:=⟨b,o,none⟩) hlt).trans h0,(ht.cell (p:=⟨b,o+1,none⟩) hlt).trans h1,(ht.cell (p:=⟨b,o+2,none⟩) hlt).trans h2,(ht.cell (p:=⟨b,o+3,none⟩) hlt).trans h3,(ht.cell (p:=⟨b,o+4,none⟩) hlt).trans h4,(ht.cell (p:=⟨b,o+5,none⟩) hlt).trans h5,(ht.cell (p:=⟨b,o+6,none⟩) hlt).trans h6⟩,l0.below ht⟩
structure Zfu (lo hi:Nat) (w:World) (b off n:Nat) (c:Nat→Nat×Nat) (X:Nat→Gr):Prop where
 lt:b < w.heap.size
 low:lo≤b
 bh:b < hi
 seg:∀ i,i < n→lo≤(c i).1∧(c i).2≤hi∧(b < (c i).1∨(c i).2≤b)
 mono:∀ i j,i < j→j < n→(c i).2≤(c j).1
 frz:∀ i,w.frozen? ⟨b,i,none⟩=false
 row:∀ i,i < n→Zf5 b (off+i*7) (c i).1 (c i).2 w (X i)
theorem Zfu.near {lo hi:Nat} {w w':World} {b off n:Nat} {c:Nat→Nat×Nat} {X:Nat→Gr} (h:Zfu lo hi w b off n c X) {j:Nat} (hj:j < n) (hn:ZbZ b (off+j*7) 7 (c j).1 (c j).2 w w') {x:Gr} (hx:Zf5 b (off+j*7) (c j).1 (c j).2 w' x):Zfu lo hi w' b off n c (fun i=>if i=j then x else X i):=by
 refine⟨Zk_ h.lt hn.size,h.low,h.bh,h.seg,h.mono,fun i=>(hn.frz i).trans (h.frz i),fun i hi'=>?_⟩
 by_cases e:i=j
 · subst e;rw [if_pos rfl];exact hx
 · rw [if_neg e]
   refine (h.row i hi').near hn (by omega) ?_ (h.seg i hi').2.2
   rcases Nat.lt_or_ge i j with hij | hij
   · exact Or.inl (h.mono i j hij hj)
   · exact Or.inr (h.mono j i (by omega) hi')
theorem Zfu.touch {lo hi lo' hi':Nat} {w w':World} {b off n:Nat} {c:Nat→Nat×Nat} {X:Nat→Gr} (h:Zfu lo hi w b off n c X) (ht:Zae lo' hi' w w') (ho:hi≤lo'∨hi'≤lo):Zfu lo hi w' b off n c X:=by
 have h1:=h.low;have h2:=h.bh;refine⟨Zk_ h.lt ht.size,h.low,h.bh,h.seg,h.mono,fun i=>(ht.frozen (p:=⟨b,i,none⟩) h.lt (by simp only [];omega)).trans (h.frz i),fun i hi'=>?_⟩;have h5:=h.seg i hi';exact (h.row i hi').touch ht h.lt (by omega) (by omega)
theorem Zfu.below {lo hi:Nat} {w w':World} {b off n:Nat} {c:Nat→Nat×Nat} {X:Nat→Gr} (h:Zfu lo hi w b off n c X) (ht:Zw_ w w'):Zfu lo hi w' b off n c X:=
 ⟨Zk_ h.lt ht.size,h.low,h.bh,h.seg,h.mono,fun i=>(ht.frozen (p:=⟨b,i,none⟩) h.lt).trans (h.frz i),fun i hi'=>(h.row i hi').below ht h.lt⟩
theorem Zfu.to {lo hi:Nat} {w:World} {b off n:Nat} {c:Nat→Nat×Nat} {X Y:Nat→Gr} (h:Zfu lo hi w b off n c X) (e:∀ i,i < n→X i=Y i):Zfu lo hi w b off n c Y:=
 ⟨h.lt,h.low,h.bh,h.seg,h.mono,h.frz,fun i hi'=>e i hi' ▸ h.row i hi'⟩
def Zbe (lo hi:Nat) (w:World) (v:Value) (Xl:List Gr):Prop:=
 (∃ (a:Option Addr) (cap:Nat),v=.slice a 0 cap∧Xl=[])∨
 ∃ (b off cap:Nat) (c:Nat→Nat×Nat) (X:Nat→Gr),v=.slice (some ⟨b,off,none⟩) Xl.length cap∧Xl≠[]∧Xl.length≤maxLen∧Xl.length≤cap∧(∀ i (h:i < Xl.length),X i=Xl[i])∧Zfu lo hi w b off Xl.length c X
theorem Zbe.touch {lo hi lo' hi':Nat} {w w':World} {v:Value} {Xl:List Gr} (h:Zbe lo hi w v Xl) (ht:Zae lo' hi' w w') (ho:hi≤lo'∨hi'≤lo):Zbe lo hi w' v Xl:=by
 rcases h with h | ⟨b,off,cap,c,X,h1,h2,h3,h4,h5,h6⟩
 · exact Or.inl h
 · exact Or.inr ⟨b,off,cap,c,X,h1,h2,h3,h4,h5,h6.touch ht ho⟩
theorem Zbe.below {lo hi:Nat} {w w':World} {v:Value} {Xl:List Gr} (h:Zbe lo hi w v Xl) (ht:Zw_ w w'):Zbe lo hi w' v Xl:=by
 rcases h with h | ⟨b,off,cap,c,X,h1,h2,h3,h4,h5,h6⟩
 · exact Or.inl h
 · exact Or.inr ⟨b,off,cap,c,X,h1,h2,h3,h4,h5,h6.below ht⟩
theorem Zbe.form {lo hi:Nat} {w:World} {v:Value} {Xl:List Gr} (h:Zbe lo hi w v Xl):∃ a cap,v=.slice a Xl.length cap:=by
 rcases h with ⟨a,cap,h,rfl⟩ | ⟨b,off,cap,c,X,h1,_⟩
 · exact⟨a,cap,h⟩
 · exact⟨_,cap,h1⟩
theorem Zbe.at {lo hi:Nat} {w:World} {v:Value} {Xl:List Gr} (h:Zbe lo hi w v Xl):ZbY lo w v Xl:=by
 rcases h with h | ⟨b,off,cap,c,X,h1,h2,h3,h4,h5,h6⟩
 · exact Or.inl h
 · refine Or.inr ⟨b,off,cap,h1,h2,h3,h6.lt,h6.low,h4,fun i hi'=>?_⟩
   have hr:=h6.row i hi';have g0:=h6.seg i hi';rw [h5 i hi'] at hr;obtain⟨hs,vv0,q0,hc,l0⟩:=hr;exact⟨hs,vv0,hc,(l0.in').mono (by omega)⟩
def ZsB (k:Int) (x:Gr):Gr:=⟨k,mtB (k+1),mtB (k+1+1),ZdT (k+1+1+1) x.vb.length,mtB (k+1+1+1+x.vb.length),mtB (k+1+1+1+x.vb.length+1),mtB (k+1+1+1+x.vb.length+1+1)⟩
def Zsz (x:Gr):Nat:=6+x.vb.length
def Zcr (Xl:List Gr) (i:Nat):Nat:=((Xl.take i).map Zsz).sum
def Zks (k:Int) (Xl:List Gr):List Gr:=Xl.mapIdx (fun i x=>ZsB (k+(Zcr Xl i:Int)) x)
theorem ZbN (k:Int) (Xl:List Gr):(Zks k Xl).length=Xl.length:=by unfold Zks;simp
theorem Zkm (k:Int) (Xl:List Gr) (i:Nat) (h:i < (Zks k Xl).length) (h':i < Xl.length):(Zks k Xl)[i]=ZsB (k+(Zcr Xl i:Int)) Xl[i]:=List.getElem_mapIdx (f:=fun i x=>ZsB (k+(Zcr Xl i:Int)) x) (h:=h)
theorem Zgg {Xl:List Gr} {i:Nat} (h:i < Xl.length):Zcr Xl (i+1)=Zcr Xl i+Zsz Xl[i]:=by
 unfold Zcr;rw [List.take_succ_eq_append_getElem h,List.map_append,List.sum_append];simp
theorem Zjy {Xl:List Gr} (hn:Zdu Xl):∀ {i:Nat},i≤Xl.length→Zcr Xl i≤i*3000000:=by
 intro i
 induction i with
 | zero=>intro _;simp [Zcr]
 | succ i ih=>
  intro hi';have h1:=ih (by omega);rw [Zgg (by omega)]
  have h2:Zsz Xl[i]≤3000000:=by
   have hsm:=hn.2 i (by omega);unfold ZdE at hsm;unfold Zsz
   omega
  omega
structure Ze8 (wr:World) (b o c0 c1:Nat) (vv0:Value) (v:World) (y:Gr):Prop where
 near:ZbZ b o 7 c0 c1 wr v
 bc:b < c0∨c1≤b
 q0:c0≤c1
 cells:Zc0 v b o y vv0
 l0:Zau c0 c1 v vv0 y.vb
 frz:∀ i,v.frozen? ⟨b,i,none⟩=false
 lt:b < v.heap.size
theorem Ze8.below {wr:World} {b o c0 c1:Nat} {vv0:Value} {v v':World} {y:Gr} (h:Ze8 wr b o c0 c1 vv0 v y) (hb:Below v.heap.size v v'):Ze8 wr b o c0 c1 vv0 v' y:=
 ⟨h.near.trans (ZbZ.below hb h.lt),h.bc,h.q0,h.cells.below hb h.lt,h.l0.below hb,fun i=>(hb.frozen (p:=⟨b,i,none⟩) h.lt).trans (h.frz i),Zk_ h.lt hb.size⟩
theorem Ze8.s0 {wr:World} {b o c0 c1:Nat} {vv0:Value} {v:World} {y:Gr} (h:Ze8 wr b o c0 c1 vv0 v y) (u:Int):Ze8 wr b o c0 c1 vv0 (v.setCell ⟨b,o,none⟩ (.int .i64 u)) { y with nu:=u }:=by
 obtain⟨h0,h1,h2,h3,h4,h5,h6⟩:=h.cells;have ht:Zae b (b+1) v (v.setCell ⟨b,o,none⟩ (.int .i64 u)):=Zae.setCell _ _ _ _ _ ⟨Nat.le_refl _,by simp only [];omega⟩;have hbc:=h.bc;have hq0:=h.q0;exact⟨h.near.trans (ZbZ.set _ _ _ _ _ _ _ _ (by omega) (by omega)),h.bc,h.q0,⟨World.cell?_setCell_same' _ _ _ (by rw [h0];rfl),(cne (by omega)).trans h1,(cne (by omega)).trans h2,(cne (by omega)).trans h3,(cne (by omega)).trans h4,(cne (by omega)).trans h5,(cne (by omega)).trans h6⟩,h.l0.touch ht (by omega),fun i=>by rw [World.frozen?_setCell];exact h.frz i,by simpa [World.setCell] using h.lt⟩
theorem Ze8.s1 {wr:World} {b o c0 c1:Nat} {vv0:Value} {v:World} {y:Gr} (h:Ze8 wr b o c0 c1 vv0 v y) (u:Zy_):Ze8 wr b o c0 c1 vv0 (v.setCell ⟨b,o+1,none⟩ (.string u)) { y with tw:=u }:=by
 obtain⟨h0,h1,h2,h3,h4,h5,h6⟩:=h.cells;have ht:Zae b (b+1) v (v.setCell ⟨b,o+1,none⟩ (.string u)):=Zae.setCell _ _ _ _ _ ⟨Nat.le_refl _,by simp only [];omega⟩;have hbc:=h.bc;have hq0:=h.q0;exact⟨h.near.trans (ZbZ.set _ _ _ _ _ _ _ _ (by omega) (by omega)),h.bc,h.q0,⟨(cne (by omega)).trans h0,World.cell?_setCell_same' _ _ _ (by rw [h1];rfl),(cne (by omega)).trans h2,(cne (by omega)).trans h3,(cne (by omega)).trans h4,(cne (by omega)).trans h5,(cne (by omega)).trans h6⟩,h.l0.touch ht (by omega),fun i=>by rw [World.frozen?_setCell];exact h.frz i,by simpa [World.setCell] using h.lt⟩
theorem Ze8.s2 {wr:World} {b o c0 c1:Nat} {vv0:Value} {v:World} {y:Gr} (h:Ze8 wr b o c0 c1 vv0 v y) (u:Zy_):Ze8 wr b o c0 c1 vv0 (v.setCell ⟨b,o+2,none⟩ (.string u)) { y with gb:=u }:=by
 obtain⟨h0,h1,h2,h3,h4,h5,h6⟩:=h.cells;have ht:Zae b (b+1) v (v.setCell ⟨b,o+2,none⟩ (.string u)):=Zae.setCell _ _ _ _ _ ⟨Nat.le_refl _,by simp only [];omega⟩;have hbc:=h.bc;have hq0:=h.q0;exact⟨h.near.trans (ZbZ.set _ _ _ _ _ _ _ _ (by omega) (by omega)),h.bc,h.q0,⟨(cne (by omega)).trans h0,(cne (by omega)).trans h1,World.cell?_setCell_same' _ _ _ (by rw [h2];rfl),(cne (by omega)).trans h3,(cne (by omega)).trans h4,(cne (by omega)).trans h5,(cne (by omega)).trans h6⟩,h.l0.touch ht (by omega),fun i=>by rw [World.frozen?_setCell];exact h.frz i,by simpa [World.setCell] using h.lt⟩
theorem Ze8.s4 {wr:World} {b o c0 c1:Nat} {vv0:Value} {v:World} {y:Gr} (h:Ze8 wr b o c0 c1 vv0 v y) (u:Zy_):Ze8 wr b o c0 c1 vv0 (v.setCell ⟨b,o+4,none⟩ (.string u)) { y with kd:=u }:=by
 obtain⟨h0,h1,h2,h3,h4,h5,h6⟩:=h.cells;have ht:Zae b (b+1) v (v.setCell ⟨b,o+4,none⟩ (.string u)):=Zae.setCell _ _ _ _ _ ⟨Nat.le_refl _,by simp only [];omega⟩;have hbc:=h.bc;have hq0:=h.q0;exact⟨h.near.trans (ZbZ.set _ _ _ _ _ _ _ _ (by omega) (by omega)),h.bc,h.q0,⟨(cne (by omega)).trans h0,(cne (by omega)).trans h1,(cne (by omega)).trans h2,(cne (by omega)).trans h3,World.cell?_setCell_same' _ _ _ (by rw [h4];rfl),(cne (by omega)).trans h5,(cne (by omega)).trans h6⟩,h.l0.touch ht (by omega),fun i=>by rw [World.frozen?_setCell];exact h.frz i,by simpa [World.setCell] using h.lt⟩
theorem Ze8.s5 {wr:World} {b o c0 c1:Nat} {vv0:Value} {v:World} {y:Gr} (h:Ze8 wr b o c0 c1 vv0 v y) (u:Zy_):Ze8 wr b o c0 c1 vv0 (v.setCell ⟨b,o+5,none⟩ (.string u)) { y with tm:=u }:=by
 obtain⟨h0,h1,h2,h3,h4,h5,h6⟩:=h.cells;have ht:Zae b (b+1) v (v.setCell ⟨b,o+5,none⟩ (.string u)):=Zae.setCell _ _ _ _ _ ⟨Nat.le_refl _,by simp only [];omega⟩;have hbc:=h.bc;have hq0:=h.q0;exact⟨h.near.trans (ZbZ.set _ _ _ _ _ _ _ _ (by omega) (by omega)),h.bc,h.q0,⟨(cne (by omega)).trans h0,(cne (by omega)).trans h1,(cne (by omega)).trans h2,(cne (by omega)).trans h3,(cne (by omega)).trans h4,World.cell?_setCell_same' _ _ _ (by rw [h5];rfl),(cne (by omega)).trans h6⟩,h.l0.touch ht (by omega),fun i=>by rw [World.frozen?_setCell];exact h.frz i,by simpa [World.setCell] using h.lt⟩
theorem Ze8.s6 {wr:World} {b o c0 c1:Nat} {vv0:Value} {v:World} {y:Gr} (h:Ze8 wr b o c0 c1 vv0 v y) (u:Zy_):Ze8 wr b o c0 c1 vv0 (v.setCell ⟨b,o+6,none⟩ (.string u)) { y with pf:=u }:=by
 obtain⟨h0,h1,h2,h3,h4,h5,h6⟩:=h.cells;have ht:Zae b (b+1) v (v.setCell ⟨b,o+6,none⟩ (.string u)):=Zae.setCell _ _ _ _ _ ⟨Nat.le_refl _,by simp only [];omega⟩;have hbc:=h.bc;have hq0:=h.q0;exact⟨h.near.trans (ZbZ.set _ _ _ _ _ _ _ _ (by omega) (by omega)),h.bc,h.q0,⟨(cne (by omega)).trans h0,(cne (by omega)).trans h1,(cne (by omega)).trans h2,(cne (by omega)).trans h3,(cne (by omega)).trans h4,(cne (by omega)).trans h5,World.cell?_setCell_same' _ _ _ (by rw [h6];rfl)⟩,h.l0.touch ht (by omega),fun i=>by rw [World.frozen?_setCell];exact h.frz i,by simpa [World.setCell] using h.lt⟩
theorem Ze8.m0' {wr:World} {b o c0 c1:Nat} {vv0:Value} {v v':World} {y:Gr} (h:Ze8 wr b o c0 c1 vv0 v y) (ht:Zae c0 c1 v v') {L:List Int} (hl:Zau c0 c1 v' vv0 L):Ze8 wr b o c0 c1 vv0 v' { y with vb:=L }:=by
 obtain⟨h0,h1,h2,h3,h4,h5,h6⟩:=h.cells;have hbc:=h.bc;have hq0:=h.q0;have hlt:=h.lt;have e:∀ i,v'.cell? ⟨b,i,none⟩=v.cell? ⟨b,i,none⟩:=fun i=>ht.cell (p:=⟨b,i,none⟩) h.lt (by simp only [];omega)
 exact⟨h.near.trans (ZbZ.touch ht h.lt (by omega) (by omega) (by omega)),h.bc,h.q0,⟨(e _).trans h0,(e _).trans h1,(e _).trans h2,(e _).trans h3,(e _).trans h4,(e _).trans h5,(e _).trans h6⟩,hl,fun i=>(ht.frozen (p:=⟨b,i,none⟩) h.lt (by simp only [];omega)).trans (h.frz i),Zk_ h.lt ht.size⟩
def Zf4 (b o c0 c1:Nat) (w:World) (x:Ob):Prop:=ZcS x∧∃ (vv0 vv1:Value) (m1:Nat),c0≤m1∧m1≤c1∧Zc2 w b o x vv0 vv1∧Zaf c0 m1 w vv0 x.vs∧Zaf m1 c1 w vv1 x.hs
theorem Zf4.near {b o c0 c1 o1 d0 d1:Nat} {w w':World} {x:Ob} (h:Zf4 b o c0 c1 w x) (hn:ZbZ b o1 7 d0 d1 w w') (ho:o+7≤o1∨o1+7≤o) (hi:c1≤d0∨d1≤c0) (hb:b < c0∨c1≤b):Zf4 b o c0 c1 w' x:=by
 obtain⟨hs,vv0,vv1,m1,q0,q1,hc,l0,l1⟩:=h;obtain⟨h0,h1,h2,h3,h4,h5,h6⟩:=hc;have e:∀ t,t < 7→w'.cell? ⟨b,o+t,none⟩=w.cell? ⟨b,o+t,none⟩:=fun t ht=>hn.cell _ (by omega)
 have e0:w'.cell? ⟨b,o,none⟩=w.cell? ⟨b,o,none⟩:=hn.cell _ (by omega);exact⟨hs,vv0,vv1,m1,q0,q1,⟨e0.trans h0,(e 1 (by omega)).trans h1,(e 2 (by omega)).trans h2,(e 3 (by omega)).trans h3,(e 4 (by omega)).trans h4,(e 5 (by omega)).trans h5,(e 6 (by omega)).trans h6⟩,l0.near hn (by omega) (by omega),l1.near hn (by omega) (by omega)⟩
theorem Zf4.touch {b o c0 c1:Nat} {lo hi:Nat} {w w':World} {x:Ob} (h:Zf4 b o c0 c1 w x) (ht:Zae lo hi w w') (hlt:b < w.heap.size) (hb:b < lo∨hi≤b) (hi':c1≤lo∨hi≤c0):Zf4 b o c0 c1 w' x:=by
 obtain⟨hs,vv0,vv1,m1,q0,q1,hc,l0,l1⟩:=h;obtain⟨h0,h1,h2,h3,h4,h5,h6⟩:=hc;exact⟨hs,vv0,vv1,m1,q0,q1,⟨(ht.cell (p:=⟨b,o,none⟩) hlt hb).trans h0,(ht.cell (p:=⟨b,o+1,none⟩) hlt hb).trans h1,(ht.cell (p:=⟨b,o+2,none⟩) hlt hb).trans h2,(ht.cell (p:=⟨b,o+3,none⟩) hlt hb).trans h3,(ht.cell (p:=⟨b,o+4,none⟩) hlt hb).trans h4,(ht.cell (p:=⟨b,o+5,none⟩) hlt hb).trans h5,(ht.cell (p:=⟨b,o+6,none⟩) hlt hb).trans h6⟩,l0.touch ht (by omega),l1.touch ht (by omega)⟩
theorem Zf4.below {b o c0 c1:Nat} {w w':World} {x:Ob} (h:Zf4 b o c0 c1 w x) (ht:Zw_ w w') (hlt:b < w.heap.size):Zf4 b o c0 c1 w' x:=by
 obtain⟨hs,vv0,vv1,m1,q0,q1,hc,l0,l1⟩:=h;obtain⟨h0,h1,h2,h3,h4,h5,h6⟩:=hc;exact⟨hs,vv0,vv1,m1,q0,q1,⟨(ht.cell (p:=⟨b,o,none⟩) hlt).trans h0,(ht.cell (p:=⟨b,o+1,none⟩) hlt).trans h1,(ht.cell (p:=⟨b,o+2,none⟩) hlt).trans h2,(ht.cell (p:=⟨b,o+3,none⟩) hlt).trans h3,(ht.cell (p:=⟨b,o+4,none⟩) hlt).trans h4,(ht.cell (p:=⟨b,o+5,none⟩) hlt).trans h5,(ht.cell (p:=⟨b,o+6,none⟩) hlt).trans h6⟩,l0.below ht,l1.below ht⟩
structure Zfx (lo hi:Nat) (w:World) (b off n:Nat) (c:Nat→Nat×Nat) (X:Nat→Ob):Prop where
 lt:b < w.heap.size
 low:lo≤b
 bh:b < hi
 seg:∀ i,i < n→lo≤(c i).1∧(c i).2≤hi∧(b < (c i).1∨(c i).2≤b)
 mono:∀ i j,i < j→j < n→(c i).2≤(c j).1
 frz:∀ i,w.frozen? ⟨b,i,none⟩=false
 row:∀ i,i < n→Zf4 b (off+i*7) (c i).1 (c i).2 w (X i)
theorem Zfx.near {lo hi:Nat} {w w':World} {b off n:Nat} {c:Nat→Nat×Nat} {X:Nat→Ob} (h:Zfx lo hi w b off n c X) {j:Nat} (hj:j < n) (hn:ZbZ b (off+j*7) 7 (c j).1 (c j).2 w w') {x:Ob} (hx:Zf4 b (off+j*7) (c j).1 (c j).2 w' x):Zfx lo hi w' b off n c (fun i=>if i=j then x else X i):=by
 refine⟨Zk_ h.lt hn.size,h.low,h.bh,h.seg,h.mono,fun i=>(hn.frz i).trans (h.frz i),fun i hi'=>?_⟩
 by_cases e:i=j
 · subst e;rw [if_pos rfl];exact hx
 · rw [if_neg e]
   refine (h.row i hi').near hn (by omega) ?_ (h.seg i hi').2.2
   rcases Nat.lt_or_ge i j with hij | hij
   · exact Or.inl (h.mono i j hij hj)
   · exact Or.inr (h.mono j i (by omega) hi')
theorem Zfx.touch {lo hi lo' hi':Nat} {w w':World} {b off n:Nat} {c:Nat→Nat×Nat} {X:Nat→Ob} (h:Zfx lo hi w b off n c X) (ht:Zae lo' hi' w w') (ho:hi≤lo'∨hi'≤lo):Zfx lo hi w' b off n c X:=by
 have h1:=h.low;have h2:=h.bh;refine⟨Zk_ h.lt ht.size,h.low,h.bh,h.seg,h.mono,fun i=>(ht.frozen (p:=⟨b,i,none⟩) h.lt (by simp only [];omega)).trans (h.frz i),fun i hi'=>?_⟩;have h5:=h.seg i hi';exact (h.row i hi').touch ht h.lt (by omega) (by omega)
theorem Zfx.below {lo hi:Nat} {w w':World} {b off n:Nat} {c:Nat→Nat×Nat} {X:Nat→Ob} (h:Zfx lo hi w b off n c X) (ht:Zw_ w w'):Zfx lo hi w' b off n c X:=
 ⟨Zk_ h.lt ht.size,h.low,h.bh,h.seg,h.mono,fun i=>(ht.frozen (p:=⟨b,i,none⟩) h.lt).trans (h.frz i),fun i hi'=>(h.row i hi').below ht h.lt⟩
theorem Zfx.to {lo hi:Nat} {w:World} {b off n:Nat} {c:Nat→Nat×Nat} {X Y:Nat→Ob} (h:Zfx lo hi w b off n c X) (e:∀ i,i < n→X i=Y i):Zfx lo hi w b off n c Y:=
 ⟨h.lt,h.low,h.bh,h.seg,h.mono,h.frz,fun i hi'=>e i hi' ▸ h.row i hi'⟩
def Za7 (lo hi:Nat) (w:World) (v:Value) (Xl:List Ob):Prop:=
 (∃ (a:Option Addr) (cap:Nat),v=.slice a 0 cap∧Xl=[])∨
 ∃ (b off cap:Nat) (c:Nat→Nat×Nat) (X:Nat→Ob),v=.slice (some ⟨b,off,none⟩) Xl.length cap∧Xl≠[]∧Xl.length≤maxLen∧Xl.length≤cap∧(∀ i (h:i < Xl.length),X i=Xl[i])∧Zfx lo hi w b off Xl.length c X
theorem Za7.touch {lo hi lo' hi':Nat} {w w':World} {v:Value} {Xl:List Ob} (h:Za7 lo hi w v Xl) (ht:Zae lo' hi' w w') (ho:hi≤lo'∨hi'≤lo):Za7 lo hi w' v Xl:=by
 rcases h with h | ⟨b,off,cap,c,X,h1,h2,h3,h4,h5,h6⟩
 · exact Or.inl h
 · exact Or.inr ⟨b,off,cap,c,X,h1,h2,h3,h4,h5,h6.touch ht ho⟩
theorem Za7.below {lo hi:Nat} {w w':World} {v:Value} {Xl:List Ob} (h:Za7 lo hi w v Xl) (ht:Zw_ w w'):Za7 lo hi w' v Xl:=by
 rcases h with h | ⟨b,off,cap,c,X,h1,h2,h3,h4,h5,h6⟩
 · exact Or.inl h
 · exact Or.inr ⟨b,off,cap,c,X,h1,h2,h3,h4,h5,h6.below ht⟩
theorem Za7.form {lo hi:Nat} {w:World} {v:Value} {Xl:List Ob} (h:Za7 lo hi w v Xl):∃ a cap,v=.slice a Xl.length cap:=by
 rcases h with ⟨a,cap,h,rfl⟩ | ⟨b,off,cap,c,X,h1,_⟩
 · exact⟨a,cap,h⟩
 · exact⟨_,cap,h1⟩
theorem Za7.at {lo hi:Nat} {w:World} {v:Value} {Xl:List Ob} (h:Za7 lo hi w v Xl):Zbw lo w v Xl:=by
 rcases h with h | ⟨b,off,cap,c,X,h1,h2,h3,h4,h5,h6⟩
 · exact Or.inl h
 · refine Or.inr ⟨b,off,cap,h1,h2,h3,h6.lt,h6.low,h4,fun i hi'=>?_⟩
   have hr:=h6.row i hi';have g0:=h6.seg i hi';rw [h5 i hi'] at hr;obtain⟨hs,vv0,vv1,m1,q0,q1,hc,l0,l1⟩:=hr;exact⟨hs,vv0,vv1,hc,(l0.in').mono (by omega),(l1.in').mono (by omega)⟩
def ZsE (k:Int) (x:Ob):Ob:=⟨mtB (k),mtB (k+1),mtB (k+1+1),ZeI (k+1+1+1) x.vs.length,((k+1+1+1+x.vs.length) % 3 == 0),ZeI (k+1+1+1+x.vs.length+1) x.hs.length,k+1+1+1+x.vs.length+1+x.hs.length⟩
def ZsD (x:Ob):Nat:=5+x.vs.length+x.hs.length
def Zca (Xl:List Ob) (i:Nat):Nat:=((Xl.take i).map ZsD).sum
def Zkf (k:Int) (Xl:List Ob):List Ob:=Xl.mapIdx (fun i x=>ZsE (k+(Zca Xl i:Int)) x)
theorem ZbQ (k:Int) (Xl:List Ob):(Zkf k Xl).length=Xl.length:=by unfold Zkf;simp
theorem Zkq (k:Int) (Xl:List Ob) (i:Nat) (h:i < (Zkf k Xl).length) (h':i < Xl.length):(Zkf k Xl)[i]=ZsE (k+(Zca Xl i:Int)) Xl[i]:=List.getElem_mapIdx (f:=fun i x=>ZsE (k+(Zca Xl i:Int)) x) (h:=h)
theorem Zf8 {Xl:List Ob} {i:Nat} (h:i < Xl.length):Zca Xl (i+1)=Zca Xl i+ZsD Xl[i]:=by
 unfold Zca;rw [List.take_succ_eq_append_getElem h,List.map_append,List.sum_append];simp
theorem Zjk {Xl:List Ob} (hn:ZbI Xl):∀ {i:Nat},i≤Xl.length→Zca Xl i≤i*3000000:=by
 intro i
 induction i with
 | zero=>intro _;simp [Zca]
 | succ i ih=>
  intro hi';have h1:=ih (by omega);rw [Zf8 (by omega)]
  have h2:ZsD Xl[i]≤3000000:=by
   have hsm:=hn.2 i (by omega);unfold ZdD at hsm;unfold ZsD
   omega
  omega
structure Zfe (wr:World) (b o c0 c1 m1:Nat) (vv0 vv1:Value) (v:World) (y:Ob):Prop where
 near:ZbZ b o 7 c0 c1 wr v
 bc:b < c0∨c1≤b
 q0:c0≤m1
 q1:m1≤c1
 cells:Zc2 v b o y vv0 vv1
 l0:Zaf c0 m1 v vv0 y.vs
 l1:Zaf m1 c1 v vv1 y.hs
 frz:∀ i,v.frozen? ⟨b,i,none⟩=false
 lt:b < v.heap.size
theorem Zfe.below {wr:World} {b o c0 c1 m1:Nat} {vv0 vv1:Value} {v v':World} {y:Ob} (h:Zfe wr b o c0 c1 m1 vv0 vv1 v y) (hb:Below v.heap.size v v'):Zfe wr b o c0 c1 m1 vv0 vv1 v' y:=
 ⟨h.near.trans (ZbZ.below hb h.lt),h.bc,h.q0,h.q1,h.cells.below hb h.lt,h.l0.below hb,h.l1.below hb,fun i=>(hb.frozen (p:=⟨b,i,none⟩) h.lt).trans (h.frz i),Zk_ h.lt hb.size⟩
theorem Zfe.s0 {wr:World} {b o c0 c1 m1:Nat} {vv0 vv1:Value} {v:World} {y:Ob} (h:Zfe wr b o c0 c1 m1 vv0 vv1 v y) (u:Zy_):Zfe wr b o c0 c1 m1 vv0 vv1 (v.setCell ⟨b,o,none⟩ (.string u)) { y with kd:=u }:=by
 obtain⟨h0,h1,h2,h3,h4,h5,h6⟩:=h.cells;have ht:Zae b (b+1) v (v.setCell ⟨b,o,none⟩ (.string u)):=Zae.setCell _ _ _ _ _ ⟨Nat.le_refl _,by simp only [];omega⟩;have hbc:=h.bc;have hq0:=h.q0;have hq1:=h.q1;exact⟨h.near.trans (ZbZ.set _ _ _ _ _ _ _ _ (by omega) (by omega)),h.bc,h.q0,h.q1,⟨World.cell?_setCell_same' _ _ _ (by rw [h0];rfl),(cne (by omega)).trans h1,(cne (by omega)).trans h2,(cne (by omega)).trans h3,(cne (by omega)).trans h4,(cne (by omega)).trans h5,(cne (by omega)).trans h6⟩,h.l0.touch ht (by omega),h.l1.touch ht (by omega),fun i=>by rw [World.frozen?_setCell];exact h.frz i,by simpa [World.setCell] using h.lt⟩
theorem Zfe.s1 {wr:World} {b o c0 c1 m1:Nat} {vv0 vv1:Value} {v:World} {y:Ob} (h:Zfe wr b o c0 c1 m1 vv0 vv1 v y) (u:Zy_):Zfe wr b o c0 c1 m1 vv0 vv1 (v.setCell ⟨b,o+1,none⟩ (.string u)) { y with nm:=u }:=by
 obtain⟨h0,h1,h2,h3,h4,h5,h6⟩:=h.cells;have ht:Zae b (b+1) v (v.setCell ⟨b,o+1,none⟩ (.string u)):=Zae.setCell _ _ _ _ _ ⟨Nat.le_refl _,by simp only [];omega⟩;have hbc:=h.bc;have hq0:=h.q0;have hq1:=h.q1;exact⟨h.near.trans (ZbZ.set _ _ _ _ _ _ _ _ (by omega) (by omega)),h.bc,h.q0,h.q1,⟨(cne (by omega)).trans h0,World.cell?_setCell_same' _ _ _ (by rw [h1];rfl),(cne (by omega)).trans h2,(cne (by omega)).trans h3,(cne (by omega)).trans h4,(cne (by omega)).trans h5,(cne (by omega)).trans h6⟩,h.l0.touch ht (by omega),h.l1.touch ht (by omega),fun i=>by rw [World.frozen?_setCell];exact h.frz i,by simpa [World.setCell] using h.lt⟩
theorem Zfe.s2 {wr:World} {b o c0 c1 m1:Nat} {vv0 vv1:Value} {v:World} {y:Ob} (h:Zfe wr b o c0 c1 m1 vv0 vv1 v y) (u:Zy_):Zfe wr b o c0 c1 m1 vv0 vv1 (v.setCell ⟨b,o+2,none⟩ (.string u)) { y with tm:=u }:=by
 obtain⟨h0,h1,h2,h3,h4,h5,h6⟩:=h.cells;have ht:Zae b (b+1) v (v.setCell ⟨b,o+2,none⟩ (.string u)):=Zae.setCell _ _ _ _ _ ⟨Nat.le_refl _,by simp only [];omega⟩;have hbc:=h.bc;have hq0:=h.q0;have hq1:=h.q1;exact⟨h.near.trans (ZbZ.set _ _ _ _ _ _ _ _ (by omega) (by omega)),h.bc,h.q0,h.q1,⟨(cne (by omega)).trans h0,(cne (by omega)).trans h1,World.cell?_setCell_same' _ _ _ (by rw [h2];rfl),(cne (by omega)).trans h3,(cne (by omega)).trans h4,(cne (by omega)).trans h5,(cne (by omega)).trans h6⟩,h.l0.touch ht (by omega),h.l1.touch ht (by omega),fun i=>by rw [World.frozen?_setCell];exact h.frz i,by simpa [World.setCell] using h.lt⟩
theorem Zfe.s4 {wr:World} {b o c0 c1 m1:Nat} {vv0 vv1:Value} {v:World} {y:Ob} (h:Zfe wr b o c0 c1 m1 vv0 vv1 v y) (u:Bool):Zfe wr b o c0 c1 m1 vv0 vv1 (v.setCell ⟨b,o+4,none⟩ (.bool u)) { y with en:=u }:=by
 obtain⟨h0,h1,h2,h3,h4,h5,h6⟩:=h.cells;have ht:Zae b (b+1) v (v.setCell ⟨b,o+4,none⟩ (.bool u)):=Zae.setCell _ _ _ _ _ ⟨Nat.le_refl _,by simp only [];omega⟩;have hbc:=h.bc;have hq0:=h.q0;have hq1:=h.q1;exact⟨h.near.trans (ZbZ.set _ _ _ _ _ _ _ _ (by omega) (by omega)),h.bc,h.q0,h.q1,⟨(cne (by omega)).trans h0,(cne (by omega)).trans h1,(cne (by omega)).trans h2,(cne (by omega)).trans h3,World.cell?_setCell_same' _ _ _ (by rw [h4];rfl),(cne (by omega)).trans h5,(cne (by omega)).trans h6⟩,h.l0.touch ht (by omega),h.l1.touch ht (by omega),fun i=>by rw [World.frozen?_setCell];exact h.frz i,by simpa [World.setCell] using h.lt⟩
theorem Zfe.s6 {wr:World} {b o c0 c1 m1:Nat} {vv0 vv1:Value} {v:World} {y:Ob} (h:Zfe wr b o c0 c1 m1 vv0 vv1 v y) (u:Int):Zfe wr b o c0 c1 m1 vv0 vv1 (v.setCell ⟨b,o+6,none⟩ (.int .i64 u)) { y with ver:=u }:=by
 obtain⟨h0,h1,h2,h3,h4,h5,h6⟩:=h.cells;have ht:Zae b (b+1) v (v.setCell ⟨b,o+6,none⟩ (.int .i64 u)):=Zae.setCell _ _ _ _ _ ⟨Nat.le_refl _,by simp only [];omega⟩;have hbc:=h.bc;have hq0:=h.q0;have hq1:=h.q1;exact⟨h.near.trans (ZbZ.set _ _ _ _ _ _ _ _ (by omega) (by omega)),h.bc,h.q0,h.q1,⟨(cne (by omega)).trans h0,(cne (by omega)).trans h1,(cne (by omega)).trans h2,(cne (by omega)).trans h3,(cne (by omega)).trans h4,(cne (by omega)).trans h5,World.cell?_setCell_same' _ _ _ (by rw [h6];rfl)⟩,h.l0.touch ht (by omega),h.l1.touch ht (by omega),fun i=>by rw [World.frozen?_setCell];exact h.frz i,by simpa [World.setCell] using h.lt⟩
theorem Zfe.m0' {wr:World} {b o c0 c1 m1:Nat} {vv0 vv1:Value} {v v':World} {y:Ob} (h:Zfe wr b o c0 c1 m1 vv0 vv1 v y) (ht:Zae c0 m1 v v') {L:List Zy_} (hl:Zaf c0 m1 v' vv0 L):Zfe wr b o c0 c1 m1 vv0 vv1 v' { y with vs:=L }:=by
 obtain⟨h0,h1,h2,h3,h4,h5,h6⟩:=h.cells;have hbc:=h.bc;have hq0:=h.q0;have hq1:=h.q1;have hlt:=h.lt;have e:∀ i,v'.cell? ⟨b,i,none⟩=v.cell? ⟨b,i,none⟩:=fun i=>ht.cell (p:=⟨b,i,none⟩) h.lt (by simp only [];omega)
 exact⟨h.near.trans (ZbZ.touch ht h.lt (by omega) (by omega) (by omega)),h.bc,h.q0,h.q1,⟨(e _).trans h0,(e _).trans h1,(e _).trans h2,(e _).trans h3,(e _).trans h4,(e _).trans h5,(e _).trans h6⟩,hl,h.l1.touch ht (by omega),fun i=>(ht.frozen (p:=⟨b,i,none⟩) h.lt (by simp only [];omega)).trans (h.frz i),Zk_ h.lt ht.size⟩
theorem Zfe.m1' {wr:World} {b o c0 c1 m1:Nat} {vv0 vv1:Value} {v v':World} {y:Ob} (h:Zfe wr b o c0 c1 m1 vv0 vv1 v y) (ht:Zae m1 c1 v v') {L:List Zy_} (hl:Zaf m1 c1 v' vv1 L):Zfe wr b o c0 c1 m1 vv0 vv1 v' { y with hs:=L }:=by
 obtain⟨h0,h1,h2,h3,h4,h5,h6⟩:=h.cells;have hbc:=h.bc;have hq0:=h.q0;have hq1:=h.q1;have hlt:=h.lt;have e:∀ i,v'.cell? ⟨b,i,none⟩=v.cell? ⟨b,i,none⟩:=fun i=>ht.cell (p:=⟨b,i,none⟩) h.lt (by simp only [];omega)
 exact⟨h.near.trans (ZbZ.touch ht h.lt (by omega) (by omega) (by omega)),h.bc,h.q0,h.q1,⟨(e _).trans h0,(e _).trans h1,(e _).trans h2,(e _).trans h3,(e _).trans h4,(e _).trans h5,(e _).trans h6⟩,h.l0.touch ht (by omega),hl,fun i=>(ht.frozen (p:=⟨b,i,none⟩) h.lt (by simp only [];omega)).trans (h.frz i),Zk_ h.lt ht.size⟩
def Zpj (_:Tm):Prop:=True
def Zdt (Xl:List Tm):Prop:=Xl.length≤1048576∧∀ i (h:i < Xl.length),Zpj Xl[i]
theorem Zdt.of {Xl:List Tm} (h:Xl.length≤1048576):Zdt Xl:=⟨h,fun _ _=>trivial⟩
def ZfX (b o _c0 _c1:Nat) (w:World) (x:Tm):Prop:=Ze5 x∧Zd4 w b o x
theorem ZfX.near {b o c0 c1 o1 d0 d1:Nat} {w w':World} {x:Tm} (h:ZfX b o c0 c1 w x) (hn:ZbZ b o1 2 d0 d1 w w') (ho:o+2≤o1∨o1+2≤o) (hi:c1≤d0∨d1≤c0) (hb:b < c0∨c1≤b):ZfX b o c0 c1 w' x:=by
 obtain⟨hs,hc⟩:=h;obtain⟨h0,h1⟩:=hc;have e:∀ t,t < 2→w'.cell? ⟨b,o+t,none⟩=w.cell? ⟨b,o+t,none⟩:=fun t ht=>hn.cell _ (by omega)
 have e0:w'.cell? ⟨b,o,none⟩=w.cell? ⟨b,o,none⟩:=hn.cell _ (by omega);exact⟨hs,⟨e0.trans h0,(e 1 (by omega)).trans h1⟩⟩
theorem ZfX.touch {b o c0 c1:Nat} {lo hi:Nat} {w w':World} {x:Tm} (h:ZfX b o c0 c1 w x) (ht:Zae lo hi w w') (hlt:b < w.heap.size) (hb:b < lo∨hi≤b) (_hi:c1≤lo∨hi≤c0):ZfX b o c0 c1 w' x:=by
 obtain⟨hs,hc⟩:=h;obtain⟨h0,h1⟩:=hc;exact⟨hs,⟨(ht.cell (p:=⟨b,o,none⟩) hlt hb).trans h0,(ht.cell (p:=⟨b,o+1,none⟩) hlt hb).trans h1⟩⟩
theorem ZfX.below {b o c0 c1:Nat} {w w':World} {x:Tm} (h:ZfX b o c0 c1 w x) (ht:Zw_ w w') (hlt:b < w.heap.size):ZfX b o c0 c1 w' x:=by
 obtain⟨hs,hc⟩:=h;obtain⟨h0,h1⟩:=hc;exact⟨hs,⟨(ht.cell (p:=⟨b,o,none⟩) hlt).trans h0,(ht.cell (p:=⟨b,o+1,none⟩) hlt).trans h1⟩⟩
structure Ze3 (lo hi:Nat) (w:World) (b off n:Nat) (c:Nat→Nat) (X:Nat→Tm):Prop where
 lt:b < w.heap.size
 low:lo≤b
 bc:b < c 0
 bh:b < hi
 mono:∀ i,i < n→c i≤c (i+1)
 top:c n≤hi
 frz:∀ i,w.frozen? ⟨b,i,none⟩=false
 row:∀ i,i < n→ZfX b (off+i*2) (c i) (c (i+1)) w (X i)
theorem Ze3.le {lo hi:Nat} {w:World} {b off n:Nat} {c:Nat→Nat} {X:Nat→Tm} (h:Ze3 lo hi w b off n c X) {i:Nat}:∀ {j:Nat},i≤j→j≤n→c i≤c j:=by
 intro j
 induction j with
 | zero=>intro hij _;have:i=0:=by omega
         subst this;exact Nat.le_refl _
 | succ j ih=>
  intro hij hjn
  by_cases e:i=j+1
  · subst e;exact Nat.le_refl _
  · exact Nat.le_trans (ih (by omega) (by omega)) (h.mono j (by omega))
theorem Ze3.near {lo hi:Nat} {w w':World} {b off n:Nat} {c:Nat→Nat} {X:Nat→Tm} (h:Ze3 lo hi w b off n c X) {j:Nat} (hj:j < n) (hn:ZbZ b (off+j*2) 2 (c j) (c (j+1)) w w') {x:Tm} (hx:ZfX b (off+j*2) (c j) (c (j+1)) w' x):Ze3 lo hi w' b off n c (fun i=>if i=j then x else X i):=by
 refine⟨Zk_ h.lt hn.size,h.low,h.bc,h.bh,h.mono,h.top,fun i=>(hn.frz i).trans (h.frz i),fun i hi'=>?_⟩
 by_cases e:i=j
 · subst e;rw [if_pos rfl];exact hx
 · rw [if_neg e]
   have h0:=h.le (Nat.zero_le i) (by omega);have hbc:=h.bc;refine (h.row i hi').near hn (by omega) ?_ (by omega)
   rcases Nat.lt_or_ge i j with hij | hij
   · exact Or.inl (h.le (by omega) (by omega))
   · exact Or.inr (h.le (by omega) (by omega))
theorem Ze3.touch {lo hi lo' hi':Nat} {w w':World} {b off n:Nat} {c:Nat→Nat} {X:Nat→Tm} (h:Ze3 lo hi w b off n c X) (ht:Zae lo' hi' w w') (ho:hi≤lo'∨hi'≤lo):Ze3 lo hi w' b off n c X:=by
 have h1:=h.low;have h2:=h.bh;have h3:=h.top;have h4:=h.bc;refine⟨Zk_ h.lt ht.size,h.low,h.bc,h.bh,h.mono,h.top,fun i=>(ht.frozen (p:=⟨b,i,none⟩) h.lt (by simp only [];omega)).trans (h.frz i),fun i hi'=>?_⟩;have h5:=h.le (Nat.zero_le i) (by omega);have h6:=h.le (i:=i+1) (j:=n) (by omega) Zl_;exact (h.row i hi').touch ht h.lt (by omega) (by omega)
theorem Ze3.below {lo hi:Nat} {w w':World} {b off n:Nat} {c:Nat→Nat} {X:Nat→Tm} (h:Ze3 lo hi w b off n c X) (ht:Zw_ w w'):Ze3 lo hi w' b off n c X:=
 ⟨Zk_ h.lt ht.size,h.low,h.bc,h.bh,h.mono,h.top,fun i=>(ht.frozen (p:=⟨b,i,none⟩) h.lt).trans (h.frz i),fun i hi'=>(h.row i hi').below ht h.lt⟩
theorem Ze3.to {lo hi:Nat} {w:World} {b off n:Nat} {c:Nat→Nat} {X Y:Nat→Tm} (h:Ze3 lo hi w b off n c X) (e:∀ i,i < n→X i=Y i):Ze3 lo hi w b off n c Y:=
 ⟨h.lt,h.low,h.bc,h.bh,h.mono,h.top,h.frz,fun i hi'=>e i hi' ▸ h.row i hi'⟩
def Zcq (lo hi:Nat) (w:World) (v:Value) (Xl:List Tm):Prop:=
 (∃ (a:Option Addr) (cap:Nat),v=.slice a 0 cap∧Xl=[])∨
 ∃ (b off cap:Nat) (c:Nat→Nat) (X:Nat→Tm),v=.slice (some ⟨b,off,none⟩) Xl.length cap∧Xl≠[]∧Xl.length≤maxLen∧Xl.length≤cap∧(∀ i (h:i < Xl.length),X i=Xl[i])∧Ze3 lo hi w b off Xl.length c X
theorem Zcq.touch {lo hi lo' hi':Nat} {w w':World} {v:Value} {Xl:List Tm} (h:Zcq lo hi w v Xl) (ht:Zae lo' hi' w w') (ho:hi≤lo'∨hi'≤lo):Zcq lo hi w' v Xl:=by
 rcases h with h | ⟨b,off,cap,c,X,h1,h2,h3,h4,h5,h6⟩
 · exact Or.inl h
 · exact Or.inr ⟨b,off,cap,c,X,h1,h2,h3,h4,h5,h6.touch ht ho⟩
theorem Zcq.below {lo hi:Nat} {w w':World} {v:Value} {Xl:List Tm} (h:Zcq lo hi w v Xl) (ht:Zw_ w w'):Zcq lo hi w' v Xl:=by
 rcases h with h | ⟨b,off,cap,c,X,h1,h2,h3,h4,h5,h6⟩
 · exact Or.inl h
 · exact Or.inr ⟨b,off,cap,c,X,h1,h2,h3,h4,h5,h6.below ht⟩
theorem Zcq.form {lo hi:Nat} {w:World} {v:Value} {Xl:List Tm} (h:Zcq lo hi w v Xl):∃ a cap,v=.slice a Xl.length cap:=by
 rcases h with ⟨a,cap,h,rfl⟩ | ⟨b,off,cap,c,X,h1,_⟩
 · exact⟨a,cap,h⟩
 · exact⟨_,cap,h1⟩
theorem Zcq.at {lo hi:Nat} {w:World} {v:Value} {Xl:List Tm} (h:Zcq lo hi w v Xl):Zbq lo w v Xl:=by
 rcases h with h | ⟨b,off,cap,c,X,h1,h2,h3,h4,h5,h6⟩
 · exact Or.inl h
 · refine Or.inr ⟨b,off,cap,h1,h2,h3,h6.lt,h6.low,h4,fun i hi'=>?_⟩
   have hr:=h6.row i hi';rw [h5 i hi'] at hr;obtain⟨hs,hc⟩:=hr;exact⟨hs,hc⟩
def ZsC (k:Int) (_x:Tm):Tm:=⟨mtB (k),mtB (k+1)⟩
def Ztg (_x:Tm):Nat:=2
def ZeZ (Xl:List Tm) (i:Nat):Nat:=((Xl.take i).map Ztg).sum
def ZoV (k:Int) (Xl:List Tm):List Tm:=Xl.mapIdx (fun i x=>ZsC (k+(ZeZ Xl i:Int)) x)
theorem ZdN (k:Int) (Xl:List Tm):(ZoV k Xl).length=Xl.length:=by unfold ZoV;simp
theorem ZpP (k:Int) (Xl:List Tm) (i:Nat) (h:i < (ZoV k Xl).length) (h':i < Xl.length):(ZoV k Xl)[i]=ZsC (k+(ZeZ Xl i:Int)) Xl[i]:=List.getElem_mapIdx (f:=fun i x=>ZsC (k+(ZeZ Xl i:Int)) x) (h:=h)
theorem ZiF {Xl:List Tm} {i:Nat} (h:i < Xl.length):ZeZ Xl (i+1)=ZeZ Xl i+Ztg Xl[i]:=by
 unfold ZeZ;rw [List.take_succ_eq_append_getElem h,List.map_append,List.sum_append];simp
theorem Zmt {Xl:List Tm} (hn:Zdt Xl):∀ {i:Nat},i≤Xl.length→ZeZ Xl i≤i*3000000:=by
 intro i
 induction i with
 | zero=>intro _;simp [ZeZ]
 | succ i ih=>
  intro hi';have h1:=ih (by omega);rw [ZiF (by omega)]
  have h2:Ztg Xl[i]≤3000000:=by
   have hsm:=hn.2 i (by omega);unfold Zpj at hsm;unfold Ztg
   omega
  omega
structure Zor (wr:World) (b o c0 c1:Nat) (v:World) (y:Tm):Prop where
 near:ZbZ b o 2 c0 c1 wr v
 bc:b < c0
 cells:Zd4 v b o y
 frz:∀ i,v.frozen? ⟨b,i,none⟩=false
 lt:b < v.heap.size
theorem Zor.below {wr:World} {b o c0 c1:Nat} {v v':World} {y:Tm} (h:Zor wr b o c0 c1 v y) (hb:Below v.heap.size v v'):Zor wr b o c0 c1 v' y:=
 ⟨h.near.trans (ZbZ.below hb h.lt),h.bc,h.cells.below hb h.lt,fun i=>(hb.frozen (p:=⟨b,i,none⟩) h.lt).trans (h.frz i),Zk_ h.lt hb.size⟩
theorem Zor.s0 {wr:World} {b o c0 c1:Nat} {v:World} {y:Tm} (h:Zor wr b o c0 c1 v y) (u:Zy_):Zor wr b o c0 c1 (v.setCell ⟨b,o,none⟩ (.string u)) { y with nm:=u }:=by
 obtain⟨h0,h1⟩:=h.cells;have ht:Zae b (b+1) v (v.setCell ⟨b,o,none⟩ (.string u)):=Zae.setCell _ _ _ _ _ ⟨Nat.le_refl _,by simp only [];omega⟩;have hbc:=h.bc;exact⟨h.near.trans (ZbZ.set _ _ _ _ _ _ _ _ (by omega) (by omega)),h.bc,⟨World.cell?_setCell_same' _ _ _ (by rw [h0];rfl),(cne (by omega)).trans h1⟩,fun i=>by rw [World.frozen?_setCell];exact h.frz i,by simpa [World.setCell] using h.lt⟩
theorem Zor.s1 {wr:World} {b o c0 c1:Nat} {v:World} {y:Tm} (h:Zor wr b o c0 c1 v y) (u:Zy_):Zor wr b o c0 c1 (v.setCell ⟨b,o+1,none⟩ (.string u)) { y with ov:=u }:=by
 obtain⟨h0,h1⟩:=h.cells;have ht:Zae b (b+1) v (v.setCell ⟨b,o+1,none⟩ (.string u)):=Zae.setCell _ _ _ _ _ ⟨Nat.le_refl _,by simp only [];omega⟩;have hbc:=h.bc;exact⟨h.near.trans (ZbZ.set _ _ _ _ _ _ _ _ (by omega) (by omega)),h.bc,⟨(cne (by omega)).trans h0,World.cell?_setCell_same' _ _ _ (by rw [h1];rfl)⟩,fun i=>by rw [World.frozen?_setCell];exact h.frz i,by simpa [World.setCell] using h.lt⟩
end Go.Proofs.YtlmippkhpjcfcaaGreat
