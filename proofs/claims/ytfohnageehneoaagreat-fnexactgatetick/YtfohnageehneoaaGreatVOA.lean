import Derived.Test.YtfohnageehneoaaGreatVTD
import Derived.Test.YtfohnageehneoaaGreatVBLP
import Derived.Test.YtfohnageehneoaaGreatVBOG
set_option maxHeartbeats 16000000
set_option maxRecDepth 100000
open Go.Proofs.Tryz
namespace Go.Proofs.YtfohnageehneoaaGreat
open Go.RowKit Go.Deep
abbrev Upo (W0:World):World→Prop:=fun W=>Below W0.heap.size W0 W
theorem Upo.cell {W0:World} (X:In (Upo W0)) {p:Addr} {v:Value} (h:W0.cell? p=some v):X.w.cell? p=some v:=
 (Below.cell (show Below W0.heap.size W0 X.w from X.h) (World.block_lt_of_cell? W0 _ h)).trans h
theorem Upo.next {W0:World} (X:In (Upo W0)) {W':World} (h:Below X.w.heap.size X.w W'):∃ Y:In (Upo W0),W'=Y.w:=
 ⟨⟨W',X.h.trans (h.mono X.h.size)⟩,rfl⟩
structure ZbW (b o n lo hi:Nat) (w w':World):Prop where
 os:w'.os=w.os
 tape:w'.tape=w.tape
 output:w'.output=w.output
 size:w.heap.size≤w'.heap.size
 block:∀ k,k < w.heap.size→k≠b→(k < lo∨hi≤k)→w'.heap[k]?=w.heap[k]?
 cell:∀ i,(i < o∨o+n≤i)→w'.cell? ⟨b,i,none⟩=w.cell? ⟨b,i,none⟩
 frz:∀ i,w'.frozen? ⟨b,i,none⟩=w.frozen? ⟨b,i,none⟩
theorem ZbW.refl (b o n lo hi:Nat) (w:World):ZbW b o n lo hi w w:=⟨rfl,rfl,rfl,Nat.le_refl _,fun _ _ _ _=>rfl,fun _ _=>rfl,fun _=>rfl⟩
theorem ZbW.trans {b o n lo hi:Nat} {u v w:World} (h:ZbW b o n lo hi u v) (k:ZbW b o n lo hi v w):ZbW b o n lo hi u w:=
 ⟨k.os.trans h.os,k.tape.trans h.tape,k.output.trans h.output,Nat.le_trans h.size k.size,fun i hi' hb ho=>(k.block i (Zk_ hi' h.size) hb ho).trans (h.block i hi' hb ho),fun i hi'=>(k.cell i hi').trans (h.cell i hi'),fun i=>(k.frz i).trans (h.frz i)⟩
theorem ZbW.below {b o n lo hi:Nat} {w w':World} (h:Zw_ w w') (hb:b < w.heap.size):ZbW b o n lo hi w w':=
 ⟨h.os,h.tape,h.output,h.size,fun k hk _ _=>h.block k hk,fun i _=>h.cell (p:=⟨b,i,none⟩) hb,fun i=>h.frozen (p:=⟨b,i,none⟩) hb⟩
theorem ZbW.touch {b o n lo hi lo' hi':Nat} {w w':World} (h:Zad lo' hi' w w') (hb:b < w.heap.size) (h1:lo≤lo') (h2:hi'≤hi) (hx:b < lo'∨hi'≤b):ZbW b o n lo hi w w':=
 ⟨h.os,h.tape,h.output,h.size,fun k hk _ ho=>h.block k hk (by omega),fun i _=>h.cell (p:=⟨b,i,none⟩) hb hx,fun i=>h.frozen (p:=⟨b,i,none⟩) hb hx⟩
theorem ZbW.set (b o n lo hi:Nat) (w:World) (i:Nat) (u:Value) (h1:o≤i) (h2:i < o+n):ZbW b o n lo hi w (w.setCell ⟨b,i,none⟩ u):=
 ⟨rfl,rfl,rfl,by simp [World.setCell],fun k _ hb _=>Below.heap_setCell _ _ _ _ hb,fun j hj=>by apply World.cell?_setCell_other;simp only [ne_eq,Addr.mk.injEq,not_and];omega,fun j=>by rw [World.frozen?_setCell]⟩
theorem ZbW.wide {b o n lo hi lo' hi':Nat} {w w':World} (h:ZbW b o n lo hi w w') (_hb:b < w.heap.size) (h1:lo'≤lo) (h2:hi≤hi') (hx:lo'≤b∧b < hi'):Zad lo' hi' w w':=
 ⟨h.os,h.tape,h.output,h.size,fun k hk ho=>h.block k hk (by omega) (by omega)⟩
theorem ZbW.out {b o n lo hi:Nat} {w w':World} (h:ZbW b o n lo hi w w') {p:Addr} (hp:p.block < w.heap.size) (hb:p.block≠b) (ho:p.block < lo∨hi≤p.block):w'.cell? p=w.cell? p∧w'.frozen? p=w.frozen? p:=
 ⟨World.cell?_of_block (w:=w) (h.block p.block hp hb ho),World.frozen?_of_block (w:=w) (h.block p.block hp hb ho)⟩
theorem Zae.near {lo hi lo' hi' b o n:Nat} {w w':World} {v:Value} {L:List Zy_} (h:Zae lo hi w v L) (ht:ZbW b o n lo' hi' w w') (ho:hi≤lo'∨hi'≤lo) (hb:b < lo∨hi≤b):Zae lo hi w' v L:=by
 rcases h with h | ⟨g,off,cap,h1,h2,h3,h4,h5,h6,h7,h8,h9⟩
 · exact Or.inl h
 · exact Or.inr ⟨g,off,cap,h1,h2,h3,Zk_ h4 ht.size,fun i hi'=>((ht.out (p:=⟨g,off+i,none⟩) h4 (by simp only [ne_eq];omega) (by simp only [];omega)).1).trans (h5 i hi'),h6,h7,h8,fun i=>((ht.out (p:=⟨g,off+i,none⟩) h4 (by simp only [ne_eq];omega) (by simp only [];omega)).2).trans (h9 i)⟩
theorem Zae.in' {lo hi:Nat} {w:World} {v:Value} {L:List Zy_} (h:Zae lo hi w v L):Zao lo w v L:=by
 rcases h with h | ⟨g,off,cap,h1,h2,h3,h4,h5,h6,h7,h8,h9⟩
 · exact Or.inl h
 · exact Or.inr ⟨g,off,cap,h1,h2,h3,h4,h5,h6,h7⟩
theorem cne {v:World} {b i j:Nat} {u:Value} (h:i≠j):(v.setCell ⟨b,i,none⟩ u).cell? ⟨b,j,none⟩=v.cell? ⟨b,j,none⟩:=by
 apply World.cell?_setCell_other;simp only [ne_eq,Addr.mk.injEq,not_and]
 omega
theorem Zad.setB (B:Nat) (w:World) (i:Nat) (u:Value):Zad B (B+1) w (w.setCell ⟨B,i,none⟩ u):=Zad.setCell _ _ _ _ _ ⟨Nat.le_refl _,Nat.lt_succ_self _⟩
def Zat (lo hi:Nat) (w:World) (v:Value) (L:List Int):Prop:=
 (∃ (a:Option Addr) (cap:Nat),v=.slice a 0 cap∧L=[])∨
 ∃ (b off cap:Nat),v=.slice (some ⟨b,off,none⟩) L.length cap∧L≠[]∧L.length≤maxLen∧b < w.heap.size∧
  (∀ i (h:i < L.length),w.cell? ⟨b,off+i,none⟩=some (.int .i64 L[i]))∧lo≤b∧b < hi∧∀ i,w.frozen? ⟨b,off+i,none⟩=false
theorem Zat.near {lo hi lo' hi' b o n:Nat} {w w':World} {v:Value} {L:List Int} (h:Zat lo hi w v L) (ht:ZbW b o n lo' hi' w w') (ho:hi≤lo'∨hi'≤lo) (hb:b < lo∨hi≤b):Zat lo hi w' v L:=by
 rcases h with h | ⟨g,off,cap,h1,h2,h3,h4,h5,h7,h8,h9⟩
 · exact Or.inl h
 · exact Or.inr ⟨g,off,cap,h1,h2,h3,Zk_ h4 ht.size,fun i hi'=>((ht.out (p:=⟨g,off+i,none⟩) h4 (by simp only [ne_eq];omega) (by simp only [];omega)).1).trans (h5 i hi'),h7,h8,fun i=>((ht.out (p:=⟨g,off+i,none⟩) h4 (by simp only [ne_eq];omega) (by simp only [];omega)).2).trans (h9 i)⟩
theorem Zat.below {lo hi:Nat} {w w':World} {v:Value} {L:List Int} (h:Zat lo hi w v L) (hb:Zw_ w w'):Zat lo hi w' v L:=by
 rcases h with h | ⟨g,off,cap,h1,h2,h3,h4,h5,h7,h8,h9⟩
 · exact Or.inl h
 · exact Or.inr ⟨g,off,cap,h1,h2,h3,Zk_ h4 hb.size,fun i hi'=>(hb.cell (p:=⟨g,off+i,none⟩) h4).trans (h5 i hi'),h7,h8,fun i=>(hb.frozen (p:=⟨g,off+i,none⟩) h4).trans (h9 i)⟩
theorem Zat.touch {lo hi lo' hi':Nat} {w w':World} {v:Value} {L:List Int} (h:Zat lo hi w v L) (ht:Zad lo' hi' w w') (ho:hi≤lo'∨hi'≤lo):Zat lo hi w' v L:=by
 rcases h with h | ⟨b,off,cap,h1,h2,h3,h4,h5,h7,h8,h9⟩
 · exact Or.inl h
 · exact Or.inr ⟨b,off,cap,h1,h2,h3,Zk_ h4 ht.size,fun i hi'=>(ht.cell (p:=⟨b,off+i,none⟩) h4 (by simp only [];omega)).trans (h5 i hi'),h7,h8,fun i=>(ht.frozen (p:=⟨b,off+i,none⟩) h4 (by simp only [];omega)).trans (h9 i)⟩
theorem Zat.in' {lo hi:Nat} {w:World} {v:Value} {L:List Int} (h:Zat lo hi w v L):Zau lo w v L:=by
 rcases h with h | ⟨g,off,cap,h1,h2,h3,h4,h5,h7,h8,h9⟩
 · exact Or.inl h
 · exact Or.inr ⟨g,off,cap,h1,h2,h3,h4,h7,h5⟩
theorem Zat.wide {lo hi lo' hi':Nat} {w:World} {v:Value} {L:List Int} (h:Zat lo hi w v L) (h1:lo'≤lo) (h2:hi≤hi'):Zat lo' hi' w v L:=by
 rcases h with h | ⟨g,off,cap,e1,e2,e3,e4,e5,e7,e8,e9⟩
 · exact Or.inl h
 · exact Or.inr ⟨g,off,cap,e1,e2,e3,e4,e5,by omega,by omega,e9⟩
theorem Zat.form {lo hi:Nat} {w:World} {v:Value} {L:List Int} (h:Zat lo hi w v L):∃ a cap,v=.slice a L.length cap:=by
 rcases h with ⟨a,cap,h,rfl⟩ | ⟨b,off,cap,h,_⟩
 · exact⟨a,cap,h⟩
 · exact⟨_,cap,h⟩
def ZdM (k:Int) (n:Nat):List Int:=(List.range n).map fun (i:Nat)=>k+(i:Int)
theorem ZbV (k:Int) (n:Nat):(ZdM k n).length=n:=by simp [ZdM]
theorem Zh2 (k:Int) (n i:Nat) (h:i < (ZdM k n).length):(ZdM k n)[i]=k+i:=by simp [ZdM]
theorem ZjT (lo hi:Nat) (v:Value) (L:List Int) (k:Int) (w:World) (hv:Zat lo hi w v L) (h0:0≤k) (hk:k+L.length≤4000000000000000000) :
 Calls prog 124 #[v,.int .i64 k] w fun e w'=>e=.returned (.int .i64 (k+L.length))∧Zad lo hi w w'∧Zat lo hi w' v (ZdM k L.length):=by
 rcases hv with ⟨a,cap,rfl,rfl⟩ | ⟨b,off,cap,rfl,hne,hm,hbw,hc,hlo,hhi,hfr⟩
 · go_enter func124,ntmps124
   go_wp2
   go_loop [5,1] (fun i q=>i=.int .i64 0∧q=.int .i64 k) (fun _ _=>0)
   case atStart=>exact⟨rfl,rfl⟩
   case round=>
    obtain⟨rfl,rfl⟩:=hrel;go_wp2;go_ret;exact⟨by simp,Zad.refl _ _ _,Or.inl ⟨_,_,rfl,rfl⟩⟩
 · unfold maxLen at hm
   go_enter func124,ntmps124;go_wp2
   go_loopw [5,1] (fun i q wr=>∃ j:Nat,i=.int .i64 j∧q=.int .i64 (k+j)∧j≤L.length∧Zad lo hi w wr∧(∀ i,i < j→wr.cell? ⟨b,off+i,none⟩=some (.int .i64 (k+i)))∧(∀ i (h:i < L.length),j≤i→wr.cell? ⟨b,off+i,none⟩=some (.int .i64 L[i]))∧∀ i,wr.frozen? ⟨b,off+i,none⟩=false) (fun i _ _=>L.length - (intOf i).toNat)
   case atStart=>exact⟨0,rfl,by simp,by omega,Zad.refl _ _ _,fun i h=>by omega,fun i h _=>hc i h,hfr⟩
   case round=>
    obtain⟨j,rfl,rfl,hj,ht,hA,hB,hF⟩:=hrel;have HT:=Zab ht;have HA:=Zab hA;have HBB:=Zab hB;have HF:=Zab hF;clear ht hA hB hF
    by_cases hlt:j < L.length
    · have hcj:wr.cell? ⟨b,off+j,none⟩=some (.int .i64 L[j]):=HBB.out j hlt Zl_
      have hfj:wr.frozen? ⟨b,off+j,none⟩=false:=HF.out j;go_wp2;go_roundw
      case rel=>
       refine⟨j+1,by go_num,by go_num,by omega,HT.out.trans (Zad.setCell _ _ _ _ _ ⟨hlo,hhi⟩),fun i hi'=>?_,fun i h hi'=>?_,fun i=>?_⟩
       · by_cases e:i=j
         · subst e;exact World.cell?_setCell_same' _ _ _ (by rw [hcj];rfl)
         · rw [show (wr.setCell ⟨b,off+j,none⟩ (.int .i64 (k+j))).cell? ⟨b,off+i,none⟩=wr.cell? ⟨b,off+i,none⟩ from by apply World.cell?_setCell_other;simp only [ne_eq,Addr.mk.injEq,not_and];omega]
           exact HA.out i (by omega)
       · rw [show (wr.setCell ⟨b,off+j,none⟩ (.int .i64 (k+j))).cell? ⟨b,off+i,none⟩=wr.cell? ⟨b,off+i,none⟩ from by apply World.cell?_setCell_other;simp only [ne_eq,Addr.mk.injEq,not_and];omega]
         exact HBB.out i h (by omega)
       · rw [World.frozen?_setCell]
         exact HF.out i
      case measure=>simp [intOf];omega
    · have e:j=L.length:=by omega
      subst e;go_wp2;go_ret;refine⟨rfl,HT.out,Or.inr ⟨b,off,cap,by rw [ZbV],?_,by rw [ZbV];unfold maxLen;omega,Zk_ hbw HT.out.size,fun i h=>?_,hlo,hhi,HF.out⟩⟩
      · intro e;have:=congrArg List.length e;rw [ZbV] at this;simp at this;exact hne this
      · rw [Zh2];exact HA.out i (by rw [ZbV] at h;exact h)
theorem Zjg (lo:Nat) (v:Value) (n:Nat) (k:Int) (w:World) (hv:Zau lo w v (ZdM k n)) (h0:0≤k) (hk:k+n≤4000000000000000000) :
 Calls prog 126 #[v,.int .i64 k] w fun e w'=>e=.returned (.int .i64 (k+n))∧Zw_ w w':=by
 have HV:=Zab hv;obtain⟨a,cap,rfl⟩:=hv.form;clear hv;rw [ZbV] at HV;rw [ZbV];go_enter func126,ntmps126;go_wp2
 go_loop [5,1] (fun i q=>∃ j:Nat,i=.int .i64 j∧q=.int .i64 (k+j)∧j≤n) (fun i _=>n - (intOf i).toNat)
 case atStart=>exact⟨0,rfl,by simp,by omega⟩
 case round=>
  obtain⟨j,rfl,rfl,hj⟩:=hrel
  by_cases hlt:j < n
  · obtain⟨b,off,rfl,hbw,hc⟩:=HV.out.full' (by rw [ZbV];omega)
    have hcj:w.cell? ⟨b,off+j,none⟩=some (.int .i64 (k+j)):=by rw [hc j (by rw [ZbV];omega),Zh2]
    clear hc;go_wp2
    go_round
    case rel=>exact⟨j+1,by go_num,by go_num,by omega⟩
    case measure=>simp [intOf];omega
  · have e:j=n:=by omega
    subst e;go_wp2;go_ret;exact⟨rfl,Below.refl _ _⟩
def Zfx (b o _c0 _c1:Nat) (w:World) (x:Le):Prop:=Zdt x∧ZcX w b o x
theorem Zfx.near {b o c0 c1 o1 d0 d1:Nat} {w w':World} {x:Le} (h:Zfx b o c0 c1 w x) (hn:ZbW b o1 4 d0 d1 w w') (ho:o+4≤o1∨o1+4≤o) (hi:c1≤d0∨d1≤c0) (hb:b < c0∨c1≤b):Zfx b o c0 c1 w' x:=by
 obtain⟨hs,hc⟩:=h;obtain⟨h0,h1,h2,h3⟩:=hc;have e:∀ t,t < 4→w'.cell? ⟨b,o+t,none⟩=w.cell? ⟨b,o+t,none⟩:=fun t ht=>hn.cell _ (by omega)
 have e0:w'.cell? ⟨b,o,none⟩=w.cell? ⟨b,o,none⟩:=hn.cell _ (by omega);exact⟨hs,⟨e0.trans h0,(e 1 (by omega)).trans h1,(e 2 (by omega)).trans h2,(e 3 (by omega)).trans h3⟩⟩
theorem Zfx.touch {b o c0 c1:Nat} {lo hi:Nat} {w w':World} {x:Le} (h:Zfx b o c0 c1 w x) (ht:Zad lo hi w w') (hlt:b < w.heap.size) (hb:b < lo∨hi≤b) (_hi:c1≤lo∨hi≤c0):Zfx b o c0 c1 w' x:=by
 obtain⟨hs,hc⟩:=h;obtain⟨h0,h1,h2,h3⟩:=hc;exact⟨hs,⟨(ht.cell (p:=⟨b,o,none⟩) hlt hb).trans h0,(ht.cell (p:=⟨b,o+1,none⟩) hlt hb).trans h1,(ht.cell (p:=⟨b,o+2,none⟩) hlt hb).trans h2,(ht.cell (p:=⟨b,o+3,none⟩) hlt hb).trans h3⟩⟩
theorem Zfx.below {b o c0 c1:Nat} {w w':World} {x:Le} (h:Zfx b o c0 c1 w x) (ht:Zw_ w w') (hlt:b < w.heap.size):Zfx b o c0 c1 w' x:=by
 obtain⟨hs,hc⟩:=h;obtain⟨h0,h1,h2,h3⟩:=hc;exact⟨hs,⟨(ht.cell (p:=⟨b,o,none⟩) hlt).trans h0,(ht.cell (p:=⟨b,o+1,none⟩) hlt).trans h1,(ht.cell (p:=⟨b,o+2,none⟩) hlt).trans h2,(ht.cell (p:=⟨b,o+3,none⟩) hlt).trans h3⟩⟩
structure ZeL (lo hi:Nat) (w:World) (b off n:Nat) (c:Nat→Nat) (X:Nat→Le):Prop where
 lt:b < w.heap.size
 low:lo≤b
 bc:b < c 0
 bh:b < hi
 mono:∀ i,i < n→c i≤c (i+1)
 top:c n≤hi
 frz:∀ i,w.frozen? ⟨b,i,none⟩=false
 row:∀ i,i < n→Zfx b (off+i*4) (c i) (c (i+1)) w (X i)
theorem ZeL.le {lo hi:Nat} {w:World} {b off n:Nat} {c:Nat→Nat} {X:Nat→Le} (h:ZeL lo hi w b off n c X) {i:Nat}:∀ {j:Nat},i≤j→j≤n→c i≤c j:=by
 intro j
 induction j with
 | zero=>intro hij _;have:i=0:=by omega
         subst this;exact Nat.le_refl _
 | succ j ih=>
  intro hij hjn
  by_cases e:i=j+1
  · subst e;exact Nat.le_refl _
  · exact Nat.le_trans (ih (by omega) (by omega)) (h.mono j (by omega))
theorem ZeL.near {lo hi:Nat} {w w':World} {b off n:Nat} {c:Nat→Nat} {X:Nat→Le} (h:ZeL lo hi w b off n c X) {j:Nat} (hj:j < n) (hn:ZbW b (off+j*4) 4 (c j) (c (j+1)) w w') {x:Le} (hx:Zfx b (off+j*4) (c j) (c (j+1)) w' x):ZeL lo hi w' b off n c (fun i=>if i=j then x else X i):=by
 refine⟨Zk_ h.lt hn.size,h.low,h.bc,h.bh,h.mono,h.top,fun i=>(hn.frz i).trans (h.frz i),fun i hi'=>?_⟩
 by_cases e:i=j
 · subst e;rw [if_pos rfl];exact hx
 · rw [if_neg e]
   have h0:=h.le (Nat.zero_le i) (by omega);have hbc:=h.bc;refine (h.row i hi').near hn (by omega) ?_ (by omega)
   rcases Nat.lt_or_ge i j with hij | hij
   · exact Or.inl (h.le (by omega) (by omega))
   · exact Or.inr (h.le (by omega) (by omega))
theorem ZeL.touch {lo hi lo' hi':Nat} {w w':World} {b off n:Nat} {c:Nat→Nat} {X:Nat→Le} (h:ZeL lo hi w b off n c X) (ht:Zad lo' hi' w w') (ho:hi≤lo'∨hi'≤lo):ZeL lo hi w' b off n c X:=by
 have h1:=h.low;have h2:=h.bh;have h3:=h.top;have h4:=h.bc;refine⟨Zk_ h.lt ht.size,h.low,h.bc,h.bh,h.mono,h.top,fun i=>(ht.frozen (p:=⟨b,i,none⟩) h.lt (by simp only [];omega)).trans (h.frz i),fun i hi'=>?_⟩;have h5:=h.le (Nat.zero_le i) (by omega);have h6:=h.le (i:=i+1) (j:=n) (by omega) Zl_;exact (h.row i hi').touch ht h.lt (by omega) (by omega)
theorem ZeL.below {lo hi:Nat} {w w':World} {b off n:Nat} {c:Nat→Nat} {X:Nat→Le} (h:ZeL lo hi w b off n c X) (ht:Zw_ w w'):ZeL lo hi w' b off n c X:=
 ⟨Zk_ h.lt ht.size,h.low,h.bc,h.bh,h.mono,h.top,fun i=>(ht.frozen (p:=⟨b,i,none⟩) h.lt).trans (h.frz i),fun i hi'=>(h.row i hi').below ht h.lt⟩
theorem ZeL.to {lo hi:Nat} {w:World} {b off n:Nat} {c:Nat→Nat} {X Y:Nat→Le} (h:ZeL lo hi w b off n c X) (e:∀ i,i < n→X i=Y i):ZeL lo hi w b off n c Y:=
 ⟨h.lt,h.low,h.bc,h.bh,h.mono,h.top,h.frz,fun i hi'=>e i hi' ▸ h.row i hi'⟩
def ZaO (lo hi:Nat) (w:World) (v:Value) (Xl:List Le):Prop:=
 (∃ (a:Option Addr) (cap:Nat),v=.slice a 0 cap∧Xl=[])∨
 ∃ (b off cap:Nat) (c:Nat→Nat) (X:Nat→Le),v=.slice (some ⟨b,off,none⟩) Xl.length cap∧Xl≠[]∧Xl.length≤maxLen∧Xl.length≤cap∧(∀ i (h:i < Xl.length),X i=Xl[i])∧ZeL lo hi w b off Xl.length c X
theorem ZaO.touch {lo hi lo' hi':Nat} {w w':World} {v:Value} {Xl:List Le} (h:ZaO lo hi w v Xl) (ht:Zad lo' hi' w w') (ho:hi≤lo'∨hi'≤lo):ZaO lo hi w' v Xl:=by
 rcases h with h | ⟨b,off,cap,c,X,h1,h2,h3,h4,h5,h6⟩
 · exact Or.inl h
 · exact Or.inr ⟨b,off,cap,c,X,h1,h2,h3,h4,h5,h6.touch ht ho⟩
theorem ZaO.below {lo hi:Nat} {w w':World} {v:Value} {Xl:List Le} (h:ZaO lo hi w v Xl) (ht:Zw_ w w'):ZaO lo hi w' v Xl:=by
 rcases h with h | ⟨b,off,cap,c,X,h1,h2,h3,h4,h5,h6⟩
 · exact Or.inl h
 · exact Or.inr ⟨b,off,cap,c,X,h1,h2,h3,h4,h5,h6.below ht⟩
theorem ZaO.form {lo hi:Nat} {w:World} {v:Value} {Xl:List Le} (h:ZaO lo hi w v Xl):∃ a cap,v=.slice a Xl.length cap:=by
 rcases h with ⟨a,cap,h,rfl⟩ | ⟨b,off,cap,c,X,h1,_⟩
 · exact⟨a,cap,h⟩
 · exact⟨_,cap,h1⟩
theorem ZaO.at {lo hi:Nat} {w:World} {v:Value} {Xl:List Le} (h:ZaO lo hi w v Xl):ZbB lo w v Xl:=by
 rcases h with h | ⟨b,off,cap,c,X,h1,h2,h3,h4,h5,h6⟩
 · exact Or.inl h
 · refine Or.inr ⟨b,off,cap,h1,h2,h3,h6.lt,h6.low,h4,fun i hi'=>?_⟩
   have hr:=h6.row i hi';rw [h5 i hi'] at hr;obtain⟨hs,hc⟩:=hr;exact⟨hs,hc⟩
def Zsm (k:Int) (_x:Le):Le:=⟨mtB (k),mtB (k+1),k+1+1,k+1+1+1⟩
def Zsl (_x:Le):Nat:=4
def Zcz (Xl:List Le) (i:Nat):Nat:=((Xl.take i).map Zsl).sum
def Zjt (k:Int) (Xl:List Le):List Le:=Xl.mapIdx (fun i x=>Zsm (k+(Zcz Xl i:Int)) x)
theorem ZbN (k:Int) (Xl:List Le):(Zjt k Xl).length=Xl.length:=by unfold Zjt;simp
theorem ZjV (k:Int) (Xl:List Le) (i:Nat) (h:i < (Zjt k Xl).length) (h':i < Xl.length):(Zjt k Xl)[i]=Zsm (k+(Zcz Xl i:Int)) Xl[i]:=List.getElem_mapIdx (f:=fun i x=>Zsm (k+(Zcz Xl i:Int)) x) (h:=h)
theorem ZfR {Xl:List Le} {i:Nat} (h:i < Xl.length):Zcz Xl (i+1)=Zcz Xl i+Zsl Xl[i]:=by
 unfold Zcz;rw [List.take_succ_eq_append_getElem h,List.map_append,List.sum_append];simp
theorem Zja {Xl:List Le} (hn:Zd4 Xl):∀ {i:Nat},i≤Xl.length→Zcz Xl i≤i*3000000:=by
 intro i
 induction i with
 | zero=>intro _;simp [Zcz]
 | succ i ih=>
  intro hi';have h1:=ih (by omega);rw [ZfR (by omega)]
  have h2:Zsl Xl[i]≤3000000:=by
   have hsm:=hn.2 i (by omega);unfold ZgK at hsm;unfold Zsl
   omega
  omega
structure Zjc (wr:World) (b o c0 c1:Nat) (v:World) (y:Le):Prop where
 near:ZbW b o 4 c0 c1 wr v
 bc:b < c0
 cells:ZcX v b o y
 frz:∀ i,v.frozen? ⟨b,i,none⟩=false
 lt:b < v.heap.size
theorem Zjc.below {wr:World} {b o c0 c1:Nat} {v v':World} {y:Le} (h:Zjc wr b o c0 c1 v y) (hb:Below v.heap.size v v'):Zjc wr b o c0 c1 v' y:=
 ⟨h.near.trans (ZbW.below hb h.lt),h.bc,h.cells.below hb h.lt,fun i=>(hb.frozen (p:=⟨b,i,none⟩) h.lt).trans (h.frz i),Zk_ h.lt hb.size⟩
theorem Zjc.s0 {wr:World} {b o c0 c1:Nat} {v:World} {y:Le} (h:Zjc wr b o c0 c1 v y) (u:Zy_):Zjc wr b o c0 c1 (v.setCell ⟨b,o,none⟩ (.string u)) { y with tm:=u }:=by
 obtain⟨h0,h1,h2,h3⟩:=h.cells;have ht:Zad b (b+1) v (v.setCell ⟨b,o,none⟩ (.string u)):=Zad.setCell _ _ _ _ _ ⟨Nat.le_refl _,by simp only [];omega⟩;have hbc:=h.bc;exact⟨h.near.trans (ZbW.set _ _ _ _ _ _ _ _ (by omega) (by omega)),h.bc,⟨World.cell?_setCell_same' _ _ _ (by rw [h0];rfl),(cne (by omega)).trans h1,(cne (by omega)).trans h2,(cne (by omega)).trans h3⟩,fun i=>by rw [World.frozen?_setCell];exact h.frz i,by simpa [World.setCell] using h.lt⟩
theorem Zjc.s1 {wr:World} {b o c0 c1:Nat} {v:World} {y:Le} (h:Zjc wr b o c0 c1 v y) (u:Zy_):Zjc wr b o c0 c1 (v.setCell ⟨b,o+1,none⟩ (.string u)) { y with re:=u }:=by
 obtain⟨h0,h1,h2,h3⟩:=h.cells;have ht:Zad b (b+1) v (v.setCell ⟨b,o+1,none⟩ (.string u)):=Zad.setCell _ _ _ _ _ ⟨Nat.le_refl _,by simp only [];omega⟩;have hbc:=h.bc;exact⟨h.near.trans (ZbW.set _ _ _ _ _ _ _ _ (by omega) (by omega)),h.bc,⟨(cne (by omega)).trans h0,World.cell?_setCell_same' _ _ _ (by rw [h1];rfl),(cne (by omega)).trans h2,(cne (by omega)).trans h3⟩,fun i=>by rw [World.frozen?_setCell];exact h.frz i,by simpa [World.setCell] using h.lt⟩
theorem Zjc.s2 {wr:World} {b o c0 c1:Nat} {v:World} {y:Le} (h:Zjc wr b o c0 c1 v y) (u:Int):Zjc wr b o c0 c1 (v.setCell ⟨b,o+2,none⟩ (.int .i64 u)) { y with mo:=u }:=by
 obtain⟨h0,h1,h2,h3⟩:=h.cells;have ht:Zad b (b+1) v (v.setCell ⟨b,o+2,none⟩ (.int .i64 u)):=Zad.setCell _ _ _ _ _ ⟨Nat.le_refl _,by simp only [];omega⟩;have hbc:=h.bc;exact⟨h.near.trans (ZbW.set _ _ _ _ _ _ _ _ (by omega) (by omega)),h.bc,⟨(cne (by omega)).trans h0,(cne (by omega)).trans h1,World.cell?_setCell_same' _ _ _ (by rw [h2];rfl),(cne (by omega)).trans h3⟩,fun i=>by rw [World.frozen?_setCell];exact h.frz i,by simpa [World.setCell] using h.lt⟩
theorem Zjc.s3 {wr:World} {b o c0 c1:Nat} {v:World} {y:Le} (h:Zjc wr b o c0 c1 v y) (u:Int):Zjc wr b o c0 c1 (v.setCell ⟨b,o+3,none⟩ (.int .i64 u)) { y with fr:=u }:=by
 obtain⟨h0,h1,h2,h3⟩:=h.cells;have ht:Zad b (b+1) v (v.setCell ⟨b,o+3,none⟩ (.int .i64 u)):=Zad.setCell _ _ _ _ _ ⟨Nat.le_refl _,by simp only [];omega⟩;have hbc:=h.bc;exact⟨h.near.trans (ZbW.set _ _ _ _ _ _ _ _ (by omega) (by omega)),h.bc,⟨(cne (by omega)).trans h0,(cne (by omega)).trans h1,(cne (by omega)).trans h2,World.cell?_setCell_same' _ _ _ (by rw [h3];rfl)⟩,fun i=>by rw [World.frozen?_setCell];exact h.frz i,by simpa [World.setCell] using h.lt⟩
def ZfS (b o _c0 _c1:Nat) (w:World) (x:Pu):Prop:=Zcr x∧ZcQ w b o x
theorem ZfS.near {b o c0 c1 o1 d0 d1:Nat} {w w':World} {x:Pu} (h:ZfS b o c0 c1 w x) (hn:ZbW b o1 5 d0 d1 w w') (ho:o+5≤o1∨o1+5≤o) (hi:c1≤d0∨d1≤c0) (hb:b < c0∨c1≤b):ZfS b o c0 c1 w' x:=by
 obtain⟨hs,hc⟩:=h;obtain⟨h0,h1,h2,h3,h4⟩:=hc;have e:∀ t,t < 5→w'.cell? ⟨b,o+t,none⟩=w.cell? ⟨b,o+t,none⟩:=fun t ht=>hn.cell _ (by omega)
 have e0:w'.cell? ⟨b,o,none⟩=w.cell? ⟨b,o,none⟩:=hn.cell _ (by omega);exact⟨hs,⟨e0.trans h0,(e 1 (by omega)).trans h1,(e 2 (by omega)).trans h2,(e 3 (by omega)).trans h3,(e 4 (by omega)).trans h4⟩⟩
theorem ZfS.touch {b o c0 c1:Nat} {lo hi:Nat} {w w':World} {x:Pu} (h:ZfS b o c0 c1 w x) (ht:Zad lo hi w w') (hlt:b < w.heap.size) (hb:b < lo∨hi≤b) (_hi:c1≤lo∨hi≤c0):ZfS b o c0 c1 w' x:=by
 obtain⟨hs,hc⟩:=h;obtain⟨h0,h1,h2,h3,h4⟩:=hc;exact⟨hs,⟨(ht.cell (p:=⟨b,o,none⟩) hlt hb).trans h0,(ht.cell (p:=⟨b,o+1,none⟩) hlt hb).trans h1,(ht.cell (p:=⟨b,o+2,none⟩) hlt hb).trans h2,(ht.cell (p:=⟨b,o+3,none⟩) hlt hb).trans h3,(ht.cell (p:=⟨b,o+4,none⟩) hlt hb).trans h4⟩⟩
theorem ZfS.below {b o c0 c1:Nat} {w w':World} {x:Pu} (h:ZfS b o c0 c1 w x) (ht:Zw_ w w') (hlt:b < w.heap.size):ZfS b o c0 c1 w' x:=by
 obtain⟨hs,hc⟩:=h;obtain⟨h0,h1,h2,h3,h4⟩:=hc;exact⟨hs,⟨(ht.cell (p:=⟨b,o,none⟩) hlt).trans h0,(ht.cell (p:=⟨b,o+1,none⟩) hlt).trans h1,(ht.cell (p:=⟨b,o+2,none⟩) hlt).trans h2,(ht.cell (p:=⟨b,o+3,none⟩) hlt).trans h3,(ht.cell (p:=⟨b,o+4,none⟩) hlt).trans h4⟩⟩
structure ZeK (lo hi:Nat) (w:World) (b off n:Nat) (c:Nat→Nat) (X:Nat→Pu):Prop where
 lt:b < w.heap.size
 low:lo≤b
 bc:b < c 0
 bh:b < hi
 mono:∀ i,i < n→c i≤c (i+1)
 top:c n≤hi
 frz:∀ i,w.frozen? ⟨b,i,none⟩=false
 row:∀ i,i < n→ZfS b (off+i*5) (c i) (c (i+1)) w (X i)
theorem ZeK.le {lo hi:Nat} {w:World} {b off n:Nat} {c:Nat→Nat} {X:Nat→Pu} (h:ZeK lo hi w b off n c X) {i:Nat}:∀ {j:Nat},i≤j→j≤n→c i≤c j:=by
 intro j
 induction j with
 | zero=>intro hij _;have:i=0:=by omega
         subst this;exact Nat.le_refl _
 | succ j ih=>
  intro hij hjn
  by_cases e:i=j+1
  · subst e;exact Nat.le_refl _
  · exact Nat.le_trans (ih (by omega) (by omega)) (h.mono j (by omega))
theorem ZeK.near {lo hi:Nat} {w w':World} {b off n:Nat} {c:Nat→Nat} {X:Nat→Pu} (h:ZeK lo hi w b off n c X) {j:Nat} (hj:j < n) (hn:ZbW b (off+j*5) 5 (c j) (c (j+1)) w w') {x:Pu} (hx:ZfS b (off+j*5) (c j) (c (j+1)) w' x):ZeK lo hi w' b off n c (fun i=>if i=j then x else X i):=by
 refine⟨Zk_ h.lt hn.size,h.low,h.bc,h.bh,h.mono,h.top,fun i=>(hn.frz i).trans (h.frz i),fun i hi'=>?_⟩
 by_cases e:i=j
 · subst e;rw [if_pos rfl];exact hx
 · rw [if_neg e]
   have h0:=h.le (Nat.zero_le i) (by omega);have hbc:=h.bc;refine (h.row i hi').near hn (by omega) ?_ (by omega)
   rcases Nat.lt_or_ge i j with hij | hij
   · exact Or.inl (h.le (by omega) (by omega))
   · exact Or.inr (h.le (by omega) (by omega))
theorem ZeK.touch {lo hi lo' hi':Nat} {w w':World} {b off n:Nat} {c:Nat→Nat} {X:Nat→Pu} (h:ZeK lo hi w b off n c X) (ht:Zad lo' hi' w w') (ho:hi≤lo'∨hi'≤lo):ZeK lo hi w' b off n c X:=by
 have h1:=h.low;have h2:=h.bh;have h3:=h.top;have h4:=h.bc;refine⟨Zk_ h.lt ht.size,h.low,h.bc,h.bh,h.mono,h.top,fun i=>(ht.frozen (p:=⟨b,i,none⟩) h.lt (by simp only [];omega)).trans (h.frz i),fun i hi'=>?_⟩;have h5:=h.le (Nat.zero_le i) (by omega);have h6:=h.le (i:=i+1) (j:=n) (by omega) Zl_;exact (h.row i hi').touch ht h.lt (by omega) (by omega)
theorem ZeK.below {lo hi:Nat} {w w':World} {b off n:Nat} {c:Nat→Nat} {X:Nat→Pu} (h:ZeK lo hi w b off n c X) (ht:Zw_ w w'):ZeK lo hi w' b off n c X:=
 ⟨Zk_ h.lt ht.size,h.low,h.bc,h.bh,h.mono,h.top,fun i=>(ht.frozen (p:=⟨b,i,none⟩) h.lt).trans (h.frz i),fun i hi'=>(h.row i hi').below ht h.lt⟩
theorem ZeK.to {lo hi:Nat} {w:World} {b off n:Nat} {c:Nat→Nat} {X Y:Nat→Pu} (h:ZeK lo hi w b off n c X) (e:∀ i,i < n→X i=Y i):ZeK lo hi w b off n c Y:=
 ⟨h.lt,h.low,h.bc,h.bh,h.mono,h.top,h.frz,fun i hi'=>e i hi' ▸ h.row i hi'⟩
def Za5 (lo hi:Nat) (w:World) (v:Value) (Xl:List Pu):Prop:=
 (∃ (a:Option Addr) (cap:Nat),v=.slice a 0 cap∧Xl=[])∨
 ∃ (b off cap:Nat) (c:Nat→Nat) (X:Nat→Pu),v=.slice (some ⟨b,off,none⟩) Xl.length cap∧Xl≠[]∧Xl.length≤maxLen∧Xl.length≤cap∧(∀ i (h:i < Xl.length),X i=Xl[i])∧ZeK lo hi w b off Xl.length c X
theorem Za5.touch {lo hi lo' hi':Nat} {w w':World} {v:Value} {Xl:List Pu} (h:Za5 lo hi w v Xl) (ht:Zad lo' hi' w w') (ho:hi≤lo'∨hi'≤lo):Za5 lo hi w' v Xl:=by
 rcases h with h | ⟨b,off,cap,c,X,h1,h2,h3,h4,h5,h6⟩
 · exact Or.inl h
 · exact Or.inr ⟨b,off,cap,c,X,h1,h2,h3,h4,h5,h6.touch ht ho⟩
theorem Za5.below {lo hi:Nat} {w w':World} {v:Value} {Xl:List Pu} (h:Za5 lo hi w v Xl) (ht:Zw_ w w'):Za5 lo hi w' v Xl:=by
 rcases h with h | ⟨b,off,cap,c,X,h1,h2,h3,h4,h5,h6⟩
 · exact Or.inl h
 · exact Or.inr ⟨b,off,cap,c,X,h1,h2,h3,h4,h5,h6.below ht⟩
theorem Za5.form {lo hi:Nat} {w:World} {v:Value} {Xl:List Pu} (h:Za5 lo hi w v Xl):∃ a cap,v=.slice a Xl.length cap:=by
 rcases h with ⟨a,cap,h,rfl⟩ | ⟨b,off,cap,c,X,h1,_⟩
 · exact⟨a,cap,h⟩
 · exact⟨_,cap,h1⟩
theorem Za5.at {lo hi:Nat} {w:World} {v:Value} {Xl:List Pu} (h:Za5 lo hi w v Xl):ZbK lo w v Xl:=by
 rcases h with h | ⟨b,off,cap,c,X,h1,h2,h3,h4,h5,h6⟩
 · exact Or.inl h
 · refine Or.inr ⟨b,off,cap,h1,h2,h3,h6.lt,h6.low,h4,fun i hi'=>?_⟩
   have hr:=h6.row i hi';rw [h5 i hi'] at hr;obtain⟨hs,hc⟩:=hr;exact⟨hs,hc⟩
def Zsi (k:Int) (_x:Pu):Pu:=⟨mtB (k),mtB (k+1),mtB (k+1+1),k+1+1+1,k+1+1+1+1⟩
def Zsh (_x:Pu):Nat:=5
def Zc4 (Xl:List Pu) (i:Nat):Nat:=((Xl.take i).map Zsh).sum
def ZjS (k:Int) (Xl:List Pu):List Pu:=Xl.mapIdx (fun i x=>Zsi (k+(Zc4 Xl i:Int)) x)
theorem ZbP (k:Int) (Xl:List Pu):(ZjS k Xl).length=Xl.length:=by unfold ZjS;simp
theorem Zkk (k:Int) (Xl:List Pu) (i:Nat) (h:i < (ZjS k Xl).length) (h':i < Xl.length):(ZjS k Xl)[i]=Zsi (k+(Zc4 Xl i:Int)) Xl[i]:=List.getElem_mapIdx (f:=fun i x=>Zsi (k+(Zc4 Xl i:Int)) x) (h:=h)
theorem ZfO {Xl:List Pu} {i:Nat} (h:i < Xl.length):Zc4 Xl (i+1)=Zc4 Xl i+Zsh Xl[i]:=by
 unfold Zc4;rw [List.take_succ_eq_append_getElem h,List.map_append,List.sum_append];simp
theorem ZiV {Xl:List Pu} (hn:ZdW Xl):∀ {i:Nat},i≤Xl.length→Zc4 Xl i≤i*3000000:=by
 intro i
 induction i with
 | zero=>intro _;simp [Zc4]
 | succ i ih=>
  intro hi';have h1:=ih (by omega);rw [ZfO (by omega)]
  have h2:Zsh Xl[i]≤3000000:=by
   have hsm:=hn.2 i (by omega);unfold Zhs at hsm;unfold Zsh
   omega
  omega
structure Zhy (wr:World) (b o c0 c1:Nat) (v:World) (y:Pu):Prop where
 near:ZbW b o 5 c0 c1 wr v
 bc:b < c0
 cells:ZcQ v b o y
 frz:∀ i,v.frozen? ⟨b,i,none⟩=false
 lt:b < v.heap.size
theorem Zhy.below {wr:World} {b o c0 c1:Nat} {v v':World} {y:Pu} (h:Zhy wr b o c0 c1 v y) (hb:Below v.heap.size v v'):Zhy wr b o c0 c1 v' y:=
 ⟨h.near.trans (ZbW.below hb h.lt),h.bc,h.cells.below hb h.lt,fun i=>(hb.frozen (p:=⟨b,i,none⟩) h.lt).trans (h.frz i),Zk_ h.lt hb.size⟩
theorem Zhy.s0 {wr:World} {b o c0 c1:Nat} {v:World} {y:Pu} (h:Zhy wr b o c0 c1 v y) (u:Zy_):Zhy wr b o c0 c1 (v.setCell ⟨b,o,none⟩ (.string u)) { y with dr:=u }:=by
 obtain⟨h0,h1,h2,h3,h4⟩:=h.cells;have ht:Zad b (b+1) v (v.setCell ⟨b,o,none⟩ (.string u)):=Zad.setCell _ _ _ _ _ ⟨Nat.le_refl _,by simp only [];omega⟩;have hbc:=h.bc;exact⟨h.near.trans (ZbW.set _ _ _ _ _ _ _ _ (by omega) (by omega)),h.bc,⟨World.cell?_setCell_same' _ _ _ (by rw [h0];rfl),(cne (by omega)).trans h1,(cne (by omega)).trans h2,(cne (by omega)).trans h3,(cne (by omega)).trans h4⟩,fun i=>by rw [World.frozen?_setCell];exact h.frz i,by simpa [World.setCell] using h.lt⟩
theorem Zhy.s1 {wr:World} {b o c0 c1:Nat} {v:World} {y:Pu} (h:Zhy wr b o c0 c1 v y) (u:Zy_):Zhy wr b o c0 c1 (v.setCell ⟨b,o+1,none⟩ (.string u)) { y with tm:=u }:=by
 obtain⟨h0,h1,h2,h3,h4⟩:=h.cells;have ht:Zad b (b+1) v (v.setCell ⟨b,o+1,none⟩ (.string u)):=Zad.setCell _ _ _ _ _ ⟨Nat.le_refl _,by simp only [];omega⟩;have hbc:=h.bc;exact⟨h.near.trans (ZbW.set _ _ _ _ _ _ _ _ (by omega) (by omega)),h.bc,⟨(cne (by omega)).trans h0,World.cell?_setCell_same' _ _ _ (by rw [h1];rfl),(cne (by omega)).trans h2,(cne (by omega)).trans h3,(cne (by omega)).trans h4⟩,fun i=>by rw [World.frozen?_setCell];exact h.frz i,by simpa [World.setCell] using h.lt⟩
theorem Zhy.s2 {wr:World} {b o c0 c1:Nat} {v:World} {y:Pu} (h:Zhy wr b o c0 c1 v y) (u:Zy_):Zhy wr b o c0 c1 (v.setCell ⟨b,o+2,none⟩ (.string u)) { y with re:=u }:=by
 obtain⟨h0,h1,h2,h3,h4⟩:=h.cells;have ht:Zad b (b+1) v (v.setCell ⟨b,o+2,none⟩ (.string u)):=Zad.setCell _ _ _ _ _ ⟨Nat.le_refl _,by simp only [];omega⟩;have hbc:=h.bc;exact⟨h.near.trans (ZbW.set _ _ _ _ _ _ _ _ (by omega) (by omega)),h.bc,⟨(cne (by omega)).trans h0,(cne (by omega)).trans h1,World.cell?_setCell_same' _ _ _ (by rw [h2];rfl),(cne (by omega)).trans h3,(cne (by omega)).trans h4⟩,fun i=>by rw [World.frozen?_setCell];exact h.frz i,by simpa [World.setCell] using h.lt⟩
theorem Zhy.s3 {wr:World} {b o c0 c1:Nat} {v:World} {y:Pu} (h:Zhy wr b o c0 c1 v y) (u:Int):Zhy wr b o c0 c1 (v.setCell ⟨b,o+3,none⟩ (.int .i64 u)) { y with am:=u }:=by
 obtain⟨h0,h1,h2,h3,h4⟩:=h.cells;have ht:Zad b (b+1) v (v.setCell ⟨b,o+3,none⟩ (.int .i64 u)):=Zad.setCell _ _ _ _ _ ⟨Nat.le_refl _,by simp only [];omega⟩;have hbc:=h.bc;exact⟨h.near.trans (ZbW.set _ _ _ _ _ _ _ _ (by omega) (by omega)),h.bc,⟨(cne (by omega)).trans h0,(cne (by omega)).trans h1,(cne (by omega)).trans h2,World.cell?_setCell_same' _ _ _ (by rw [h3];rfl),(cne (by omega)).trans h4⟩,fun i=>by rw [World.frozen?_setCell];exact h.frz i,by simpa [World.setCell] using h.lt⟩
theorem Zhy.s4 {wr:World} {b o c0 c1:Nat} {v:World} {y:Pu} (h:Zhy wr b o c0 c1 v y) (u:Int):Zhy wr b o c0 c1 (v.setCell ⟨b,o+4,none⟩ (.int .i64 u)) { y with un:=u }:=by
 obtain⟨h0,h1,h2,h3,h4⟩:=h.cells;have ht:Zad b (b+1) v (v.setCell ⟨b,o+4,none⟩ (.int .i64 u)):=Zad.setCell _ _ _ _ _ ⟨Nat.le_refl _,by simp only [];omega⟩;have hbc:=h.bc;exact⟨h.near.trans (ZbW.set _ _ _ _ _ _ _ _ (by omega) (by omega)),h.bc,⟨(cne (by omega)).trans h0,(cne (by omega)).trans h1,(cne (by omega)).trans h2,(cne (by omega)).trans h3,World.cell?_setCell_same' _ _ _ (by rw [h4];rfl)⟩,fun i=>by rw [World.frozen?_setCell];exact h.frz i,by simpa [World.setCell] using h.lt⟩
def ZfT (b o c0 c1:Nat) (w:World) (x:Gr):Prop:=ZdF x∧∃ (vv0:Value),c0≤c1∧ZcU w b o x vv0∧Zat c0 c1 w vv0 x.vb
theorem ZfT.near {b o c0 c1 o1 d0 d1:Nat} {w w':World} {x:Gr} (h:ZfT b o c0 c1 w x) (hn:ZbW b o1 7 d0 d1 w w') (ho:o+7≤o1∨o1+7≤o) (hi:c1≤d0∨d1≤c0) (hb:b < c0∨c1≤b):ZfT b o c0 c1 w' x:=by
 obtain⟨hs,vv0,q0,hc,l0⟩:=h;obtain⟨h0,h1,h2,h3,h4,h5,h6⟩:=hc;have e:∀ t,t < 7→w'.cell? ⟨b,o+t,none⟩=w.cell? ⟨b,o+t,none⟩:=fun t ht=>hn.cell _ (by omega)
 have e0:w'.cell? ⟨b,o,none⟩=w.cell? ⟨b,o,none⟩:=hn.cell _ (by omega);exact⟨hs,vv0,q0,⟨e0.trans h0,(e 1 (by omega)).trans h1,(e 2 (by omega)).trans h2,(e 3 (by omega)).trans h3,(e 4 (by omega)).trans h4,(e 5 (by omega)).trans h5,(e 6 (by omega)).trans h6⟩,l0.near hn (by omega) (by omega)⟩
theorem ZfT.touch {b o c0 c1:Nat} {lo hi:Nat} {w w':World} {x:Gr} (h:ZfT b o c0 c1 w x) (ht:Zad lo hi w w') (hlt:b < w.heap.size) (hb:b < lo∨hi≤b) (hi':c1≤lo∨hi≤c0):ZfT b o c0 c1 w' x:=by
 obtain⟨hs,vv0,q0,hc,l0⟩:=h;obtain⟨h0,h1,h2,h3,h4,h5,h6⟩:=hc;exact⟨hs,vv0,q0,⟨(ht.cell (p:=⟨b,o,none⟩) hlt hb).trans h0,(ht.cell (p:=⟨b,o+1,none⟩) hlt hb).trans h1,(ht.cell (p:=⟨b,o+2,none⟩) hlt hb).trans h2,(ht.cell (p:=⟨b,o+3,none⟩) hlt hb).trans h3,(ht.cell (p:=⟨b,o+4,none⟩) hlt hb).trans h4,(ht.cell (p:=⟨b,o+5,none⟩) hlt hb).trans h5,(ht.cell (p:=⟨b,o+6,none⟩) hlt hb).trans h6⟩,l0.touch ht (by omega)⟩
theorem ZfT.below {b o c0 c1:Nat} {w w':World} {x:Gr} (h:ZfT b o c0 c1 w x) (ht:Zw_ w w') (hlt:b < w.heap.size):ZfT b o c0 c1 w' x:=by
 obtain⟨hs,vv0,q0,hc,l0⟩:=h;obtain⟨h0,h1,h2,h3,h4,h5,h6⟩:=hc;exact⟨hs,vv0,q0,⟨(ht.cell (p:=⟨b,o,none⟩) hlt).trans h0,(ht.cell (p:=⟨b,o+1,none⟩) hlt).trans h1,(ht.cell (p:=⟨b,o+2,none⟩) hlt).trans h2,(ht.cell (p:=⟨b,o+3,none⟩) hlt).trans h3,(ht.cell (p:=⟨b,o+4,none⟩) hlt).trans h4,(ht.cell (p:=⟨b,o+5,none⟩) hlt).trans h5,(ht.cell (p:=⟨b,o+6,none⟩) hlt).trans h6⟩,l0.below ht⟩
structure Zff (lo hi:Nat) (w:World) (b off n:Nat) (c:Nat→Nat×Nat) (X:Nat→Gr):Prop where
 lt:b < w.heap.size
 low:lo≤b
 bh:b < hi
 seg:∀ i,i < n→lo≤(c i).1∧(c i).2≤hi∧(b < (c i).1∨(c i).2≤b)
 mono:∀ i j,i < j→j < n→(c i).2≤(c j).1
 frz:∀ i,w.frozen? ⟨b,i,none⟩=false
 row:∀ i,i < n→ZfT b (off+i*7) (c i).1 (c i).2 w (X i)
theorem Zff.near {lo hi:Nat} {w w':World} {b off n:Nat} {c:Nat→Nat×Nat} {X:Nat→Gr} (h:Zff lo hi w b off n c X) {j:Nat} (hj:j < n) (hn:ZbW b (off+j*7) 7 (c j).1 (c j).2 w w') {x:Gr} (hx:ZfT b (off+j*7) (c j).1 (c j).2 w' x):Zff lo hi w' b off n c (fun i=>if i=j then x else X i):=by
 refine⟨Zk_ h.lt hn.size,h.low,h.bh,h.seg,h.mono,fun i=>(hn.frz i).trans (h.frz i),fun i hi'=>?_⟩
 by_cases e:i=j
 · subst e;rw [if_pos rfl];exact hx
 · rw [if_neg e]
   refine (h.row i hi').near hn (by omega) ?_ (h.seg i hi').2.2
   rcases Nat.lt_or_ge i j with hij | hij
   · exact Or.inl (h.mono i j hij hj)
   · exact Or.inr (h.mono j i (by omega) hi')
theorem Zff.touch {lo hi lo' hi':Nat} {w w':World} {b off n:Nat} {c:Nat→Nat×Nat} {X:Nat→Gr} (h:Zff lo hi w b off n c X) (ht:Zad lo' hi' w w') (ho:hi≤lo'∨hi'≤lo):Zff lo hi w' b off n c X:=by
 have h1:=h.low;have h2:=h.bh;refine⟨Zk_ h.lt ht.size,h.low,h.bh,h.seg,h.mono,fun i=>(ht.frozen (p:=⟨b,i,none⟩) h.lt (by simp only [];omega)).trans (h.frz i),fun i hi'=>?_⟩;have h5:=h.seg i hi';exact (h.row i hi').touch ht h.lt (by omega) (by omega)
theorem Zff.below {lo hi:Nat} {w w':World} {b off n:Nat} {c:Nat→Nat×Nat} {X:Nat→Gr} (h:Zff lo hi w b off n c X) (ht:Zw_ w w'):Zff lo hi w' b off n c X:=
 ⟨Zk_ h.lt ht.size,h.low,h.bh,h.seg,h.mono,fun i=>(ht.frozen (p:=⟨b,i,none⟩) h.lt).trans (h.frz i),fun i hi'=>(h.row i hi').below ht h.lt⟩
theorem Zff.to {lo hi:Nat} {w:World} {b off n:Nat} {c:Nat→Nat×Nat} {X Y:Nat→Gr} (h:Zff lo hi w b off n c X) (e:∀ i,i < n→X i=Y i):Zff lo hi w b off n c Y:=
 ⟨h.lt,h.low,h.bh,h.seg,h.mono,h.frz,fun i hi'=>e i hi' ▸ h.row i hi'⟩
def Za8 (lo hi:Nat) (w:World) (v:Value) (Xl:List Gr):Prop:=
 (∃ (a:Option Addr) (cap:Nat),v=.slice a 0 cap∧Xl=[])∨
 ∃ (b off cap:Nat) (c:Nat→Nat×Nat) (X:Nat→Gr),v=.slice (some ⟨b,off,none⟩) Xl.length cap∧Xl≠[]∧Xl.length≤maxLen∧Xl.length≤cap∧(∀ i (h:i < Xl.length),X i=Xl[i])∧Zff lo hi w b off Xl.length c X
theorem Za8.touch {lo hi lo' hi':Nat} {w w':World} {v:Value} {Xl:List Gr} (h:Za8 lo hi w v Xl) (ht:Zad lo' hi' w w') (ho:hi≤lo'∨hi'≤lo):Za8 lo hi w' v Xl:=by
 rcases h with h | ⟨b,off,cap,c,X,h1,h2,h3,h4,h5,h6⟩
 · exact Or.inl h
 · exact Or.inr ⟨b,off,cap,c,X,h1,h2,h3,h4,h5,h6.touch ht ho⟩
theorem Za8.below {lo hi:Nat} {w w':World} {v:Value} {Xl:List Gr} (h:Za8 lo hi w v Xl) (ht:Zw_ w w'):Za8 lo hi w' v Xl:=by
 rcases h with h | ⟨b,off,cap,c,X,h1,h2,h3,h4,h5,h6⟩
 · exact Or.inl h
 · exact Or.inr ⟨b,off,cap,c,X,h1,h2,h3,h4,h5,h6.below ht⟩
theorem Za8.form {lo hi:Nat} {w:World} {v:Value} {Xl:List Gr} (h:Za8 lo hi w v Xl):∃ a cap,v=.slice a Xl.length cap:=by
 rcases h with ⟨a,cap,h,rfl⟩ | ⟨b,off,cap,c,X,h1,_⟩
 · exact⟨a,cap,h⟩
 · exact⟨_,cap,h1⟩
theorem Za8.at {lo hi:Nat} {w:World} {v:Value} {Xl:List Gr} (h:Za8 lo hi w v Xl):ZbY lo w v Xl:=by
 rcases h with h | ⟨b,off,cap,c,X,h1,h2,h3,h4,h5,h6⟩
 · exact Or.inl h
 · refine Or.inr ⟨b,off,cap,h1,h2,h3,h6.lt,h6.low,h4,fun i hi'=>?_⟩
   have hr:=h6.row i hi';have g0:=h6.seg i hi';rw [h5 i hi'] at hr;obtain⟨hs,vv0,q0,hc,l0⟩:=hr;exact⟨hs,vv0,hc,(l0.in').mono (by omega)⟩
def Zsr (k:Int) (x:Gr):Gr:=⟨k,mtB (k+1),mtB (k+1+1),ZdM (k+1+1+1) x.vb.length,mtB (k+1+1+1+x.vb.length),mtB (k+1+1+1+x.vb.length+1),mtB (k+1+1+1+x.vb.length+1+1)⟩
def Zso (x:Gr):Nat:=6+x.vb.length
def Zcm (Xl:List Gr) (i:Nat):Nat:=((Xl.take i).map Zso).sum
def ZjM (k:Int) (Xl:List Gr):List Gr:=Xl.mapIdx (fun i x=>Zsr (k+(Zcm Xl i:Int)) x)
theorem ZbH (k:Int) (Xl:List Gr):(ZjM k Xl).length=Xl.length:=by unfold ZjM;simp
theorem Zjw (k:Int) (Xl:List Gr) (i:Nat) (h:i < (ZjM k Xl).length) (h':i < Xl.length):(ZjM k Xl)[i]=Zsr (k+(Zcm Xl i:Int)) Xl[i]:=List.getElem_mapIdx (f:=fun i x=>Zsr (k+(Zcm Xl i:Int)) x) (h:=h)
theorem ZfQ {Xl:List Gr} {i:Nat} (h:i < Xl.length):Zcm Xl (i+1)=Zcm Xl i+Zso Xl[i]:=by
 unfold Zcm;rw [List.take_succ_eq_append_getElem h,List.map_append,List.sum_append];simp
theorem Zi1 {Xl:List Gr} (hn:Zds Xl):∀ {i:Nat},i≤Xl.length→Zcm Xl i≤i*3000000:=by
 intro i
 induction i with
 | zero=>intro _;simp [Zcm]
 | succ i ih=>
  intro hi';have h1:=ih (by omega);rw [ZfQ (by omega)]
  have h2:Zso Xl[i]≤3000000:=by
   have hsm:=hn.2 i (by omega);unfold ZdC at hsm;unfold Zso
   omega
  omega
structure ZeW (wr:World) (b o c0 c1:Nat) (vv0:Value) (v:World) (y:Gr):Prop where
 near:ZbW b o 7 c0 c1 wr v
 bc:b < c0∨c1≤b
 q0:c0≤c1
 cells:ZcU v b o y vv0
 l0:Zat c0 c1 v vv0 y.vb
 frz:∀ i,v.frozen? ⟨b,i,none⟩=false
 lt:b < v.heap.size
theorem ZeW.below {wr:World} {b o c0 c1:Nat} {vv0:Value} {v v':World} {y:Gr} (h:ZeW wr b o c0 c1 vv0 v y) (hb:Below v.heap.size v v'):ZeW wr b o c0 c1 vv0 v' y:=
 ⟨h.near.trans (ZbW.below hb h.lt),h.bc,h.q0,h.cells.below hb h.lt,h.l0.below hb,fun i=>(hb.frozen (p:=⟨b,i,none⟩) h.lt).trans (h.frz i),Zk_ h.lt hb.size⟩
theorem ZeW.s0 {wr:World} {b o c0 c1:Nat} {vv0:Value} {v:World} {y:Gr} (h:ZeW wr b o c0 c1 vv0 v y) (u:Int):ZeW wr b o c0 c1 vv0 (v.setCell ⟨b,o,none⟩ (.int .i64 u)) { y with nu:=u }:=by
 obtain⟨h0,h1,h2,h3,h4,h5,h6⟩:=h.cells;have ht:Zad b (b+1) v (v.setCell ⟨b,o,none⟩ (.int .i64 u)):=Zad.setCell _ _ _ _ _ ⟨Nat.le_refl _,by simp only [];omega⟩;have hbc:=h.bc;have hq0:=h.q0;exact⟨h.near.trans (ZbW.set _ _ _ _ _ _ _ _ (by omega) (by omega)),h.bc,h.q0,⟨World.cell?_setCell_same' _ _ _ (by rw [h0];rfl),(cne (by omega)).trans h1,(cne (by omega)).trans h2,(cne (by omega)).trans h3,(cne (by omega)).trans h4,(cne (by omega)).trans h5,(cne (by omega)).trans h6⟩,h.l0.touch ht (by omega),fun i=>by rw [World.frozen?_setCell];exact h.frz i,by simpa [World.setCell] using h.lt⟩
theorem ZeW.s1 {wr:World} {b o c0 c1:Nat} {vv0:Value} {v:World} {y:Gr} (h:ZeW wr b o c0 c1 vv0 v y) (u:Zy_):ZeW wr b o c0 c1 vv0 (v.setCell ⟨b,o+1,none⟩ (.string u)) { y with tw:=u }:=by
 obtain⟨h0,h1,h2,h3,h4,h5,h6⟩:=h.cells;have ht:Zad b (b+1) v (v.setCell ⟨b,o+1,none⟩ (.string u)):=Zad.setCell _ _ _ _ _ ⟨Nat.le_refl _,by simp only [];omega⟩;have hbc:=h.bc;have hq0:=h.q0;exact⟨h.near.trans (ZbW.set _ _ _ _ _ _ _ _ (by omega) (by omega)),h.bc,h.q0,⟨(cne (by omega)).trans h0,World.cell?_setCell_same' _ _ _ (by rw [h1];rfl),(cne (by omega)).trans h2,(cne (by omega)).trans h3,(cne (by omega)).trans h4,(cne (by omega)).trans h5,(cne (by omega)).trans h6⟩,h.l0.touch ht (by omega),fun i=>by rw [World.frozen?_setCell];exact h.frz i,by simpa [World.setCell] using h.lt⟩
theorem ZeW.s2 {wr:World} {b o c0 c1:Nat} {vv0:Value} {v:World} {y:Gr} (h:ZeW wr b o c0 c1 vv0 v y) (u:Zy_):ZeW wr b o c0 c1 vv0 (v.setCell ⟨b,o+2,none⟩ (.string u)) { y with gb:=u }:=by
 obtain⟨h0,h1,h2,h3,h4,h5,h6⟩:=h.cells;have ht:Zad b (b+1) v (v.setCell ⟨b,o+2,none⟩ (.string u)):=Zad.setCell _ _ _ _ _ ⟨Nat.le_refl _,by simp only [];omega⟩;have hbc:=h.bc;have hq0:=h.q0;exact⟨h.near.trans (ZbW.set _ _ _ _ _ _ _ _ (by omega) (by omega)),h.bc,h.q0,⟨(cne (by omega)).trans h0,(cne (by omega)).trans h1,World.cell?_setCell_same' _ _ _ (by rw [h2];rfl),(cne (by omega)).trans h3,(cne (by omega)).trans h4,(cne (by omega)).trans h5,(cne (by omega)).trans h6⟩,h.l0.touch ht (by omega),fun i=>by rw [World.frozen?_setCell];exact h.frz i,by simpa [World.setCell] using h.lt⟩
theorem ZeW.s4 {wr:World} {b o c0 c1:Nat} {vv0:Value} {v:World} {y:Gr} (h:ZeW wr b o c0 c1 vv0 v y) (u:Zy_):ZeW wr b o c0 c1 vv0 (v.setCell ⟨b,o+4,none⟩ (.string u)) { y with kd:=u }:=by
 obtain⟨h0,h1,h2,h3,h4,h5,h6⟩:=h.cells;have ht:Zad b (b+1) v (v.setCell ⟨b,o+4,none⟩ (.string u)):=Zad.setCell _ _ _ _ _ ⟨Nat.le_refl _,by simp only [];omega⟩;have hbc:=h.bc;have hq0:=h.q0;exact⟨h.near.trans (ZbW.set _ _ _ _ _ _ _ _ (by omega) (by omega)),h.bc,h.q0,⟨(cne (by omega)).trans h0,(cne (by omega)).trans h1,(cne (by omega)).trans h2,(cne (by omega)).trans h3,World.cell?_setCell_same' _ _ _ (by rw [h4];rfl),(cne (by omega)).trans h5,(cne (by omega)).trans h6⟩,h.l0.touch ht (by omega),fun i=>by rw [World.frozen?_setCell];exact h.frz i,by simpa [World.setCell] using h.lt⟩
theorem ZeW.s5 {wr:World} {b o c0 c1:Nat} {vv0:Value} {v:World} {y:Gr} (h:ZeW wr b o c0 c1 vv0 v y) (u:Zy_):ZeW wr b o c0 c1 vv0 (v.setCell ⟨b,o+5,none⟩ (.string u)) { y with tm:=u }:=by
 obtain⟨h0,h1,h2,h3,h4,h5,h6⟩:=h.cells;have ht:Zad b (b+1) v (v.setCell ⟨b,o+5,none⟩ (.string u)):=Zad.setCell _ _ _ _ _ ⟨Nat.le_refl _,by simp only [];omega⟩;have hbc:=h.bc;have hq0:=h.q0;exact⟨h.near.trans (ZbW.set _ _ _ _ _ _ _ _ (by omega) (by omega)),h.bc,h.q0,⟨(cne (by omega)).trans h0,(cne (by omega)).trans h1,(cne (by omega)).trans h2,(cne (by omega)).trans h3,(cne (by omega)).trans h4,World.cell?_setCell_same' _ _ _ (by rw [h5];rfl),(cne (by omega)).trans h6⟩,h.l0.touch ht (by omega),fun i=>by rw [World.frozen?_setCell];exact h.frz i,by simpa [World.setCell] using h.lt⟩
theorem ZeW.s6 {wr:World} {b o c0 c1:Nat} {vv0:Value} {v:World} {y:Gr} (h:ZeW wr b o c0 c1 vv0 v y) (u:Zy_):ZeW wr b o c0 c1 vv0 (v.setCell ⟨b,o+6,none⟩ (.string u)) { y with pf:=u }:=by
 obtain⟨h0,h1,h2,h3,h4,h5,h6⟩:=h.cells;have ht:Zad b (b+1) v (v.setCell ⟨b,o+6,none⟩ (.string u)):=Zad.setCell _ _ _ _ _ ⟨Nat.le_refl _,by simp only [];omega⟩;have hbc:=h.bc;have hq0:=h.q0;exact⟨h.near.trans (ZbW.set _ _ _ _ _ _ _ _ (by omega) (by omega)),h.bc,h.q0,⟨(cne (by omega)).trans h0,(cne (by omega)).trans h1,(cne (by omega)).trans h2,(cne (by omega)).trans h3,(cne (by omega)).trans h4,(cne (by omega)).trans h5,World.cell?_setCell_same' _ _ _ (by rw [h6];rfl)⟩,h.l0.touch ht (by omega),fun i=>by rw [World.frozen?_setCell];exact h.frz i,by simpa [World.setCell] using h.lt⟩
theorem ZeW.m0' {wr:World} {b o c0 c1:Nat} {vv0:Value} {v v':World} {y:Gr} (h:ZeW wr b o c0 c1 vv0 v y) (ht:Zad c0 c1 v v') {L:List Int} (hl:Zat c0 c1 v' vv0 L):ZeW wr b o c0 c1 vv0 v' { y with vb:=L }:=by
 obtain⟨h0,h1,h2,h3,h4,h5,h6⟩:=h.cells;have hbc:=h.bc;have hq0:=h.q0;have hlt:=h.lt;have e:∀ i,v'.cell? ⟨b,i,none⟩=v.cell? ⟨b,i,none⟩:=fun i=>ht.cell (p:=⟨b,i,none⟩) h.lt (by simp only [];omega)
 exact⟨h.near.trans (ZbW.touch ht h.lt (by omega) (by omega) (by omega)),h.bc,h.q0,⟨(e _).trans h0,(e _).trans h1,(e _).trans h2,(e _).trans h3,(e _).trans h4,(e _).trans h5,(e _).trans h6⟩,hl,fun i=>(ht.frozen (p:=⟨b,i,none⟩) h.lt (by simp only [];omega)).trans (h.frz i),Zk_ h.lt ht.size⟩
def Zf5 (b o c0 c1:Nat) (w:World) (x:Ob):Prop:=ZcM x∧∃ (vv0 vv1:Value) (m1:Nat),c0≤m1∧m1≤c1∧ZcT w b o x vv0 vv1∧Zae c0 m1 w vv0 x.vs∧Zae m1 c1 w vv1 x.hs
theorem Zf5.near {b o c0 c1 o1 d0 d1:Nat} {w w':World} {x:Ob} (h:Zf5 b o c0 c1 w x) (hn:ZbW b o1 7 d0 d1 w w') (ho:o+7≤o1∨o1+7≤o) (hi:c1≤d0∨d1≤c0) (hb:b < c0∨c1≤b):Zf5 b o c0 c1 w' x:=by
 obtain⟨hs,vv0,vv1,m1,q0,q1,hc,l0,l1⟩:=h;obtain⟨h0,h1,h2,h3,h4,h5,h6⟩:=hc;have e:∀ t,t < 7→w'.cell? ⟨b,o+t,none⟩=w.cell? ⟨b,o+t,none⟩:=fun t ht=>hn.cell _ (by omega)
 have e0:w'.cell? ⟨b,o,none⟩=w.cell? ⟨b,o,none⟩:=hn.cell _ (by omega);exact⟨hs,vv0,vv1,m1,q0,q1,⟨e0.trans h0,(e 1 (by omega)).trans h1,(e 2 (by omega)).trans h2,(e 3 (by omega)).trans h3,(e 4 (by omega)).trans h4,(e 5 (by omega)).trans h5,(e 6 (by omega)).trans h6⟩,l0.near hn (by omega) (by omega),l1.near hn (by omega) (by omega)⟩
theorem Zf5.touch {b o c0 c1:Nat} {lo hi:Nat} {w w':World} {x:Ob} (h:Zf5 b o c0 c1 w x) (ht:Zad lo hi w w') (hlt:b < w.heap.size) (hb:b < lo∨hi≤b) (hi':c1≤lo∨hi≤c0):Zf5 b o c0 c1 w' x:=by
 obtain⟨hs,vv0,vv1,m1,q0,q1,hc,l0,l1⟩:=h;obtain⟨h0,h1,h2,h3,h4,h5,h6⟩:=hc;exact⟨hs,vv0,vv1,m1,q0,q1,⟨(ht.cell (p:=⟨b,o,none⟩) hlt hb).trans h0,(ht.cell (p:=⟨b,o+1,none⟩) hlt hb).trans h1,(ht.cell (p:=⟨b,o+2,none⟩) hlt hb).trans h2,(ht.cell (p:=⟨b,o+3,none⟩) hlt hb).trans h3,(ht.cell (p:=⟨b,o+4,none⟩) hlt hb).trans h4,(ht.cell (p:=⟨b,o+5,none⟩) hlt hb).trans h5,(ht.cell (p:=⟨b,o+6,none⟩) hlt hb).trans h6⟩,l0.touch ht (by omega),l1.touch ht (by omega)⟩
theorem Zf5.below {b o c0 c1:Nat} {w w':World} {x:Ob} (h:Zf5 b o c0 c1 w x) (ht:Zw_ w w') (hlt:b < w.heap.size):Zf5 b o c0 c1 w' x:=by
 obtain⟨hs,vv0,vv1,m1,q0,q1,hc,l0,l1⟩:=h;obtain⟨h0,h1,h2,h3,h4,h5,h6⟩:=hc;exact⟨hs,vv0,vv1,m1,q0,q1,⟨(ht.cell (p:=⟨b,o,none⟩) hlt).trans h0,(ht.cell (p:=⟨b,o+1,none⟩) hlt).trans h1,(ht.cell (p:=⟨b,o+2,none⟩) hlt).trans h2,(ht.cell (p:=⟨b,o+3,none⟩) hlt).trans h3,(ht.cell (p:=⟨b,o+4,none⟩) hlt).trans h4,(ht.cell (p:=⟨b,o+5,none⟩) hlt).trans h5,(ht.cell (p:=⟨b,o+6,none⟩) hlt).trans h6⟩,l0.below ht,l1.below ht⟩
structure Zfs (lo hi:Nat) (w:World) (b off n:Nat) (c:Nat→Nat×Nat) (X:Nat→Ob):Prop where
 lt:b < w.heap.size
 low:lo≤b
 bh:b < hi
 seg:∀ i,i < n→lo≤(c i).1∧(c i).2≤hi∧(b < (c i).1∨(c i).2≤b)
 mono:∀ i j,i < j→j < n→(c i).2≤(c j).1
 frz:∀ i,w.frozen? ⟨b,i,none⟩=false
 row:∀ i,i < n→Zf5 b (off+i*7) (c i).1 (c i).2 w (X i)
theorem Zfs.near {lo hi:Nat} {w w':World} {b off n:Nat} {c:Nat→Nat×Nat} {X:Nat→Ob} (h:Zfs lo hi w b off n c X) {j:Nat} (hj:j < n) (hn:ZbW b (off+j*7) 7 (c j).1 (c j).2 w w') {x:Ob} (hx:Zf5 b (off+j*7) (c j).1 (c j).2 w' x):Zfs lo hi w' b off n c (fun i=>if i=j then x else X i):=by
 refine⟨Zk_ h.lt hn.size,h.low,h.bh,h.seg,h.mono,fun i=>(hn.frz i).trans (h.frz i),fun i hi'=>?_⟩
 by_cases e:i=j
 · subst e;rw [if_pos rfl];exact hx
 · rw [if_neg e]
   refine (h.row i hi').near hn (by omega) ?_ (h.seg i hi').2.2
   rcases Nat.lt_or_ge i j with hij | hij
   · exact Or.inl (h.mono i j hij hj)
   · exact Or.inr (h.mono j i (by omega) hi')
theorem Zfs.touch {lo hi lo' hi':Nat} {w w':World} {b off n:Nat} {c:Nat→Nat×Nat} {X:Nat→Ob} (h:Zfs lo hi w b off n c X) (ht:Zad lo' hi' w w') (ho:hi≤lo'∨hi'≤lo):Zfs lo hi w' b off n c X:=by
 have h1:=h.low;have h2:=h.bh;refine⟨Zk_ h.lt ht.size,h.low,h.bh,h.seg,h.mono,fun i=>(ht.frozen (p:=⟨b,i,none⟩) h.lt (by simp only [];omega)).trans (h.frz i),fun i hi'=>?_⟩;have h5:=h.seg i hi';exact (h.row i hi').touch ht h.lt (by omega) (by omega)
theorem Zfs.below {lo hi:Nat} {w w':World} {b off n:Nat} {c:Nat→Nat×Nat} {X:Nat→Ob} (h:Zfs lo hi w b off n c X) (ht:Zw_ w w'):Zfs lo hi w' b off n c X:=
 ⟨Zk_ h.lt ht.size,h.low,h.bh,h.seg,h.mono,fun i=>(ht.frozen (p:=⟨b,i,none⟩) h.lt).trans (h.frz i),fun i hi'=>(h.row i hi').below ht h.lt⟩
theorem Zfs.to {lo hi:Nat} {w:World} {b off n:Nat} {c:Nat→Nat×Nat} {X Y:Nat→Ob} (h:Zfs lo hi w b off n c X) (e:∀ i,i < n→X i=Y i):Zfs lo hi w b off n c Y:=
 ⟨h.lt,h.low,h.bh,h.seg,h.mono,h.frz,fun i hi'=>e i hi' ▸ h.row i hi'⟩
def Za2 (lo hi:Nat) (w:World) (v:Value) (Xl:List Ob):Prop:=
 (∃ (a:Option Addr) (cap:Nat),v=.slice a 0 cap∧Xl=[])∨
 ∃ (b off cap:Nat) (c:Nat→Nat×Nat) (X:Nat→Ob),v=.slice (some ⟨b,off,none⟩) Xl.length cap∧Xl≠[]∧Xl.length≤maxLen∧Xl.length≤cap∧(∀ i (h:i < Xl.length),X i=Xl[i])∧Zfs lo hi w b off Xl.length c X
theorem Za2.touch {lo hi lo' hi':Nat} {w w':World} {v:Value} {Xl:List Ob} (h:Za2 lo hi w v Xl) (ht:Zad lo' hi' w w') (ho:hi≤lo'∨hi'≤lo):Za2 lo hi w' v Xl:=by
 rcases h with h | ⟨b,off,cap,c,X,h1,h2,h3,h4,h5,h6⟩
 · exact Or.inl h
 · exact Or.inr ⟨b,off,cap,c,X,h1,h2,h3,h4,h5,h6.touch ht ho⟩
theorem Za2.below {lo hi:Nat} {w w':World} {v:Value} {Xl:List Ob} (h:Za2 lo hi w v Xl) (ht:Zw_ w w'):Za2 lo hi w' v Xl:=by
 rcases h with h | ⟨b,off,cap,c,X,h1,h2,h3,h4,h5,h6⟩
 · exact Or.inl h
 · exact Or.inr ⟨b,off,cap,c,X,h1,h2,h3,h4,h5,h6.below ht⟩
theorem Za2.form {lo hi:Nat} {w:World} {v:Value} {Xl:List Ob} (h:Za2 lo hi w v Xl):∃ a cap,v=.slice a Xl.length cap:=by
 rcases h with ⟨a,cap,h,rfl⟩ | ⟨b,off,cap,c,X,h1,_⟩
 · exact⟨a,cap,h⟩
 · exact⟨_,cap,h1⟩
theorem Za2.at {lo hi:Nat} {w:World} {v:Value} {Xl:List Ob} (h:Za2 lo hi w v Xl):Zbs lo w v Xl:=by
 rcases h with h | ⟨b,off,cap,c,X,h1,h2,h3,h4,h5,h6⟩
 · exact Or.inl h
 · refine Or.inr ⟨b,off,cap,h1,h2,h3,h6.lt,h6.low,h4,fun i hi'=>?_⟩
   have hr:=h6.row i hi';have g0:=h6.seg i hi';rw [h5 i hi'] at hr;obtain⟨hs,vv0,vv1,m1,q0,q1,hc,l0,l1⟩:=hr;exact⟨hs,vv0,vv1,hc,(l0.in').mono (by omega),(l1.in').mono (by omega)⟩
def Zsk (k:Int) (x:Ob):Ob:=⟨mtB (k),mtB (k+1),mtB (k+1+1),Zec (k+1+1+1) x.vs.length,((k+1+1+1+x.vs.length) % 3 == 0),Zec (k+1+1+1+x.vs.length+1) x.hs.length,k+1+1+1+x.vs.length+1+x.hs.length⟩
def Zsf (x:Ob):Nat:=5+x.vs.length+x.hs.length
def Zb6 (Xl:List Ob) (i:Nat):Nat:=((Xl.take i).map Zsf).sum
def Zjq (k:Int) (Xl:List Ob):List Ob:=Xl.mapIdx (fun i x=>Zsk (k+(Zb6 Xl i:Int)) x)
theorem ZbJ (k:Int) (Xl:List Ob):(Zjq k Xl).length=Xl.length:=by unfold Zjq;simp
theorem Zj6 (k:Int) (Xl:List Ob) (i:Nat) (h:i < (Zjq k Xl).length) (h':i < Xl.length):(Zjq k Xl)[i]=Zsk (k+(Zb6 Xl i:Int)) Xl[i]:=List.getElem_mapIdx (f:=fun i x=>Zsk (k+(Zb6 Xl i:Int)) x) (h:=h)
theorem Zf3 {Xl:List Ob} {i:Nat} (h:i < Xl.length):Zb6 Xl (i+1)=Zb6 Xl i+Zsf Xl[i]:=by
 unfold Zb6;rw [List.take_succ_eq_append_getElem h,List.map_append,List.sum_append];simp
theorem Zis {Xl:List Ob} (hn:ZbD Xl):∀ {i:Nat},i≤Xl.length→Zb6 Xl i≤i*3000000:=by
 intro i
 induction i with
 | zero=>intro _;simp [Zb6]
 | succ i ih=>
  intro hi';have h1:=ih (by omega);rw [Zf3 (by omega)]
  have h2:Zsf Xl[i]≤3000000:=by
   have hsm:=hn.2 i (by omega);unfold ZdB at hsm;unfold Zsf
   omega
  omega
structure ZeU (wr:World) (b o c0 c1 m1:Nat) (vv0 vv1:Value) (v:World) (y:Ob):Prop where
 near:ZbW b o 7 c0 c1 wr v
 bc:b < c0∨c1≤b
 q0:c0≤m1
 q1:m1≤c1
 cells:ZcT v b o y vv0 vv1
 l0:Zae c0 m1 v vv0 y.vs
 l1:Zae m1 c1 v vv1 y.hs
 frz:∀ i,v.frozen? ⟨b,i,none⟩=false
 lt:b < v.heap.size
theorem ZeU.below {wr:World} {b o c0 c1 m1:Nat} {vv0 vv1:Value} {v v':World} {y:Ob} (h:ZeU wr b o c0 c1 m1 vv0 vv1 v y) (hb:Below v.heap.size v v'):ZeU wr b o c0 c1 m1 vv0 vv1 v' y:=
 ⟨h.near.trans (ZbW.below hb h.lt),h.bc,h.q0,h.q1,h.cells.below hb h.lt,h.l0.below hb,h.l1.below hb,fun i=>(hb.frozen (p:=⟨b,i,none⟩) h.lt).trans (h.frz i),Zk_ h.lt hb.size⟩
theorem ZeU.s0 {wr:World} {b o c0 c1 m1:Nat} {vv0 vv1:Value} {v:World} {y:Ob} (h:ZeU wr b o c0 c1 m1 vv0 vv1 v y) (u:Zy_):ZeU wr b o c0 c1 m1 vv0 vv1 (v.setCell ⟨b,o,none⟩ (.string u)) { y with kd:=u }:=by
 obtain⟨h0,h1,h2,h3,h4,h5,h6⟩:=h.cells;have ht:Zad b (b+1) v (v.setCell ⟨b,o,none⟩ (.string u)):=Zad.setCell _ _ _ _ _ ⟨Nat.le_refl _,by simp only [];omega⟩;have hbc:=h.bc;have hq0:=h.q0;have hq1:=h.q1;exact⟨h.near.trans (ZbW.set _ _ _ _ _ _ _ _ (by omega) (by omega)),h.bc,h.q0,h.q1,⟨World.cell?_setCell_same' _ _ _ (by rw [h0];rfl),(cne (by omega)).trans h1,(cne (by omega)).trans h2,(cne (by omega)).trans h3,(cne (by omega)).trans h4,(cne (by omega)).trans h5,(cne (by omega)).trans h6⟩,h.l0.touch ht (by omega),h.l1.touch ht (by omega),fun i=>by rw [World.frozen?_setCell];exact h.frz i,by simpa [World.setCell] using h.lt⟩
theorem ZeU.s1 {wr:World} {b o c0 c1 m1:Nat} {vv0 vv1:Value} {v:World} {y:Ob} (h:ZeU wr b o c0 c1 m1 vv0 vv1 v y) (u:Zy_):ZeU wr b o c0 c1 m1 vv0 vv1 (v.setCell ⟨b,o+1,none⟩ (.string u)) { y with nm:=u }:=by
 obtain⟨h0,h1,h2,h3,h4,h5,h6⟩:=h.cells;have ht:Zad b (b+1) v (v.setCell ⟨b,o+1,none⟩ (.string u)):=Zad.setCell _ _ _ _ _ ⟨Nat.le_refl _,by simp only [];omega⟩;have hbc:=h.bc;have hq0:=h.q0;have hq1:=h.q1;exact⟨h.near.trans (ZbW.set _ _ _ _ _ _ _ _ (by omega) (by omega)),h.bc,h.q0,h.q1,⟨(cne (by omega)).trans h0,World.cell?_setCell_same' _ _ _ (by rw [h1];rfl),(cne (by omega)).trans h2,(cne (by omega)).trans h3,(cne (by omega)).trans h4,(cne (by omega)).trans h5,(cne (by omega)).trans h6⟩,h.l0.touch ht (by omega),h.l1.touch ht (by omega),fun i=>by rw [World.frozen?_setCell];exact h.frz i,by simpa [World.setCell] using h.lt⟩
theorem ZeU.s2 {wr:World} {b o c0 c1 m1:Nat} {vv0 vv1:Value} {v:World} {y:Ob} (h:ZeU wr b o c0 c1 m1 vv0 vv1 v y) (u:Zy_):ZeU wr b o c0 c1 m1 vv0 vv1 (v.setCell ⟨b,o+2,none⟩ (.string u)) { y with tm:=u }:=by
 obtain⟨h0,h1,h2,h3,h4,h5,h6⟩:=h.cells;have ht:Zad b (b+1) v (v.setCell ⟨b,o+2,none⟩ (.string u)):=Zad.setCell _ _ _ _ _ ⟨Nat.le_refl _,by simp only [];omega⟩;have hbc:=h.bc;have hq0:=h.q0;have hq1:=h.q1;exact⟨h.near.trans (ZbW.set _ _ _ _ _ _ _ _ (by omega) (by omega)),h.bc,h.q0,h.q1,⟨(cne (by omega)).trans h0,(cne (by omega)).trans h1,World.cell?_setCell_same' _ _ _ (by rw [h2];rfl),(cne (by omega)).trans h3,(cne (by omega)).trans h4,(cne (by omega)).trans h5,(cne (by omega)).trans h6⟩,h.l0.touch ht (by omega),h.l1.touch ht (by omega),fun i=>by rw [World.frozen?_setCell];exact h.frz i,by simpa [World.setCell] using h.lt⟩
theorem ZeU.s4 {wr:World} {b o c0 c1 m1:Nat} {vv0 vv1:Value} {v:World} {y:Ob} (h:ZeU wr b o c0 c1 m1 vv0 vv1 v y) (u:Bool):ZeU wr b o c0 c1 m1 vv0 vv1 (v.setCell ⟨b,o+4,none⟩ (.bool u)) { y with en:=u }:=by
 obtain⟨h0,h1,h2,h3,h4,h5,h6⟩:=h.cells;have ht:Zad b (b+1) v (v.setCell ⟨b,o+4,none⟩ (.bool u)):=Zad.setCell _ _ _ _ _ ⟨Nat.le_refl _,by simp only [];omega⟩;have hbc:=h.bc;have hq0:=h.q0;have hq1:=h.q1;exact⟨h.near.trans (ZbW.set _ _ _ _ _ _ _ _ (by omega) (by omega)),h.bc,h.q0,h.q1,⟨(cne (by omega)).trans h0,(cne (by omega)).trans h1,(cne (by omega)).trans h2,(cne (by omega)).trans h3,World.cell?_setCell_same' _ _ _ (by rw [h4];rfl),(cne (by omega)).trans h5,(cne (by omega)).trans h6⟩,h.l0.touch ht (by omega),h.l1.touch ht (by omega),fun i=>by rw [World.frozen?_setCell];exact h.frz i,by simpa [World.setCell] using h.lt⟩
theorem ZeU.s6 {wr:World} {b o c0 c1 m1:Nat} {vv0 vv1:Value} {v:World} {y:Ob} (h:ZeU wr b o c0 c1 m1 vv0 vv1 v y) (u:Int):ZeU wr b o c0 c1 m1 vv0 vv1 (v.setCell ⟨b,o+6,none⟩ (.int .i64 u)) { y with ver:=u }:=by
 obtain⟨h0,h1,h2,h3,h4,h5,h6⟩:=h.cells;have ht:Zad b (b+1) v (v.setCell ⟨b,o+6,none⟩ (.int .i64 u)):=Zad.setCell _ _ _ _ _ ⟨Nat.le_refl _,by simp only [];omega⟩;have hbc:=h.bc;have hq0:=h.q0;have hq1:=h.q1;exact⟨h.near.trans (ZbW.set _ _ _ _ _ _ _ _ (by omega) (by omega)),h.bc,h.q0,h.q1,⟨(cne (by omega)).trans h0,(cne (by omega)).trans h1,(cne (by omega)).trans h2,(cne (by omega)).trans h3,(cne (by omega)).trans h4,(cne (by omega)).trans h5,World.cell?_setCell_same' _ _ _ (by rw [h6];rfl)⟩,h.l0.touch ht (by omega),h.l1.touch ht (by omega),fun i=>by rw [World.frozen?_setCell];exact h.frz i,by simpa [World.setCell] using h.lt⟩
theorem ZeU.m0' {wr:World} {b o c0 c1 m1:Nat} {vv0 vv1:Value} {v v':World} {y:Ob} (h:ZeU wr b o c0 c1 m1 vv0 vv1 v y) (ht:Zad c0 m1 v v') {L:List Zy_} (hl:Zae c0 m1 v' vv0 L):ZeU wr b o c0 c1 m1 vv0 vv1 v' { y with vs:=L }:=by
 obtain⟨h0,h1,h2,h3,h4,h5,h6⟩:=h.cells;have hbc:=h.bc;have hq0:=h.q0;have hq1:=h.q1;have hlt:=h.lt;have e:∀ i,v'.cell? ⟨b,i,none⟩=v.cell? ⟨b,i,none⟩:=fun i=>ht.cell (p:=⟨b,i,none⟩) h.lt (by simp only [];omega)
 exact⟨h.near.trans (ZbW.touch ht h.lt (by omega) (by omega) (by omega)),h.bc,h.q0,h.q1,⟨(e _).trans h0,(e _).trans h1,(e _).trans h2,(e _).trans h3,(e _).trans h4,(e _).trans h5,(e _).trans h6⟩,hl,h.l1.touch ht (by omega),fun i=>(ht.frozen (p:=⟨b,i,none⟩) h.lt (by simp only [];omega)).trans (h.frz i),Zk_ h.lt ht.size⟩
theorem ZeU.m1' {wr:World} {b o c0 c1 m1:Nat} {vv0 vv1:Value} {v v':World} {y:Ob} (h:ZeU wr b o c0 c1 m1 vv0 vv1 v y) (ht:Zad m1 c1 v v') {L:List Zy_} (hl:Zae m1 c1 v' vv1 L):ZeU wr b o c0 c1 m1 vv0 vv1 v' { y with hs:=L }:=by
 obtain⟨h0,h1,h2,h3,h4,h5,h6⟩:=h.cells;have hbc:=h.bc;have hq0:=h.q0;have hq1:=h.q1;have hlt:=h.lt;have e:∀ i,v'.cell? ⟨b,i,none⟩=v.cell? ⟨b,i,none⟩:=fun i=>ht.cell (p:=⟨b,i,none⟩) h.lt (by simp only [];omega)
 exact⟨h.near.trans (ZbW.touch ht h.lt (by omega) (by omega) (by omega)),h.bc,h.q0,h.q1,⟨(e _).trans h0,(e _).trans h1,(e _).trans h2,(e _).trans h3,(e _).trans h4,(e _).trans h5,(e _).trans h6⟩,h.l0.touch ht (by omega),hl,fun i=>(ht.frozen (p:=⟨b,i,none⟩) h.lt (by simp only [];omega)).trans (h.frz i),Zk_ h.lt ht.size⟩
def ZoB (_:Tm):Prop:=True
def Zdo (Xl:List Tm):Prop:=Xl.length≤1048576∧∀ i (h:i < Xl.length),ZoB Xl[i]
theorem Zdo.of {Xl:List Tm} (h:Xl.length≤1048576):Zdo Xl:=⟨h,fun _ _=>trivial⟩
def Zf1 (b o _c0 _c1:Nat) (w:World) (x:Tm):Prop:=ZeS x∧Zd0 w b o x
theorem Zf1.near {b o c0 c1 o1 d0 d1:Nat} {w w':World} {x:Tm} (h:Zf1 b o c0 c1 w x) (hn:ZbW b o1 2 d0 d1 w w') (ho:o+2≤o1∨o1+2≤o) (hi:c1≤d0∨d1≤c0) (hb:b < c0∨c1≤b):Zf1 b o c0 c1 w' x:=by
 obtain⟨hs,hc⟩:=h;obtain⟨h0,h1⟩:=hc;have e:∀ t,t < 2→w'.cell? ⟨b,o+t,none⟩=w.cell? ⟨b,o+t,none⟩:=fun t ht=>hn.cell _ (by omega)
 have e0:w'.cell? ⟨b,o,none⟩=w.cell? ⟨b,o,none⟩:=hn.cell _ (by omega);exact⟨hs,⟨e0.trans h0,(e 1 (by omega)).trans h1⟩⟩
theorem Zf1.touch {b o c0 c1:Nat} {lo hi:Nat} {w w':World} {x:Tm} (h:Zf1 b o c0 c1 w x) (ht:Zad lo hi w w') (hlt:b < w.heap.size) (hb:b < lo∨hi≤b) (_hi:c1≤lo∨hi≤c0):Zf1 b o c0 c1 w' x:=by
 obtain⟨hs,hc⟩:=h;obtain⟨h0,h1⟩:=hc;exact⟨hs,⟨(ht.cell (p:=⟨b,o,none⟩) hlt hb).trans h0,(ht.cell (p:=⟨b,o+1,none⟩) hlt hb).trans h1⟩⟩
theorem Zf1.below {b o c0 c1:Nat} {w w':World} {x:Tm} (h:Zf1 b o c0 c1 w x) (ht:Zw_ w w') (hlt:b < w.heap.size):Zf1 b o c0 c1 w' x:=by
 obtain⟨hs,hc⟩:=h;obtain⟨h0,h1⟩:=hc;exact⟨hs,⟨(ht.cell (p:=⟨b,o,none⟩) hlt).trans h0,(ht.cell (p:=⟨b,o+1,none⟩) hlt).trans h1⟩⟩
structure ZeO (lo hi:Nat) (w:World) (b off n:Nat) (c:Nat→Nat) (X:Nat→Tm):Prop where
 lt:b < w.heap.size
 low:lo≤b
 bc:b < c 0
 bh:b < hi
 mono:∀ i,i < n→c i≤c (i+1)
 top:c n≤hi
 frz:∀ i,w.frozen? ⟨b,i,none⟩=false
 row:∀ i,i < n→Zf1 b (off+i*2) (c i) (c (i+1)) w (X i)
theorem ZeO.le {lo hi:Nat} {w:World} {b off n:Nat} {c:Nat→Nat} {X:Nat→Tm} (h:ZeO lo hi w b off n c X) {i:Nat}:∀ {j:Nat},i≤j→j≤n→c i≤c j:=by
 intro j
 induction j with
 | zero=>intro hij _;have:i=0:=by omega
         subst this;exact Nat.le_refl _
 | succ j ih=>
  intro hij hjn
  by_cases e:i=j+1
  · subst e;exact Nat.le_refl _
  · exact Nat.le_trans (ih (by omega) (by omega)) (h.mono j (by omega))
theorem ZeO.near {lo hi:Nat} {w w':World} {b off n:Nat} {c:Nat→Nat} {X:Nat→Tm} (h:ZeO lo hi w b off n c X) {j:Nat} (hj:j < n) (hn:ZbW b (off+j*2) 2 (c j) (c (j+1)) w w') {x:Tm} (hx:Zf1 b (off+j*2) (c j) (c (j+1)) w' x):ZeO lo hi w' b off n c (fun i=>if i=j then x else X i):=by
 refine⟨Zk_ h.lt hn.size,h.low,h.bc,h.bh,h.mono,h.top,fun i=>(hn.frz i).trans (h.frz i),fun i hi'=>?_⟩
 by_cases e:i=j
 · subst e;rw [if_pos rfl];exact hx
 · rw [if_neg e]
   have h0:=h.le (Nat.zero_le i) (by omega);have hbc:=h.bc;refine (h.row i hi').near hn (by omega) ?_ (by omega)
   rcases Nat.lt_or_ge i j with hij | hij
   · exact Or.inl (h.le (by omega) (by omega))
   · exact Or.inr (h.le (by omega) (by omega))
theorem ZeO.touch {lo hi lo' hi':Nat} {w w':World} {b off n:Nat} {c:Nat→Nat} {X:Nat→Tm} (h:ZeO lo hi w b off n c X) (ht:Zad lo' hi' w w') (ho:hi≤lo'∨hi'≤lo):ZeO lo hi w' b off n c X:=by
 have h1:=h.low;have h2:=h.bh;have h3:=h.top;have h4:=h.bc;refine⟨Zk_ h.lt ht.size,h.low,h.bc,h.bh,h.mono,h.top,fun i=>(ht.frozen (p:=⟨b,i,none⟩) h.lt (by simp only [];omega)).trans (h.frz i),fun i hi'=>?_⟩;have h5:=h.le (Nat.zero_le i) (by omega);have h6:=h.le (i:=i+1) (j:=n) (by omega) Zl_;exact (h.row i hi').touch ht h.lt (by omega) (by omega)
theorem ZeO.below {lo hi:Nat} {w w':World} {b off n:Nat} {c:Nat→Nat} {X:Nat→Tm} (h:ZeO lo hi w b off n c X) (ht:Zw_ w w'):ZeO lo hi w' b off n c X:=
 ⟨Zk_ h.lt ht.size,h.low,h.bc,h.bh,h.mono,h.top,fun i=>(ht.frozen (p:=⟨b,i,none⟩) h.lt).trans (h.frz i),fun i hi'=>(h.row i hi').below ht h.lt⟩
theorem ZeO.to {lo hi:Nat} {w:World} {b off n:Nat} {c:Nat→Nat} {X Y:Nat→Tm} (h:ZeO lo hi w b off n c X) (e:∀ i,i < n→X i=Y i):ZeO lo hi w b off n c Y:=
 ⟨h.lt,h.low,h.bc,h.bh,h.mono,h.top,h.frz,fun i hi'=>e i hi' ▸ h.row i hi'⟩
def Zck (lo hi:Nat) (w:World) (v:Value) (Xl:List Tm):Prop:=
 (∃ (a:Option Addr) (cap:Nat),v=.slice a 0 cap∧Xl=[])∨
 ∃ (b off cap:Nat) (c:Nat→Nat) (X:Nat→Tm),v=.slice (some ⟨b,off,none⟩) Xl.length cap∧Xl≠[]∧Xl.length≤maxLen∧Xl.length≤cap∧(∀ i (h:i < Xl.length),X i=Xl[i])∧ZeO lo hi w b off Xl.length c X
theorem Zck.touch {lo hi lo' hi':Nat} {w w':World} {v:Value} {Xl:List Tm} (h:Zck lo hi w v Xl) (ht:Zad lo' hi' w w') (ho:hi≤lo'∨hi'≤lo):Zck lo hi w' v Xl:=by
 rcases h with h | ⟨b,off,cap,c,X,h1,h2,h3,h4,h5,h6⟩
 · exact Or.inl h
 · exact Or.inr ⟨b,off,cap,c,X,h1,h2,h3,h4,h5,h6.touch ht ho⟩
theorem Zck.below {lo hi:Nat} {w w':World} {v:Value} {Xl:List Tm} (h:Zck lo hi w v Xl) (ht:Zw_ w w'):Zck lo hi w' v Xl:=by
 rcases h with h | ⟨b,off,cap,c,X,h1,h2,h3,h4,h5,h6⟩
 · exact Or.inl h
 · exact Or.inr ⟨b,off,cap,c,X,h1,h2,h3,h4,h5,h6.below ht⟩
theorem Zck.form {lo hi:Nat} {w:World} {v:Value} {Xl:List Tm} (h:Zck lo hi w v Xl):∃ a cap,v=.slice a Xl.length cap:=by
 rcases h with ⟨a,cap,h,rfl⟩ | ⟨b,off,cap,c,X,h1,_⟩
 · exact⟨a,cap,h⟩
 · exact⟨_,cap,h1⟩
theorem Zck.at {lo hi:Nat} {w:World} {v:Value} {Xl:List Tm} (h:Zck lo hi w v Xl):Zbo lo w v Xl:=by
 rcases h with h | ⟨b,off,cap,c,X,h1,h2,h3,h4,h5,h6⟩
 · exact Or.inl h
 · refine Or.inr ⟨b,off,cap,h1,h2,h3,h6.lt,h6.low,h4,fun i hi'=>?_⟩
   have hr:=h6.row i hi';rw [h5 i hi'] at hr;obtain⟨hs,hc⟩:=hr;exact⟨hs,hc⟩
def Zsg (k:Int) (_x:Tm):Tm:=⟨mtB (k),mtB (k+1)⟩
def ZsI (_x:Tm):Nat:=2
def ZeM (Xl:List Tm) (i:Nat):Nat:=((Xl.take i).map ZsI).sum
def Zo8 (k:Int) (Xl:List Tm):List Tm:=Xl.mapIdx (fun i x=>Zsg (k+(ZeM Xl i:Int)) x)
theorem ZdI (k:Int) (Xl:List Tm):(Zo8 k Xl).length=Xl.length:=by unfold Zo8;simp
theorem Zps (k:Int) (Xl:List Tm) (i:Nat) (h:i < (Zo8 k Xl).length) (h':i < Xl.length):(Zo8 k Xl)[i]=Zsg (k+(ZeM Xl i:Int)) Xl[i]:=List.getElem_mapIdx (f:=fun i x=>Zsg (k+(ZeM Xl i:Int)) x) (h:=h)
theorem ZhZ {Xl:List Tm} {i:Nat} (h:i < Xl.length):ZeM Xl (i+1)=ZeM Xl i+ZsI Xl[i]:=by
 unfold ZeM;rw [List.take_succ_eq_append_getElem h,List.map_append,List.sum_append];simp
theorem Zmj {Xl:List Tm} (hn:Zdo Xl):∀ {i:Nat},i≤Xl.length→ZeM Xl i≤i*3000000:=by
 intro i
 induction i with
 | zero=>intro _;simp [ZeM]
 | succ i ih=>
  intro hi';have h1:=ih (by omega);rw [ZhZ (by omega)]
  have h2:ZsI Xl[i]≤3000000:=by
   have hsm:=hn.2 i (by omega);unfold ZoB at hsm;unfold ZsI
   omega
  omega
structure ZnV (wr:World) (b o c0 c1:Nat) (v:World) (y:Tm):Prop where
 near:ZbW b o 2 c0 c1 wr v
 bc:b < c0
 cells:Zd0 v b o y
 frz:∀ i,v.frozen? ⟨b,i,none⟩=false
 lt:b < v.heap.size
theorem ZnV.below {wr:World} {b o c0 c1:Nat} {v v':World} {y:Tm} (h:ZnV wr b o c0 c1 v y) (hb:Below v.heap.size v v'):ZnV wr b o c0 c1 v' y:=
 ⟨h.near.trans (ZbW.below hb h.lt),h.bc,h.cells.below hb h.lt,fun i=>(hb.frozen (p:=⟨b,i,none⟩) h.lt).trans (h.frz i),Zk_ h.lt hb.size⟩
theorem ZnV.s0 {wr:World} {b o c0 c1:Nat} {v:World} {y:Tm} (h:ZnV wr b o c0 c1 v y) (u:Zy_):ZnV wr b o c0 c1 (v.setCell ⟨b,o,none⟩ (.string u)) { y with nm:=u }:=by
 obtain⟨h0,h1⟩:=h.cells;have ht:Zad b (b+1) v (v.setCell ⟨b,o,none⟩ (.string u)):=Zad.setCell _ _ _ _ _ ⟨Nat.le_refl _,by simp only [];omega⟩;have hbc:=h.bc;exact⟨h.near.trans (ZbW.set _ _ _ _ _ _ _ _ (by omega) (by omega)),h.bc,⟨World.cell?_setCell_same' _ _ _ (by rw [h0];rfl),(cne (by omega)).trans h1⟩,fun i=>by rw [World.frozen?_setCell];exact h.frz i,by simpa [World.setCell] using h.lt⟩
theorem ZnV.s1 {wr:World} {b o c0 c1:Nat} {v:World} {y:Tm} (h:ZnV wr b o c0 c1 v y) (u:Zy_):ZnV wr b o c0 c1 (v.setCell ⟨b,o+1,none⟩ (.string u)) { y with ov:=u }:=by
 obtain⟨h0,h1⟩:=h.cells;have ht:Zad b (b+1) v (v.setCell ⟨b,o+1,none⟩ (.string u)):=Zad.setCell _ _ _ _ _ ⟨Nat.le_refl _,by simp only [];omega⟩;have hbc:=h.bc;exact⟨h.near.trans (ZbW.set _ _ _ _ _ _ _ _ (by omega) (by omega)),h.bc,⟨(cne (by omega)).trans h0,World.cell?_setCell_same' _ _ _ (by rw [h1];rfl)⟩,fun i=>by rw [World.frozen?_setCell];exact h.frz i,by simpa [World.setCell] using h.lt⟩
end Go.Proofs.YtfohnageehneoaaGreat
