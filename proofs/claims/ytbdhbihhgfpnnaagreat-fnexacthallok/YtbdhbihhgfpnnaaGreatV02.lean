import Derived.Test.YtbdhbihhgfpnnaaGreatV01
import Derived.Laws.IdiomStrings
import Derived.Laws.Concat
import Derived.Deep.RegionWith
import Derived.Laws.IdiomCopy
import Derived.Lib.LazyBuf
import Derived.Deep.AppendLies
import Derived.Deep.OwnRows
import Derived.Maps.Own
import Derived.Maps.Views
import Derived.WideKeyEntry
import Derived.ProofKit
import Derived.Deep.Strs
import Derived.Deep.RegionHeld
set_option maxHeartbeats 16000000
set_option maxRecDepth 100000
open Go.Proofs.Tryz
namespace Go.Proofs.YtbdhbihhgfpnnaaGreat
section
open Go.RowKit Go.Deep
variable {lo hi:Nat} {a b w w':World} {v:Value}
structure Zaw (lo hi:Nat) (w w':World):Prop where
 os:w'.os=w.os
 tape:w'.tape=w.tape
 output:w'.output=w.output
 size:w.heap.size<=w'.heap.size
 block:∀ k,k < w.heap.size->(k < lo\/hi<=k)->w'.heap[k]?=w.heap[k]?
theorem Zaw.refl (lo hi:Nat) (w:World):Zaw lo hi w w:=⟨rfl,rfl,rfl,Nat.le_refl _,fun _ _ _=>rfl⟩
theorem Zaw.trans {c:World} (h:Zaw lo hi a b) (k:Zaw lo hi b c):Zaw lo hi a c:=
 ⟨k.os.trans h.os,k.tape.trans h.tape,k.output.trans h.output,Nat.le_trans h.size k.size,fun i hi' ho=>(k.block i (Zk_ hi' h.size) ho).trans (h.block i hi' ho)⟩
theorem Zaw.below (h:Below a.heap.size a b):Zaw lo hi a b:=⟨h.os,h.tape,h.output,h.size,fun k hk _=>h.block k hk⟩
theorem Zaw.setCell (lo hi:Nat) (w:World) (p:Addr) (u:Value) (h:lo<=p.block/\p.block < hi):Zaw lo hi w (w.setCell p u):=
 ⟨rfl,rfl,rfl,by simp [World.setCell],fun k _ ho=>Below.heap_setCell _ _ _ _ (by omega)⟩
theorem Zaw.cell (h:Zaw lo hi w w') {p:Addr} (hp:p.block < w.heap.size) (ho:p.block < lo\/hi<=p.block):w'.cell? p=w.cell? p:=World.cell?_of_block (w:=w) (h.block p.block hp ho)
theorem Zaw.frozen (h:Zaw lo hi w w') {p:Addr} (hp:p.block < w.heap.size) (ho:p.block < lo\/hi<=p.block):w'.frozen? p=w.frozen? p:=World.frozen?_of_block (w:=w) (h.block p.block hp ho)
theorem Zaw.under (h:Zaw lo hi a b) (hl:lo<=a.heap.size):Below lo a b:=⟨h.os,h.tape,h.output,h.size,fun k hk=>h.block k (by omega) (Or.inl hk)⟩
def Zaf (lo hi:Nat) (w:World) (v:Value) (L:List Zy_):Prop:=
 (∃ (a:Option Addr) (cap:Nat),v=.slice a 0 cap/\L=[])\/
 ∃ (b off cap:Nat),v=.slice (some ⟨b,off,none⟩) L.length cap/\L≠[]/\L.length<=maxLen/\b < w.heap.size/\
  (∀ i (h:i < L.length),w.cell? ⟨b,off+i,none⟩=some (.string L[i]))/\(∀ s ∈ L,s.size<=maxLen)/\lo<=b/\b < hi/\∀ i,w.frozen? ⟨b,off+i,none⟩=false
theorem Zaf.at {L:List Zy_} (h:Zaf lo hi w v L):Zae w v L:=by
 rcases h with h | ⟨b,off,cap,h1,h2,h3,h4,h5,h6,_⟩
 . exact Or.inl h
 . exact Or.inr ⟨b,off,cap,h1,h2,h3,h4,h5,h6⟩
theorem Zaf.touch {lo' hi':Nat}{L:List Zy_} (h:Zaf lo hi w v L) (ht:Zaw lo' hi' w w') (ho:hi<=lo'\/hi'<=lo):Zaf lo hi w' v L:=by
 rcases h with h | ⟨b,off,cap,h1,h2,h3,h4,h5,h6,h7,h8,h9⟩
 . exact Or.inl h
 . exact Or.inr ⟨b,off,cap,h1,h2,h3,Zk_ h4 ht.size,fun i hi'=>by rw [ht.cell (p:=⟨b,_,none⟩) h4 (by simp only [];omega)];exact h5 i hi',h6,h7,h8,fun i=>by rw [ht.frozen (p:=⟨b,_,none⟩) h4 (by simp only [];omega)];exact h9 i⟩
end
section
open Go.RowKit Go.Deep
theorem Tryz.size9:(prog.info? 9).map (·.size)=some 1:=by kernel_rfl
theorem Zez {B:Nat}{a:World} (b:Nat) (hb:B<=b):∀ (vs:List Value) (o:Nat) (w:World),Below B a w->Below B a (w.setCells b o vs)
 | [],_,_,h=>h
 | v :: r,o,w,h=>by
  rw [World.setCells];exact Zez b hb r (o+1) _ (h.setCell hb v)
theorem ZdK (b:Nat):∀ (vs:List Value) (o:Nat) (w:World),(w.setCells b o vs).heap.size=w.heap.size
 | [],_,_=>rfl
 | v :: r,o,w=>by rw [World.setCells,ZdK b r];simp [World.setCell]
theorem Ze4 (v:Value) (L:List Zy_) (w:World) (hv:Zae w v L) (hn:L.length<=1048576) :
 Calls prog 275 #[v] w fun e w'=>∃ v',e=.returned v'/\Zw_ w w'/\Zaf w.heap.size w'.heap.size w' v' L:=by
 have hnil:=fun W a n c=>Lib.run_eql_slice_nil (P:=prog) W 107 9 a n c 0 0 underlying107
 rcases hv with ⟨a,cap,rfl,rfl⟩ | ⟨b,off,cap,rfl,hne,hm,hbw,hc,hsz⟩
 . have hmk:∀ u:World,(Instr.makeSlice 107 (.int .i64 0) (.int .i64 0)).run prog u=.ok (.slice (some ⟨u.heap.size,0,none⟩) 0 0) (u.alloc (.cells (madeCells #[.string ⟨#[]⟩] 0) 9)):=
    fun u=>run_make_row' 107 9 (.string ⟨#[]⟩) 16 underlying107 Tryz.info9 rfl .i64 .i64 0 (by omega) (by omega) u
   have hcp:=fun (W:World) ty (d:Option Addr) dl dc=>run_copy_none (P:=prog) W 107 107 ty 9 d a dl dc 0 cap underlying107 Tryz.size9 (by simp)
   cases a with
   | none=>
    go_enter func275,ntmps275;go_wp2;go_ret;exact⟨_,rfl,Below.refl _ _,Or.inl ⟨_,_,rfl,rfl⟩⟩
   | some ad=>
    go_enter func275,ntmps275;go_wp2;go_ret;exact⟨_,rfl,Zb_.alloc Zl_ _,Or.inl ⟨_,_,rfl,rfl⟩⟩
 . have HM:Hd (L.length<=maxLen):=hm
   unfold maxLen at hm
   have hmk:∀ u:World,(Instr.makeSlice 107 (.int .i64 (L.length:Int)) (.int .i64 (L.length:Int))).run prog u=.ok (.slice (some ⟨u.heap.size,0,none⟩) L.length L.length) (u.alloc (.cells (madeCells #[.string ⟨#[]⟩] L.length) 9)):=
    fun u=>run_make_row' 107 9 (.string ⟨#[]⟩) 16 underlying107 Tryz.info9 rfl .i64 .i64 L.length (by omega) (by omega) u
   have hrow:=World.rowIs_made w (.string ⟨#[]⟩) L.length 9;have hcl:(L.map Value.string).length=L.length:=by simp
   have hcp:∀ ty,(Builtin.copy_ #[107,107] ty #[.slice (some ⟨w.heap.size,0,none⟩) L.length L.length,.slice (some ⟨b,off,none⟩) L.length cap]).run prog (w.alloc (.cells (madeCells #[.string ⟨#[]⟩] L.length) 9))=.ok (goInt L.length) ((w.alloc (.cells (madeCells #[.string ⟨#[]⟩] L.length) 9)).setCells w.heap.size 0 (L.map Value.string)):=fun ty=>by
    have:=run_copy_cells (P:=prog) (w.alloc (.cells (madeCells #[.string ⟨#[]⟩] L.length) 9)) 107 107 ty 9 w.heap.size 0 L.length L.length ⟨b,off,none⟩ L.length cap (L.map Value.string) underlying107 Tryz.size9 (by simp) (fun j u hj=>by
     obtain⟨hj1,hj2⟩:=List.getElem?_eq_some_iff.1 hj;rw [hcl] at hj1;rw [Go.WideShapes.add_plain,((Below.refl w.heap.size w).alloc Zl_ _).cell (p:=⟨b,off+j,none⟩) hbw,hc j hj1,<- hj2];simp) (fun j hj=>by rw [hcl] at hj;rw [Nat.zero_add,hrow.cell hj];rfl) (fun j _=>by rw [Nat.zero_add];exact hrow.frozen j) (fun u hu=>by
     obtain⟨s,_,rfl⟩:=List.mem_map.1 hu;rfl)
    rw [hcl] at this;exact this
   have HOWN:Hd (Zaf w.heap.size ((w.alloc (.cells (madeCells #[.string ⟨#[]⟩] L.length) 9)).setCells w.heap.size 0 (L.map Value.string)).heap.size ((w.alloc (.cells (madeCells #[.string ⟨#[]⟩] L.length) 9)).setCells w.heap.size 0 (L.map Value.string)) (.slice (some ⟨w.heap.size,0,none⟩) L.length L.length) L):=by
    refine Or.inr ⟨w.heap.size,0,L.length,rfl,hne,HM.o,by rw [ZdK];simp,fun i hi=>?_,hsz,Nat.le_refl _,by rw [ZdK];simp,fun i=>?_⟩
    . have:=World.cell?_setCells_in w.heap.size (L.map Value.string) 0 (w.alloc (.cells (madeCells #[.string ⟨#[]⟩] L.length) 9)) (fun j hj=>by rw [hcl] at hj;rw [Nat.zero_add,hrow.cell hj];rfl) i (by rw [hcl];exact hi)
      rw [this];simp
    . rw [World.frozen?_setCells,Nat.zero_add];exact hrow.frozen i
   have HB:Hd (Zw_ w ((w.alloc (.cells (madeCells #[.string ⟨#[]⟩] L.length) 9)).setCells w.heap.size 0 (L.map Value.string))):=Zez _ Zl_ _ _ _ (Zb_.alloc Zl_ _);clear hrow hcl hc;generalize hW:(w.alloc (.cells (madeCells #[.string ⟨#[]⟩] L.length) 9)).setCells w.heap.size 0 (L.map Value.string)=W2 at*;clear hW;go_enter func275,ntmps275;go_wp2;go_ret;exact⟨_,rfl,HB.o,HOWN.o⟩
end
section
variable {k:Nat} {Fs:List Fd} {Ss:List Sh}
def ZcF {α:Type} (N:List α) (rd:α->List α) (R:List α):Prop:=∀ i (h:i < R.length),R[i] ∈ N/\R[i] ∉ R.take i/\∀ r ∈ rd R[i],r ∈ R.take i
def Zh4 {α:Type} (N:List α) (rd:α->List α) (row:List α):Prop:=∀ x ∈ N,x ∉ row->¬ ∀ r ∈ rd x,r ∈ row
section
variable {α:Type} {N:List α} {rd:α->List α} {R R':List α}
theorem ZcF.nil:ZcF N rd []:=fun i h=>absurd h (Nat.not_lt_zero i)
theorem ZcF.snoc {x:α} (hg:ZcF N rd R) (hn:x ∈ N) (hx:x ∉ R) (hr:∀ r ∈ rd x,r ∈ R):ZcF N rd (R ++ [x]):=by
 intro i h;have h':i < R.length+1:=by rw [List.length_append] at h;exact h
 by_cases hi:i < R.length
 . rw [List.getElem_append_left hi,List.take_append_of_le_length (Nat.le_of_lt hi)]
   exact hg i hi
 . have e:i=R.length:=by omega
   subst e;have e1:(R ++ [x])[R.length]=x:=by simp
   have e2:(R ++ [x]).take R.length=R:=by simp
   rw [e1,e2];exact⟨hn,hx,hr⟩
theorem ZcF.init {x:α} (h:ZcF N rd (R ++ [x])):ZcF N rd R/\x ∈ N/\x ∉ R/\∀ r ∈ rd x,r ∈ R:=by
 constructor
 . intro i hi
   have:=h i (by rw [List.length_append];omega);rw [List.getElem_append_left hi,List.take_append_of_le_length (Nat.le_of_lt hi)] at this;exact this
 . have:=h R.length (by simp)
   have e1:(R ++ [x])[R.length]=x:=by simp
   have e2:(R ++ [x]).take R.length=R:=by simp
   rw [e1,e2] at this;exact this
theorem ZcF.along {p:List α->Prop} (h0:p []) (hs:∀ row x,ZcF N rd row->x ∈ N->x ∉ row->(∀ r ∈ rd x,r ∈ row)->p row->p (row ++ [x])):∀ (n:Nat) (R:List α),R.length=n->ZcF N rd R->p R:=by
 intro n
 induction n with
 | zero=>intro R hl _;rw [List.length_eq_zero_iff.1 hl];exact h0
 | succ n ih=>
  intro R hl hg;have hne:R≠[]:=by intro e;rw [e] at hl;cases hl
  have e:R.dropLast ++ [R.getLast hne]=R:=List.dropLast_concat_getLast hne;rw [<- e] at hg |-;obtain⟨h1,h2,h3,h4⟩:=hg.init;exact hs _ _ h1 h2 h3 h4 (ih _ (by rw [List.length_dropLast,hl];rfl) h1)
theorem ZcF.nodup (h:ZcF N rd R):R.Nodup:=by
 refine ZcF.along (p:=fun R=>R.Nodup) List.nodup_nil (fun row x _ _ hx _ ih=>?_) _ R rfl h;rw [List.nodup_append];exact⟨ih,by simp,fun a ha b hb=>by simp at hb;subst hb;exact fun e=>hx (e ▸ ha)⟩
theorem ZcF.sub (h:ZcF N rd R):R ⊆ N:=by
 intro y hy;obtain⟨i,hi,rfl⟩:=List.getElem_of_mem hy;exact (h i hi).1
theorem ZcF.reads (h:ZcF N rd R) {x:α} (hx:x ∈ R):∀ r ∈ rd x,r ∈ R:=by
 intro r hr;obtain⟨i,hi,rfl⟩:=List.getElem_of_mem hx;exact List.mem_of_mem_take ((h i hi).2.2 r hr)
theorem ZcF.into (h:ZcF N rd R) (hs:Zh4 N rd R'):R ⊆ R':=by
 refine ZcF.along (p:=fun R=>R ⊆ R') (List.nil_subset _) (fun row x _ hn _ hr ih=>?_) _ R rfl h;intro z hz
 rcases List.mem_append.1 hz with h | h
 . exact ih h
 . simp at h;subst h
   exact Classical.byContradiction fun hc=>hs z hn hc fun r hrr=>ih (hr r hrr)
theorem ZcF.all (h:ZcF N rd R) (hl:N.length<=R.length):∀ x ∈ N,x ∈ R:=by
 intro x hx;refine Classical.byContradiction fun hc=>?_
 have:(x :: R).length<=N.length:=List.Nodup.length_le_of_subset (List.nodup_cons.2 ⟨hc,h.nodup⟩) (List.cons_subset.2 ⟨hx,h.sub⟩);simp at this;omega
end
def Zof {α:Type} [DecidableEq α] (N:List α) (rd:α->List α) (R:List α):List α:=
 match N.find? fun x=>decide (x ∉ R)&&(rd x).all fun r=>decide (r ∈ R) with
 | some x=>R ++ [x]
 | none=>R
def Ze6 {α:Type} [DecidableEq α] (N:List α) (rd:α->List α):Nat->List α
 | 0=>[]
 | n+1=>Zof N rd (Ze6 N rd n)
def ZmX {α:Type} [DecidableEq α] (N:List α) (rd:α->List α):Bool:=decide (N.length<=(Ze6 N rd N.length).length)
section
variable {α:Type} [DecidableEq α] {N:List α} {rd:α->List α} {R:List α}
theorem ZeL (n:Nat):ZcF N rd (Ze6 N rd n)/\((Ze6 N rd n).length=n\/Zh4 N rd (Ze6 N rd n)):=by
 induction n with
 | zero=>exact⟨ZcF.nil,Or.inl rfl⟩
 | succ n ih=>
  obtain⟨hg,hc⟩:=ih
  show ZcF N rd (Zof N rd (Ze6 N rd n))/\((Zof N rd (Ze6 N rd n)).length=n+1\/Zh4 N rd (Zof N rd (Ze6 N rd n)))
  generalize Ze6 N rd n=R at*;unfold Zof
  cases hf:N.find? fun x=>decide (x ∉ R)&&(rd x).all fun r=>decide (r ∈ R) with
  | none=>
   refine⟨hg,Or.inr fun x hx hn hr=>?_⟩;have:=List.find?_eq_none.1 hf x hx;exact this (by simp only [Bool.and_eq_true,decide_eq_true_eq,List.all_eq_true];exact⟨hn,hr⟩)
  | some x=>
   have hp:=List.find?_some hf;simp only [Bool.and_eq_true,decide_eq_true_eq,List.all_eq_true] at hp;have hx:=List.mem_of_find?_eq_some hf;refine⟨hg.snoc hx hp.1 hp.2,?_⟩
   rcases hc with hc | hc
   . exact Or.inl (by simp [hc])
   . exact absurd hp.2 (hc x hx hp.1)
theorem Zln (h:ZcF N rd R) (hl:N.length<=R.length):ZmX N rd=true:=by
 unfold ZmX;refine decide_eq_true ?_
 rcases (ZeL (N:=N) (rd:=rd) N.length).2 with hc | hc
 . omega
 . have:=List.Nodup.length_le_of_subset h.nodup (h.into hc)
   omega
theorem Zn4 (hs:Zh4 N rd R) (hl:R.length < N.length):ZmX N rd=false:=by
 unfold ZmX;refine decide_eq_false ?_;have hg:=(ZeL (N:=N) (rd:=rd) N.length).1;have:=List.Nodup.length_le_of_subset hg.nodup (hg.into hs)
 omega
theorem ZjJ (h:ZmX N rd=true):∃ R,ZcF N rd R/\N.length<=R.length:=by
 unfold ZmX at h;exact⟨_,(ZeL (N:=N) (rd:=rd) N.length).1,of_decide_eq_true h⟩
end
section
variable {α β:Type} (pl:α->Nat) (dec:List β->α->Option β)
def ZjK (V:List β) (x:α):List β:=match dec V x with
 | some v=>V.set (pl x) v
 | none=>V
def ZcI (R:List α) (V:List β):List β:=R.foldl (ZjK pl dec) V
theorem ZhE (R:List α) (x:α) (V:List β):ZcI pl dec (R ++ [x]) V=ZjK pl dec (ZcI pl dec R V) x:=by simp [ZcI]
theorem ZhF {R:List α} (h:k < R.length) (V:List β):ZcI pl dec (R.take (k+1)) V=ZjK pl dec (ZcI pl dec (R.take k) V) R[k]:=by
 rw [List.take_succ_eq_append_getElem h,ZhE]
theorem ZiF (V:List β) (x:α):(ZjK pl dec V x).length=V.length:=by
 unfold ZjK;cases dec V x <;> simp
theorem ZgJ (R:List α):∀ (V:List β),(ZcI pl dec R V).length=V.length:=by
 induction R with
 | nil=>intro V;rfl
 | cons x R ih=>intro V;show (ZcI pl dec R (ZjK pl dec V x)).length=_;rw [ih,ZiF]
theorem Zn6 (V:List β) (x:α) {i:Nat} (h:pl x≠i):(ZjK pl dec V x)[i]?=V[i]?:=by
 unfold ZjK;cases dec V x with
 | none=>rfl
 | some v=>exact List.getElem?_set_ne h
structure Fix (N:List α) (V F:List β):Prop where
 len:F.length=V.length
 at':∀ x ∈ N,F[pl x]?=(dec F x).or V[pl x]?
 off:∀ i,(∀ x ∈ N,pl x≠i)->F[i]?=V[i]?
def ZoN (N:List α) (rd:α->List α):Prop:=∀ x ∈ N,∀ V V':List β,V.length=V'.length->(∀ r ∈ rd x,V[pl r]?=V'[pl r]?)->dec V x=dec V' x
def Zp8 (N:List α):Prop:=∀ x ∈ N,∀ y ∈ N,pl x=pl y->x=y
variable {pl dec} {N:List α} {rd:α->List α}
theorem ZqB (ha:Zp8 pl N) (hl:ZoN pl dec N rd) {R:List α} (h:ZcF N rd R) (V:List β) (hp:∀ x ∈ N,pl x < V.length):Fix pl dec R V (ZcI pl dec R V):=by
 refine ZcF.along (p:=fun R=>Fix pl dec R V (ZcI pl dec R V)) ⟨rfl,fun x hx=>by simp at hx,fun _ _=>rfl⟩ (fun row x hg hn hx hr ih=>?_) _ R rfl h
 . rw [ZhE]
   have hlen:=ZgJ pl dec row V;generalize hF:ZcI pl dec row V=F at*;have hoff:∀ y ∈ row,(ZjK pl dec F x)[pl y]?=F[pl y]?:=fun y hy=>Zn6 _ _ _ _ fun e=>hx (by rw [ha x hn y (hg.sub hy) e];exact hy)
   have hdec:∀ y,y ∈ N->(∀ r ∈ rd y,r ∈ row)->dec (ZjK pl dec F x) y=dec F y:=fun y hy hry=>hl y hy _ _ (by rw [ZiF]) fun r hrr=>hoff r (hry r hrr)
   refine⟨by rw [ZiF,hlen],fun y hy=>?_,fun i hi=>?_⟩
   . rcases List.mem_append.1 hy with h | h
     . rw [hoff y h,hdec y (hg.sub h) (hg.reads h)];exact ih.at' y h
     . simp at h;subst h
       rw [hdec y hn hr];have hV:F[pl y]?=V[pl y]?:=ih.off _ fun z hz e=>hx (by rw [<- ha z (hg.sub hz) y hn e];exact hz)
       unfold ZjK
       cases hd:dec F y with
       | none=>simp [hV]
       | some v=>simp [List.getElem?_set_self (show pl y < F.length by rw [hlen];exact hp y hn)]
   . rw [Zn6 _ _ _ _ (hi x (by simp))]
     exact ih.off i fun z hz=>hi z (by simp [hz])
theorem Fix.grow {R:List α}{V F:List β} (h:Fix pl dec R V F) (h1:R ⊆ N) (h2:∀ x ∈ N,x ∈ R):Fix pl dec N V F:=
 ⟨h.len,fun x hx=>h.at' x (h2 x hx),fun i hi=>h.off i fun x hx=>hi x (h1 hx)⟩
theorem ZoY (ha:Zp8 pl N) (hl:ZoN pl dec N rd) {R:List α} (h:ZcF N rd R) (hn:N.length<=R.length) (V:List β) (hp:∀ x ∈ N,pl x < V.length):Fix pl dec N V (ZcI pl dec R V):=
 (ZqB ha hl h V hp).grow h.sub (h.all hn)
theorem ZlY [DecidableEq α] (hl:ZoN pl dec N rd) (hr:ZmX N rd=true) {V F G:List β} (h1:Fix pl dec N V F) (h2:Fix pl dec N V G):F=G:=by
 obtain⟨R,hg,hn⟩:=ZjJ hr;have hlen:F.length=G.length:=h1.len.trans h2.len.symm
 have key:∀ P,ZcF N rd P->∀ x ∈ P,F[pl x]?=G[pl x]?:=by
  intro P hP;refine ZcF.along (p:=fun P=>∀ x ∈ P,F[pl x]?=G[pl x]?) (fun x hx=>by simp at hx) (fun row x _ hxn _ hrr ih=>?_) _ P rfl hP
  . intro y hy
    rcases List.mem_append.1 hy with h | h
    . exact ih y h
    . simp at h;subst h
      rw [h1.at' y hxn,h2.at' y hxn,hl y hxn F G hlen fun r hr'=>ih r (hrr r hr')]
 apply List.ext_getElem?;intro i
 by_cases h:∃ x ∈ N,pl x=i
 . obtain⟨x,hx,rfl⟩:=h
   exact key R hg x (hg.all hn x hx)
 . have hi:∀ x ∈ N,pl x≠i:=fun x hx e=>h ⟨x,hx,e⟩
   rw [h1.off i hi,h2.off i hi]
end
open Go.RowKit Go.Deep
theorem ZaI {x y:Zy_}:(x.toList == y.toList)=true↔x=y:=by
 rw [beq_iff_eq];refine⟨fun h=>?_,fun h=>by rw [h]⟩;rw [ByteArray.toList_eq,ByteArray.toList_eq] at h;exact ByteArray.ext (Array.toList_inj.1 h)
theorem ZcM (x:Zy_):(x.toList == x.toList)=true:=ZaI.2 rfl
theorem Ze0 {x y:Zy_}:(x.toList == y.toList)=false↔x≠y:=by
 rw [<- Bool.not_eq_true,Ne,ZaI]
structure Md where
 kind:Zy_
 field:Zy_
 wh:Zy_
 is:Zy_
 put:Zy_
 fr:Zy_
variable {m:Md} {Ms:List Md}
def ZaG (Fs:List Fd):List Zy_:=Fs.map Fd.nm
theorem Zcp {s:Zy_}:s ∈ ZaG Fs↔∃ i,∃ h:i < Fs.length,Fs[i].nm=s:=by
 unfold ZaG;rw [List.mem_map]
 constructor
 . rintro⟨f,hf,rfl⟩;obtain⟨i,hi,rfl⟩:=List.getElem_of_mem hf;exact⟨i,hi,rfl⟩
 . rintro⟨i,hi,rfl⟩;exact⟨_,List.getElem_mem hi,rfl⟩
def ZaQ (Fs:List Fd) (s:Zy_):Nat:=Fs.findIdx fun f=>f.nm.toList == s.toList
theorem Zb5 {s:Zy_}:ZaQ Fs s < Fs.length↔s ∈ ZaG Fs:=by
 unfold ZaQ;rw [List.findIdx_lt_length,Zcp]
 constructor
 . rintro⟨f,hf,h⟩;obtain⟨i,hi,rfl⟩:=List.getElem_of_mem hf;exact⟨i,hi,ZaI.1 h⟩
 . rintro⟨i,hi,rfl⟩;exact⟨_,List.getElem_mem hi,ZcM _⟩
theorem Ziz {s:Zy_} (h:ZaQ Fs s < Fs.length):Fs[ZaQ Fs s].nm=s:=by
 have:=List.findIdx_getElem (p:=fun f:Fd=>f.nm.toList == s.toList) (xs:=Fs) (w:=h);exact ZaI.1 this
theorem ZnZ {s:Zy_} (hk:k < Fs.length) (h:(Fs[k].nm.toList == s.toList)=true) (hall:∀ i (h:i < Fs.length),i < k->(Fs[i].nm.toList == s.toList)=false):ZaQ Fs s=k:=by
 unfold ZaQ;rw [List.findIdx_eq hk];exact⟨h,fun j hj=>hall j (by omega) hj⟩
theorem Zrp {s:Zy_} (hall:∀ i (h:i < Fs.length),(Fs[i].nm.toList == s.toList)=false):ZaQ Fs s=Fs.length:=by
 unfold ZaQ;rw [List.findIdx_eq_length];intro f hf;obtain⟨i,hi,rfl⟩:=List.getElem_of_mem hf;exact hall i hi
theorem Zmh (Fs:List Fd):Zp8 (ZaQ Fs) (ZaG Fs):=fun x hx y hy e=>by
 rw [<- Ziz (Zb5.2 hx),<- Ziz (Zb5.2 hy)];simp only [e]
def Zbh (Fs:List Fd) (s:Zy_):Bool:=match Fs[ZaQ Fs s]? with
 | some f=>!(f.kd == 4)
 | none=>false
theorem Zdr {s:Zy_} (h:Zbh Fs s=true):s ∈ ZaG Fs:=by
 rw [<- Zb5];unfold Zbh at h
 by_cases hl:ZaQ Fs s < Fs.length
 . exact hl
 . rw [List.getElem?_eq_none (by omega)] at h;cases h
theorem Zlj {s:Zy_} (h:ZaQ Fs s < Fs.length):Zbh Fs s=!(Fs[ZaQ Fs s].kd == 4):=by unfold Zbh;rw [List.getElem?_eq_getElem h]
theorem Zlk {s:Zy_} (h:¬ ZaQ Fs s < Fs.length):Zbh Fs s=false:=by unfold Zbh;rw [List.getElem?_eq_none (by omega)]
def ZmW (Fs:List Fd) (s t:Zy_):Bool:=match Fs[ZaQ Fs s]? with
 | some f=>ZaN f.kd f.le f.mo f.words t
 | none=>false
theorem ZnA {s t:Zy_} (h:ZaQ Fs s < Fs.length):ZmW Fs s t=ZaN Fs[ZaQ Fs s].kd Fs[ZaQ Fs s].le Fs[ZaQ Fs s].mo Fs[ZaQ Fs s].words t:=by unfold ZmW;rw [List.getElem?_eq_getElem h]
def ZgP (Fs:List Fd) (field s:Zy_):Bool:=s.toList.isEmpty || Zbh Fs s&&!(s.toList == field.toList)
def ZbW (m:Md):Bool:=!(m.wh.toList.isEmpty&&!m.is.toList.isEmpty)&&!(m.put.toList.isEmpty == m.fr.toList.isEmpty)
def ZdR (Fs:List Fd) (m:Md):Bool:=Zbh Fs m.field&&ZgP Fs m.field m.wh&&ZgP Fs m.field m.fr&&ZbW m&&(m.put.toList.isEmpty || ZmW Fs m.field m.put)
def Zcq (Fs:List Fd) (m:Md):Bool:=
 Zbh Fs m.field&&(m.wh.toList.isEmpty || Zbh Fs m.wh)&&(m.fr.toList.isEmpty || Zbh Fs m.fr)&&!(m.wh.toList == m.field.toList)&&!(m.fr.toList == m.field.toList)&&ZbW m&&(m.put.toList.isEmpty || ZmW Fs m.field m.put)
theorem ZnS (hn:∀ s ∈ ZaG Fs,s.toList.isEmpty=false):ZdR Fs m=Zcq Fs m:=by
 unfold ZdR Zcq ZgP
 cases hp:Zbh Fs m.field with
 | false=>simp
 | true=>
  have hf:=hn _ (Zdr hp)
  have h1:m.wh.toList.isEmpty=true->(m.wh.toList == m.field.toList)=false:=fun h=>by
   rw [Ze0];intro e;rw [e] at h;rw [h] at hf;cases hf
  have h2:m.fr.toList.isEmpty=true->(m.fr.toList == m.field.toList)=false:=fun h=>by
   rw [Ze0];intro e;rw [e] at h;rw [h] at hf;cases hf
  cases ha:m.wh.toList.isEmpty with
  | true=>
   rw [h1 ha]
   cases hb:m.fr.toList.isEmpty with
   | true=>rw [h2 hb];simp
   | false=>simp
  | false=>
   cases hb:m.fr.toList.isEmpty with
   | true=>rw [h2 hb];simp
   | false=>simp;cases Zbh Fs m.wh <;> cases (m.wh.toList == m.field.toList) <;> cases Zbh Fs m.fr <;> cases (m.fr.toList == m.field.toList) <;> simp
def ZiB (m:Md):List Zy_:=(if m.wh.toList.isEmpty=true then [] else [m.wh]) ++ (if m.fr.toList.isEmpty=true then [] else [m.fr])
def ZcU (kind field:Zy_) (m:Md):Bool:=(m.kind.toList == kind.toList)&&(m.field.toList == field.toList)
def Zao (kind:Zy_) (Ms:List Md) (field:Zy_):List Zy_:=(Ms.filter (ZcU kind field)).flatMap ZiB
theorem ZjH (kind field:Zy_) (Ms:List Md) (m:Md):Zao kind (Ms ++ [m]) field=Zao kind Ms field ++ (if ZcU kind field m=true then ZiB m else []):=by
 unfold Zao;rw [List.filter_append,List.flatMap_append]
 by_cases h:ZcU kind field m=true <;> simp [h]
theorem ZdE {kind field:Zy_}{r:Zy_}:r ∈ Zao kind Ms field↔∃ m ∈ Ms,ZcU kind field m=true/\r ∈ ZiB m:=by
 unfold Zao;simp [List.mem_flatMap,and_assoc]
theorem Zsk (h:m.wh.toList.isEmpty=false):m.wh ∈ ZiB m:=by unfold ZiB;simp [h]
theorem Zsj (h:m.fr.toList.isEmpty=false):m.fr ∈ ZiB m:=by unfold ZiB;simp [h]
def ZbE (Fs:List Fd) (V:List Zy_) (s:Zy_):Zy_:=(V[ZaQ Fs s]?).getD ⟨#[]⟩
def ZfV (Fs:List Fd) (V:List Zy_) (m:Md):Bool:=(m.wh.toList.isEmpty || (ZbE Fs V m.wh).toList == m.is.toList)&&(m.fr.toList.isEmpty || !(ZbE Fs V m.fr).toList.isEmpty)
def Zcd (Fs:List Fd) (V:List Zy_) (m:Md):Zy_:=if m.fr.toList.isEmpty=true then m.put else ZbE Fs V m.fr
def Zcz (Fs:List Fd) (kind:Zy_) (Ms:List Md) (V:List Zy_) (field:Zy_):Option Zy_:=(Ms.find? fun m=>ZcU kind field m&&ZfV Fs V m).map (Zcd Fs V)
theorem Zhc {α β:Type}{p q:α->Bool}{f g:α->β}{L:List α} (h:∀ x ∈ L,p x=q x) (hf:∀ x ∈ L,p x=true->f x=g x):(L.find? p).map f=(L.find? q).map g:=by
 induction L with
 | nil=>rfl
 | cons a L ih=>
  have ha:=h a (by simp);rw [List.find?_cons,List.find?_cons,<- ha]
  cases hp:p a with
  | true=>simp only [Option.map_some];rw [hf a (by simp) hp]
  | false=>exact ih (fun x hx=>h x (by simp [hx])) fun x hx=>hf x (by simp [hx])
theorem Zhx (Fs:List Fd) (kind:Zy_) (Ms:List Md) (N:List Zy_):ZoN (ZaQ Fs) (Zcz Fs kind Ms) N (Zao kind Ms):=by
 intro x _ V V' _ hr
 have hw:∀ m ∈ Ms,ZcU kind x m=true->m.wh.toList.isEmpty=false->ZbE Fs V m.wh=ZbE Fs V' m.wh:=fun m hm hf h=>by
  unfold ZbE;rw [hr m.wh (ZdE.2 ⟨m,hm,hf,Zsk h⟩)]
 have hg:∀ m ∈ Ms,ZcU kind x m=true->m.fr.toList.isEmpty=false->ZbE Fs V m.fr=ZbE Fs V' m.fr:=fun m hm hf h=>by
  unfold ZbE;rw [hr m.fr (ZdE.2 ⟨m,hm,hf,Zsj h⟩)]
 unfold Zcz;refine Zhc (fun m hm=>?_) fun m hm hp=>?_
 . cases hf:ZcU kind x m with
   | false=>rfl
   | true=>
    unfold ZfV
    cases h1:m.wh.toList.isEmpty with
    | true=>cases h2:m.fr.toList.isEmpty with
     | true=>rfl
     | false=>rw [hg m hm hf h2];rfl
    | false=>cases h2:m.fr.toList.isEmpty with
     | true=>rw [hw m hm hf h1];rfl
     | false=>rw [hw m hm hf h1,hg m hm hf h2]
 . have hf:ZcU kind x m=true:=by simp at hp;exact hp.1
   unfold Zcd
   cases h2:m.fr.toList.isEmpty with
   | true=>rfl
   | false=>rw [hg m hm hf h2]
def ZcZ (Ss:List Sh) (m:Md):Bool:=match Zci Ss m.kind with
 | some x=>Zcq x.fields m
 | none=>false
def Zbn (Ms:List Md) (x:Sh):Bool:=ZmX (ZaG x.fields) (Zao x.kind Ms)
def Zay (Ss:List Sh) (Ms:List Md):Bool:=ZaJ Ss&&decide (Ms.length<=12)&&Ms.all (ZcZ Ss)&&Ss.all (Zbn Ms)
theorem ZbK (h:ZaJ Ss=true) {x:Sh} (hx:x ∈ Ss):ZaE Ss x.fields=true:=by
 unfold ZaJ at h;rw [Bool.and_eq_true,List.all_eq_true] at h;obtain⟨i,hi,rfl⟩:=List.getElem_of_mem hx;have:=h.2 i (List.mem_range.2 hi)
 cases i with
 | zero=>rw [Zcy hi,Bool.and_eq_true] at this;exact this.2
 | succ j=>rw [ZbD hi,Bool.and_eq_true] at this;exact this.2
theorem Zjb (h:ZaE Ss Fs=true) {k:Nat} (hk:k < Fs.length):Zan Fs[k].nm=true/\ZlI (Fs.take k) Fs[k].nm=false:=by
 unfold ZaE at h;rw [Bool.and_eq_true,List.all_eq_true] at h;have:=h.2 k (List.mem_range.2 hk);rw [ZaK hk] at this;simp at this;exact⟨this.1.1,this.2⟩
theorem ZcO (h:ZaE Ss Fs=true):Fs.length<=6:=by
 unfold ZaE at h;rw [Bool.and_eq_true] at h;exact of_decide_eq_true h.1
theorem ZhP (h:ZaJ Ss=true):Ss.length<=6:=by
 unfold ZaJ at h;rw [Bool.and_eq_true] at h;exact of_decide_eq_true h.1
theorem ZnT {s:Zy_} (h:Zan s=true):s.toList.isEmpty=false:=by
 unfold Zan inB at h;rw [Bool.and_eq_true] at h;have:=of_decide_eq_true h.1;rw [ByteArray.toList_eq]
 cases hs:s.data.toList with
 | nil=>have e:s.size=0:=by show s.data.size=0;rw [<- Array.length_toList,hs];rfl
        omega
 | cons a l=>rfl
theorem ZfD (h:ZaE Ss Fs=true):∀ s ∈ ZaG Fs,s.toList.isEmpty=false:=by
 intro s hs;obtain⟨i,hi,rfl⟩:=Zcp.1 hs;exact ZnT (Zjb h hi).1
theorem Zja (h:ZaE Ss Fs=true) {k:Nat} (hk:k < Fs.length):ZaQ Fs Fs[k].nm=k:=by
 refine ZnZ hk (ZcM _) fun i hi hlt=>?_
 have hd:=(Zjb h hk).2
 cases he:(Fs[i].nm.toList == Fs[k].nm.toList) with
 | false=>rfl
 | true=>rw [Zf5 hi hlt he] at hd;cases hd
theorem Zcf {s:Zy_}{x:Sh} (h:Zci Ss s=some x):x ∈ Ss/\x.kind=s:=by
 unfold Zci at h;have h2:=List.find?_some h;exact⟨List.mem_of_find?_eq_some h,ZaI.1 h2⟩
def Zm0 (x:Sh) (Ms:List Md) (V F:List Zy_):Prop:=Fix (ZaQ x.fields) (Zcz x.fields x.kind Ms) (ZaG x.fields) V F
def ZkV (Ss:List Sh) (Ms:List Md) (kind:Zy_) (V F:List Zy_):Prop:=
 (∃ x,Zay Ss Ms=true/\Zci Ss kind=some x/\x.fields.length=V.length/\Zm0 x Ms V F)\/
 ((Zay Ss Ms=false\/∀ x,Zci Ss kind=some x->x.fields.length≠V.length)/\F=V)
theorem Zek (h:Zay Ss Ms=true) {x:Sh} (hx:x ∈ Ss):ZmX (ZaG x.fields) (Zao x.kind Ms)=true:=by
 unfold Zay at h;rw [Bool.and_eq_true,List.all_eq_true] at h;exact h.2 x hx
theorem ZcJ (h:Zay Ss Ms=true):ZaJ Ss=true:=by
 unfold Zay at h;simp only [Bool.and_eq_true] at h;exact h.1.1.1
theorem Zfa (h:Zay Ss Ms=true):Ms.length<=12:=by
 unfold Zay at h;simp only [Bool.and_eq_true,decide_eq_true_eq] at h;exact h.1.1.2
theorem ZkA (h:Zay Ss Ms=true) {m:Md} (hm:m ∈ Ms):ZcZ Ss m=true:=by
 unfold Zay at h;simp only [Bool.and_eq_true,List.all_eq_true] at h;exact h.1.2 m hm
theorem Zm0.unique (h:Zay Ss Ms=true) {x:Sh} (hx:x ∈ Ss) {V F G:List Zy_} (h1:Zm0 x Ms V F) (h2:Zm0 x Ms V G):F=G:=
 ZlY (Zhx _ _ _ _) (Zek h hx) h1 h2
theorem Zit {x:Sh}{R V:List Zy_} (h:ZcF (ZaG x.fields) (Zao x.kind Ms) R) (hl:(ZaG x.fields).length<=R.length) (hv:x.fields.length=V.length):Zm0 x Ms V (ZcI (ZaQ x.fields) (Zcz x.fields x.kind Ms) R V):=
 ZoY (Zmh _) (Zhx _ _ _ _) h hl V fun s hs=>by rw [<- hv];exact Zb5.2 hs
def ZeQ (nm v:Zy_) (m:Md):Bool:=(nm.toList == m.wh.toList)&&!(v.toList == m.is.toList) || (nm.toList == m.fr.toList)&&v.toList.isEmpty
theorem Zls {V:List Zy_} (hf:ZaE Ss Fs=true) {i:Nat} (h:i < Fs.length) (h':i < V.length):ZbE Fs V Fs[i].nm=V[i]:=by
 unfold ZbE;rw [Zja hf h,List.getElem?_eq_getElem h'];rfl
theorem Znb {V:List Zy_} (hf:ZaE Ss Fs=true) {i:Nat} (h:i < Fs.length) (h':i < V.length) (ht:ZeQ Fs[i].nm V[i] m=true):ZfV Fs V m=false:=by
 have hn:=ZfD hf Fs[i].nm (Zcp.2 ⟨i,h,rfl⟩);unfold ZeQ at ht;rw [Bool.or_eq_true,Bool.and_eq_true,Bool.and_eq_true,ZaI,ZaI] at ht;unfold ZfV
 rcases ht with ⟨e,hv⟩ | ⟨e,hv⟩
 . rw [<- e,hn,Zls hf h h']
   have:(V[i].toList == m.is.toList)=false:=by simpa using hv
   rw [this];rfl
 . rw [<- e,hn,Zls hf h h',hv];simp
theorem Zqc {V:List Zy_} (hl:Fs.length=V.length) (hw:m.wh.toList.isEmpty=true\/m.wh ∈ ZaG Fs) (hr:m.fr.toList.isEmpty=true\/m.fr ∈ ZaG Fs)
 (ht:∀ i (h:i < Fs.length) (h':i < V.length),ZeQ Fs[i].nm V[i] m=false):ZfV Fs V m=true:=by
 unfold ZfV;rw [Bool.and_eq_true]
 constructor
 . rcases hw with hw | hw
   . rw [hw];rfl
   . have hp:=Zb5.2 hw
     have:=ht _ hp (by omega);unfold ZeQ at this;rw [Ziz hp,ZcM] at this;simp only [Bool.true_and,Bool.or_eq_false_iff] at this;unfold ZbE;rw [List.getElem?_eq_getElem (show ZaQ Fs m.wh < V.length by omega),Option.getD_some];have h2:=this.1;rw [Bool.not_eq_false'] at h2;rw [h2];simp
 . rcases hr with hw | hw
   . rw [hw];rfl
   . have hp:=Zb5.2 hw
     have:=ht _ hp (by omega);unfold ZeQ at this;rw [Ziz hp,ZcM] at this;simp only [Bool.true_and,Bool.or_eq_false_iff] at this;unfold ZbE;rw [List.getElem?_eq_getElem (show ZaQ Fs m.fr < V.length by omega),Option.getD_some,this.2];simp
theorem Zmf (h:Zay Ss Ms=true) {x:Sh} {kind:Zy_} (hx:Zci Ss kind=some x) {m:Md} (hm:m ∈ Ms) (hk:m.kind=x.kind) :
 m.field ∈ ZaG x.fields/\(m.wh.toList.isEmpty=true\/m.wh ∈ ZaG x.fields)/\(m.fr.toList.isEmpty=true\/m.fr ∈ ZaG x.fields):=by
 have hb:=ZkA h hm;unfold ZcZ at hb;rw [hk,(Zcf hx).2,hx] at hb;simp only [Zcq,Bool.and_eq_true,Bool.or_eq_true] at hb;refine⟨Zdr hb.1.1.1.1.1.1,?_,?_⟩
 . rcases hb.1.1.1.1.1.2 with h | h
   . exact Or.inl h
   . exact Or.inr (Zdr h)
 . rcases hb.1.1.1.1.2 with h | h
   . exact Or.inl h
   . exact Or.inr (Zdr h)
theorem ZlX {α:Type}{p:α->Bool}{L:List α} (hk:k < L.length) (h:p L[k]=true) (hall:∀ i (h:i < L.length),i < k->p L[i]=false):L.find? p=some L[k]:=by
 rw [List.find?_eq_some_iff_getElem];exact⟨h,k,hk,rfl,fun j hj=>by simp [hall j (by omega) hj]⟩
theorem Zny {α:Type}{p:α->Bool}{L:List α} (hall:∀ i (h:i < L.length),p L[i]=false):L.find? p=none:=by
 rw [List.find?_eq_none];intro x hx;obtain⟨i,hi,rfl⟩:=List.getElem_of_mem hx;simp [hall i hi]
theorem Zd0 {kind:Zy_}{V:List Zy_}{f:Zy_} (hk:k < Ms.length) (h:(ZcU kind f Ms[k]&&ZfV Fs V Ms[k])=true) (hall:∀ i (h:i < Ms.length),i < k->(ZcU kind f Ms[i]&&ZfV Fs V Ms[i])=false):Zcz Fs kind Ms V f=some (Zcd Fs V Ms[k]):=by
 unfold Zcz;rw [ZlX (p:=fun m=>ZcU kind f m&&ZfV Fs V m) hk h hall];rfl
theorem Zi7 {kind:Zy_}{V:List Zy_}{f:Zy_} (hall:∀ i (h:i < Ms.length),(ZcU kind f Ms[i]&&ZfV Fs V Ms[i])=false):Zcz Fs kind Ms V f=none:=by
 unfold Zcz;rw [Zny (p:=fun m=>ZcU kind f m&&ZfV Fs V m) hall];rfl
theorem Zn8 {kind:Zy_}{V:List Zy_}{f v:Zy_} (h:Zcz Fs kind Ms V f=some v):ZjK (ZaQ Fs) (Zcz Fs kind Ms) V f=V.set (ZaQ Fs f) v:=by unfold ZjK;rw [h]
theorem Zn7 {kind:Zy_}{V:List Zy_}{f:Zy_} (h:Zcz Fs kind Ms V f=none):ZjK (ZaQ Fs) (Zcz Fs kind Ms) V f=V:=by unfold ZjK;rw [h]
end
section
open Go.RowKit Go.Deep
variable {w w' W:World} {lo n k base:Nat} {v:Value} {Ms:List Md} {Fs:List Fd}
structure ZeH (w:World) (b o:Nat) (m:Md):Prop where
 c0:w.cell? ⟨b,o,none⟩=some (.string m.kind)
 c1:w.cell? ⟨b,o+1,none⟩=some (.string m.field)
 c2:w.cell? ⟨b,o+2,none⟩=some (.string m.wh)
 c3:w.cell? ⟨b,o+3,none⟩=some (.string m.is)
 c4:w.cell? ⟨b,o+4,none⟩=some (.string m.put)
 c5:w.cell? ⟨b,o+5,none⟩=some (.string m.fr)
structure ZdM (m:Md):Prop where
 s0:m.kind.size<=maxLen
 s1:m.field.size<=maxLen
 s2:m.wh.size<=maxLen
 s3:m.is.size<=maxLen
 s4:m.put.size<=maxLen
 s5:m.fr.size<=maxLen
theorem ZeH.below {b o:Nat}{m:Md} (h:ZeH w b o m) (hb:Zw_ w w') (hlt:b < w.heap.size):ZeH w' b o m:=by
 have e:∀ o,w'.cell? ⟨b,o,none⟩=w.cell? ⟨b,o,none⟩:=fun o=>hb.cell (p:=⟨b,o,none⟩) hlt
 exact⟨by rw [e];exact h.c0,by rw [e];exact h.c1,by rw [e];exact h.c2,by rw [e];exact h.c3,by rw [e];exact h.c4,by rw [e];exact h.c5⟩
def ZbY (lo:Nat) (w:World) (v:Value) (Ms:List Md):Prop:=
 (∃ (a:Option Addr) (cap:Nat),v=.slice a 0 cap/\Ms=[])\/
 ∃ (b off cap:Nat),v=.slice (some ⟨b,off,none⟩) Ms.length cap/\Ms≠[]/\Ms.length<=maxLen/\b < w.heap.size/\lo<=b/\Ms.length<=cap/\
  ∀ i (h:i < Ms.length),ZdM Ms[i]/\ZeH w b (off+i*6) Ms[i]
theorem ZbY.below (h:ZbY lo w v Ms) (hb:Zw_ w w'):ZbY lo w' v Ms:=by
 rcases h with h | ⟨b,off,cap,h1,h2,h3,h4,h5,h6,h7⟩
 . exact Or.inl h
 . refine Or.inr ⟨b,off,cap,h1,h2,h3,Zk_ h4 hb.size,h5,h6,fun i hi=>?_⟩
   obtain⟨hs,hc⟩:=h7 i hi;exact⟨hs,hc.below hb h4⟩
theorem ZbY.mono {lo':Nat} (h:ZbY lo w v Ms) (hl:lo'<=lo):ZbY lo' w v Ms:=by
 rcases h with h | ⟨b,off,cap,h1,h2,h3,h4,h5,h6,h7⟩
 . exact Or.inl h
 . exact Or.inr ⟨b,off,cap,h1,h2,h3,h4,Nat.le_trans hl h5,h6,h7⟩
theorem ZbY.form (h:ZbY lo w v Ms):∃ a cap,v=.slice a Ms.length cap:=by
 rcases h with ⟨a,cap,h,rfl⟩ | ⟨b,off,cap,h,_⟩
 . exact⟨a,cap,h⟩
 . exact⟨_,cap,h⟩
theorem ZbY.full (h:ZbY lo w v Ms) (hne:Ms≠[]):∃ (b off cap:Nat),v=.slice (some ⟨b,off,none⟩) Ms.length cap/\Ms.length<=maxLen/\b < w.heap.size/\Ms.length<=cap/\
 ∀ i (h:i < Ms.length),ZdM Ms[i]/\ZeH w b (off+i*6) Ms[i]:=by
 rcases h with ⟨_,_,_,h⟩ | ⟨b,off,cap,h1,_,h3,h4,_,h6,h7⟩
 . exact absurd h hne
 . exact⟨b,off,cap,h1,h3,h4,h6,h7⟩
theorem ZbY.full' {a:Option Addr}{cap:Nat} (h:ZbY lo w (.slice a n cap) Ms) (hL:0 < Ms.length) :
 ∃ b off,a=some ⟨b,off,none⟩/\b < w.heap.size/\∀ i (h:i < Ms.length),ZdM Ms[i]/\ZeH w b (off+i*6) Ms[i]:=by
 rcases h with ⟨a',cap',h,rfl⟩ | ⟨b',off',cap',h1,h2,h3,h4,h5,h6,h7⟩
 . simp at hL
 . injection h1 with e1 e2 e3
   exact⟨b',off',e1,h4,h7⟩
def ZbZ (Fs:List Fd) (s:Zy_):Int:=if ZaQ Fs s < Fs.length then (ZaQ Fs s:Int) else -1
theorem ZhM {s:Zy_} (hk:k < Fs.length) (h:(Fs[k].nm.toList == s.toList)=true) (hall:∀ i (h:i < Fs.length),i < k->(Fs[i].nm.toList == s.toList)=false):ZbZ Fs s=k:=by
 unfold ZbZ;rw [ZnZ hk h hall,if_pos hk]
theorem ZjG {s:Zy_} (hall:∀ i (h:i < Fs.length),(Fs[i].nm.toList == s.toList)=false):ZbZ Fs s= -1:=by
 unfold ZbZ;rw [Zrp hall,if_neg (Nat.lt_irrefl _)]
theorem ZbC {s:Zy_} (h:ZaQ Fs s < Fs.length):ZbZ Fs s=ZaQ Fs s:=if_pos h
theorem ZjF {s:Zy_} (h:¬ ZaQ Fs s < Fs.length):ZbZ Fs s= -1:=if_neg h
theorem Zbj (lo:Nat) (v:Value) (Fs:List Fd) (s:Zy_) (w:World) (hv:ZaU lo w v Fs) :
 Calls prog 194 #[v,.string s] w fun e w'=>e=.returned (.int .i64 (ZbZ Fs s))/\w'=w:=by
 by_cases hL:Fs=[]
 . subst hL
   obtain⟨a,cap,rfl⟩:=Zf9 hv;clear hv;go_enter func194,ntmps194;go_wp2
   go_loop [5] (fun i=>i=.int .i64 0) (fun _=>0)
   case atStart=>rfl
   case round=>
    subst hrel;go_wp2;go_ret;exact⟨rfl,rfl⟩
 . obtain⟨b,off,cap,rfl,hm,hbw,_,hc⟩:=hv.full hL
   clear hv;unfold maxLen at hm;go_enter func194,ntmps194;go_wp2
   go_loop [5] (fun i=>∃ k:Nat,i=.int .i64 k/\k<=Fs.length/\∀ i (h:i < Fs.length),i < k->(Fs[i].nm.toList == s.toList)=false) (fun i=>Fs.length - (intOf i).toNat)
   case atStart=>exact⟨0,rfl,by omega,fun i _ h=>by omega⟩
   case round=>
    obtain⟨k,rfl,hk,hall⟩:=hrel;have HA:=Zab hall;clear hall
    by_cases hlt:k < Fs.length
    . obtain⟨_,wv,hcell,_⟩:=hc k hlt
      have c0:=hcell.c0;clear hcell
      by_cases he:(Fs[k].nm.toList == s.toList)=true
      . go_wp2
        go_ret;exact⟨by rw [ZhM hlt he HA.o];rfl,rfl⟩
      . have he':(Fs[k].nm.toList == s.toList)=false:=by simpa using he
        clear he;go_wp2
        go_round
        case rel=>exact⟨k+1,by go_num,by omega,fun i h h'=>by
                   by_cases e:i=k
                   . subst e;exact he'
                   . exact HA.o i h (by omega)⟩
        . simp [intOf];omega
    . go_wp2
      go_ret;exact⟨by rw [ZjG fun i h=>HA.o i h (by omega)];rfl,rfl⟩
theorem ZdD (lo:Nat) (v:Value) (Fs:List Fd) (s:Zy_) (w:World) (hv:ZaU lo w v Fs) :
 Calls prog 193 #[v,.string s] w fun e w'=>e=.returned (.bool (Zbh Fs s))/\w'=w:=by
 have HV:=Zab hv
 by_cases hp:ZaQ Fs s < Fs.length
 . obtain⟨b,off,cap,rfl,hm,hbw,_,hc⟩:=hv.full (by intro e;rw [e] at hp;simp at hp)
   clear hv;unfold maxLen at hm;obtain⟨_,wv,hcell,_⟩:=hc _ hp;have c1:=hcell.c1;have HQ:Hd (Zbh Fs s=!(Fs[ZaQ Fs s].kd == 4)):=Zlj hp;have HP:Hd (ZbZ Fs s=ZaQ Fs s):=ZbC hp;clear hcell hc;go_enter func193,ntmps193;go_wp2_with fail;refine (Zbj lo _ Fs s _ HV.o).mono ?_;rintro e w1 ⟨rfl,rfl⟩;rw [HP.o]
   cases hk:(Fs[ZaQ Fs s].kd == 4) with
   | true=>
    have HQ2:Hd (Zbh Fs s=false):=by unfold Hd;rw [HQ.o,hk];rfl
    have e4:Fs[ZaQ Fs s].kd=4:=by simpa using hk
    rw [e4] at c1;clear e4 hk HQ HP;go_wp2;go_ret;exact⟨Zaa HQ2.o.symm,rfl⟩
   | false=>
    have HQ2:Hd (Zbh Fs s=true):=by unfold Hd;rw [HQ.o,hk];rfl
    have e4:¬ Fs[ZaQ Fs s].kd=4:=by simpa using hk
    clear hk HQ HP;go_wp2;go_ret;exact⟨Zaa (by rw [HQ2.o];simp [e4]),rfl⟩
 . obtain⟨a,cap,rfl⟩:=hv.form
   clear hv;have HQ:Hd (Zbh Fs s=false):=Zlk hp;have HP:Hd (ZbZ Fs s= -1):=ZjF hp;go_enter func193,ntmps193;go_wp2_with fail;refine (Zbj lo _ Fs s _ HV.o).mono ?_;rintro e w1 ⟨rfl,rfl⟩;rw [HP.o];clear HP hp;go_wp2;go_ret;exact⟨Zaa HQ.o.symm,rfl⟩
theorem Zc9 {L:List Zy_}{s:Zy_}:ZdC L s=true↔s ∈ L:=by
 unfold ZdC;rw [List.any_eq_true]
 constructor
 . rintro⟨x,hx,h⟩;rw [ZaI] at h;subst h;exact hx
 . exact fun h=>⟨s,h,ZcM _⟩
theorem Zij {L:List Zy_}{s:Zy_} (h:ZdC L s=false):s ∉ L:=fun hm=>by rw [Zc9.2 hm] at h;cases h
def Zfb (Ms:List Md) (kind field:Zy_) (row:List Zy_):Bool:=(Zao kind Ms field).all (ZdC row)
theorem Zc0 {kind field:Zy_}{row:List Zy_}:Zfb Ms kind field row=true↔∀ r ∈ Zao kind Ms field,r ∈ row:=by
 unfold Zfb;rw [List.all_eq_true];exact⟨fun h r hr=>Zc9.1 (h r hr),fun h r hr=>Zc9.2 (h r hr)⟩
def ZiQ (kind field:Zy_) (row:List Zy_) (m:Md):Bool:=!ZcU kind field m || ((m.wh.toList.isEmpty || ZdC row m.wh)&&(m.fr.toList.isEmpty || ZdC row m.fr))
theorem Zpq {kind field:Zy_}{row:List Zy_} (h:∀ i (h:i < Ms.length),ZiQ kind field row Ms[i]=true):Zfb Ms kind field row=true:=by
 rw [Zc0];intro r hr;obtain⟨m,hm,hf,hrd⟩:=ZdE.1 hr;obtain⟨i,hi,rfl⟩:=List.getElem_of_mem hm;have:=h i hi;unfold ZiQ at this;rw [hf] at this;simp only [Bool.not_true,Bool.false_or,Bool.and_eq_true,Bool.or_eq_true] at this;unfold ZiB at hrd
 rcases List.mem_append.1 hrd with h1 | h1
 . by_cases he:Ms[i].wh.toList.isEmpty=true
   . rw [if_pos he] at h1;cases h1
   . rw [if_neg he] at h1
     rw [List.mem_singleton.1 h1]
     rcases this.1 with h2 | h2
     . exact absurd h2 he
     . exact Zc9.1 h2
 . by_cases he:Ms[i].fr.toList.isEmpty=true
   . rw [if_pos he] at h1;cases h1
   . rw [if_neg he] at h1
     rw [List.mem_singleton.1 h1]
     rcases this.2 with h2 | h2
     . exact absurd h2 he
     . exact Zc9.1 h2
theorem ZgQ {kind field:Zy_}{row:List Zy_}{i:Nat} (hi:i < Ms.length) (h:ZiQ kind field row Ms[i]=false):Zfb Ms kind field row=false:=by
 cases hr:Zfb Ms kind field row with
 | false=>rfl
 | true=>
  rw [Zc0] at hr
  have hf:ZcU kind field Ms[i]=true:=by
   cases hf:ZcU kind field Ms[i] with
   | true=>rfl
   | false=>unfold ZiQ at h;rw [hf] at h;cases h
  have key:∀ r ∈ ZiB Ms[i],ZdC row r=true:=fun r hrr=>Zc9.2 (hr r (ZdE.2 ⟨Ms[i],List.getElem_mem hi,hf,hrr⟩))
  have hx:ZiQ kind field row Ms[i]=true:=by
   unfold ZiQ;simp only [hf,Bool.not_true,Bool.false_or,Bool.and_eq_true,Bool.or_eq_true];refine⟨?_,?_⟩
   . cases hw:Ms[i].wh.toList.isEmpty with
     | true=>exact Or.inl rfl
     | false=>exact Or.inr (key _ (Zsk hw))
   . cases hw:Ms[i].fr.toList.isEmpty with
     | true=>exact Or.inl rfl
     | false=>exact Or.inr (key _ (Zsj hw))
  rw [hx] at h;cases h
theorem Zks (lo:Nat) (v rv:Value) (Ms:List Md) (kind field:Zy_) (row:List Zy_) (w:World) (hv:ZbY lo w v Ms) (hr:Zae w rv row) :
 Calls prog 195 #[v,.string kind,.string field,rv] w fun e w'=>e=.returned (.bool (Zfb Ms kind field row))/\Zw_ w w':=by
 have HR:=Zab hr;obtain⟨ra,rn,rcap,rfl⟩:=hr.form;clear hr
 by_cases hL:Ms=[]
 . subst hL
   obtain⟨a,cap,rfl⟩:=hv.form;clear hv;have HQ:Hd (Zfb [] kind field row=true):=rfl;go_enter func195,ntmps195;go_wp2
   go_loop [9] (fun i=>i=.int .i64 0) (fun _=>0)
   case atStart=>rfl
   case round=>
    subst hrel;go_wp2;go_ret;exact⟨Zaa HQ.o.symm,Below.refl _ _⟩
 obtain⟨b,off,cap,rfl,hm,hbw,_,hc⟩:=hv.full hL;clear hv;unfold maxLen at hm;go_enter func195,ntmps195;go_wp2
 go_loopw [9] (fun i wr=>∃ k:Nat,i=.int .i64 k/\k<=Ms.length/\Zw_ w wr/\∀ i (h:i < Ms.length),i < k->ZiQ kind field row Ms[i]=true) (fun i _=>Ms.length - (intOf i).toNat)
 case atStart=>exact⟨0,rfl,by omega,Below.refl _ _,fun i _ h=>by omega⟩
 case round=>
  obtain⟨k,rfl,hk,hb,hall⟩:=hrel;have HA:=Zab hall;have HB:=Zab hb;clear hall hb
  by_cases hlt:k < Ms.length
  . obtain⟨_,hcell⟩:=hc k hlt
    obtain⟨c0,c1,c2,c3,c4,c5⟩:=hcell.below HB.o hbw;clear hcell;have HB1:∀ o,Hd (Zw_ w (wr.alloc o)):=fun o=>HB.o.alloc HB.o.size _
    have HNX:Hd (ZiQ kind field row Ms[k]=true->∀ i (h:i < Ms.length),i < k+1->ZiQ kind field row Ms[i]=true):=fun h i hi hik=>by
     by_cases e:i=k
     . subst e;exact h
     . exact HA.o i hi (by omega)
    cases hk1:(Ms[k].kind.toList == kind.toList) with
    | false=>
     go_wp2;go_roundw
     . exact⟨k+1,by go_num,by omega,(HB1 _).o,HNX.o (by unfold ZiQ ZcU;simp [hk1])⟩
     . simp [intOf];omega
    | true=>
     cases hf1:(Ms[k].field.toList == field.toList) with
     | false=>
      go_wp2;go_roundw
      . exact⟨k+1,by go_num,by omega,(HB1 _).o,HNX.o (by unfold ZiQ ZcU;simp [hk1,hf1])⟩
      . simp [intOf];omega
     | true=>
      cases hwe:Ms[k].wh.toList.isEmpty with
      | true=>
       cases hfe:Ms[k].fr.toList.isEmpty with
       | true=>
        go_wp2;go_roundw
        . exact⟨k+1,by go_num,by omega,(HB1 _).o,HNX.o (by unfold ZiQ ZcU;simp [hk1,hf1,hwe,hfe])⟩
        . simp [intOf];omega
       | false=>
        go_wp2_with fail;refine (ZcV _ row Ms[k].fr _ (HR.o.below (HB1 _).o)).mono ?_;rintro e w1 ⟨rfl,rfl⟩
        cases hfh:ZdC row Ms[k].fr with
        | true=>
         go_wp2;go_roundw
         . exact⟨k+1,by go_num,by omega,(HB1 _).o,HNX.o (by unfold ZiQ ZcU;simp [hk1,hf1,hwe,hfe,hfh])⟩
         . simp [intOf];omega
        | false=>
         go_wp2;go_ret;exact⟨Zaa (ZgQ hlt (by unfold ZiQ ZcU;simp [hk1,hf1,hwe,hfe,hfh])).symm,(HB1 _).o⟩
      | false=>
       go_wp2_with fail;refine (ZcV _ row Ms[k].wh _ (HR.o.below (HB1 _).o)).mono ?_;rintro e w1 ⟨rfl,rfl⟩
       cases hwh:ZdC row Ms[k].wh with
       | false=>
        go_wp2;go_ret;exact⟨Zaa (ZgQ hlt (by unfold ZiQ ZcU;simp [hk1,hf1,hwe,hwh])).symm,(HB1 _).o⟩
       | true=>
        cases hfe:Ms[k].fr.toList.isEmpty with
        | true=>
         go_wp2;go_roundw
         . exact⟨k+1,by go_num,by omega,(HB1 _).o,HNX.o (by unfold ZiQ ZcU;simp [hk1,hf1,hwe,hwh,hfe])⟩
         . simp [intOf];omega
        | false=>
         go_wp2_with fail;refine (ZcV _ row Ms[k].fr _ (HR.o.below (HB1 _).o)).mono ?_;rintro e w1 ⟨rfl,rfl⟩
         cases hfh:ZdC row Ms[k].fr with
         | true=>
          go_wp2;go_roundw
          . exact⟨k+1,by go_num,by omega,(HB1 _).o,HNX.o (by unfold ZiQ ZcU;simp [hk1,hf1,hwe,hwh,hfe,hfh])⟩
          . simp [intOf];omega
         | false=>
          go_wp2;go_ret;exact⟨Zaa (ZgQ hlt (by unfold ZiQ ZcU;simp [hk1,hf1,hwe,hwh,hfe,hfh])).symm,(HB1 _).o⟩
  . go_wp2
    go_ret;exact⟨Zaa (Zpq fun i h=>HA.o i h (by omega)).symm,HB.o⟩
structure Zdw (base:Nat) (W:World) (v:Value) (R:List Zy_):Prop where
 row:W.ownsRow base 9 1 v R.length (R.map Value.string)
 sz:∀ s ∈ R,s.size<=maxLen
theorem Zdw.form {R:List Zy_} (h:Zdw base W v R):∃ a cap,v=.slice a R.length cap:=by
 rcases h.row.2 with ⟨hv,hn⟩ | ⟨g,cap,cur,hv,_⟩
 . rw [hn];exact⟨_,_,hv⟩
 . exact⟨_,_,hv⟩
theorem Zdw.below {W':World}{R:List Zy_} (h:Zdw base W v R) (hb:Below W.heap.size W W'):Zdw base W' v R:=by
 refine⟨⟨h.row.1,?_⟩,h.sz⟩
 rcases h.row.2 with hv | ⟨g,cap,cur,hv,h1,h2,h3⟩
 . exact Or.inl hv
 . have hg:g < W.heap.size:=by
    rcases Nat.lt_or_ge g W.heap.size with h | h
    . exact h
    . rw [Array.getElem?_eq_none h] at h2;cases h2
   exact Or.inr ⟨g,cap,cur,hv,h1,by rw [hb.block g hg];exact h2,h3⟩
theorem Zdw.strs {R:List Zy_} (h:Zdw base W v R):Zae W v R:=by
 rcases h.row.2 with ⟨hv,hn⟩ | ⟨g,cap,cur,hv,h1,h2,h3,h4,h5,h6⟩
 . exact Or.inl ⟨none,0,hv,List.length_eq_zero_iff.1 hn⟩
 . by_cases hR:R=[]
   . subst hR;exact Or.inl ⟨_,_,hv,rfl⟩
   . have hg:g < W.heap.size:=by
      rcases Nat.lt_or_ge g W.heap.size with h | h
      . exact h
      . rw [Array.getElem?_eq_none h] at h2;cases h2
     refine Or.inr ⟨g,0,cap,hv,hR,Nat.le_trans h3 h4,hg,fun i hi=>?_,h.sz⟩;rw [Nat.zero_add,cell_of_row W g i cur 9 (0,0) h2];have:(cur.toList.take (R.length*1))[i]?=(R.map Value.string)[i]?:=by rw [h6]
     rw [List.getElem?_take_of_lt (by omega)] at this
     simpa [hi] using this
theorem Zdw.mono {base':Nat}{R:List Zy_} (h:Zdw base W v R) (hb:base'<=base):Zdw base' W v R:=by
 refine⟨⟨h.row.1,?_⟩,h.sz⟩
 rcases h.row.2 with hv | ⟨g,cap,cur,hv,h1,h2⟩
 . exact Or.inl hv
 . exact Or.inr ⟨g,cap,cur,hv,Nat.le_trans hb h1,h2⟩
theorem Zdw.nil (base:Nat) (W:World):Zdw base W (.slice none 0 0) []:=⟨World.ownsRow_nil _ _ _ _,fun s h=>by simp at h⟩
theorem Zdw.made (W:World) (g:Nat) (hg:W.heap.size=g) (hb:base<=g):Zdw base (W.alloc (.cells #[] 9)) (.slice (some ⟨g,0,none⟩) 0 0) []:=by
 subst hg;exact⟨World.ownsRow_made (base:=base) (e:=9) (size:=1) W #[] 0 hb Zz_ (by simp),fun s h=>by simp at h⟩
theorem Zdw.grown {R:List Zy_} (h:Zdw base W v R) (hg:W.grownBy w' v.ownBlock) (hb:base<=W.heap.size):Below base W w':=by
 refine⟨hg.os,hg.tape,hg.output,hg.size,fun k hk=>hg.block k (by omega) ?_⟩
 rcases h.row.2 with ⟨hv,_⟩ | ⟨g,cap,cur,hv,h1,_⟩
 . rw [hv];intro e;cases e
 . rw [hv];intro e
   have:k=g:=by simpa [Value.ownBlock] using e
   omega
theorem Zdw.snoc {v':Value}{R:List Zy_}{s:Zy_} (h:Zdw base W v R) (hown:w'.ownsRow base 9 1 v' (R.length+1) (R.map Value.string ++ [.string s])) (hs:s.size<=maxLen):Zdw base w' v' (R ++ [s]):=by
 refine⟨by rw [List.length_append,List.map_append];exact hown,fun t ht=>?_⟩
 rcases List.mem_append.1 ht with h1 | h1
 . exact h.sz t h1
 . rw [List.mem_singleton.1 h1];exact hs
theorem Ze1 (X:World) (g:Nat) (u:Value) (t:TypeId) (hg:X.heap.size=g):∀ j x,[u][j]?=some x->(X.alloc (.cells #[u] t)).cell? ((⟨g,0,none⟩:Addr).add j)=some x:=by
 subst hg;intro j x hj;rw [Go.WideShapes.add_plain,Nat.zero_add]
 cases j with
 | zero=>simp at hj;subst hj;simp
 | succ j=>simp at hj
theorem ZdG (s:Zy_):∀ u ∈ [Value.string s],u.oneCell'=true:=fun u hu=>by rw [List.mem_singleton.1 hu];rfl
def ZdU (Fs:List Fd) (rd:Zy_->List Zy_) (R:List Zy_) (k:Nat):Prop:=∀ i (h:i < Fs.length),i < k->Fs[i].nm ∈ R\/¬ ∀ r ∈ rd Fs[i].nm,r ∈ R
theorem ZdU.stuck {rd:Zy_->List Zy_}{R:List Zy_} (h:ZdU Fs rd R k) (hk:Fs.length<=k):Zh4 (ZaG Fs) rd R:=by
 intro x hx hn;obtain⟨i,hi,rfl⟩:=Zcp.1 hx
 rcases h i hi (by omega) with h1 | h1
 . exact absurd h1 hn
 . exact h1
theorem ZdU.succ {rd:Zy_->List Zy_}{R:List Zy_} (h:ZdU Fs rd R k) (hk:k < Fs.length) (hx:Fs[k].nm ∈ R\/¬ ∀ r ∈ rd Fs[k].nm,r ∈ R):ZdU Fs rd R (k+1):=by
 intro i hi hik
 by_cases e:i=k
 . subst e;exact hx
 . exact h i hi (by omega)
theorem Zd8 (Fs:List Fd):(ZaG Fs).length=Fs.length:=by simp [ZaG]
theorem Zii {rd:Zy_->List Zy_}{R:List Zy_} (h:ZcF (ZaG Fs) rd R):R.length<=Fs.length:=by
 have:=List.Nodup.length_le_of_subset h.nodup h.sub
 rwa [Zd8] at this
def ZoR (x:Sh) (Ms:List Md) (R:List Zy_):Prop:=
 ZcF (ZaG x.fields) (Zao x.kind Ms) R/\R.length<=x.fields.length/\(R.length=x.fields.length↔Zbn Ms x=true)
theorem ZoR.mk' {x:Sh}{R:List Zy_} (hg:ZcF (ZaG x.fields) (Zao x.kind Ms) R) (hn:x.fields.length<=n) (h:R.length=n\/Zh4 (ZaG x.fields) (Zao x.kind Ms) R):ZoR x Ms R:=by
 have hl:=Zii hg;refine⟨hg,hl,fun e=>Zln hg (by rw [Zd8];omega),fun hb=>?_⟩
 rcases h with h | h
 . omega
 . rcases Nat.lt_or_ge R.length x.fields.length with hlt | hge
   . unfold Zbn at hb
     rw [Zn4 h (by rw [Zd8];exact hlt)] at hb;cases hb
   . omega
end
section
open Go.RowKit Go.Deep Go.Maps Go.ChangeMaps Go.MapKept
open Go.WideElems (Fit)
variable {P:Program} {w:World} {k:TypeId}
theorem Zdq {H:Type}{w':World}{R:Value->Option (DataW H×List MemPlace)}{b n:Nat}{D:DataW H} (h:w.ownsMap P k R b n D) (hb:w'.heap[b]?=w.heap[b]?):w'.ownsMap P k R b n D:=by
 obtain⟨es,clock,h1,h2,h3,h4⟩:=h;exact⟨es,clock,hb.trans h1,h2,h3,h4⟩
theorem Zi9 {H:Type}{t e:TypeId}{q:IntKind} (L:WideMaps.KeyLaw P k) (ht:P.underlying t=some (.map k e)) (he:P.underlying e=some (.int q))
 (hz:∀ u:World,(zeroValue e).run P u=.ok (.int q 0) u) {b n:Nat} {D:DataW H} (h:w.ownsMap P k (plainElem P e) b n D) (hn:n < maxLen) {key:Value} {kl:Lit} (hkey:keyOf P k key=some kl) :
 ∃ (c:Int) (v0:Value) (st:Nat) (w1:World),(Instr.mapEntry t (.map (some b)) key).run P w=.ok (.tuple #[v0,goInt st]) w1/\D.atKey kl (.lit (.int q 0))=.lit (.int q c)/\(Lit.int q c).wf=true/\
  (Instr.lookup t (.map (some b)) key false).run P w=.ok (.int q c) w/\(Instr.lookup t (.map (some b)) key false).run P w1=.ok (.int q c) w1/\w.grownBy w1 (some b)/\w1.heap.size=w.heap.size/\
  ∀ (val:Int),(Lit.int q val).wf=true->∃ w2,(Instr.entryStore t (.map (some b)) (goInt st) (.int q val)).run P w1=.ok () w2/\w2.ownsMap P k (plainElem P e) b (n+1) (D.put kl (.lit (.int q val)))/\w.grownBy w2 (some b)/\w2.heap.size=w.heap.size:=by
 have K:Keyed P k:=Keyed.of_law L;have hw0:(Lit.int q 0).wf=true:=by cases q <;> decide
 obtain⟨c,hl,hat,hwc⟩:=h.lookup_int K ht he (hz w) hkey;have hup:=h.update K ht hn hkey (plainElem_int (H:=H) he hw0);have hups:∀ val:Int,(Lit.int q val).wf=true->_:=fun val hv=>h.update K ht hn hkey (plainElem_int (H:=H) he hv)
 have h':=h;obtain⟨es,clock,hb,F,hs,hD⟩:=h;obtain⟨v0,st,es1,clock1,hrun,-,hst⟩:=WideElems.entry_then_store L ht hz hb F hkey;have hone:(setBlock w b (.map es1 clock1)).heap[b]?=some (.map es1 clock1):=heap_setBlock_same hb _;have hgr:∀ o,w.grownBy (setBlock w b o) (some b):=fun o=>⟨rfl,rfl,rfl,by simp [setBlock],fun i _ hi=>heap_setBlock_other hb _ (fun e=>hi (by rw [e]))⟩
 have hlook:(Instr.lookup t (.map (some b)) key false).run P (setBlock w b (.map es1 clock1))=.ok (.int q c) (setBlock w b (.map es1 clock1)):=by
  rcases L.find w hkey es.toList F.keys with ⟨h1,h2⟩ | ⟨j,e0,h1,h2,h3⟩
  . have hm:(Instr.mapEntry t (.map (some b)) key).run P w=.ok (.tuple #[.int q 0,goInt clock]) (setBlock w b (.map (es.push ⟨key,.int q 0,clock⟩) (clock+1))):=by
     simp [Instr.mapEntry,run_underlying ht,MapKept.run_getObj_map hb,L.check w false hkey,h1,hz,MapKept.run_setObj_map _ hb,Result.andThen,setBlock]
    have hu:(Instr.mapUpdate t (.map (some b)) key (.int q 0)).run P w=.ok () (setBlock w b (.map (es.push ⟨key,.int q 0,clock⟩) (clock+1))):=by
     simp [Instr.mapUpdate,run_underlying ht,MapKept.run_getObj_map hb,L.check w false hkey,h1,MapKept.run_setObj_map _ hb,Result.andThen,setBlock]
    obtain⟨w',hr',ho',-⟩:=hup;rw [hu] at hr';rw [hm] at hrun;have e1:setBlock w b (.map (es.push ⟨key,.int q 0,clock⟩) (clock+1))=setBlock w b (.map es1 clock1):=by injection hrun
    have e2:setBlock w b (.map (es.push ⟨key,.int q 0,clock⟩) (clock+1))=w':=by injection hr'
    rw [<- e2,e1] at ho';obtain⟨c',hl',hat',-⟩:=ho'.lookup_int K ht he (hz _) hkey
    have hc0:c=0:=by
     have hlk:(Instr.lookup t (.map (some b)) key false).run P w=.ok (.int q 0) w:=by
      simp [Instr.lookup,run_underlying ht,MapKept.run_getObj_map hb,L.check w _ hkey,h1,hz,Result.andThen]
     rw [hl] at hlk;injection hlk with e
     injection e
    rw [atKey_put_same (by rw [hD];exact⟨_,rfl⟩) (K.key hkey)] at hat'
    have:c'=0:=by
     injection hat' with e
     injection e with _ e
     exact e.symm
    rw [hc0,<- this];exact hl'
  . have hj:es[j]?=some e0:=by simpa using h2
    have hsame:es.modify j (fun e=>{ e with key:=key })=es:=by
     apply Array.ext';rw [Array.toList_modify];apply List.ext_getElem?;intro i;rw [List.getElem?_modify]
     by_cases ij:j=i
     . subst ij
       rw [h2];simp [<- h3]
     . simp [ij]
    have hm:(Instr.mapEntry t (.map (some b)) key).run P w=.ok (.tuple #[e0.val,goInt e0.born]) (setBlock w b (.map es clock)):=by
     simp [Instr.mapEntry,run_underlying ht,MapKept.run_getObj_map hb,L.check w false hkey,h1,hj,h3,L.stays w hkey,hsame,MapKept.run_setObj_map _ hb,Result.andThen,setBlock]
    rw [hm] at hrun;have e1:setBlock w b (.map es clock)=setBlock w b (.map es1 clock1):=by injection hrun
    have ho:(setBlock w b (.map es1 clock1)).ownsMap P k (plainElem P e) b n D:=by
     rw [<- e1];exact Zdq h' ((heap_setBlock_same hb _).trans hb.symm)
    obtain⟨c',hl',hat',-⟩:=ho.lookup_int K ht he (hz _) hkey;rw [hat] at hat'
    have:c=c':=by
     injection hat' with e
     injection e with _ e
    rw [this];exact hl'
 refine⟨c,v0,st,_,hrun,hat,hwc,hl,hlook,hgr _,by simp [setBlock],fun val hv=>?_⟩;obtain⟨es',clock',hrs,hmu⟩:=hst _ (.int q val) hone;obtain⟨w',hr',ho',hg'⟩:=hups val hv;rw [hmu] at hr';have e2:setBlock w b (.map es' clock')=w':=by injection hr'
 refine⟨_,hrs,Zdq ho' ?_,?_,by simp [setBlock]⟩
 . rw [heap_setBlock_same hone,<- e2,heap_setBlock_same hb]
 . exact (hgr _).trans ⟨rfl,rfl,rfl,by simp [setBlock],fun i _ hi=>heap_setBlock_other hone _ (fun e=>hi (by rw [e]))⟩
end
open Go.ChangeShapes Go.WideShapes Go.ChangeAt Go.RowKit Go.Deep
open Go.ChangeMaps (open_string shut_string)
theorem Tryz.own:ownKnob prog.godebug=none:=by kernel_rfl
theorem Tryz.cells9:prog.cellsOf 9=1:=by kernel_rfl
theorem Tryz.cells3:prog.cellsOf 3=1:=by kernel_rfl
theorem Tryz.cells4:prog.cellsOf 4=1:=by kernel_rfl
theorem Tryz.cells107:prog.cellsOf 107=1:=by kernel_rfl
section
variable {H:Type} {enc:TypeId×Value->H} {W:World}
theorem ZhH {fuel:Nat}{c:Value}{x:DataW H×List MemPlace} (h:DataW.trod enc prog W 0 (fun _=>true) true fuel 107 [c]=some x):∃ L,Zae W c L:=by
 rcases open_strs underlying107 underlying9 Tryz.cells9 h with ⟨hcs,_⟩ | ⟨a,len,cap,m,Sx,hcs,_,hl,hm,hmm,_,hcell⟩
 . simp only [List.cons.injEq,and_true] at hcs
   exact⟨[],Or.inl ⟨_,_,hcs,rfl⟩⟩
 . simp only [List.cons.injEq,and_true] at hcs
   simp only [if_true] at hmm;subst hmm
   by_cases h0:len=0
   . subst h0
     exact⟨[],Or.inl ⟨_,_,hcs,rfl⟩⟩
   . obtain⟨b,off,spot⟩:=a
     have hspot:spot=none:=by simpa [Addr.add] using World.cell?_spot (hcell 0 (by omega)).1
     subst hspot;refine⟨(List.range len).map Sx,Or.inr ⟨b,off,m,?_,?_,?_,?_,?_,?_⟩⟩
     . rw [hcs];simp
     . intro e;simp at e;exact h0 e
     . simp;omega
     . exact World.block_lt_of_cell? W _ (hcell 0 (by omega)).1
     . intro i hi
       simp at hi;have:=(hcell i (by omega)).1;rw [add_plain] at this
       simpa using this
     . intro s hs
       obtain⟨i,hi,rfl⟩:=List.mem_map.1 hs;exact (hcell i (by have:=List.mem_range.1 hi;omega)).2
end
theorem Zbz {α:Type}{p:Nat->α->Prop} (n:Nat):(∀ i,i < n->∃ x,p i x)->∃ L:List α,L.length=n/\∀ i (h:i < L.length),p i L[i]:=by
 induction n with
 | zero=>intro _;exact⟨[],rfl,fun i h=>absurd h (by simp)⟩
 | succ n ih=>
  intro h;obtain⟨L,hl,hL⟩:=ih (fun i hi=>h i (by omega));obtain⟨x,hx⟩:=h n (by omega);refine⟨L ++ [x],by simp [hl],fun i hi=>?_⟩
  by_cases e:i < L.length
  . rw [List.getElem_append_left e];exact hL i e
  . have e2:i=n:=by simp at hi;omega
    subst e2;have:(L ++ [x])[i]=x:=by rw [List.getElem_append_right (by omega)];simp [hl]
    rw [this];exact hx
theorem ZsI {l:List Value} (h:l.length=2):∃ c0 c1,l=[c0,c1]:=by
 match l,h with
 | [c0,c1],_=>exact⟨c0,c1,rfl⟩
theorem Zae.in0 {w:World}{v:Value}{L:List Zy_} (h:Zae w v L):Zas 0 w v L:=by
 rcases h with h | ⟨b,off,cap,h1,h2,h3,h4,h5,h6⟩
 . exact Or.inl h
 . exact Or.inr ⟨b,off,cap,h1,h2,h3,h4,h5,h6,Nat.zero_le _⟩
theorem Tryz.cells163:prog.cellsOf 163=7:=by kernel_rfl
end Go.Proofs.YtbdhbihhgfpnnaaGreat
