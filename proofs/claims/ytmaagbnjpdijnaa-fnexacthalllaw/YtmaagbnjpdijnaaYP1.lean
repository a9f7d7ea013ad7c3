import Derived.Test.YtmaagbnjpdijnaaYS11
import Derived.Test.YtmaagbnjpdijnaaYB1
import Derived.Test.YtmaagbnjpdijnaaYA2
namespace Go.Proofs.Ytmaagbnjpdijnaa

/-- A ROW: each differs from those ahead of it, is one of N, and what it reads is ahead of it. -/
def Good {α : Type} (N : List α) (rd : α → List α) (R : List α) : Prop := ∀ i (h : i < R.length), R[i] ∈ N ∧ R[i] ∉ R.take i ∧ ∀ r ∈ rd R[i], r ∈ R.take i
/-- none of N can be put behind the row -/
def Stuck {α : Type} (N : List α) (rd : α → List α) (row : List α) : Prop := ∀ x ∈ N, x ∉ row → ¬ ∀ r ∈ rd x, r ∈ row

section
variable {α : Type} {N : List α} {rd : α → List α} {R R' : List α}
theorem Good.nil : Good N rd [] := fun i h => absurd h (Nat.not_lt_zero i)
theorem Good.snoc {x : α} (hg : Good N rd R) (hn : x ∈ N) (hx : x ∉ R) (hr : ∀ r ∈ rd x, r ∈ R) : Good N rd (R ++ [x]) := by
  intro i h
  have h' : i < R.length + 1 := by rw [List.length_append] at h; exact h
  by_cases hi : i < R.length
  · rw [List.getElem_append_left hi, List.take_append_of_le_length (Nat.le_of_lt hi)]
    exact hg i hi
  · have e : i = R.length := by omega
    subst e
    have e1 : (R ++ [x])[R.length] = x := by simp
    have e2 : (R ++ [x]).take R.length = R := by simp
    rw [e1, e2]
    exact ⟨hn, hx, hr⟩
theorem Good.init {x : α} (h : Good N rd (R ++ [x])) : Good N rd R ∧ x ∈ N ∧ x ∉ R ∧ ∀ r ∈ rd x, r ∈ R := by
  constructor
  · intro i hi
    have := h i (by rw [List.length_append]; omega)
    rw [List.getElem_append_left hi, List.take_append_of_le_length (Nat.le_of_lt hi)] at this
    exact this
  · have := h R.length (by simp)
    have e1 : (R ++ [x])[R.length] = x := by simp
    have e2 : (R ++ [x]).take R.length = R := by simp
    rw [e1, e2] at this
    exact this
/-- from the beginning to the end -/
theorem Good.along {p : List α → Prop} (h0 : p []) (hs : ∀ row x, Good N rd row → x ∈ N → x ∉ row → (∀ r ∈ rd x, r ∈ row) → p row → p (row ++ [x])) : ∀ (n : Nat) (R : List α), R.length = n → Good N rd R → p R := by
  intro n
  induction n with
  | zero => intro R hl _; rw [List.length_eq_zero_iff.1 hl]; exact h0
  | succ n ih =>
    intro R hl hg
    have hne : R ≠ [] := by intro e; rw [e] at hl; cases hl
    have e : R.dropLast ++ [R.getLast hne] = R := List.dropLast_concat_getLast hne
    rw [← e] at hg ⊢
    obtain ⟨h1, h2, h3, h4⟩ := hg.init
    exact hs _ _ h1 h2 h3 h4 (ih _ (by rw [List.length_dropLast, hl]; rfl) h1)
theorem Good.nodup (h : Good N rd R) : R.Nodup := by
  refine Good.along (p := fun R => R.Nodup) List.nodup_nil (fun row x _ _ hx _ ih => ?_) _ R rfl h
  rw [List.nodup_append]
  exact ⟨ih, by simp, fun a ha b hb => by simp at hb; subst hb; exact fun e => hx (e ▸ ha)⟩
theorem Good.sub (h : Good N rd R) : R ⊆ N := by
  intro y hy
  obtain ⟨i, hi, rfl⟩ := List.getElem_of_mem hy
  exact (h i hi).1
theorem Good.into (h : Good N rd R) (hs : Stuck N rd R') : R ⊆ R' := by
  refine Good.along (p := fun R => R ⊆ R') (List.nil_subset _) (fun row x _ hn _ hr ih => ?_) _ R rfl h
  intro z hz
  rcases List.mem_append.1 hz with h | h
  · exact ih h
  · simp at h; subst h
    exact Classical.byContradiction fun hc => hs z hn hc fun r hrr => ih (hr r hrr)
theorem Good.all (h : Good N rd R) (hl : N.length ≤ R.length) : ∀ x ∈ N, x ∈ R := by
  intro x hx
  refine Classical.byContradiction fun hc => ?_
  have : (x :: R).length ≤ N.length := List.Nodup.length_le_of_subset (List.nodup_cons.2 ⟨hc, h.nodup⟩) (List.cons_subset.2 ⟨hx, h.sub⟩)
  simp at this; omega
end

/-- one more, the first that can be put -/
def stepG {α : Type} [DecidableEq α] (N : List α) (rd : α → List α) (R : List α) : List α :=
  match N.find? fun x => decide (x ∉ R) && (rd x).all fun r => decide (r ∈ R) with
  | some x => R ++ [x]
  | none => R
def greedy {α : Type} [DecidableEq α] (N : List α) (rd : α → List α) : Nat → List α
  | 0 => []
  | n + 1 => stepG N rd (greedy N rd n)
/-- there is a row of all -/
def rowB {α : Type} [DecidableEq α] (N : List α) (rd : α → List α) : Bool := decide (N.length ≤ (greedy N rd N.length).length)
section
variable {α : Type} [DecidableEq α] {N : List α} {rd : α → List α} {R : List α}
theorem greedy_good (n : Nat) : Good N rd (greedy N rd n) ∧ ((greedy N rd n).length = n ∨ Stuck N rd (greedy N rd n)) := by
  induction n with
  | zero => exact ⟨Good.nil, Or.inl rfl⟩
  | succ n ih =>
    obtain ⟨hg, hc⟩ := ih
    show Good N rd (stepG N rd (greedy N rd n)) ∧ ((stepG N rd (greedy N rd n)).length = n + 1 ∨ Stuck N rd (stepG N rd (greedy N rd n)))
    generalize greedy N rd n = R at *
    unfold stepG
    cases hf : N.find? fun x => decide (x ∉ R) && (rd x).all fun r => decide (r ∈ R) with
    | none =>
      refine ⟨hg, Or.inr fun x hx hn hr => ?_⟩
      have := List.find?_eq_none.1 hf x hx
      exact this (by simp only [Bool.and_eq_true, decide_eq_true_eq, List.all_eq_true]; exact ⟨hn, hr⟩)
    | some x =>
      have hp := List.find?_some hf
      simp only [Bool.and_eq_true, decide_eq_true_eq, List.all_eq_true] at hp
      have hx := List.mem_of_find?_eq_some hf
      refine ⟨hg.snoc hx hp.1 hp.2, ?_⟩
      rcases hc with hc | hc
      · exact Or.inl (by simp [hc])
      · exact absurd hp.2 (hc x hx hp.1)
theorem rowB_yes (h : Good N rd R) (hl : N.length ≤ R.length) : rowB N rd = true := by
  unfold rowB
  refine decide_eq_true ?_
  rcases (greedy_good (N := N) (rd := rd) N.length).2 with hc | hc
  · omega
  · have := List.Nodup.length_le_of_subset h.nodup (h.into hc)
    omega
theorem rowB_no (hs : Stuck N rd R) (hl : R.length < N.length) : rowB N rd = false := by
  unfold rowB
  refine decide_eq_false ?_
  have hg := (greedy_good (N := N) (rd := rd) N.length).1
  have := List.Nodup.length_le_of_subset hg.nodup (hg.into hs)
  omega
end

section
variable {α β : Type} (pl : α → Nat) (dec : List β → α → Option β)
/-- what mending V comes to -/
structure Fix (N : List α) (V F : List β) : Prop where
  len : F.length = V.length
  at' : ∀ x ∈ N, F[pl x]? = (dec F x).or V[pl x]?
  off : ∀ i, (∀ x ∈ N, pl x ≠ i) → F[i]? = V[i]?

variable {pl dec} {N : List α} {rd : α → List α}
end
end Go.Proofs.Ytmaagbnjpdijnaa
namespace Go.Proofs.Ytmaagbnjpdijnaa
open Go.RowKit Go.Deep

/-- a mend -/
structure Md where
  kind : ByteArray
  field : ByteArray
  wh : ByteArray
  is : ByteArray
  put : ByteArray
  fr : ByteArray

/-- the names of fields -/
def namesF (Fs : List Fd) : List ByteArray := Fs.map Fd.nm
/-- the place of a field by its name; behind the last where there is none -/
def plOf (Fs : List Fd) (s : ByteArray) : Nat := Fs.findIdx fun f => f.nm.toList == s.toList
/-- the name of a field that is no link -/
def plainB (Fs : List Fd) (s : ByteArray) : Bool := match Fs[plOf Fs s]? with
  | some f => !(f.kd == 4)
  | none => false
/-- what is put fits the field -/
def fitF (Fs : List Fd) (s t : ByteArray) : Bool := match Fs[plOf Fs s]? with
  | some f => fitsB f.kd f.le f.mo f.words t
  | none => false
def formB (m : Md) : Bool := !(m.wh.toList.isEmpty && !m.is.toList.isEmpty) && !(m.put.toList.isEmpty == m.fr.toList.isEmpty)
/-- as the specification asks it -/
def mendS (Fs : List Fd) (m : Md) : Bool :=
  plainB Fs m.field && (m.wh.toList.isEmpty || plainB Fs m.wh) && (m.fr.toList.isEmpty || plainB Fs m.fr) && !(m.wh.toList == m.field.toList) && !(m.fr.toList == m.field.toList) && formB m && (m.put.toList.isEmpty || fitF Fs m.field m.put)
/-- what a mend reads -/
def rdOf (m : Md) : List ByteArray := (if m.wh.toList.isEmpty = true then [] else [m.wh]) ++ (if m.fr.toList.isEmpty = true then [] else [m.fr])
def forB (kind field : ByteArray) (m : Md) : Bool := (m.kind.toList == kind.toList) && (m.field.toList == field.toList)
/-- what the mends of a field read -/
def readsOf (kind : ByteArray) (Ms : List Md) (field : ByteArray) : List ByteArray := (Ms.filter (forB kind field)).flatMap rdOf
/-- a mend applies -/
def valAt (Fs : List Fd) (V : List ByteArray) (s : ByteArray) : ByteArray := (V[plOf Fs s]?).getD ⟨#[]⟩
def appB (Fs : List Fd) (V : List ByteArray) (m : Md) : Bool := (m.wh.toList.isEmpty || (valAt Fs V m.wh).toList == m.is.toList) && (m.fr.toList.isEmpty || !(valAt Fs V m.fr).toList.isEmpty)
def givenV (Fs : List Fd) (V : List ByteArray) (m : Md) : ByteArray := if m.fr.toList.isEmpty = true then m.put else valAt Fs V m.fr
/-- what the first mend of a field that applies gives it -/
def decM (Fs : List Fd) (kind : ByteArray) (Ms : List Md) (V : List ByteArray) (field : ByteArray) : Option ByteArray := (Ms.find? fun m => forB kind field m && appB Fs V m).map (givenV Fs V)

/-- MENDS ARE OK -/
def mendB (Ss : List Sh) (m : Md) : Bool := match shOf Ss m.kind with
  | some x => mendS x.fields m
  | none => false
def shapeRowB (Ms : List Md) (x : Sh) : Bool := rowB (namesF x.fields) (readsOf x.kind Ms)
def mendsB (Ss : List Sh) (Ms : List Md) : Bool := shapesB Ss && decide (Ms.length ≤ 12) && Ms.all (mendB Ss) && Ss.all (shapeRowB Ms)

/-- WHAT MENDING AN OBJECT'S VALUES COMES TO -/
def FixM (x : Sh) (Ms : List Md) (V F : List ByteArray) : Prop := Fix (plOf x.fields) (decM x.fields x.kind Ms) (namesF x.fields) V F
def MendTo (Ss : List Sh) (Ms : List Md) (kind : ByteArray) (V F : List ByteArray) : Prop :=
  (∃ x, mendsB Ss Ms = true ∧ shOf Ss kind = some x ∧ x.fields.length = V.length ∧ FixM x Ms V F) ∨
  ((mendsB Ss Ms = false ∨ ∀ x, shOf Ss kind = some x → x.fields.length ≠ V.length) ∧ F = V)
end Go.Proofs.Ytmaagbnjpdijnaa
namespace Go.Proofs.Ytmaagbnjpdijnaa
open Go.RowKit Go.Deep

end Go.Proofs.Ytmaagbnjpdijnaa

