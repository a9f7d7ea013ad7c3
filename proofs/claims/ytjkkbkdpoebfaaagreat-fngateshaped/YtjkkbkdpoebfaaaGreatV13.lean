import Derived.Test.YtjkkbkdpoebfaaaGreatV11
import Derived.Test.YtjkkbkdpoebfaaaGreatV12
namespace Go.Proofs.YtjkkbkdpoebfaaaGreat

/-- A ROW: each differs from those ahead of it, is one of N, and what it reads is ahead of it. -/
def Good {α : Type} (N : List α) (rd : α → List α) (R : List α) : Prop := ∀ i (h : i < R.length), R[i] ∈ N ∧ R[i] ∉ R.take i ∧ ∀ r ∈ rd R[i], r ∈ R.take i
/-- none of N can be put behind the row -/
def Stuck {α : Type} (N : List α) (rd : α → List α) (row : List α) : Prop := ∀ x ∈ N, x ∉ row → ¬ ∀ r ∈ rd x, r ∈ row

section
variable {α : Type} {N : List α} {rd : α → List α} {R R' : List α}
theorem Good.nil : Good N rd [] := fun i h => absurd h (Nat.not_lt_zero i)
theorem Good.snoc {x : α} (hg : Good N rd R) (hn : x ∈ N) (hx : x ∉ R) (hr : ∀ r ∈ rd x, r ∈ R) : Good N rd (R ++ [x]) := by
  intro i h
  have h' : i < R.length + 1 := by rw [List.length_append] at h; exact h
  by_cases hi : i < R.length
  · rw [List.getElem_append_left hi, List.take_append_of_le_length (Nat.le_of_lt hi)]
    exact hg i hi
  · have e : i = R.length := by omega
    subst e
    have e1 : (R ++ [x])[R.length] = x := by simp
    have e2 : (R ++ [x]).take R.length = R := by simp
    rw [e1, e2]
    exact ⟨hn, hx, hr⟩
theorem Good.init {x : α} (h : Good N rd (R ++ [x])) : Good N rd R ∧ x ∈ N ∧ x ∉ R ∧ ∀ r ∈ rd x, r ∈ R := by
  constructor
  · intro i hi
    have := h i (by rw [List.length_append]; omega)
    rw [List.getElem_append_left hi, List.take_append_of_le_length (Nat.le_of_lt hi)] at this
    exact this
  · have := h R.length (by simp)
    have e1 : (R ++ [x])[R.length] = x := by simp
    have e2 : (R ++ [x]).take R.length = R := by simp
    rw [e1, e2] at this
    exact this
/-- from the beginning to the end -/
theorem Good.along {p : List α → Prop} (h0 : p []) (hs : ∀ row x, Good N rd row → x ∈ N → x ∉ row → (∀ r ∈ rd x, r ∈ row) → p row → p (row ++ [x])) : ∀ (n : Nat) (R : List α), R.length = n → Good N rd R → p R := by
  intro n
  induction n with
  | zero => intro R hl _; rw [List.length_eq_zero_iff.1 hl]; exact h0
  | succ n ih =>
    intro R hl hg
    have hne : R ≠ [] := by intro e; rw [e] at hl; cases hl
    have e : R.dropLast ++ [R.getLast hne] = R := List.dropLast_concat_getLast hne
    rw [← e] at hg ⊢
    obtain ⟨h1, h2, h3, h4⟩ := hg.init
    exact hs _ _ h1 h2 h3 h4 (ih _ (by rw [List.length_dropLast, hl]; rfl) h1)
theorem Good.nodup (h : Good N rd R) : R.Nodup := by
  refine Good.along (p := fun R => R.Nodup) List.nodup_nil (fun row x _ _ hx _ ih => ?_) _ R rfl h
  rw [List.nodup_append]
  exact ⟨ih, by simp, fun a ha b hb => by simp at hb; subst hb; exact fun e => hx (e ▸ ha)⟩
theorem Good.sub (h : Good N rd R) : R ⊆ N := by
  intro y hy
  obtain ⟨i, hi, rfl⟩ := List.getElem_of_mem hy
  exact (h i hi).1
theorem Good.reads (h : Good N rd R) {x : α} (hx : x ∈ R) : ∀ r ∈ rd x, r ∈ R := by
  intro r hr
  obtain ⟨i, hi, rfl⟩ := List.getElem_of_mem hx
  exact List.mem_of_mem_take ((h i hi).2.2 r hr)
theorem Good.into (h : Good N rd R) (hs : Stuck N rd R') : R ⊆ R' := by
  refine Good.along (p := fun R => R ⊆ R') (List.nil_subset _) (fun row x _ hn _ hr ih => ?_) _ R rfl h
  intro z hz
  rcases List.mem_append.1 hz with h | h
  · exact ih h
  · simp at h; subst h
    exact Classical.byContradiction fun hc => hs z hn hc fun r hrr => ih (hr r hrr)
theorem Good.all (h : Good N rd R) (hl : N.length ≤ R.length) : ∀ x ∈ N, x ∈ R := by
  intro x hx
  refine Classical.byContradiction fun hc => ?_
  have : (x :: R).length ≤ N.length := List.Nodup.length_le_of_subset (List.nodup_cons.2 ⟨hc, h.nodup⟩) (List.cons_subset.2 ⟨hx, h.sub⟩)
  simp at this; omega
end

/-- one more, the first that can be put -/
def stepG {α : Type} [DecidableEq α] (N : List α) (rd : α → List α) (R : List α) : List α :=
  match N.find? fun x => decide (x ∉ R) && (rd x).all fun r => decide (r ∈ R) with
  | some x => R ++ [x]
  | none => R
def greedy {α : Type} [DecidableEq α] (N : List α) (rd : α → List α) : Nat → List α
  | 0 => []
  | n + 1 => stepG N rd (greedy N rd n)
/-- there is a row of all -/
def rowB {α : Type} [DecidableEq α] (N : List α) (rd : α → List α) : Bool := decide (N.length ≤ (greedy N rd N.length).length)
section
variable {α : Type} [DecidableEq α] {N : List α} {rd : α → List α} {R : List α}
theorem greedy_good (n : Nat) : Good N rd (greedy N rd n) ∧ ((greedy N rd n).length = n ∨ Stuck N rd (greedy N rd n)) := by
  induction n with
  | zero => exact ⟨Good.nil, Or.inl rfl⟩
  | succ n ih =>
    obtain ⟨hg, hc⟩ := ih
    show Good N rd (stepG N rd (greedy N rd n)) ∧ ((stepG N rd (greedy N rd n)).length = n + 1 ∨ Stuck N rd (stepG N rd (greedy N rd n)))
    generalize greedy N rd n = R at *
    unfold stepG
    cases hf : N.find? fun x => decide (x ∉ R) && (rd x).all fun r => decide (r ∈ R) with
    | none =>
      refine ⟨hg, Or.inr fun x hx hn hr => ?_⟩
      have := List.find?_eq_none.1 hf x hx
      exact this (by simp only [Bool.and_eq_true, decide_eq_true_eq, List.all_eq_true]; exact ⟨hn, hr⟩)
    | some x =>
      have hp := List.find?_some hf
      simp only [Bool.and_eq_true, decide_eq_true_eq, List.all_eq_true] at hp
      have hx := List.mem_of_find?_eq_some hf
      refine ⟨hg.snoc hx hp.1 hp.2, ?_⟩
      rcases hc with hc | hc
      · exact Or.inl (by simp [hc])
      · exact absurd hp.2 (hc x hx hp.1)
theorem rowB_yes (h : Good N rd R) (hl : N.length ≤ R.length) : rowB N rd = true := by
  unfold rowB
  refine decide_eq_true ?_
  rcases (greedy_good (N := N) (rd := rd) N.length).2 with hc | hc
  · omega
  · have := List.Nodup.length_le_of_subset h.nodup (h.into hc)
    omega
theorem rowB_no (hs : Stuck N rd R) (hl : R.length < N.length) : rowB N rd = false := by
  unfold rowB
  refine decide_eq_false ?_
  have hg := (greedy_good (N := N) (rd := rd) N.length).1
  have := List.Nodup.length_le_of_subset hg.nodup (hg.into hs)
  omega
theorem rowB_some (h : rowB N rd = true) : ∃ R, Good N rd R ∧ N.length ≤ R.length := by
  unfold rowB at h
  exact ⟨_, (greedy_good (N := N) (rd := rd) N.length).1, of_decide_eq_true h⟩
end

section
variable {α β : Type} (pl : α → Nat) (dec : List β → α → Option β)
/-- one is turned -/
def setp (V : List β) (x : α) : List β := match dec V x with
  | some v => V.set (pl x) v
  | none => V
/-- turned one after the other -/
def mendV (R : List α) (V : List β) : List β := R.foldl (setp pl dec) V
theorem mendV_snoc (R : List α) (x : α) (V : List β) : mendV pl dec (R ++ [x]) V = setp pl dec (mendV pl dec R V) x := by simp [mendV]
theorem mendV_take {R : List α} {k : Nat} (h : k < R.length) (V : List β) : mendV pl dec (R.take (k + 1)) V = setp pl dec (mendV pl dec (R.take k) V) R[k] := by
  rw [List.take_succ_eq_append_getElem h, mendV_snoc]
theorem setp_len (V : List β) (x : α) : (setp pl dec V x).length = V.length := by
  unfold setp; cases dec V x <;> simp
theorem mendV_len (R : List α) : ∀ (V : List β), (mendV pl dec R V).length = V.length := by
  induction R with
  | nil => intro V; rfl
  | cons x R ih => intro V; show (mendV pl dec R (setp pl dec V x)).length = _; rw [ih, setp_len]
theorem setp_ne (V : List β) (x : α) {i : Nat} (h : pl x ≠ i) : (setp pl dec V x)[i]? = V[i]? := by
  unfold setp; cases dec V x with
  | none => rfl
  | some v => exact List.getElem?_set_ne h

/-- what mending V comes to -/
structure Fix (N : List α) (V F : List β) : Prop where
  len : F.length = V.length
  at' : ∀ x ∈ N, F[pl x]? = (dec F x).or V[pl x]?
  off : ∀ i, (∀ x ∈ N, pl x ≠ i) → F[i]? = V[i]?

/-- what is decided turns on what is read alone -/
def Local (N : List α) (rd : α → List α) : Prop := ∀ x ∈ N, ∀ V V' : List β, V.length = V'.length → (∀ r ∈ rd x, V[pl r]? = V'[pl r]?) → dec V x = dec V' x
def Apart (N : List α) : Prop := ∀ x ∈ N, ∀ y ∈ N, pl x = pl y → x = y

variable {pl dec} {N : List α} {rd : α → List α}
theorem fix_row (ha : Apart pl N) (hl : Local pl dec N rd) {R : List α} (h : Good N rd R) (V : List β) (hp : ∀ x ∈ N, pl x < V.length) : Fix pl dec R V (mendV pl dec R V) := by
  refine Good.along (p := fun R => Fix pl dec R V (mendV pl dec R V)) ⟨rfl, fun x hx => by simp at hx, fun _ _ => rfl⟩ (fun row x hg hn hx hr ih => ?_) _ R rfl h
  · rw [mendV_snoc]
    have hlen := mendV_len pl dec row V
    generalize hF : mendV pl dec row V = F at *
    have hoff : ∀ y ∈ row, (setp pl dec F x)[pl y]? = F[pl y]? := fun y hy => setp_ne _ _ _ _ fun e => hx (by rw [ha x hn y (hg.sub hy) e]; exact hy)
    have hdec : ∀ y, y ∈ N → (∀ r ∈ rd y, r ∈ row) → dec (setp pl dec F x) y = dec F y := fun y hy hry => hl y hy _ _ (by rw [setp_len]) fun r hrr => hoff r (hry r hrr)
    refine ⟨by rw [setp_len, hlen], fun y hy => ?_, fun i hi => ?_⟩
    · rcases List.mem_append.1 hy with h | h
      · rw [hoff y h, hdec y (hg.sub h) (hg.reads h)]; exact ih.at' y h
      · simp at h; subst h
        rw [hdec y hn hr]
        have hV : F[pl y]? = V[pl y]? := ih.off _ fun z hz e => hx (by rw [← ha z (hg.sub hz) y hn e]; exact hz)
        unfold setp
        cases hd : dec F y with
        | none => simp [hV]
        | some v => simp [List.getElem?_set_self (show pl y < F.length by rw [hlen]; exact hp y hn)]
    · rw [setp_ne _ _ _ _ (hi x (by simp))]
      exact ih.off i fun z hz => hi z (by simp [hz])
theorem Fix.grow {R : List α} {V F : List β} (h : Fix pl dec R V F) (h1 : R ⊆ N) (h2 : ∀ x ∈ N, x ∈ R) : Fix pl dec N V F :=
  ⟨h.len, fun x hx => h.at' x (h2 x hx), fun i hi => h.off i fun x hx => hi x (h1 hx)⟩
theorem fix_full (ha : Apart pl N) (hl : Local pl dec N rd) {R : List α} (h : Good N rd R) (hn : N.length ≤ R.length) (V : List β) (hp : ∀ x ∈ N, pl x < V.length) : Fix pl dec N V (mendV pl dec R V) :=
  (fix_row ha hl h V hp).grow h.sub (h.all hn)
theorem fix_unique [DecidableEq α] (hl : Local pl dec N rd) (hr : rowB N rd = true) {V F G : List β} (h1 : Fix pl dec N V F) (h2 : Fix pl dec N V G) : F = G := by
  obtain ⟨R, hg, hn⟩ := rowB_some hr
  have hlen : F.length = G.length := h1.len.trans h2.len.symm
  have key : ∀ P, Good N rd P → ∀ x ∈ P, F[pl x]? = G[pl x]? := by
    intro P hP
    refine Good.along (p := fun P => ∀ x ∈ P, F[pl x]? = G[pl x]?) (fun x hx => by simp at hx) (fun row x _ hxn _ hrr ih => ?_) _ P rfl hP
    · intro y hy
      rcases List.mem_append.1 hy with h | h
      · exact ih y h
      · simp at h; subst h
        rw [h1.at' y hxn, h2.at' y hxn, hl y hxn F G hlen fun r hr' => ih r (hrr r hr')]
  apply List.ext_getElem?
  intro i
  by_cases h : ∃ x ∈ N, pl x = i
  · obtain ⟨x, hx, rfl⟩ := h
    exact key R hg x (hg.all hn x hx)
  · have hi : ∀ x ∈ N, pl x ≠ i := fun x hx e => h ⟨x, hx, e⟩
    rw [h1.off i hi, h2.off i hi]
theorem Fix.again {V F : List β} (h : Fix pl dec N V F) : Fix pl dec N F F :=
  ⟨rfl, fun x hx => by
    cases hd : dec F x with
    | none => simp
    | some v => have := h.at' x hx; rw [hd] at this; simpa using this, fun _ _ => rfl⟩
end
end Go.Proofs.YtjkkbkdpoebfaaaGreat
namespace Go.Proofs.YtjkkbkdpoebfaaaGreat
open Go.RowKit Go.Deep

theorem bytes_eq {x y : ByteArray} : (x.toList == y.toList) = true ↔ x = y := by
  rw [beq_iff_eq]
  refine ⟨fun h => ?_, fun h => by rw [h]⟩
  rw [ByteArray.toList_eq, ByteArray.toList_eq] at h
  exact ByteArray.ext (Array.toList_inj.1 h)
theorem bytes_refl (x : ByteArray) : (x.toList == x.toList) = true := bytes_eq.2 rfl
theorem bytes_ne {x y : ByteArray} : (x.toList == y.toList) = false ↔ x ≠ y := by
  rw [← Bool.not_eq_true, Ne, bytes_eq]

/-- a mend -/
structure Md where
  kind : ByteArray
  field : ByteArray
  wh : ByteArray
  is : ByteArray
  put : ByteArray
  fr : ByteArray

/-- the names of fields -/
def namesF (Fs : List Fd) : List ByteArray := Fs.map Fd.nm
theorem mem_namesF {Fs : List Fd} {s : ByteArray} : s ∈ namesF Fs ↔ ∃ i, ∃ h : i < Fs.length, Fs[i].nm = s := by
  unfold namesF
  rw [List.mem_map]
  constructor
  · rintro ⟨f, hf, rfl⟩; obtain ⟨i, hi, rfl⟩ := List.getElem_of_mem hf; exact ⟨i, hi, rfl⟩
  · rintro ⟨i, hi, rfl⟩; exact ⟨_, List.getElem_mem hi, rfl⟩
/-- the place of a field by its name; behind the last where there is none -/
def plOf (Fs : List Fd) (s : ByteArray) : Nat := Fs.findIdx fun f => f.nm.toList == s.toList
theorem plOf_lt {Fs : List Fd} {s : ByteArray} : plOf Fs s < Fs.length ↔ s ∈ namesF Fs := by
  unfold plOf
  rw [List.findIdx_lt_length, mem_namesF]
  constructor
  · rintro ⟨f, hf, h⟩; obtain ⟨i, hi, rfl⟩ := List.getElem_of_mem hf; exact ⟨i, hi, bytes_eq.1 h⟩
  · rintro ⟨i, hi, rfl⟩; exact ⟨_, List.getElem_mem hi, bytes_refl _⟩
theorem plOf_nm {Fs : List Fd} {s : ByteArray} (h : plOf Fs s < Fs.length) : Fs[plOf Fs s].nm = s := by
  have := List.findIdx_getElem (p := fun f : Fd => f.nm.toList == s.toList) (xs := Fs) (w := h)
  exact bytes_eq.1 this
theorem plOf_at {Fs : List Fd} {s : ByteArray} {k : Nat} (hk : k < Fs.length) (h : (Fs[k].nm.toList == s.toList) = true) (hall : ∀ i (h : i < Fs.length), i < k → (Fs[i].nm.toList == s.toList) = false) : plOf Fs s = k := by
  unfold plOf
  rw [List.findIdx_eq hk]
  exact ⟨h, fun j hj => hall j (by omega) hj⟩
theorem plOf_no {Fs : List Fd} {s : ByteArray} (hall : ∀ i (h : i < Fs.length), (Fs[i].nm.toList == s.toList) = false) : plOf Fs s = Fs.length := by
  unfold plOf
  rw [List.findIdx_eq_length]
  intro f hf
  obtain ⟨i, hi, rfl⟩ := List.getElem_of_mem hf
  exact hall i hi
theorem plOf_apart (Fs : List Fd) : Apart (plOf Fs) (namesF Fs) := fun x hx y hy e => by
  rw [← plOf_nm (plOf_lt.2 hx), ← plOf_nm (plOf_lt.2 hy)]; simp only [e]

/-- the name of a field that is no link -/
def plainB (Fs : List Fd) (s : ByteArray) : Bool := match Fs[plOf Fs s]? with
  | some f => !(f.kd == 4)
  | none => false
theorem plain_mem {Fs : List Fd} {s : ByteArray} (h : plainB Fs s = true) : s ∈ namesF Fs := by
  rw [← plOf_lt]
  unfold plainB at h
  by_cases hl : plOf Fs s < Fs.length
  · exact hl
  · rw [List.getElem?_eq_none (by omega)] at h; cases h
theorem plain_at {Fs : List Fd} {s : ByteArray} (h : plOf Fs s < Fs.length) : plainB Fs s = !(Fs[plOf Fs s].kd == 4) := by unfold plainB; rw [List.getElem?_eq_getElem h]
theorem plain_no {Fs : List Fd} {s : ByteArray} (h : ¬ plOf Fs s < Fs.length) : plainB Fs s = false := by unfold plainB; rw [List.getElem?_eq_none (by omega)]
/-- what is put fits the field -/
def fitF (Fs : List Fd) (s t : ByteArray) : Bool := match Fs[plOf Fs s]? with
  | some f => fitsB f.kd f.le f.mo f.words t
  | none => false
theorem fitF_at {Fs : List Fd} {s t : ByteArray} (h : plOf Fs s < Fs.length) : fitF Fs s t = fitsB Fs[plOf Fs s].kd Fs[plOf Fs s].le Fs[plOf Fs s].mo Fs[plOf Fs s].words t := by unfold fitF; rw [List.getElem?_eq_getElem h]

/-- a mend may read it -/
def readB (Fs : List Fd) (field s : ByteArray) : Bool := s.toList.isEmpty || plainB Fs s && !(s.toList == field.toList)
def formB (m : Md) : Bool := !(m.wh.toList.isEmpty && !m.is.toList.isEmpty) && !(m.put.toList.isEmpty == m.fr.toList.isEmpty)
/-- as the program asks it -/
def mendI (Fs : List Fd) (m : Md) : Bool := plainB Fs m.field && readB Fs m.field m.wh && readB Fs m.field m.fr && formB m && (m.put.toList.isEmpty || fitF Fs m.field m.put)
/-- as the specification asks it -/
def mendS (Fs : List Fd) (m : Md) : Bool :=
  plainB Fs m.field && (m.wh.toList.isEmpty || plainB Fs m.wh) && (m.fr.toList.isEmpty || plainB Fs m.fr) && !(m.wh.toList == m.field.toList) && !(m.fr.toList == m.field.toList) && formB m && (m.put.toList.isEmpty || fitF Fs m.field m.put)
theorem mend_same {Fs : List Fd} {m : Md} (hn : ∀ s ∈ namesF Fs, s.toList.isEmpty = false) : mendI Fs m = mendS Fs m := by
  unfold mendI mendS readB
  cases hp : plainB Fs m.field with
  | false => simp
  | true =>
    have hf := hn _ (plain_mem hp)
    have h1 : m.wh.toList.isEmpty = true → (m.wh.toList == m.field.toList) = false := fun h => by
      rw [bytes_ne]; intro e; rw [e] at h; rw [h] at hf; cases hf
    have h2 : m.fr.toList.isEmpty = true → (m.fr.toList == m.field.toList) = false := fun h => by
      rw [bytes_ne]; intro e; rw [e] at h; rw [h] at hf; cases hf
    cases ha : m.wh.toList.isEmpty with
    | true =>
      rw [h1 ha]
      cases hb : m.fr.toList.isEmpty with
      | true => rw [h2 hb]; simp
      | false => simp
    | false =>
      cases hb : m.fr.toList.isEmpty with
      | true => rw [h2 hb]; simp
      | false => simp; cases plainB Fs m.wh <;> cases (m.wh.toList == m.field.toList) <;> cases plainB Fs m.fr <;> cases (m.fr.toList == m.field.toList) <;> simp

/-- what a mend reads -/
def rdOf (m : Md) : List ByteArray := (if m.wh.toList.isEmpty = true then [] else [m.wh]) ++ (if m.fr.toList.isEmpty = true then [] else [m.fr])
def forB (kind field : ByteArray) (m : Md) : Bool := (m.kind.toList == kind.toList) && (m.field.toList == field.toList)
/-- what the mends of a field read -/
def readsOf (kind : ByteArray) (Ms : List Md) (field : ByteArray) : List ByteArray := (Ms.filter (forB kind field)).flatMap rdOf
theorem readsOf_nil (kind field : ByteArray) : readsOf kind [] field = [] := rfl
theorem readsOf_snoc (kind field : ByteArray) (Ms : List Md) (m : Md) : readsOf kind (Ms ++ [m]) field = readsOf kind Ms field ++ (if forB kind field m = true then rdOf m else []) := by
  unfold readsOf
  rw [List.filter_append, List.flatMap_append]
  by_cases h : forB kind field m = true <;> simp [h]
theorem mem_readsOf {kind field : ByteArray} {Ms : List Md} {r : ByteArray} : r ∈ readsOf kind Ms field ↔ ∃ m ∈ Ms, forB kind field m = true ∧ r ∈ rdOf m := by
  unfold readsOf; simp [List.mem_flatMap, and_assoc]
theorem rd_wh {m : Md} (h : m.wh.toList.isEmpty = false) : m.wh ∈ rdOf m := by unfold rdOf; simp [h]
theorem rd_fr {m : Md} (h : m.fr.toList.isEmpty = false) : m.fr ∈ rdOf m := by unfold rdOf; simp [h]

/-- a mend applies -/
def valAt (Fs : List Fd) (V : List ByteArray) (s : ByteArray) : ByteArray := (V[plOf Fs s]?).getD ⟨#[]⟩
def appB (Fs : List Fd) (V : List ByteArray) (m : Md) : Bool := (m.wh.toList.isEmpty || (valAt Fs V m.wh).toList == m.is.toList) && (m.fr.toList.isEmpty || !(valAt Fs V m.fr).toList.isEmpty)
def givenV (Fs : List Fd) (V : List ByteArray) (m : Md) : ByteArray := if m.fr.toList.isEmpty = true then m.put else valAt Fs V m.fr
/-- what the first mend of a field that applies gives it -/
def decM (Fs : List Fd) (kind : ByteArray) (Ms : List Md) (V : List ByteArray) (field : ByteArray) : Option ByteArray := (Ms.find? fun m => forB kind field m && appB Fs V m).map (givenV Fs V)

theorem find_map_congr {α β : Type} {p q : α → Bool} {f g : α → β} {L : List α} (h : ∀ x ∈ L, p x = q x) (hf : ∀ x ∈ L, p x = true → f x = g x) : (L.find? p).map f = (L.find? q).map g := by
  induction L with
  | nil => rfl
  | cons a L ih =>
    have ha := h a (by simp)
    rw [List.find?_cons, List.find?_cons, ← ha]
    cases hp : p a with
    | true => simp only [Option.map_some]; rw [hf a (by simp) hp]
    | false => exact ih (fun x hx => h x (by simp [hx])) fun x hx => hf x (by simp [hx])

theorem decM_local (Fs : List Fd) (kind : ByteArray) (Ms : List Md) (N : List ByteArray) : Local (plOf Fs) (decM Fs kind Ms) N (readsOf kind Ms) := by
  intro x _ V V' _ hr
  have hw : ∀ m ∈ Ms, forB kind x m = true → m.wh.toList.isEmpty = false → valAt Fs V m.wh = valAt Fs V' m.wh := fun m hm hf h => by
    unfold valAt; rw [hr m.wh (mem_readsOf.2 ⟨m, hm, hf, rd_wh h⟩)]
  have hg : ∀ m ∈ Ms, forB kind x m = true → m.fr.toList.isEmpty = false → valAt Fs V m.fr = valAt Fs V' m.fr := fun m hm hf h => by
    unfold valAt; rw [hr m.fr (mem_readsOf.2 ⟨m, hm, hf, rd_fr h⟩)]
  unfold decM
  refine find_map_congr (fun m hm => ?_) fun m hm hp => ?_
  · cases hf : forB kind x m with
    | false => rfl
    | true =>
      unfold appB
      cases h1 : m.wh.toList.isEmpty with
      | true => cases h2 : m.fr.toList.isEmpty with
        | true => rfl
        | false => rw [hg m hm hf h2]; rfl
      | false => cases h2 : m.fr.toList.isEmpty with
        | true => rw [hw m hm hf h1]; rfl
        | false => rw [hw m hm hf h1, hg m hm hf h2]
  · have hf : forB kind x m = true := by simp at hp; exact hp.1
    unfold givenV
    cases h2 : m.fr.toList.isEmpty with
    | true => rfl
    | false => rw [hg m hm hf h2]

/-- MENDS ARE OK -/
def mendB (Ss : List Sh) (m : Md) : Bool := match shOf Ss m.kind with
  | some x => mendS x.fields m
  | none => false
def shapeRowB (Ms : List Md) (x : Sh) : Bool := rowB (namesF x.fields) (readsOf x.kind Ms)
def mendsB (Ss : List Sh) (Ms : List Md) : Bool := shapesB Ss && decide (Ms.length ≤ 12) && Ms.all (mendB Ss) && Ss.all (shapeRowB Ms)

theorem shapes_fields {Ss : List Sh} (h : shapesB Ss = true) {x : Sh} (hx : x ∈ Ss) : fieldsB Ss x.fields = true := by
  unfold shapesB at h
  rw [Bool.and_eq_true, List.all_eq_true] at h
  obtain ⟨i, hi, rfl⟩ := List.getElem_of_mem hx
  have := h.2 i (List.mem_range.2 hi)
  cases i with
  | zero => rw [shapeAt_zero hi, Bool.and_eq_true] at this; exact this.2
  | succ j => rw [shapeAt_succ hi, Bool.and_eq_true] at this; exact this.2
theorem fields_at {Ss : List Sh} {Fs : List Fd} (h : fieldsB Ss Fs = true) {k : Nat} (hk : k < Fs.length) : nameB Fs[k].nm = true ∧ dupB (Fs.take k) Fs[k].nm = false := by
  unfold fieldsB at h
  rw [Bool.and_eq_true, List.all_eq_true] at h
  have := h.2 k (List.mem_range.2 hk)
  rw [fieldAt_of hk] at this
  simp at this
  exact ⟨this.1.1, this.2⟩
theorem fields_six {Ss : List Sh} {Fs : List Fd} (h : fieldsB Ss Fs = true) : Fs.length ≤ 6 := by
  unfold fieldsB at h; rw [Bool.and_eq_true] at h; exact of_decide_eq_true h.1
theorem shapes_six {Ss : List Sh} (h : shapesB Ss = true) : Ss.length ≤ 6 := by
  unfold shapesB at h; rw [Bool.and_eq_true] at h; exact of_decide_eq_true h.1
theorem name_some {s : ByteArray} (h : nameB s = true) : s.toList.isEmpty = false := by
  unfold nameB inB at h
  rw [Bool.and_eq_true] at h
  have := of_decide_eq_true h.1
  rw [ByteArray.toList_eq]
  cases hs : s.data.toList with
  | nil => have e : s.size = 0 := by show s.data.size = 0; rw [← Array.length_toList, hs]; rfl
           omega
  | cons a l => rfl
theorem fields_named {Ss : List Sh} {Fs : List Fd} (h : fieldsB Ss Fs = true) : ∀ s ∈ namesF Fs, s.toList.isEmpty = false := by
  intro s hs
  obtain ⟨i, hi, rfl⟩ := mem_namesF.1 hs
  exact name_some (fields_at h hi).1
/-- no two fields have one name -/
theorem fields_apart {Ss : List Sh} {Fs : List Fd} (h : fieldsB Ss Fs = true) {k : Nat} (hk : k < Fs.length) : plOf Fs Fs[k].nm = k := by
  refine plOf_at hk (bytes_refl _) fun i hi hlt => ?_
  have hd := (fields_at h hk).2
  cases he : (Fs[i].nm.toList == Fs[k].nm.toList) with
  | false => rfl
  | true => rw [dup_stop hi hlt he] at hd; cases hd
theorem shOf_mem {Ss : List Sh} {s : ByteArray} {x : Sh} (h : shOf Ss s = some x) : x ∈ Ss ∧ x.kind = s := by
  unfold shOf at h
  have h2 := List.find?_some h
  exact ⟨List.mem_of_find?_eq_some h, bytes_eq.1 h2⟩

/-- WHAT MENDING AN OBJECT'S VALUES COMES TO -/
def FixM (x : Sh) (Ms : List Md) (V F : List ByteArray) : Prop := Fix (plOf x.fields) (decM x.fields x.kind Ms) (namesF x.fields) V F
def MendTo (Ss : List Sh) (Ms : List Md) (kind : ByteArray) (V F : List ByteArray) : Prop :=
  (∃ x, mendsB Ss Ms = true ∧ shOf Ss kind = some x ∧ x.fields.length = V.length ∧ FixM x Ms V F) ∨
  ((mendsB Ss Ms = false ∨ ∀ x, shOf Ss kind = some x → x.fields.length ≠ V.length) ∧ F = V)
theorem mendsB_row {Ss : List Sh} {Ms : List Md} (h : mendsB Ss Ms = true) {x : Sh} (hx : x ∈ Ss) : rowB (namesF x.fields) (readsOf x.kind Ms) = true := by
  unfold mendsB at h
  rw [Bool.and_eq_true, List.all_eq_true] at h
  exact h.2 x hx
theorem mendsB_shapes {Ss : List Sh} {Ms : List Md} (h : mendsB Ss Ms = true) : shapesB Ss = true := by
  unfold mendsB at h
  simp only [Bool.and_eq_true] at h
  exact h.1.1.1
theorem mendsB_twelve {Ss : List Sh} {Ms : List Md} (h : mendsB Ss Ms = true) : Ms.length ≤ 12 := by
  unfold mendsB at h
  simp only [Bool.and_eq_true, decide_eq_true_eq] at h
  exact h.1.1.2
theorem mendsB_mend {Ss : List Sh} {Ms : List Md} (h : mendsB Ss Ms = true) {m : Md} (hm : m ∈ Ms) : mendB Ss m = true := by
  unfold mendsB at h
  simp only [Bool.and_eq_true, List.all_eq_true] at h
  exact h.1.2 m hm
theorem FixM.unique {Ss : List Sh} {Ms : List Md} (h : mendsB Ss Ms = true) {x : Sh} (hx : x ∈ Ss) {V F G : List ByteArray} (h1 : FixM x Ms V F) (h2 : FixM x Ms V G) : F = G :=
  fix_unique (decM_local _ _ _ _) (mendsB_row h hx) h1 h2
theorem MendTo.unique {Ss : List Sh} {Ms : List Md} {kind : ByteArray} {V F G : List ByteArray} (h1 : MendTo Ss Ms kind V F) (h2 : MendTo Ss Ms kind V G) : F = G := by
  rcases h1 with ⟨x, a1, a2, a3, a4⟩ | ⟨a1, a2⟩
  · rcases h2 with ⟨y, b1, b2, b3, b4⟩ | ⟨b1, b2⟩
    · rw [a2] at b2; cases b2
      exact FixM.unique a1 (shOf_mem a2).1 a4 b4
    · rcases b1 with b1 | b1
      · rw [a1] at b1; cases b1
      · exact absurd a3 (b1 x a2)
  · rcases h2 with ⟨y, b1, b2, b3, b4⟩ | ⟨b1, b2⟩
    · rcases a1 with a1 | a1
      · rw [b1] at a1; cases a1
      · exact absurd b3 (a1 y b2)
    · rw [a2, b2]
theorem mend_row {x : Sh} {Ms : List Md} {R V : List ByteArray} (h : Good (namesF x.fields) (readsOf x.kind Ms) R) (hl : (namesF x.fields).length ≤ R.length) (hv : x.fields.length = V.length) : FixM x Ms V (mendV (plOf x.fields) (decM x.fields x.kind Ms) R V) :=
  fix_full (plOf_apart _) (decM_local _ _ _ _) h hl V fun s hs => by rw [← hv]; exact plOf_lt.2 hs
end Go.Proofs.YtjkkbkdpoebfaaaGreat
namespace Go.Proofs.YtjkkbkdpoebfaaaGreat
open Go.RowKit Go.Deep

/-- a field's value stands against a mend -/
def trigB (nm v : ByteArray) (m : Md) : Bool := (nm.toList == m.wh.toList) && !(v.toList == m.is.toList) || (nm.toList == m.fr.toList) && v.toList.isEmpty
theorem valAt_at {Ss : List Sh} {Fs : List Fd} {V : List ByteArray} (hf : fieldsB Ss Fs = true) {i : Nat} (h : i < Fs.length) (h' : i < V.length) : valAt Fs V Fs[i].nm = V[i] := by
  unfold valAt; rw [fields_apart hf h, List.getElem?_eq_getElem h']; rfl
theorem app_no {Ss : List Sh} {Fs : List Fd} {V : List ByteArray} {m : Md} (hf : fieldsB Ss Fs = true) {i : Nat} (h : i < Fs.length) (h' : i < V.length) (ht : trigB Fs[i].nm V[i] m = true) : appB Fs V m = false := by
  have hn := fields_named hf Fs[i].nm (mem_namesF.2 ⟨i, h, rfl⟩)
  unfold trigB at ht
  rw [Bool.or_eq_true, Bool.and_eq_true, Bool.and_eq_true, bytes_eq, bytes_eq] at ht
  unfold appB
  rcases ht with ⟨e, hv⟩ | ⟨e, hv⟩
  · rw [← e, hn, valAt_at hf h h']
    have : (V[i].toList == m.is.toList) = false := by simpa using hv
    rw [this]; rfl
  · rw [← e, hn, valAt_at hf h h', hv]; simp
theorem app_yes {Fs : List Fd} {V : List ByteArray} {m : Md} (hl : Fs.length = V.length) (hw : m.wh.toList.isEmpty = true ∨ m.wh ∈ namesF Fs) (hr : m.fr.toList.isEmpty = true ∨ m.fr ∈ namesF Fs)
    (ht : ∀ i (h : i < Fs.length) (h' : i < V.length), trigB Fs[i].nm V[i] m = false) : appB Fs V m = true := by
  unfold appB
  rw [Bool.and_eq_true]
  constructor
  · rcases hw with hw | hw
    · rw [hw]; rfl
    · have hp := plOf_lt.2 hw
      have := ht _ hp (by omega)
      unfold trigB at this
      rw [plOf_nm hp, bytes_refl] at this
      simp only [Bool.true_and, Bool.or_eq_false_iff] at this
      unfold valAt
      rw [List.getElem?_eq_getElem (show plOf Fs m.wh < V.length by omega), Option.getD_some]
      have h2 := this.1
      rw [Bool.not_eq_false'] at h2
      rw [h2]; simp
  · rcases hr with hw | hw
    · rw [hw]; rfl
    · have hp := plOf_lt.2 hw
      have := ht _ hp (by omega)
      unfold trigB at this
      rw [plOf_nm hp, bytes_refl] at this
      simp only [Bool.true_and, Bool.or_eq_false_iff] at this
      unfold valAt
      rw [List.getElem?_eq_getElem (show plOf Fs m.fr < V.length by omega), Option.getD_some, this.2]; simp

/-- what a mend of a shape's kind names is there -/
theorem mend_there {Ss : List Sh} {Ms : List Md} (h : mendsB Ss Ms = true) {x : Sh} {kind : ByteArray} (hx : shOf Ss kind = some x) {m : Md} (hm : m ∈ Ms) (hk : m.kind = x.kind) :
    m.field ∈ namesF x.fields ∧ (m.wh.toList.isEmpty = true ∨ m.wh ∈ namesF x.fields) ∧ (m.fr.toList.isEmpty = true ∨ m.fr ∈ namesF x.fields) := by
  have hb := mendsB_mend h hm
  unfold mendB at hb
  rw [hk, (shOf_mem hx).2, hx] at hb
  simp only [mendS, Bool.and_eq_true, Bool.or_eq_true] at hb
  refine ⟨plain_mem hb.1.1.1.1.1.1, ?_, ?_⟩
  · rcases hb.1.1.1.1.1.2 with h | h
    · exact Or.inl h
    · exact Or.inr (plain_mem h)
  · rcases hb.1.1.1.1.2 with h | h
    · exact Or.inl h
    · exact Or.inr (plain_mem h)
theorem find_first {α : Type} {p : α → Bool} {L : List α} {k : Nat} (hk : k < L.length) (h : p L[k] = true) (hall : ∀ i (h : i < L.length), i < k → p L[i] = false) : L.find? p = some L[k] := by
  rw [List.find?_eq_some_iff_getElem]
  exact ⟨h, k, hk, rfl, fun j hj => by simp [hall j (by omega) hj]⟩
theorem find_none {α : Type} {p : α → Bool} {L : List α} (hall : ∀ i (h : i < L.length), p L[i] = false) : L.find? p = none := by
  rw [List.find?_eq_none]
  intro x hx
  obtain ⟨i, hi, rfl⟩ := List.getElem_of_mem hx
  simp [hall i hi]
theorem decM_some {Fs : List Fd} {kind : ByteArray} {Ms : List Md} {V : List ByteArray} {f : ByteArray} {k : Nat} (hk : k < Ms.length) (h : (forB kind f Ms[k] && appB Fs V Ms[k]) = true) (hall : ∀ i (h : i < Ms.length), i < k → (forB kind f Ms[i] && appB Fs V Ms[i]) = false) : decM Fs kind Ms V f = some (givenV Fs V Ms[k]) := by
  unfold decM; rw [find_first (p := fun m => forB kind f m && appB Fs V m) hk h hall]; rfl
theorem decM_none {Fs : List Fd} {kind : ByteArray} {Ms : List Md} {V : List ByteArray} {f : ByteArray} (hall : ∀ i (h : i < Ms.length), (forB kind f Ms[i] && appB Fs V Ms[i]) = false) : decM Fs kind Ms V f = none := by
  unfold decM; rw [find_none (p := fun m => forB kind f m && appB Fs V m) hall]; rfl
theorem setp_some {Fs : List Fd} {kind : ByteArray} {Ms : List Md} {V : List ByteArray} {f v : ByteArray} (h : decM Fs kind Ms V f = some v) : setp (plOf Fs) (decM Fs kind Ms) V f = V.set (plOf Fs f) v := by unfold setp; rw [h]
theorem setp_none {Fs : List Fd} {kind : ByteArray} {Ms : List Md} {V : List ByteArray} {f : ByteArray} (h : decM Fs kind Ms V f = none) : setp (plOf Fs) (decM Fs kind Ms) V f = V := by unfold setp; rw [h]
end Go.Proofs.YtjkkbkdpoebfaaaGreat
namespace Go.Proofs.YtjkkbkdpoebfaaaGreat
open Go.RowKit Go.Deep

theorem StrsOwn.form {lo hi : Nat} {w : World} {v : Value} {L : List ByteArray} (h : StrsOwn lo hi w v L) : ∃ a cap, v = .slice a L.length cap := by
  rcases h with ⟨a, cap, h, rfl⟩ | ⟨b, off, cap, h, _⟩
  · exact ⟨a, cap, h⟩
  · exact ⟨_, cap, h⟩
theorem StrsOwn.below {lo hi : Nat} {w w' : World} {v : Value} {L : List ByteArray} (h : StrsOwn lo hi w v L) (hb : Below w.heap.size w w') : StrsOwn lo hi w' v L := by
  rcases h with h | ⟨b, off, cap, h1, h2, h3, h4, h5, h6, h7, h8, h9⟩
  · exact Or.inl h
  · exact Or.inr ⟨b, off, cap, h1, h2, h3, Nat.lt_of_lt_of_le h4 hb.size, fun i hi' => by rw [hb.cell (p := ⟨b, _, none⟩) h4]; exact h5 i hi', h6, h7, h8, fun i => by rw [hb.frozen (p := ⟨b, _, none⟩) h4]; exact h9 i⟩
theorem StrsOwn.wide {lo hi lo' hi' : Nat} {w : World} {v : Value} {L : List ByteArray} (h : StrsOwn lo hi w v L) (h1 : lo' ≤ lo) (h2 : hi ≤ hi') : StrsOwn lo' hi' w v L := by
  rcases h with h | ⟨b, off, cap, q1, q2, q3, q4, q5, q6, q7, q8, q9⟩
  · exact Or.inl h
  · exact Or.inr ⟨b, off, cap, q1, q2, q3, q4, q5, q6, by omega, by omega, q9⟩
theorem StrsOwn.setCell {lo hi : Nat} {w : World} {v : Value} {L : List ByteArray} (h : StrsOwn lo hi w v L) {p : Addr} (hp : p.block < lo) (u : Value) : StrsOwn lo hi (w.setCell p u) v L := by
  rcases h with h | ⟨b, off, cap, h1, h2, h3, h4, h5, h6, h7, h8, h9⟩
  · exact Or.inl h
  · exact Or.inr ⟨b, off, cap, h1, h2, h3, by simpa [World.setCell] using h4, fun i hi' => by rw [cell_setCell_ne _ _ _ _ (by show b ≠ p.block; omega)]; exact h5 i hi', h6, h7, h8, fun i => by rw [World.frozen?_setCell]; exact h9 i⟩

section
variable (kind nm team : ByteArray) (vv hv : Value) (en : Bool) (ver : Int) (V Ho : List ByteArray) (w : World)

/-- what is in an object's two lists, of its own memory, apart -/
def ObjOwn (lo : Nat) (w : World) (v h : Value) (V Ho : List ByteArray) : Prop :=
  ∃ mid, lo ≤ mid ∧ mid ≤ w.heap.size ∧ StrsOwn lo mid w v V ∧ StrsOwn mid w.heap.size w h Ho

set_option maxHeartbeats 1000000 in
theorem copyObj_any (hV : StrsAt w vv V) (hH : StrsAt w hv Ho) (n1 : V.length ≤ 1048576) (n2 : Ho.length ≤ 1048576) :
    Calls Tryz.prog 18 #[.agg #[.string kind, .string nm, .string team, vv, .bool en, hv, .int .i64 ver]] w
      fun e w' => ∃ v' h', e = .returned (.agg #[.string kind, .string nm, .string team, v', .bool en, h', .int .i64 ver]) ∧ Below w.heap.size w w' ∧ ObjOwn w.heap.size w' v' h' V Ho := by
  have HV := hide hV
  have HH := hide hH
  obtain ⟨a, n, cap, rfl⟩ := hV.form
  obtain ⟨a', n', cap', rfl⟩ := hH.form
  clear hV hH
  have HW : ∀ o o', Hid (Below w.heap.size w ((w.alloc o).alloc o')) := fun o o' => ((Below.refl _ _).alloc (Nat.le_refl _) _).alloc (by simp) _
  go_enter Tryz.func18, Tryz.ntmps18
  go_wp2_with fail
  refine (copyTexts_any _ V _ (HV.out.below (HW _ _).out) n1).mono ?_
  rintro e w1 ⟨v1, rfl, hb, hs⟩
  obtain ⟨a1, cap1, rfl⟩ := hs.form
  have HS : Hid (StrsOwn (w.heap.size + 2) w1.heap.size w1 (.slice a1 V.length cap1) V) := hs.wide (by simp) (Nat.le_refl _)
  have hz : w.heap.size + 1 < w1.heap.size := by have := hb.size; simp at this; omega
  obtain ⟨hc, hf⟩ := bcell hb
  have HB : Hid (Below w.heap.size w w1) := (HW _ _).out.trans (hb.mono (by simp; omega))
  clear hb hs
  have hz0 : w.heap.size < w1.heap.size := by omega
  have g0 : ∀ i, w1.cell? ⟨w.heap.size, i, none⟩ = (#[.string kind, .string nm, .string team, .slice a n cap, .bool en, .slice a' n' cap', .int .i64 ver] : Array Value)[i]? := fun i => by
    rw [hc _ _ (by simp; omega), ((Below.refl (w.alloc (.cells #[.string kind, .string nm, .string team, .slice a n cap, .bool en, .slice a' n' cap', .int .i64 ver] 27)).heap.size _).alloc (Nat.le_refl _) _).cell (p := ⟨w.heap.size, i, none⟩) (by simp)]; simp
  have g1 : ∀ i, w1.cell? ⟨w.heap.size + 1, i, none⟩ = (#[.string ⟨#[]⟩, .string ⟨#[]⟩, .string ⟨#[]⟩, .slice none 0 0, .bool false, .slice none 0 0, .int .i64 0] : Array Value)[i]? := fun i => by
    rw [hc _ _ (by simp)]
    simp
  go_wp2_with fail
  have hX : Hid (Below w.heap.size w (w1.setCell ⟨w.heap.size, 3, none⟩ (.slice a1 V.length cap1))) := HB.out.setCell (Nat.le_refl _) _
  have hXs : (w1.setCell ⟨w.heap.size, 3, none⟩ (.slice a1 V.length cap1)).heap.size = w1.heap.size := by simp [World.setCell]
  have HS' := hide (HS.out.setCell (p := ⟨w.heap.size, 3, none⟩) (by simp only []; omega) (.slice a1 V.length cap1))
  refine (copyTexts_any _ Ho _ (HH.out.below hX.out) n2).mono ?_
  rintro e w2 ⟨v2, rfl, hb2, hs2⟩
  obtain ⟨a2, cap2, rfl⟩ := hs2.form
  have HS2 : Hid (StrsOwn (w.heap.size + 2) w1.heap.size w2 (.slice a1 V.length cap1) V) := HS'.out.below hb2
  have HH2 : Hid (StrsOwn w1.heap.size w2.heap.size w2 (.slice a2 Ho.length cap2) Ho) := by unfold Hid; rw [← hXs]; exact hs2
  have hz2 : w.heap.size + 1 < w2.heap.size := by have := hb2.size; rw [hXs] at this; omega
  have hz3 : w1.heap.size ≤ w2.heap.size := by have := hb2.size; rw [hXs] at this; exact this
  have HB2 : Hid (Below w.heap.size w w2) := hX.out.trans (hb2.mono hX.out.size)
  have hc2 : ∀ b o, b < w1.heap.size → w2.cell? ⟨b, o, none⟩ = (w1.setCell ⟨w.heap.size, 3, none⟩ (.slice a1 V.length cap1)).cell? ⟨b, o, none⟩ := fun b o h => hb2.cell (p := ⟨b, o, none⟩) (by rw [hXs]; exact h)
  have hf2 : ∀ b o, b < w1.heap.size → w2.frozen? ⟨b, o, none⟩ = (w1.setCell ⟨w.heap.size, 3, none⟩ (.slice a1 V.length cap1)).frozen? ⟨b, o, none⟩ := fun b o h => hb2.frozen (p := ⟨b, o, none⟩) (by rw [hXs]; exact h)
  clear hb2 hs2 hXs
  have k0 : w2.cell? ⟨w.heap.size, 0, none⟩ = some (.string kind) := by rw [hc2 _ _ hz0]; rw [show (w1.setCell ⟨w.heap.size, 3, none⟩ (.slice a1 V.length cap1)).cell? ⟨w.heap.size, 0, none⟩ = w1.cell? ⟨w.heap.size, 0, none⟩ from by apply World.cell?_setCell_other; simp, g0]; rfl
  have k1 : w2.cell? ⟨w.heap.size, 1, none⟩ = some (.string nm) := by rw [hc2 _ _ hz0]; rw [show (w1.setCell ⟨w.heap.size, 3, none⟩ (.slice a1 V.length cap1)).cell? ⟨w.heap.size, 1, none⟩ = w1.cell? ⟨w.heap.size, 1, none⟩ from by apply World.cell?_setCell_other; simp, g0]; rfl
  have k2 : w2.cell? ⟨w.heap.size, 2, none⟩ = some (.string team) := by rw [hc2 _ _ hz0]; rw [show (w1.setCell ⟨w.heap.size, 3, none⟩ (.slice a1 V.length cap1)).cell? ⟨w.heap.size, 2, none⟩ = w1.cell? ⟨w.heap.size, 2, none⟩ from by apply World.cell?_setCell_other; simp, g0]; rfl
  have k3 : w2.cell? ⟨w.heap.size, 3, none⟩ = some (.slice a1 V.length cap1) := by rw [hc2 _ _ hz0]; exact World.cell?_setCell_same' _ _ _ (by rw [g0]; rfl)
  have k4 : w2.cell? ⟨w.heap.size, 4, none⟩ = some (.bool en) := by rw [hc2 _ _ hz0]; rw [show (w1.setCell ⟨w.heap.size, 3, none⟩ (.slice a1 V.length cap1)).cell? ⟨w.heap.size, 4, none⟩ = w1.cell? ⟨w.heap.size, 4, none⟩ from by apply World.cell?_setCell_other; simp, g0]; rfl
  have k5 : w2.cell? ⟨w.heap.size, 5, none⟩ = some (.slice a' n' cap') := by rw [hc2 _ _ hz0]; rw [show (w1.setCell ⟨w.heap.size, 3, none⟩ (.slice a1 V.length cap1)).cell? ⟨w.heap.size, 5, none⟩ = w1.cell? ⟨w.heap.size, 5, none⟩ from by apply World.cell?_setCell_other; simp, g0]; rfl
  have k6 : w2.cell? ⟨w.heap.size, 6, none⟩ = some (.int .i64 ver) := by rw [hc2 _ _ hz0]; rw [show (w1.setCell ⟨w.heap.size, 3, none⟩ (.slice a1 V.length cap1)).cell? ⟨w.heap.size, 6, none⟩ = w1.cell? ⟨w.heap.size, 6, none⟩ from by apply World.cell?_setCell_other; simp, g0]; rfl
  have j0 : w2.cell? ⟨w.heap.size + 1, 0, none⟩ = some (.string ⟨#[]⟩) := by rw [hc2 _ _ hz, show (w1.setCell ⟨w.heap.size, 3, none⟩ (.slice a1 V.length cap1)).cell? ⟨w.heap.size + 1, 0, none⟩ = w1.cell? ⟨w.heap.size + 1, 0, none⟩ from by apply World.cell?_setCell_other; simp, g1]; rfl
  have j1 : w2.cell? ⟨w.heap.size + 1, 1, none⟩ = some (.string ⟨#[]⟩) := by rw [hc2 _ _ hz, show (w1.setCell ⟨w.heap.size, 3, none⟩ (.slice a1 V.length cap1)).cell? ⟨w.heap.size + 1, 1, none⟩ = w1.cell? ⟨w.heap.size + 1, 1, none⟩ from by apply World.cell?_setCell_other; simp, g1]; rfl
  have j2 : w2.cell? ⟨w.heap.size + 1, 2, none⟩ = some (.string ⟨#[]⟩) := by rw [hc2 _ _ hz, show (w1.setCell ⟨w.heap.size, 3, none⟩ (.slice a1 V.length cap1)).cell? ⟨w.heap.size + 1, 2, none⟩ = w1.cell? ⟨w.heap.size + 1, 2, none⟩ from by apply World.cell?_setCell_other; simp, g1]; rfl
  have j3 : w2.cell? ⟨w.heap.size + 1, 3, none⟩ = some (.slice none 0 0) := by rw [hc2 _ _ hz, show (w1.setCell ⟨w.heap.size, 3, none⟩ (.slice a1 V.length cap1)).cell? ⟨w.heap.size + 1, 3, none⟩ = w1.cell? ⟨w.heap.size + 1, 3, none⟩ from by apply World.cell?_setCell_other; simp, g1]; rfl
  have j4 : w2.cell? ⟨w.heap.size + 1, 4, none⟩ = some (.bool false) := by rw [hc2 _ _ hz, show (w1.setCell ⟨w.heap.size, 3, none⟩ (.slice a1 V.length cap1)).cell? ⟨w.heap.size + 1, 4, none⟩ = w1.cell? ⟨w.heap.size + 1, 4, none⟩ from by apply World.cell?_setCell_other; simp, g1]; rfl
  have j5 : w2.cell? ⟨w.heap.size + 1, 5, none⟩ = some (.slice none 0 0) := by rw [hc2 _ _ hz, show (w1.setCell ⟨w.heap.size, 3, none⟩ (.slice a1 V.length cap1)).cell? ⟨w.heap.size + 1, 5, none⟩ = w1.cell? ⟨w.heap.size + 1, 5, none⟩ from by apply World.cell?_setCell_other; simp, g1]; rfl
  have j6 : w2.cell? ⟨w.heap.size + 1, 6, none⟩ = some (.int .i64 0) := by rw [hc2 _ _ hz, show (w1.setCell ⟨w.heap.size, 3, none⟩ (.slice a1 V.length cap1)).cell? ⟨w.heap.size + 1, 6, none⟩ = w1.cell? ⟨w.heap.size + 1, 6, none⟩ from by apply World.cell?_setCell_other; simp, g1]; rfl
  have fz0 : ∀ o, w2.frozen? ⟨w.heap.size, o, none⟩ = false := fun o => by rw [hf2 _ _ hz0, World.frozen?_setCell, hf _ _ (by simp; omega)]; simp
  have fz1 : ∀ o, w2.frozen? ⟨w.heap.size + 1, o, none⟩ = false := fun o => by rw [hf2 _ _ hz, World.frozen?_setCell, hf _ _ (by simp)]; simp
  clear hc2 hf2 hc hf g0 g1
  go_wp2
  refine bodyPost_ret (v := .agg #[.string kind, .string nm, .string team, .slice a1 V.length cap1, .bool en, .slice a2 Ho.length cap2, .int .i64 ver]) (by simp [results, Tryz.results18, go_sem, j0, j1, j2, j3, j4, j5, j6]) rfl ⟨_, _, rfl, ?_, w1.heap.size, by omega, by simp only [World.setCell, Array.size_modify]; exact hz3, ?_, ?_⟩
  · repeat (refine Below.setCell ?_ (by simp only []; omega) _)
    exact HB2.out
  · refine StrsOwn.wide (lo := w.heap.size + 2) (hi := w1.heap.size) ?_ (by omega) (Nat.le_refl _)
    repeat (refine StrsOwn.setCell ?_ (by simp only []; omega) _)
    exact HS2.out
  · refine StrsOwn.wide (lo := w1.heap.size) (hi := w2.heap.size) ?_ (Nat.le_refl _) (by simp [World.setCell])
    repeat (refine StrsOwn.setCell ?_ (by simp only []; omega) _)
    exact HH2.out
end
end Go.Proofs.YtjkkbkdpoebfaaaGreat
