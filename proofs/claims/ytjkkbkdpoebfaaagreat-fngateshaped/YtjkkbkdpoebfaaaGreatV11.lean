import Derived.Test.YtjkkbkdpoebfaaaGreatV10
namespace Go.Proofs.YtjkkbkdpoebfaaaGreat
open Go.RowKit Go.Deep

section
variable (nm to df we : ByteArray) (le mo ro : Int) (mu fx : Bool) (a : Option Addr) (L : List ByteArray) (cap : Nat) (w : World)

set_option maxHeartbeats 4000000 in
theorem specField0 (kd : Int) (lo : Nat) (lv : Value) (Ss : List Sh) (hl : ShsAt lo w lv Ss) (hv : StrsAt w (.slice a L.length cap) L) (s0 : nm.size ≤ maxLen) (s9 : df.size ≤ maxLen) (h1 : kd ≠ 1) (h2 : kd ≠ 2) (h3 : kd ≠ 3) (h4 : kd ≠ 4) :
    Calls Tryz.prog 56 #[lv, .agg #[.string nm, .int .i64 kd, .int .i64 le, .int .i64 mo, .slice a L.length cap, .string to, .int .i64 ro, .bool mu, .bool fx, .string df, .string we]] w fun e w' => e = .returned (.bool false) ∧ Below w.heap.size w w' := by
  have HV := hide hv
  have HW0 := hide s0
  have HW9 := hide s9
  obtain ⟨la, lcap, rfl⟩ := hl.form
  clear hl hv s0 s9
  have HW : ∀ o, Hid (Below w.heap.size w (w.alloc o)) := fun o => (Below.refl _ _).alloc (Nat.le_refl _) _
  have HF : Hid (fitsB kd le mo L df = false) := fits0 h1 h2 h3 h4
  have HBR := hide (fun u => l1Bare0 nm to df we le mo ro mu fx a L.length cap u kd h1 h2 h3 h4)
  have b1 : (kd == 1) = false := beq_eq_false_iff_ne.2 h1
  have b2 : (kd == 2) = false := beq_eq_false_iff_ne.2 h2
  have b3 : (kd == 3) = false := beq_eq_false_iff_ne.2 h3
  have b4 : (kd == 4) = false := beq_eq_false_iff_ne.2 h4
  clear h1 h2 h3 h4
  go_enter Tryz.func56, Tryz.ntmps56
  go_wp2_with fail
  refine (nameOk_any _ _ HW0.out).mono ?_
  rintro e wx ⟨rfl, rfl⟩
  cases hnm : nameB nm with
  | false =>
    go_wp2
    go_ret
    exact ⟨rfl, (HW _).out⟩
  | true =>
    go_wp2_with fail
    refine (HBR.out _).mono ?_
    rintro e w1 ⟨bb, rfl, hb1⟩
    have HC1 : Hid (Below (w.heap.size + 1) (w.alloc (.cells #[.string nm, .int .i64 kd, .int .i64 le, .int .i64 mo, .slice a L.length cap, .string to, .int .i64 ro, .bool mu, .bool fx, .string df, .string we] 56)) w1) := by have := hb1; simp at this; exact this
    have HB1 : Hid (Below w.heap.size w w1) := (HW _).out.trans (hb1.mono (by simp))
    have hbx := fun i => box_cell w w1 #[.string nm, .int .i64 kd, .int .i64 le, .int .i64 mo, .slice a L.length cap, .string to, .int .i64 ro, .bool mu, .bool fx, .string df, .string we] 56 HC1.out i
    clear hb1
    cases bb with
    | false =>
      go_wp2
      go_ret
      exact ⟨rfl, HB1.out⟩
    | true =>
      cases hd : df.toList.isEmpty with
      | true =>
        go_wp2
        go_ret
        exact ⟨rfl, HB1.out⟩
      | false =>
        go_wp2_with fail
        refine (specFits_any _ _ _ _ _ _ _ _ _ _ L _ _ _ (HV.out.below HB1.out) HW9.out).mono ?_
        rintro e w2 ⟨rfl, hb2⟩
        have HB2 : Hid (Below w.heap.size w w2) := HB1.out.trans (hb2.mono HB1.out.size)
        clear hb2 hbx
        rw [HF.out]
        go_wp2
        go_ret
        exact ⟨rfl, HB2.out⟩
end

/-- what is asked of a field by its kind -/
def restB (Ss : List Sh) (f : Fd) : Bool :=
  if f.kd = 1 then bare1 f.words.length f.to f.ro && sound1 f.le f.mo f.we && (f.df.toList.isEmpty || fitsB 1 f.le f.mo f.words f.df)
  else if f.kd = 2 then bare2 f.le f.mo f.to f.ro f.we && sound2 f.words.length f.words && (f.df.toList.isEmpty || fitsB 2 f.le f.mo f.words f.df)
  else if f.kd = 3 then bare3 f.words.length f.to f.ro f.we && sound3 f.le f.mo && (f.df.toList.isEmpty || fitsB 3 f.le f.mo f.words f.df)
  else if f.kd = 4 then bare4 f.le f.mo f.words.length f.we && sound4 Ss f.to f.ro f.mu f.df && (f.df.toList.isEmpty || fitsB 4 f.le f.mo f.words f.df)
  else false

theorem StrsAt.form_len {w : World} {v : Value} {L : List ByteArray} (h : StrsAt w v L) : ∃ a cap, v = .slice a L.length cap := by
  rcases h with ⟨a, cap, h, rfl⟩ | ⟨b, off, cap, h, _⟩
  · exact ⟨a, cap, h⟩
  · exact ⟨_, cap, h⟩

theorem specField_any (lo : Nat) (lv : Value) (Ss : List Sh) (f : Fd) (wv : Value) (w : World) (hl : ShsAt lo w lv Ss) (hv : StrsAt w wv f.words) (hz : FdSize f) :
    Calls Tryz.prog 56 #[lv, .agg #[.string f.nm, .int .i64 f.kd, .int .i64 f.le, .int .i64 f.mo, wv, .string f.to, .int .i64 f.ro, .bool f.mu, .bool f.fx, .string f.df, .string f.we]] w
      fun e w' => e = .returned (.bool (nameB f.nm && restB Ss f)) ∧ Below w.heap.size w w' := by
  obtain ⟨nm, kd, le, mo, words, to, ro, mu, fx, df, we⟩ := f
  obtain ⟨a, cap, rfl⟩ := hv.form_len
  obtain ⟨s0, s5, s9, s10⟩ := hz
  simp only [restB] at *
  by_cases h1 : kd = 1
  · subst h1; rw [if_pos rfl]; exact specField1 nm to df we le mo ro mu fx a words cap w lo lv Ss hl hv s0 s9 s10
  rw [if_neg h1]
  by_cases h2 : kd = 2
  · subst h2; rw [if_pos rfl]; exact specField2 nm to df we le mo ro mu fx a words cap w lo lv Ss hl hv s0 s9 s10
  rw [if_neg h2]
  by_cases h3 : kd = 3
  · subst h3; rw [if_pos rfl]; exact specField3 nm to df we le mo ro mu fx a words cap w lo lv Ss hl hv s0 s9 s10
  rw [if_neg h3]
  by_cases h4 : kd = 4
  · subst h4; rw [if_pos rfl]; exact specField4 nm to df we le mo ro mu fx a words cap w lo lv Ss hl hv s0 s9 s10
  rw [if_neg h4, Bool.and_false]
  exact specField0 nm to df we le mo ro mu fx a words cap w kd lo lv Ss hl hv s0 s9 h1 h2 h3 h4

/-- a name that a field ahead has -/
def dupB (Fs : List Fd) (s : ByteArray) : Bool := Fs.any fun x => x.nm.toList == s.toList
theorem dup_stop {Fs : List Fd} {s : ByteArray} {k j : Nat} (hj : j < Fs.length) (hk : j < k) (h : (Fs[j].nm.toList == s.toList) = true) : dupB (Fs.take k) s = true := by
  unfold dupB
  rw [List.any_eq_true]
  exact ⟨Fs[j], List.mem_take_iff_getElem.2 ⟨j, by omega, rfl⟩, h⟩
theorem dup_none {Fs : List Fd} {s : ByteArray} {k : Nat} (h : ∀ j (hj : j < Fs.length), j < k → (Fs[j].nm.toList == s.toList) = false) : dupB (Fs.take k) s = false := by
  unfold dupB
  rw [List.any_eq_false]
  intro x hx
  obtain ⟨j, hj, rfl⟩ := List.mem_take_iff_getElem.1 hx
  simp [h j (by omega) (by omega)]

/-- place k of fields -/
def fieldAt (Ss : List Sh) (Fs : List Fd) (k : Nat) : Bool :=
  match Fs[k]? with
  | some f => nameB f.nm && restB Ss f && !dupB (Fs.take k) f.nm
  | none => true
def fieldsB (Ss : List Sh) (Fs : List Fd) : Bool := decide (Fs.length ≤ 6) && (List.range Fs.length).all (fieldAt Ss Fs)
theorem fieldAt_of {Ss : List Sh} {Fs : List Fd} {k : Nat} (h : k < Fs.length) : fieldAt Ss Fs k = (nameB Fs[k].nm && restB Ss Fs[k] && !dupB (Fs.take k) Fs[k].nm) := by
  unfold fieldAt; rw [List.getElem?_eq_getElem h]

/-- place i of shapes -/
def shapeAt (Ss : List Sh) (i : Nat) : Bool :=
  match Ss[i]? with
  | some x => nameB x.kind && (match Ss[i - 1]? with | some y => i == 0 || Op.bytesLess y.kind.toList x.kind.toList | none => true) && fieldsB Ss x.fields
  | none => true
def shapesB (Ss : List Sh) : Bool := decide (Ss.length ≤ 6) && (List.range Ss.length).all (shapeAt Ss)
theorem shapeAt_zero {Ss : List Sh} (h : 0 < Ss.length) : shapeAt Ss 0 = (nameB Ss[0].kind && fieldsB Ss Ss[0].fields) := by
  unfold shapeAt; rw [List.getElem?_eq_getElem h]; simp
theorem shapeAt_succ {Ss : List Sh} {j : Nat} (h : j + 1 < Ss.length) : shapeAt Ss (j + 1) = (nameB Ss[j + 1].kind && Op.bytesLess Ss[j].kind.toList Ss[j + 1].kind.toList && fieldsB Ss Ss[j + 1].fields) := by
  unfold shapeAt; rw [List.getElem?_eq_getElem h]; simp [List.getElem?_eq_getElem (show j < Ss.length by omega)]
end Go.Proofs.YtjkkbkdpoebfaaaGreat
