import Derived.Test.YtjkkbkdpoebfaaaGreatV03
import Derived.Deep.RegionWith
namespace Go.Proofs.YtjkkbkdpoebfaaaGreat
open Go.RowKit Go.Deep

section
variable (nm to df we : ByteArray) (le mo ro : Int) (mu fx : Bool) (wv : Value) (L : List ByteArray) (s : ByteArray) (w : World) (r : Nat)

set_option maxHeartbeats 1000000 in
theorem fitsBy1 (hr : w.heap[r]? = some (.map makerEntries 4)) (hv : StrsAt w wv L) (hs : s.size ≤ maxLen) :
    Calls Tryz.prog 97 #[.map (some r), .agg #[.string nm, .int .i64 1, .int .i64 le, .int .i64 mo, wv, .string to, .int .i64 ro, .bool mu, .bool fx, .string df, .string we], .string s] w
      fun e w' => e = .returned (.bool (fitsB 1 le mo L s)) ∧ Below w.heap.size w w' := by
  have HV := hide hv
  have HS := hide hs
  obtain ⟨a, n, cap, rfl⟩ := hv.form
  have HW : ∀ o, Hid (Below w.heap.size w (w.alloc o)) := fun o => (Below.refl _ _).alloc (Nat.le_refl _) _
  have hlk := fun o => look_of (w.alloc o) r 1 _ (by rw [(HW o).out.block r (Array.getElem?_eq_some_iff.1 hr).1]; exact hr) find1
  clear hv hr hs
  rw [fits1]
  have hm : ∀ W : World, (method 271 132 (.agg #[.int .i64 le, .int .i64 mo, .string we]) "loop.example/wharfhall/impl.fits").run Tryz.prog W = .ok (116, .agg #[.int .i64 le, .int .i64 mo, .string we]) W := fun _ => by kernel_rfl
  go_enter Tryz.func97, Tryz.ntmps97
  go_wp2_with fail
  refine (new49 _ _ _ _ _ _ _ _ _ _ _ _ _ _).mono ?_
  rintro e w1 ⟨rfl, hb1⟩
  have HB1 : Hid (Below w.heap.size w w1) := (HW _).out.trans (hb1.mono (by simp))
  clear hb1
  go_wp2_with fail
  refine (numFits _ _ _ _ _ HS.out).mono ?_
  rintro e w2 ⟨rfl, hb2⟩
  have HB2 : Hid (Below w.heap.size w w2) := HB1.out.trans (hb2.mono HB1.out.size)
  clear hb2
  go_wp2
  go_ret
  exact ⟨rfl, HB2.out⟩

set_option maxHeartbeats 1000000 in
theorem fitsBy2 (hr : w.heap[r]? = some (.map makerEntries 4)) (hv : StrsAt w wv L) (hs : s.size ≤ maxLen) :
    Calls Tryz.prog 97 #[.map (some r), .agg #[.string nm, .int .i64 2, .int .i64 le, .int .i64 mo, wv, .string to, .int .i64 ro, .bool mu, .bool fx, .string df, .string we], .string s] w
      fun e w' => e = .returned (.bool (fitsB 2 le mo L s)) ∧ Below w.heap.size w w' := by
  have HV := hide hv
  have HS := hide hs
  obtain ⟨a, n, cap, rfl⟩ := hv.form
  have HW : ∀ o, Hid (Below w.heap.size w (w.alloc o)) := fun o => (Below.refl _ _).alloc (Nat.le_refl _) _
  have hlk := fun o => look_of (w.alloc o) r 2 _ (by rw [(HW o).out.block r (Array.getElem?_eq_some_iff.1 hr).1]; exact hr) find2
  clear hv hr hs
  rw [fits2]
  have hm : ∀ W : World, (method 271 134 (.agg #[.slice a n cap]) "loop.example/wharfhall/impl.fits").run Tryz.prog W = .ok (121, .agg #[.slice a n cap]) W := fun _ => by kernel_rfl
  go_enter Tryz.func97, Tryz.ntmps97
  go_wp2_with fail
  refine (new50 _ _ _ _ _ _ _ _ _ _ _ _ _ _).mono ?_
  rintro e w1 ⟨rfl, hb1⟩
  have HB1 : Hid (Below w.heap.size w w1) := (HW _).out.trans (hb1.mono (by simp))
  clear hb1
  go_wp2_with fail
  refine (wordFits _ _ _ _ _ L (HV.out.below HB1.out)).mono ?_
  rintro e w2 ⟨rfl, hb2⟩
  have HB2 : Hid (Below w.heap.size w w2) := HB1.out.trans (hb2.mono HB1.out.size)
  clear hb2
  go_wp2
  go_ret
  exact ⟨rfl, HB2.out⟩

set_option maxHeartbeats 1000000 in
theorem fitsBy3 (hr : w.heap[r]? = some (.map makerEntries 4)) (hv : StrsAt w wv L) (hs : s.size ≤ maxLen) :
    Calls Tryz.prog 97 #[.map (some r), .agg #[.string nm, .int .i64 3, .int .i64 le, .int .i64 mo, wv, .string to, .int .i64 ro, .bool mu, .bool fx, .string df, .string we], .string s] w
      fun e w' => e = .returned (.bool (fitsB 3 le mo L s)) ∧ Below w.heap.size w w' := by
  have HV := hide hv
  have HS := hide hs
  obtain ⟨a, n, cap, rfl⟩ := hv.form
  have HW : ∀ o, Hid (Below w.heap.size w (w.alloc o)) := fun o => (Below.refl _ _).alloc (Nat.le_refl _) _
  have hlk := fun o => look_of (w.alloc o) r 3 _ (by rw [(HW o).out.block r (Array.getElem?_eq_some_iff.1 hr).1]; exact hr) find3
  clear hv hr hs
  rw [fits3]
  have hm : ∀ W : World, (method 271 136 (.agg #[.int .i64 le, .int .i64 mo]) "loop.example/wharfhall/impl.fits").run Tryz.prog W = .ok (125, .agg #[.int .i64 le, .int .i64 mo]) W := fun _ => by kernel_rfl
  go_enter Tryz.func97, Tryz.ntmps97
  go_wp2_with fail
  refine (new51 _ _ _ _ _ _ _ _ _ _ _ _ _ _).mono ?_
  rintro e w1 ⟨rfl, hb1⟩
  have HB1 : Hid (Below w.heap.size w w1) := (HW _).out.trans (hb1.mono (by simp))
  clear hb1
  go_wp2_with fail
  refine (textFits_any _ _ _ _ HS.out).mono ?_
  rintro e w2 ⟨rfl, hb2⟩
  have HB2 : Hid (Below w.heap.size w w2) := HB1.out.trans (hb2.mono HB1.out.size)
  clear hb2
  go_wp2
  go_ret
  exact ⟨rfl, HB2.out⟩

set_option maxHeartbeats 1000000 in
theorem fitsBy4 (hr : w.heap[r]? = some (.map makerEntries 4)) (hv : StrsAt w wv L) (hs : s.size ≤ maxLen) :
    Calls Tryz.prog 97 #[.map (some r), .agg #[.string nm, .int .i64 4, .int .i64 le, .int .i64 mo, wv, .string to, .int .i64 ro, .bool mu, .bool fx, .string df, .string we], .string s] w
      fun e w' => e = .returned (.bool (fitsB 4 le mo L s)) ∧ Below w.heap.size w w' := by
  have HV := hide hv
  have HS := hide hs
  obtain ⟨a, n, cap, rfl⟩ := hv.form
  have HW : ∀ o, Hid (Below w.heap.size w (w.alloc o)) := fun o => (Below.refl _ _).alloc (Nat.le_refl _) _
  have hlk := fun o => look_of (w.alloc o) r 4 _ (by rw [(HW o).out.block r (Array.getElem?_eq_some_iff.1 hr).1]; exact hr) find4
  clear hv hr hs
  rw [fits4]
  have hm : ∀ W : World, (method 271 138 (.agg #[.string to, .int .i64 ro, .bool mu, .string df]) "loop.example/wharfhall/impl.fits").run Tryz.prog W = .ok (128, .agg #[.string to, .int .i64 ro, .bool mu, .string df]) W := fun _ => by kernel_rfl
  go_enter Tryz.func97, Tryz.ntmps97
  go_wp2_with fail
  refine (new52 _ _ _ _ _ _ _ _ _ _ _ _ _ _).mono ?_
  rintro e w1 ⟨rfl, hb1⟩
  have HB1 : Hid (Below w.heap.size w w1) := (HW _).out.trans (hb1.mono (by simp))
  clear hb1
  go_wp2_with fail
  refine (linkFits _ _ _ _ _ _ HS.out).mono ?_
  rintro e w2 ⟨rfl, hb2⟩
  have HB2 : Hid (Below w.heap.size w w2) := HB1.out.trans (hb2.mono HB1.out.size)
  clear hb2
  go_wp2
  go_ret
  exact ⟨rfl, HB2.out⟩

set_option maxHeartbeats 1000000 in
theorem fitsBy0 (kd : Int) (hr : w.heap[r]? = some (.map makerEntries 4)) (hv : StrsAt w wv L) (h1 : kd ≠ 1) (h2 : kd ≠ 2) (h3 : kd ≠ 3) (h4 : kd ≠ 4) :
    Calls Tryz.prog 97 #[.map (some r), .agg #[.string nm, .int .i64 kd, .int .i64 le, .int .i64 mo, wv, .string to, .int .i64 ro, .bool mu, .bool fx, .string df, .string we], .string s] w
      fun e w' => e = .returned (.bool (fitsB kd le mo L s)) ∧ Below w.heap.size w w' := by
  obtain ⟨a, n, cap, rfl⟩ := hv.form
  have HW : ∀ o, Hid (Below w.heap.size w (w.alloc o)) := fun o => (Below.refl _ _).alloc (Nat.le_refl _) _
  have hlk : ∀ o, (Instr.lookup 65 (.map (some r)) (.int .i64 kd) true).run Tryz.prog (w.alloc o) = .ok (.tuple #[.nilFunc, .bool false]) (w.alloc o) :=
    fun o => look_of (w.alloc o) r kd _ (by rw [(HW o).out.block r (Array.getElem?_eq_some_iff.1 hr).1]; exact hr) (find0 h1 h2 h3 h4)
  rw [fits0 h1 h2 h3 h4]
  clear hv hr h1 h2 h3 h4
  go_enter Tryz.func97, Tryz.ntmps97
  go_wp2
  go_ret
  exact ⟨rfl, (HW _).out⟩

theorem fitsBy_any (kd : Int) (hr : w.heap[r]? = some (.map makerEntries 4)) (hv : StrsAt w wv L) (hs : s.size ≤ maxLen) :
    Calls Tryz.prog 97 #[.map (some r), .agg #[.string nm, .int .i64 kd, .int .i64 le, .int .i64 mo, wv, .string to, .int .i64 ro, .bool mu, .bool fx, .string df, .string we], .string s] w
      fun e w' => e = .returned (.bool (fitsB kd le mo L s)) ∧ Below w.heap.size w w' := by
  by_cases h1 : kd = 1
  · subst h1; exact fitsBy1 nm to df we le mo ro mu fx wv L s w r hr hv hs
  by_cases h2 : kd = 2
  · subst h2; exact fitsBy2 nm to df we le mo ro mu fx wv L s w r hr hv hs
  by_cases h3 : kd = 3
  · subst h3; exact fitsBy3 nm to df we le mo ro mu fx wv L s w r hr hv hs
  by_cases h4 : kd = 4
  · subst h4; exact fitsBy4 nm to df we le mo ro mu fx wv L s w r hr hv hs
  exact fitsBy0 nm to df we le mo ro mu fx wv L s w r kd hr hv h1 h2 h3 h4

theorem specFits_any (kd : Int) (hv : StrsAt w wv L) (hs : s.size ≤ maxLen) :
    Calls Tryz.prog 59 #[.agg #[.string nm, .int .i64 kd, .int .i64 le, .int .i64 mo, wv, .string to, .int .i64 ro, .bool mu, .bool fx, .string df, .string we], .string s] w
      fun e w' => e = .returned (.bool (fitsB kd le mo L s)) ∧ Below w.heap.size w w' := by
  by_cases h1 : kd = 1
  · subst h1; exact specFits1 nm to df we le mo ro mu fx wv L s w hv hs
  by_cases h2 : kd = 2
  · subst h2; exact specFits2 nm to df we le mo ro mu fx wv L s w hv hs
  by_cases h3 : kd = 3
  · subst h3; exact specFits3 nm to df we le mo ro mu fx wv L s w hv hs
  by_cases h4 : kd = 4
  · subst h4; exact specFits4 nm to df we le mo ro mu fx wv L s w hv hs
  exact specFits0 nm to df we le mo ro mu fx wv L s w kd hv h1 h2 h3 h4

end
end Go.Proofs.YtjkkbkdpoebfaaaGreat
namespace Go.Proofs.YtjkkbkdpoebfaaaGreat
open Go.RowKit Go.Deep
section
variable (nm to df we : ByteArray) (le mo ro : Int) (mu fx : Bool) (wv : Value) (L : List ByteArray) (s : ByteArray) (w : World) (r : Nat)
theorem makers_there (u : World) (o : Obj) : (u.alloc o).heap[u.heap.size]? = some o := (MapKept.heap_alloc u _).1

set_option maxHeartbeats 1000000 in
theorem implFits_any (kd : Int) (hv : StrsAt w wv L) (hs : s.size ≤ maxLen) :
    Calls Tryz.prog 74 #[.agg #[.string nm, .int .i64 kd, .int .i64 le, .int .i64 mo, wv, .string to, .int .i64 ro, .bool mu, .bool fx, .string df, .string we], .string s] w
      fun e w' => e = .returned (.bool (fitsB kd le mo L s)) ∧ Below w.heap.size w w' := by
  have HV := hide hv
  have HS := hide hs
  obtain ⟨a, n, cap, rfl⟩ := hv.form
  clear hv hs
  have HW : ∀ o, Hid (Below w.heap.size w (w.alloc o)) := fun o => (Below.refl _ _).alloc (Nat.le_refl _) _
  have hr0 : ∀ o, Hid ((((w.alloc o).alloc (.map makerEntries 4)).drew).heap[w.heap.size + 1]? = some (.map makerEntries 4)) := fun o => by
    have := makers_there (w.alloc o) (.map makerEntries 4)
    rw [World.size_alloc] at this
    exact this
  have hbw : ∀ o o', Hid (Below w.heap.size w (((w.alloc o).alloc o').drew)) := fun o o' => ((HW o).out.alloc (by simp) o').drew
  go_enter Tryz.func74, Tryz.ntmps74
  go_wp2
  go_region_with (first
    | (go_at_call 39; refine (makers_any _).mono ?_; rintro e w' ⟨rfl, rfl⟩)
    | (go_at_call 97; refine (fitsBy_any _ _ _ _ _ _ _ _ _ _ L _ _ _ _ (hr0 _).out (HV.out.below (hbw _ _).out) HS.out).mono ?_; rintro e w' ⟨rfl, hb⟩; have HB : Hid (Below w.heap.size w w') := (hbw _ _).out.trans (hb.mono (hbw _ _).out.size); clear hb))
  all_goals go_wp2
  all_goals go_ret
  all_goals exact ⟨rfl, HB.out⟩
end
end Go.Proofs.YtjkkbkdpoebfaaaGreat
namespace Go.Proofs.YtjkkbkdpoebfaaaGreat
open Go.RowKit Go.Deep

/-- a field -/
structure Fd where
  nm : ByteArray
  kd : Int
  le : Int
  mo : Int
  words : List ByteArray
  to : ByteArray
  ro : Int
  mu : Bool
  fx : Bool
  df : ByteArray
  we : ByteArray

/-- THE ELEVEN CELLS OF A FIELD, from place o of block b on. -/
structure FdCells (w : World) (b o : Nat) (f : Fd) (wv : Value) : Prop where
  c0 : w.cell? ⟨b, o, none⟩ = some (.string f.nm)
  c1 : w.cell? ⟨b, o + 1, none⟩ = some (.int .i64 f.kd)
  c2 : w.cell? ⟨b, o + 2, none⟩ = some (.int .i64 f.le)
  c3 : w.cell? ⟨b, o + 3, none⟩ = some (.int .i64 f.mo)
  c4 : w.cell? ⟨b, o + 4, none⟩ = some wv
  c5 : w.cell? ⟨b, o + 5, none⟩ = some (.string f.to)
  c6 : w.cell? ⟨b, o + 6, none⟩ = some (.int .i64 f.ro)
  c7 : w.cell? ⟨b, o + 7, none⟩ = some (.bool f.mu)
  c8 : w.cell? ⟨b, o + 8, none⟩ = some (.bool f.fx)
  c9 : w.cell? ⟨b, o + 9, none⟩ = some (.string f.df)
  c10 : w.cell? ⟨b, o + 10, none⟩ = some (.string f.we)

structure FdSize (f : Fd) : Prop where
  s0 : f.nm.size ≤ maxLen
  s5 : f.to.size ≤ maxLen
  s9 : f.df.size ≤ maxLen
  s10 : f.we.size ≤ maxLen

theorem FdCells.below {w w' : World} {b o : Nat} {f : Fd} {wv : Value} (h : FdCells w b o f wv) (hb : Below w.heap.size w w') (hlt : b < w.heap.size) : FdCells w' b o f wv := by
  have e : ∀ o, w'.cell? ⟨b, o, none⟩ = w.cell? ⟨b, o, none⟩ := fun o => hb.cell (p := ⟨b, o, none⟩) hlt
  exact ⟨by rw [e]; exact h.c0, by rw [e]; exact h.c1, by rw [e]; exact h.c2, by rw [e]; exact h.c3, by rw [e]; exact h.c4, by rw [e]; exact h.c5, by rw [e]; exact h.c6, by rw [e]; exact h.c7, by rw [e]; exact h.c8, by rw [e]; exact h.c9, by rw [e]; exact h.c10⟩

/-- A []GateField THAT HOLDS Fs; its cells lie from block lo on. -/
def FdsAt (lo : Nat) (w : World) (v : Value) (Fs : List Fd) : Prop :=
  (∃ (a : Option Addr) (cap : Nat), v = .slice a 0 cap ∧ Fs = []) ∨
  ∃ (b off cap : Nat), v = .slice (some ⟨b, off, none⟩) Fs.length cap ∧ Fs ≠ [] ∧ Fs.length ≤ maxLen ∧ b < w.heap.size ∧ lo ≤ b ∧ Fs.length ≤ cap ∧
    ∀ i (h : i < Fs.length), FdSize Fs[i] ∧ ∃ wv, FdCells w b (off + i * 11) Fs[i] wv ∧ StrsIn lo w wv Fs[i].words

theorem FdsAt.below {lo : Nat} {w w' : World} {v : Value} {Fs : List Fd} (h : FdsAt lo w v Fs) (hb : Below w.heap.size w w') : FdsAt lo w' v Fs := by
  rcases h with h | ⟨b, off, cap, h1, h2, h3, h4, h5, h6, h7⟩
  · exact Or.inl h
  · refine Or.inr ⟨b, off, cap, h1, h2, h3, Nat.lt_of_lt_of_le h4 hb.size, h5, h6, fun i hi => ?_⟩
    obtain ⟨hs, wv, hc, hw⟩ := h7 i hi
    exact ⟨hs, wv, hc.below hb h4, hw.below hb⟩
theorem FdsAt.mono {lo lo' : Nat} {w : World} {v : Value} {Fs : List Fd} (h : FdsAt lo w v Fs) (hl : lo' ≤ lo) : FdsAt lo' w v Fs := by
  rcases h with h | ⟨b, off, cap, h1, h2, h3, h4, h5, h6, h7⟩
  · exact Or.inl h
  · refine Or.inr ⟨b, off, cap, h1, h2, h3, h4, Nat.le_trans hl h5, h6, fun i hi => ?_⟩
    obtain ⟨hs, wv, hc, hw⟩ := h7 i hi
    exact ⟨hs, wv, hc, hw.mono hl⟩
theorem FdsAt.form {lo : Nat} {w : World} {v : Value} {Fs : List Fd} (h : FdsAt lo w v Fs) : ∃ a cap, v = .slice a Fs.length cap := by
  rcases h with ⟨a, cap, h, rfl⟩ | ⟨b, off, cap, h, _⟩
  · exact ⟨a, cap, h⟩
  · exact ⟨_, cap, h⟩

def FdsSmall (Fs : List Fd) : Prop := Fs.length ≤ 1048576 ∧ ∀ i (h : i < Fs.length), Fs[i].words.length ≤ 1048576
/-- a shape -/
structure Sh where
  kind : ByteArray
  fields : List Fd

/-- A []GateShape THAT HOLDS Ss; its cells lie from block lo on. -/
def ShsAt (lo : Nat) (w : World) (v : Value) (Ss : List Sh) : Prop :=
  (∃ (a : Option Addr) (cap : Nat), v = .slice a 0 cap ∧ Ss = []) ∨
  ∃ (b off cap : Nat), v = .slice (some ⟨b, off, none⟩) Ss.length cap ∧ Ss ≠ [] ∧ Ss.length ≤ maxLen ∧ b < w.heap.size ∧ lo ≤ b ∧
    ∀ i (h : i < Ss.length), Ss[i].kind.size ≤ maxLen ∧ ∃ fv, w.cell? ⟨b, off + i * 2, none⟩ = some (.string Ss[i].kind) ∧ w.cell? ⟨b, off + i * 2 + 1, none⟩ = some fv ∧ FdsAt lo w fv Ss[i].fields

theorem ShsAt.below {lo : Nat} {w w' : World} {v : Value} {Ss : List Sh} (h : ShsAt lo w v Ss) (hb : Below w.heap.size w w') : ShsAt lo w' v Ss := by
  rcases h with h | ⟨b, off, cap, h1, h2, h3, h4, h5, h7⟩
  · exact Or.inl h
  · refine Or.inr ⟨b, off, cap, h1, h2, h3, Nat.lt_of_lt_of_le h4 hb.size, h5, fun i hi => ?_⟩
    obtain ⟨hs, fv, hc, hc', hw⟩ := h7 i hi
    exact ⟨hs, fv, by rw [hb.cell (p := ⟨b, _, none⟩) h4]; exact hc, by rw [hb.cell (p := ⟨b, _, none⟩) h4]; exact hc', hw.below hb⟩
theorem ShsAt.mono {lo lo' : Nat} {w : World} {v : Value} {Ss : List Sh} (h : ShsAt lo w v Ss) (hl : lo' ≤ lo) : ShsAt lo' w v Ss := by
  rcases h with h | ⟨b, off, cap, h1, h2, h3, h4, h5, h7⟩
  · exact Or.inl h
  · refine Or.inr ⟨b, off, cap, h1, h2, h3, h4, Nat.le_trans hl h5, fun i hi => ?_⟩
    obtain ⟨hs, fv, hc, hc', hw⟩ := h7 i hi
    exact ⟨hs, fv, hc, hc', hw.mono hl⟩
theorem ShsAt.form {lo : Nat} {w : World} {v : Value} {Ss : List Sh} (h : ShsAt lo w v Ss) : ∃ a cap, v = .slice a Ss.length cap := by
  rcases h with ⟨a, cap, h, rfl⟩ | ⟨b, off, cap, h, _⟩
  · exact ⟨a, cap, h⟩
  · exact ⟨_, cap, h⟩

def ShsSmall (Ss : List Sh) : Prop := Ss.length ≤ 1048576 ∧ ∀ i (h : i < Ss.length), FdsSmall Ss[i].fields
end Go.Proofs.YtjkkbkdpoebfaaaGreat
namespace Go.Proofs.YtjkkbkdpoebfaaaGreat
open Go.RowKit Go.Deep

theorem nil_form {lo : Nat} {w : World} {v : Value} (h : FdsAt lo w v []) : ∃ a cap, v = .slice a 0 cap := h.form
theorem FdsAt.full {lo : Nat} {w : World} {v : Value} {Fs : List Fd} (h : FdsAt lo w v Fs) (hne : Fs ≠ []) : ∃ (b off cap : Nat), v = .slice (some ⟨b, off, none⟩) Fs.length cap ∧ Fs.length ≤ maxLen ∧ b < w.heap.size ∧ Fs.length ≤ cap ∧
    ∀ i (h : i < Fs.length), FdSize Fs[i] ∧ ∃ wv, FdCells w b (off + i * 11) Fs[i] wv ∧ StrsIn lo w wv Fs[i].words := by
  rcases h with ⟨_, _, _, h⟩ | ⟨b, off, cap, h1, _, h3, h4, _, h6, h7⟩
  · exact absurd h hne
  · exact ⟨b, off, cap, h1, h3, h4, h6, h7⟩
theorem ShsAt.full {lo : Nat} {w : World} {v : Value} {Ss : List Sh} (h : ShsAt lo w v Ss) (hne : Ss ≠ []) : ∃ (b off cap : Nat), v = .slice (some ⟨b, off, none⟩) Ss.length cap ∧ Ss.length ≤ maxLen ∧ b < w.heap.size ∧
    ∀ i (h : i < Ss.length), Ss[i].kind.size ≤ maxLen ∧ ∃ fv, w.cell? ⟨b, off + i * 2, none⟩ = some (.string Ss[i].kind) ∧ w.cell? ⟨b, off + i * 2 + 1, none⟩ = some fv ∧ FdsAt lo w fv Ss[i].fields := by
  rcases h with ⟨_, _, _, h⟩ | ⟨b, off, cap, h1, _, h3, h4, _, h7⟩
  · exact absurd h hne
  · exact ⟨b, off, cap, h1, h3, h4, h7⟩

end Go.Proofs.YtjkkbkdpoebfaaaGreat
