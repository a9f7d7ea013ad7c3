import Derived.Test.YtmaagbnjpdijnaaT1
import Derived.Test.YtmaagbnjpdijnaaDA
namespace Go.Proofs.Ytmaagbnjpdijnaa
open Go.RowKit Go.Deep

/-- a rule -/
structure Ru where
  vb : List Int
  kd : ByteArray
  tm : ByteArray
  pf : ByteArray
/-- A []int THAT HOLDS L; its cells lie from block lo on. -/
def IntsIn (lo : Nat) (w : World) (v : Value) (L : List Int) : Prop :=
  (∃ (a : Option Addr) (cap : Nat), v = .slice a 0 cap ∧ L = []) ∨
  ∃ (b off cap : Nat), v = .slice (some ⟨b, off, none⟩) L.length cap ∧ L ≠ [] ∧ L.length ≤ maxLen ∧ b < w.heap.size ∧ lo ≤ b ∧
    ∀ i (h : i < L.length), w.cell? ⟨b, off + i, none⟩ = some (.int .i64 L[i])
theorem IntsIn.below {lo : Nat} {w w' : World} {v : Value} {L : List Int} (h : IntsIn lo w v L) (hb : Below w.heap.size w w') : IntsIn lo w' v L := by
  rcases h with h | ⟨b, off, cap, h1, h2, h3, h4, h5, h6⟩
  · exact Or.inl h
  · exact Or.inr ⟨b, off, cap, h1, h2, h3, Nat.lt_of_lt_of_le h4 hb.size, h5, fun i hi => by rw [hb.cell (p := ⟨b, _, none⟩) h4]; exact h6 i hi⟩
theorem IntsIn.mono {lo lo' : Nat} {w : World} {v : Value} {L : List Int} (h : IntsIn lo w v L) (hl : lo' ≤ lo) : IntsIn lo' w v L := by
  rcases h with h | ⟨b, off, cap, h1, h2, h3, h4, h5, h6⟩
  · exact Or.inl h
  · exact Or.inr ⟨b, off, cap, h1, h2, h3, h4, Nat.le_trans hl h5, h6⟩
theorem IntsIn.form {lo : Nat} {w : World} {v : Value} {L : List Int} (h : IntsIn lo w v L) : ∃ a cap, v = .slice a L.length cap := by
  rcases h with ⟨a, cap, h, rfl⟩ | ⟨b, off, cap, h, _⟩
  · exact ⟨a, cap, h⟩
  · exact ⟨_, cap, h⟩
theorem IntsIn.max {lo : Nat} {w : World} {v : Value} {L : List Int} (h : IntsIn lo w v L) : L.length ≤ maxLen := by
  rcases h with ⟨a, cap, h, rfl⟩ | ⟨b, off, cap, h, _, h3, _⟩
  · exact Nat.zero_le _
  · exact h3
theorem IntsIn.full {lo : Nat} {w : World} {v : Value} {L : List Int} (h : IntsIn lo w v L) (hne : L ≠ []) : ∃ (b off cap : Nat), v = .slice (some ⟨b, off, none⟩) L.length cap ∧ L.length ≤ maxLen ∧ b < w.heap.size ∧
    ∀ i (h : i < L.length), w.cell? ⟨b, off + i, none⟩ = some (.int .i64 L[i]) := by
  rcases h with ⟨_, _, _, h⟩ | ⟨b, off, cap, h1, _, h3, h4, _, h6⟩
  · exact absurd h hne
  · exact ⟨b, off, cap, h1, h3, h4, h6⟩
theorem IntsIn.full' {lo : Nat} {w : World} {a : Option Addr} {n cap : Nat} {L : List Int} (h : IntsIn lo w (.slice a n cap) L) (hL : 0 < L.length) :
    ∃ b off, a = some ⟨b, off, none⟩ ∧ b < w.heap.size ∧ ∀ i (h : i < L.length), w.cell? ⟨b, off + i, none⟩ = some (.int .i64 L[i]) := by
  rcases h with ⟨a', cap', h, rfl⟩ | ⟨b', off', cap', h1, h2, h3, h4, h5, h6⟩
  · simp at hL
  · injection h1 with e1 e2 e3
    exact ⟨b', off', e1, h4, h6⟩
theorem IntsIn.setCell {lo : Nat} {w : World} {v : Value} {L : List Int} (h : IntsIn lo w v L) {p : Addr} (hp : p.block < lo) (u : Value) : IntsIn lo (w.setCell p u) v L := by
  rcases h with h | ⟨b, off, cap, h1, h2, h3, h4, h5, h6⟩
  · exact Or.inl h
  · refine Or.inr ⟨b, off, cap, h1, h2, h3, by simpa [World.setCell] using h4, h5, fun i hi => ?_⟩
    rw [cell_setCell_ne _ _ _ _ (by show b ≠ p.block; omega)]
    exact h6 i hi

set_option maxHeartbeats 400000 in
theorem szInts_any (lo : Nat) (v : Value) (L : List Int) (left : Int) (w : World) (h0 : 0 ≤ left) (h1 : left ≤ 1048576) (hv : IntsIn lo w v L) :
    Calls Try.prog 121 #[v, .int .i64 left] w fun e w' => ∃ r : Int, e = .returned (.int .i64 r) ∧ w' = w ∧ SzOk L.length left r := by
  have hm := hv.max
  unfold maxLen at hm
  obtain ⟨a, cap, rfl⟩ := hv.form
  by_cases hle : (L.length : Int) ≤ left
  · go_enter Try.func121, Try.ntmps121
    go_wp2
    go_ret
    exact ⟨_, rfl, rfl, by omega, by omega, fun _ => hle⟩
  · go_enter Try.func121, Try.ntmps121
    go_wp2
    go_ret
    exact ⟨-1, rfl, rfl, by omega, by omega, fun h => by omega⟩

set_option maxHeartbeats 1000000 in
theorem eqInts_same (lo lo' : Nat) (v v' : Value) (L : List Int) (w : World) (hv : IntsIn lo w v L) (hv' : IntsIn lo' w v' L) :
    Calls Try.prog 124 #[v, v'] w fun e w' => e = .returned (.bool true) ∧ Below w.heap.size w w' := by
  by_cases hL : L = []
  · subst hL
    obtain ⟨a, cap, rfl⟩ := hv.form
    obtain ⟨a', cap', rfl⟩ := hv'.form
    clear hv hv'
    go_enter Try.func124, Try.ntmps124
    go_wp2
    go_loop [5] (fun i => i = .int .i64 0) (fun _ => 0)
    case atStart => rfl
    case round =>
      subst hrel
      go_wp2
      go_ret
      exact ⟨rfl, Below.refl _ _⟩
  · obtain ⟨b, off, cap, rfl, hm, hbw, hc⟩ := hv.full hL
    obtain ⟨b', off', cap', rfl, _, hbw', hc'⟩ := hv'.full hL
    clear hv hv'
    unfold maxLen at hm
    go_enter Try.func124, Try.ntmps124
    go_wp2
    go_loopw [5] (fun i wr => ∃ k : Nat, i = .int .i64 k ∧ k ≤ L.length ∧ Below w.heap.size w wr) (fun i _ => L.length - (intOf i).toNat)
    case atStart => exact ⟨0, rfl, by omega, Below.refl _ _⟩
    case round =>
      obtain ⟨k, rfl, hk, hb⟩ := hrel
      by_cases hlt : k < L.length
      · have c0 : wr.cell? ⟨b, off + k, none⟩ = some (.int .i64 L[k]) := by rw [hb.cell (p := ⟨b, _, none⟩) hbw]; exact hc k hlt
        have d0 : wr.cell? ⟨b', off' + k, none⟩ = some (.int .i64 L[k]) := by rw [hb.cell (p := ⟨b', _, none⟩) hbw']; exact hc' k hlt
        have HB := hide hb
        clear hb
        go_wp2
        try go_quiet (fail)
        try go_wp2
        go_roundw
        case rel => exact ⟨k + 1, by go_num, by omega, by first | exact HB.out | exact below_drewN HB.out _⟩
        case measure => simp [intOf]; omega
      · go_wp2
        go_ret
        exact ⟨rfl, hb⟩

theorem Try.info3 : (Try.prog.info? 3).map (fun i => (i.zero, i.size, i.bytes)) = some (some (.int .i64 0), 1, 8) := by kernel_rfl
def fillI (L : List Int) (k i : Nat) : Value := if i < k then .int .i64 (L.getD i 0) else .int .i64 0
def FilledI (wr : World) (B : Nat) (L : List Int) (k : Nat) : Prop := wr.rowIs B 3 L.length (fillI L k)
theorem FilledI.step {wr : World} {B : Nat} {L : List Int} {k : Nat} (h : FilledI wr B L k) (hk : k < L.length) : FilledI (wr.setCell ⟨B, k, none⟩ (.int .i64 L[k])) B L (k + 1) := by
  unfold FilledI at *
  refine (h.set k (.int .i64 L[k])).congr fun i hi => ?_
  unfold fillI
  by_cases e : i = k
  · subst e; simp [hk]
  · by_cases e2 : i < k
    · simp [e, e2, Nat.lt_succ_of_lt e2]
    · have : ¬ i < k + 1 := by omega
      simp [e, e2, this]
theorem FilledI.done {wr : World} {B : Nat} {L : List Int} {k : Nat} (h : FilledI wr B L k) (hk : L.length ≤ k) (hne : L ≠ []) (hm : L.length ≤ maxLen) : IntsIn B wr (.slice (some ⟨B, 0, none⟩) L.length L.length) L := by
  refine Or.inr ⟨B, 0, L.length, rfl, hne, hm, World.rowIs.lt h, Nat.le_refl _, fun i hi => ?_⟩
  rw [Nat.zero_add, World.rowIs.cell h hi]
  unfold fillI
  rw [if_pos (by omega), List.getD_eq_getElem?_getD, List.getElem?_eq_getElem hi]; rfl

set_option maxHeartbeats 400000 in
theorem toInts_any (lo : Nat) (v : Value) (L : List Int) (w : World) (hv : IntsIn lo w v L) (hn : L.length ≤ 1048576) :
    Calls Try.prog 122 #[v] w fun e w' => ∃ v', e = .returned v' ∧ Below w.heap.size w w' ∧ IntsIn w.heap.size w' v' L := by
  by_cases hL : L = []
  · subst hL
    obtain ⟨a, cap, rfl⟩ := hv.form
    clear hv
    have hmk : ∀ u : World, (Instr.makeSlice 87 (.int .i64 0) (.int .i64 0)).run Try.prog u = .ok (.slice (some ⟨u.heap.size, 0, none⟩) 0 0) (u.alloc (.cells (madeCells #[.int .i64 0] 0) 3)) :=
      fun u => run_make_row' 87 3 (.int .i64 0) 8 Try.underlying87 Try.info3 rfl .i64 .i64 0 (by omega) (by omega) u
    go_enter Try.func122, Try.ntmps122
    go_wp2
    go_loop [4] (fun i => i = .int .i64 0) (fun _ => 0)
    case atStart => rfl
    case round =>
      subst hrel
      go_wp2
      go_ret
      exact ⟨_, rfl, (Below.refl _ _).alloc (Nat.le_refl _) _, Or.inl ⟨_, _, rfl, rfl⟩⟩
  · obtain ⟨b, off, cap, rfl, hm, hbw, hc⟩ := hv.full hL
    clear hv
    have HM : Hid (L.length ≤ maxLen) := hm
    unfold maxLen at hm
    have hmk : ∀ u : World, (Instr.makeSlice 87 (.int .i64 (L.length : Int)) (.int .i64 (L.length : Int))).run Try.prog u = .ok (.slice (some ⟨u.heap.size, 0, none⟩) L.length L.length) (u.alloc (.cells (madeCells #[.int .i64 0] L.length) 3)) :=
      fun u => run_make_row' 87 3 (.int .i64 0) 8 Try.underlying87 Try.info3 rfl .i64 .i64 L.length (by omega) (by omega) u
    go_enter Try.func122, Try.ntmps122
    go_wp2
    clear hmk
    go_loopw [4] (fun i wr => ∃ k : Nat, i = .int .i64 k ∧ k ≤ L.length ∧ Below w.heap.size w wr ∧ FilledI wr w.heap.size L k) (fun i _ => L.length - (intOf i).toNat)
    case atStart => exact ⟨0, rfl, by omega, (Below.refl _ _).alloc (Nat.le_refl _) _, World.rowIs_made w (.int .i64 0) L.length 3⟩
    case round =>
      obtain ⟨k, rfl, hk, hb, hf⟩ := hrel
      by_cases hlt : k < L.length
      · have hck : wr.cell? ⟨b, off + k, none⟩ = some (.int .i64 L[k]) := by rw [hb.cell (p := ⟨b, off + k, none⟩) hbw]; exact hc k hlt
        have hold : wr.cell? ⟨w.heap.size, k, none⟩ = some _ := World.rowIs.cell hf hlt
        have hfz : wr.frozen? ⟨w.heap.size, k, none⟩ = false := World.rowIs.frozen hf k
        go_wp2
        go_roundw
        case rel => exact ⟨k + 1, by go_num, by omega, hb.setCell (Nat.le_refl _) _, hf.step hlt⟩
        case measure => simp [intOf]; omega
      · go_wp2
        go_ret
        exact ⟨_, rfl, hb, hf.done (by omega) hL HM.out⟩

structure RuSize (r : Ru) : Prop where
  s1 : r.kd.size ≤ maxLen
  s2 : r.tm.size ≤ maxLen
  s3 : r.pf.size ≤ maxLen
/-- the copy of a slice's header and three texts: a rule as a value -/
abbrev Ru.val (r : Ru) (vv : Value) : Value := .agg #[vv, .string r.kd, .string r.tm, .string r.pf]

set_option maxHeartbeats 1000000 in
theorem szRule_any (lo : Nat) (r : Ru) (vv : Value) (left : Int) (w : World) (h0 : 0 ≤ left) (h1 : left ≤ 1048576) (hv : IntsIn lo w vv r.vb) (hz : RuSize r) :
    Calls Try.prog 105 #[.agg #[vv, .string r.kd, .string r.tm, .string r.pf], .int .i64 left] w
      fun e w' => ∃ q : Int, e = .returned (.int .i64 q) ∧ Below w.heap.size w w' ∧ SzOk r.vb.length left q := by
  obtain ⟨s1, s2, s3⟩ := hz
  unfold maxLen at s1 s2 s3
  have HV := hide hv
  obtain ⟨a, cap, rfl⟩ := hv.form
  clear hv
  have HW : ∀ o, Hid (Below w.heap.size w (w.alloc o)) := fun o => one_al _ _
  go_enter Try.func105, Try.ntmps105
  go_wp2_with fail
  refine (szInts_any lo _ r.vb _ _ (by omega) (by omega) (HV.out.below (HW _).out)).mono ?_
  rintro e w1 ⟨q, rfl, rfl, hr0, hr1, hr2⟩
  have HR := hide hr2
  clear hr2
  go_wp2
  all_goals go_ret
  all_goals refine ⟨_, rfl, (HW _).out, by omega, by omega, fun _ => ?_⟩
  all_goals have := HR.out (by omega)
  all_goals omega

set_option maxHeartbeats 1000000 in
theorem toRule_any (lo : Nat) (r : Ru) (vv : Value) (w : World) (hv : IntsIn lo w vv r.vb) (hn : r.vb.length ≤ 1048576) :
    Calls Try.prog 106 #[.agg #[vv, .string r.kd, .string r.tm, .string r.pf]] w
      fun e w' => ∃ v', e = .returned (.agg #[v', .string r.kd, .string r.tm, .string r.pf]) ∧ Below w.heap.size w w' ∧ IntsIn w.heap.size w' v' r.vb := by
  have HV := hide hv
  obtain ⟨a, cap, rfl⟩ := hv.form
  clear hv
  go_enter Try.func106, Try.ntmps106
  go_wp2_with fail
  refine (toInts_any lo _ r.vb _ (HV.out.below ?_) hn).mono ?_
  · exact (((Below.refl _ _).alloc (Nat.le_refl _) _).alloc (by simp) _).alloc (by simp; omega) _
  rintro e w1 ⟨v', rfl, hb, hs⟩
  obtain ⟨a', cap', rfl⟩ := hs.form
  have HS : Hid (IntsIn (w.heap.size + 3) w1 (.slice a' r.vb.length cap') r.vb) := hs.mono (by simp)
  clear hs
  have hz : w.heap.size + 2 < w1.heap.size := by have := hb.size; simp at this; omega
  have hc : ∀ b o, b < w.heap.size + 3 → w1.cell? ⟨b, o, none⟩ = _ := fun b o h => hb.cell (p := ⟨b, o, none⟩) (by simpa using h)
  have hf : ∀ b o, b < w.heap.size + 3 → w1.frozen? ⟨b, o, none⟩ = _ := fun b o h => hb.frozen (p := ⟨b, o, none⟩) (by simpa using h)
  have HB : Hid (Below w.heap.size w w1) := ((((Below.refl _ _).alloc (Nat.le_refl _) _).alloc (by simp) _).alloc (by simp; omega) _).trans (hb.mono (by simp; omega))
  clear hb
  go_wp2
  refine bodyPost_ret (v := .agg #[.slice a' r.vb.length cap', .string r.kd, .string r.tm, .string r.pf]) (by simp [results, Try.results106, go_sem, hc]) rfl ⟨_, rfl, ?_, ?_⟩
  · repeat (refine Below.setCell ?_ (by simp only []; omega) _)
    exact HB.out
  · refine IntsIn.mono (lo := w.heap.size + 3) ?_ (by omega)
    repeat (refine IntsIn.setCell ?_ (by simp only []; omega) _)
    exact HS.out

set_option maxHeartbeats 1000000 in
theorem eqRule_same (lo lo' : Nat) (r : Ru) (vv vv' : Value) (w : World) (hv : IntsIn lo w vv r.vb) (hv' : IntsIn lo' w vv' r.vb) :
    Calls Try.prog 108 #[.agg #[vv, .string r.kd, .string r.tm, .string r.pf], .agg #[vv', .string r.kd, .string r.tm, .string r.pf]] w
      fun e w' => e = .returned (.bool true) ∧ Below w.heap.size w w' := by
  have HV := hide hv
  have HV' := hide hv'
  obtain ⟨a, cap, rfl⟩ := hv.form
  obtain ⟨a', cap', rfl⟩ := hv'.form
  clear hv hv'
  go_enter Try.func108, Try.ntmps108
  go_wp2_with fail
  generalize hWa : (World.alloc (w.alloc _) _) = Wa
  have HBa : Hid (Below w.heap.size w Wa) := by rw [← hWa]; exact (one_al w _).alloc (by simp) _
  have FA : Hid (Box Wa w.heap.size #[.slice a r.vb.length cap, .string r.kd, .string r.tm, .string r.pf]) := by rw [← hWa]; exact (Box.new _ _ _ _ rfl).on (one_al _ _)
  have FB : Hid (Box Wa (w.heap.size + 1) #[.slice a' r.vb.length cap', .string r.kd, .string r.tm, .string r.pf]) := by rw [← hWa]; exact Box.new _ _ _ _ (by simp)
  clear hWa
  refine (eqInts_same lo lo' _ _ r.vb _ (HV.out.below HBa.out) (HV'.out.below HBa.out)).mono ?_
  rintro e w1 ⟨rfl, hb1⟩
  have HB1 : Hid (Below w.heap.size w w1) := HBa.out.trans (hb1.mono HBa.out.size)
  have g := (FA.out.on hb1).cell
  have g' := (FB.out.on hb1).cell
  have a1 : w1.cell? ⟨w.heap.size, 1, none⟩ = some (.string r.kd) := g 1
  have a2 : w1.cell? ⟨w.heap.size, 2, none⟩ = some (.string r.tm) := g 2
  have a3 : w1.cell? ⟨w.heap.size, 3, none⟩ = some (.string r.pf) := g 3
  have b1 : w1.cell? ⟨w.heap.size + 1, 1, none⟩ = some (.string r.kd) := g' 1
  have b2 : w1.cell? ⟨w.heap.size + 1, 2, none⟩ = some (.string r.tm) := g' 2
  have b3 : w1.cell? ⟨w.heap.size + 1, 3, none⟩ = some (.string r.pf) := g' 3
  clear g g' hb1
  go_wp2
  go_ret
  exact ⟨rfl, HB1.out⟩
end Go.Proofs.Ytmaagbnjpdijnaa

