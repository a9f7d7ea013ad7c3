import Derived.Test.YtdeammfdkaomlaaGreatV08
import Derived.Test.YtdeammfdkaomlaaGreatV10
namespace Go.Proofs.YtdeammfdkaomlaaGreat
open Go.RowKit Go.Deep

/-- a rule -/
structure Ru where
  vb : List Int
  kd : ByteArray
  tm : ByteArray
  pf : ByteArray
/-- A []int THAT HOLDS L; its cells lie from block lo on. -/
def IntsIn (lo : Nat) (w : World) (v : Value) (L : List Int) : Prop :=
  (∃ (a : Option Addr) (cap : Nat), v = .slice a 0 cap ∧ L = []) ∨
  ∃ (b off cap : Nat), v = .slice (some ⟨b, off, none⟩) L.length cap ∧ L ≠ [] ∧ L.length ≤ maxLen ∧ b < w.heap.size ∧ lo ≤ b ∧
    ∀ i (h : i < L.length), w.cell? ⟨b, off + i, none⟩ = some (.int .i64 L[i])
theorem IntsIn.below {lo : Nat} {w w' : World} {v : Value} {L : List Int} (h : IntsIn lo w v L) (hb : Below w.heap.size w w') : IntsIn lo w' v L := by
  rcases h with h | ⟨b, off, cap, h1, h2, h3, h4, h5, h6⟩
  · exact Or.inl h
  · exact Or.inr ⟨b, off, cap, h1, h2, h3, Nat.lt_of_lt_of_le h4 hb.size, h5, fun i hi => by rw [hb.cell (p := ⟨b, _, none⟩) h4]; exact h6 i hi⟩
theorem IntsIn.mono {lo lo' : Nat} {w : World} {v : Value} {L : List Int} (h : IntsIn lo w v L) (hl : lo' ≤ lo) : IntsIn lo' w v L := by
  rcases h with h | ⟨b, off, cap, h1, h2, h3, h4, h5, h6⟩
  · exact Or.inl h
  · exact Or.inr ⟨b, off, cap, h1, h2, h3, h4, Nat.le_trans hl h5, h6⟩
theorem IntsIn.form {lo : Nat} {w : World} {v : Value} {L : List Int} (h : IntsIn lo w v L) : ∃ a cap, v = .slice a L.length cap := by
  rcases h with ⟨a, cap, h, rfl⟩ | ⟨b, off, cap, h, _⟩
  · exact ⟨a, cap, h⟩
  · exact ⟨_, cap, h⟩
theorem IntsIn.max {lo : Nat} {w : World} {v : Value} {L : List Int} (h : IntsIn lo w v L) : L.length ≤ maxLen := by
  rcases h with ⟨a, cap, h, rfl⟩ | ⟨b, off, cap, h, _, h3, _⟩
  · exact Nat.zero_le _
  · exact h3
theorem IntsIn.full {lo : Nat} {w : World} {v : Value} {L : List Int} (h : IntsIn lo w v L) (hne : L ≠ []) : ∃ (b off cap : Nat), v = .slice (some ⟨b, off, none⟩) L.length cap ∧ L.length ≤ maxLen ∧ b < w.heap.size ∧
    ∀ i (h : i < L.length), w.cell? ⟨b, off + i, none⟩ = some (.int .i64 L[i]) := by
  rcases h with ⟨_, _, _, h⟩ | ⟨b, off, cap, h1, _, h3, h4, _, h6⟩
  · exact absurd h hne
  · exact ⟨b, off, cap, h1, h3, h4, h6⟩
theorem IntsIn.full' {lo : Nat} {w : World} {a : Option Addr} {n cap : Nat} {L : List Int} (h : IntsIn lo w (.slice a n cap) L) (hL : 0 < L.length) :
    ∃ b off, a = some ⟨b, off, none⟩ ∧ b < w.heap.size ∧ ∀ i (h : i < L.length), w.cell? ⟨b, off + i, none⟩ = some (.int .i64 L[i]) := by
  rcases h with ⟨a', cap', h, rfl⟩ | ⟨b', off', cap', h1, h2, h3, h4, h5, h6⟩
  · simp at hL
  · injection h1 with e1 e2 e3
    exact ⟨b', off', e1, h4, h6⟩
theorem IntsIn.setCell {lo : Nat} {w : World} {v : Value} {L : List Int} (h : IntsIn lo w v L) {p : Addr} (hp : p.block < lo) (u : Value) : IntsIn lo (w.setCell p u) v L := by
  rcases h with h | ⟨b, off, cap, h1, h2, h3, h4, h5, h6⟩
  · exact Or.inl h
  · refine Or.inr ⟨b, off, cap, h1, h2, h3, by simpa [World.setCell] using h4, h5, fun i hi => ?_⟩
    rw [cell_setCell_ne _ _ _ _ (by show b ≠ p.block; omega)]
    exact h6 i hi

set_option maxHeartbeats 400000 in
theorem szInts_any (lo : Nat) (v : Value) (L : List Int) (left : Int) (w : World) (h0 : 0 ≤ left) (h1 : left ≤ 1048576) (hv : IntsIn lo w v L) :
    Calls Tryz.prog 50 #[v, .int .i64 left] w fun e w' => ∃ r : Int, e = .returned (.int .i64 r) ∧ w' = w ∧ SzOk L.length left r := by
  have hm := hv.max
  unfold maxLen at hm
  obtain ⟨a, cap, rfl⟩ := hv.form
  by_cases hle : (L.length : Int) ≤ left
  · go_enter Tryz.func50, Tryz.ntmps50
    go_wp2
    go_ret
    exact ⟨_, rfl, rfl, by omega, by omega, fun _ => hle⟩
  · go_enter Tryz.func50, Tryz.ntmps50
    go_wp2
    go_ret
    exact ⟨-1, rfl, rfl, by omega, by omega, fun h => by omega⟩

set_option maxHeartbeats 1000000 in
theorem eqInts_same (lo lo' : Nat) (v v' : Value) (L : List Int) (w : World) (hv : IntsIn lo w v L) (hv' : IntsIn lo' w v' L) :
    Calls Tryz.prog 75 #[v, v'] w fun e w' => e = .returned (.bool true) ∧ Below w.heap.size w w' := by
  by_cases hL : L = []
  · subst hL
    obtain ⟨a, cap, rfl⟩ := hv.form
    obtain ⟨a', cap', rfl⟩ := hv'.form
    clear hv hv'
    go_enter Tryz.func75, Tryz.ntmps75
    go_wp2
    go_loop [5] (fun i => i = .int .i64 0) (fun _ => 0)
    case atStart => rfl
    case round =>
      subst hrel
      go_wp2
      go_ret
      exact ⟨rfl, Below.refl _ _⟩
  · obtain ⟨b, off, cap, rfl, hm, hbw, hc⟩ := hv.full hL
    obtain ⟨b', off', cap', rfl, _, hbw', hc'⟩ := hv'.full hL
    clear hv hv'
    unfold maxLen at hm
    go_enter Tryz.func75, Tryz.ntmps75
    go_wp2
    go_loopw [5] (fun i wr => ∃ k : Nat, i = .int .i64 k ∧ k ≤ L.length ∧ Below w.heap.size w wr) (fun i _ => L.length - (intOf i).toNat)
    case atStart => exact ⟨0, rfl, by omega, Below.refl _ _⟩
    case round =>
      obtain ⟨k, rfl, hk, hb⟩ := hrel
      by_cases hlt : k < L.length
      · have c0 : wr.cell? ⟨b, off + k, none⟩ = some (.int .i64 L[k]) := by rw [hb.cell (p := ⟨b, _, none⟩) hbw]; exact hc k hlt
        have d0 : wr.cell? ⟨b', off' + k, none⟩ = some (.int .i64 L[k]) := by rw [hb.cell (p := ⟨b', _, none⟩) hbw']; exact hc' k hlt
        have HB := hide hb
        clear hb
        go_wp2
        try go_quiet (fail)
        try go_wp2
        go_roundw
        case rel => exact ⟨k + 1, by go_num, by omega, by first | exact HB.out | exact below_drewN HB.out _⟩
        case measure => simp [intOf]; omega
      · go_wp2
        go_ret
        exact ⟨rfl, hb⟩

theorem Tryz.info3 : (Tryz.prog.info? 3).map (fun i => (i.zero, i.size, i.bytes)) = some (some (.int .i64 0), 1, 8) := by kernel_rfl
def fillI (L : List Int) (k i : Nat) : Value := if i < k then .int .i64 (L.getD i 0) else .int .i64 0
def FilledI (wr : World) (B : Nat) (L : List Int) (k : Nat) : Prop := wr.rowIs B 3 L.length (fillI L k)
theorem FilledI.step {wr : World} {B : Nat} {L : List Int} {k : Nat} (h : FilledI wr B L k) (hk : k < L.length) : FilledI (wr.setCell ⟨B, k, none⟩ (.int .i64 L[k])) B L (k + 1) := by
  unfold FilledI at *
  refine (h.set k (.int .i64 L[k])).congr fun i hi => ?_
  unfold fillI
  by_cases e : i = k
  · subst e; simp [hk]
  · by_cases e2 : i < k
    · simp [e, e2, Nat.lt_succ_of_lt e2]
    · have : ¬ i < k + 1 := by omega
      simp [e, e2, this]
theorem FilledI.done {wr : World} {B : Nat} {L : List Int} {k : Nat} (h : FilledI wr B L k) (hk : L.length ≤ k) (hne : L ≠ []) (hm : L.length ≤ maxLen) : IntsIn B wr (.slice (some ⟨B, 0, none⟩) L.length L.length) L := by
  refine Or.inr ⟨B, 0, L.length, rfl, hne, hm, World.rowIs.lt h, Nat.le_refl _, fun i hi => ?_⟩
  rw [Nat.zero_add, World.rowIs.cell h hi]
  unfold fillI
  rw [if_pos (by omega), List.getD_eq_getElem?_getD, List.getElem?_eq_getElem hi]; rfl

set_option maxHeartbeats 400000 in
theorem toInts_any (lo : Nat) (v : Value) (L : List Int) (w : World) (hv : IntsIn lo w v L) (hn : L.length ≤ 1048576) :
    Calls Tryz.prog 67 #[v] w fun e w' => ∃ v', e = .returned v' ∧ Below w.heap.size w w' ∧ IntsIn w.heap.size w' v' L := by
  by_cases hL : L = []
  · subst hL
    obtain ⟨a, cap, rfl⟩ := hv.form
    clear hv
    have hmk : ∀ u : World, (Instr.makeSlice 51 (.int .i64 0) (.int .i64 0)).run Tryz.prog u = .ok (.slice (some ⟨u.heap.size, 0, none⟩) 0 0) (u.alloc (.cells (madeCells #[.int .i64 0] 0) 3)) :=
      fun u => run_make_row' 51 3 (.int .i64 0) 8 Tryz.underlying51 Tryz.info3 rfl .i64 .i64 0 (by omega) (by omega) u
    go_enter Tryz.func67, Tryz.ntmps67
    go_wp2
    go_loop [4] (fun i => i = .int .i64 0) (fun _ => 0)
    case atStart => rfl
    case round =>
      subst hrel
      go_wp2
      go_ret
      exact ⟨_, rfl, (Below.refl _ _).alloc (Nat.le_refl _) _, Or.inl ⟨_, _, rfl, rfl⟩⟩
  · obtain ⟨b, off, cap, rfl, hm, hbw, hc⟩ := hv.full hL
    clear hv
    have HM : Hid (L.length ≤ maxLen) := hm
    unfold maxLen at hm
    have hmk : ∀ u : World, (Instr.makeSlice 51 (.int .i64 (L.length : Int)) (.int .i64 (L.length : Int))).run Tryz.prog u = .ok (.slice (some ⟨u.heap.size, 0, none⟩) L.length L.length) (u.alloc (.cells (madeCells #[.int .i64 0] L.length) 3)) :=
      fun u => run_make_row' 51 3 (.int .i64 0) 8 Tryz.underlying51 Tryz.info3 rfl .i64 .i64 L.length (by omega) (by omega) u
    go_enter Tryz.func67, Tryz.ntmps67
    go_wp2
    clear hmk
    go_loopw [4] (fun i wr => ∃ k : Nat, i = .int .i64 k ∧ k ≤ L.length ∧ Below w.heap.size w wr ∧ FilledI wr w.heap.size L k) (fun i _ => L.length - (intOf i).toNat)
    case atStart => exact ⟨0, rfl, by omega, (Below.refl _ _).alloc (Nat.le_refl _) _, World.rowIs_made w (.int .i64 0) L.length 3⟩
    case round =>
      obtain ⟨k, rfl, hk, hb, hf⟩ := hrel
      by_cases hlt : k < L.length
      · have hck : wr.cell? ⟨b, off + k, none⟩ = some (.int .i64 L[k]) := by rw [hb.cell (p := ⟨b, off + k, none⟩) hbw]; exact hc k hlt
        have hold : wr.cell? ⟨w.heap.size, k, none⟩ = some _ := World.rowIs.cell hf hlt
        have hfz : wr.frozen? ⟨w.heap.size, k, none⟩ = false := World.rowIs.frozen hf k
        go_wp2
        go_roundw
        case rel => exact ⟨k + 1, by go_num, by omega, hb.setCell (Nat.le_refl _) _, hf.step hlt⟩
        case measure => simp [intOf]; omega
      · go_wp2
        go_ret
        exact ⟨_, rfl, hb, hf.done (by omega) hL HM.out⟩

structure RuSize (r : Ru) : Prop where
  s1 : r.kd.size ≤ maxLen
  s2 : r.tm.size ≤ maxLen
  s3 : r.pf.size ≤ maxLen
set_option maxHeartbeats 1000000 in
theorem szRule_any (lo : Nat) (r : Ru) (vv : Value) (left : Int) (w : World) (h0 : 0 ≤ left) (h1 : left ≤ 1048576) (hv : IntsIn lo w vv r.vb) (hz : RuSize r) :
    Calls Tryz.prog 156 #[.agg #[vv, .string r.kd, .string r.tm, .string r.pf], .int .i64 left] w
      fun e w' => ∃ q : Int, e = .returned (.int .i64 q) ∧ Below w.heap.size w w' ∧ SzOk r.vb.length left q := by
  obtain ⟨s1, s2, s3⟩ := hz
  unfold maxLen at s1 s2 s3
  have HV := hide hv
  obtain ⟨a, cap, rfl⟩ := hv.form
  clear hv
  have HW : ∀ o, Hid (Below w.heap.size w (w.alloc o)) := fun o => one_al _ _
  go_enter Tryz.func156, Tryz.ntmps156
  go_wp2_with fail
  refine (szInts_any lo _ r.vb _ _ (by omega) (by omega) (HV.out.below (HW _).out)).mono ?_
  rintro e w1 ⟨q, rfl, rfl, hr0, hr1, hr2⟩
  have HR := hide hr2
  clear hr2
  go_wp2
  all_goals go_ret
  all_goals refine ⟨_, rfl, (HW _).out, by omega, by omega, fun _ => ?_⟩
  all_goals have := HR.out (by omega)
  all_goals omega

set_option maxHeartbeats 1000000 in
theorem toRule_any (lo : Nat) (r : Ru) (vv : Value) (w : World) (hv : IntsIn lo w vv r.vb) (hn : r.vb.length ≤ 1048576) :
    Calls Tryz.prog 160 #[.agg #[vv, .string r.kd, .string r.tm, .string r.pf]] w
      fun e w' => ∃ v', e = .returned (.agg #[v', .string r.kd, .string r.tm, .string r.pf]) ∧ Below w.heap.size w w' ∧ IntsIn w.heap.size w' v' r.vb := by
  have HV := hide hv
  obtain ⟨a, cap, rfl⟩ := hv.form
  clear hv
  go_enter Tryz.func160, Tryz.ntmps160
  go_wp2_with fail
  refine (toInts_any lo _ r.vb _ (HV.out.below ?_) hn).mono ?_
  · exact (((Below.refl _ _).alloc (Nat.le_refl _) _).alloc (by simp) _).alloc (by simp; omega) _
  rintro e w1 ⟨v', rfl, hb, hs⟩
  obtain ⟨a', cap', rfl⟩ := hs.form
  have HS : Hid (IntsIn (w.heap.size + 3) w1 (.slice a' r.vb.length cap') r.vb) := hs.mono (by simp)
  clear hs
  have hz : w.heap.size + 2 < w1.heap.size := by have := hb.size; simp at this; omega
  have hc : ∀ b o, b < w.heap.size + 3 → w1.cell? ⟨b, o, none⟩ = _ := fun b o h => hb.cell (p := ⟨b, o, none⟩) (by simpa using h)
  have hf : ∀ b o, b < w.heap.size + 3 → w1.frozen? ⟨b, o, none⟩ = _ := fun b o h => hb.frozen (p := ⟨b, o, none⟩) (by simpa using h)
  have HB : Hid (Below w.heap.size w w1) := ((((Below.refl _ _).alloc (Nat.le_refl _) _).alloc (by simp) _).alloc (by simp; omega) _).trans (hb.mono (by simp; omega))
  clear hb
  go_wp2
  refine bodyPost_ret (v := .agg #[.slice a' r.vb.length cap', .string r.kd, .string r.tm, .string r.pf]) (by simp [results, Tryz.results160, go_sem, hc]) rfl ⟨_, rfl, ?_, ?_⟩
  · repeat (refine Below.setCell ?_ (by simp only []; omega) _)
    exact HB.out
  · refine IntsIn.mono (lo := w.heap.size + 3) ?_ (by omega)
    repeat (refine IntsIn.setCell ?_ (by simp only []; omega) _)
    exact HS.out

set_option maxHeartbeats 1000000 in
theorem eqRule_same (lo lo' : Nat) (r : Ru) (vv vv' : Value) (w : World) (hv : IntsIn lo w vv r.vb) (hv' : IntsIn lo' w vv' r.vb) :
    Calls Tryz.prog 169 #[.agg #[vv, .string r.kd, .string r.tm, .string r.pf], .agg #[vv', .string r.kd, .string r.tm, .string r.pf]] w
      fun e w' => e = .returned (.bool true) ∧ Below w.heap.size w w' := by
  have HV := hide hv
  have HV' := hide hv'
  obtain ⟨a, cap, rfl⟩ := hv.form
  obtain ⟨a', cap', rfl⟩ := hv'.form
  clear hv hv'
  go_enter Tryz.func169, Tryz.ntmps169
  go_wp2_with fail
  generalize hWa : (World.alloc (w.alloc _) _) = Wa
  have HBa : Hid (Below w.heap.size w Wa) := by rw [← hWa]; exact (one_al w _).alloc (by simp) _
  have FA : Hid (Box Wa w.heap.size #[.slice a r.vb.length cap, .string r.kd, .string r.tm, .string r.pf]) := by rw [← hWa]; exact (Box.new _ _ _ _ rfl).on (one_al _ _)
  have FB : Hid (Box Wa (w.heap.size + 1) #[.slice a' r.vb.length cap', .string r.kd, .string r.tm, .string r.pf]) := by rw [← hWa]; exact Box.new _ _ _ _ (by simp)
  clear hWa
  refine (eqInts_same lo lo' _ _ r.vb _ (HV.out.below HBa.out) (HV'.out.below HBa.out)).mono ?_
  rintro e w1 ⟨rfl, hb1⟩
  have HB1 : Hid (Below w.heap.size w w1) := HBa.out.trans (hb1.mono HBa.out.size)
  have g := (FA.out.on hb1).cell
  have g' := (FB.out.on hb1).cell
  have a1 : w1.cell? ⟨w.heap.size, 1, none⟩ = some (.string r.kd) := g 1
  have a2 : w1.cell? ⟨w.heap.size, 2, none⟩ = some (.string r.tm) := g 2
  have a3 : w1.cell? ⟨w.heap.size, 3, none⟩ = some (.string r.pf) := g 3
  have b1 : w1.cell? ⟨w.heap.size + 1, 1, none⟩ = some (.string r.kd) := g' 1
  have b2 : w1.cell? ⟨w.heap.size + 1, 2, none⟩ = some (.string r.tm) := g' 2
  have b3 : w1.cell? ⟨w.heap.size + 1, 3, none⟩ = some (.string r.pf) := g' 3
  clear g g' hb1
  go_wp2
  go_ret
  exact ⟨rfl, HB1.out⟩
end Go.Proofs.YtdeammfdkaomlaaGreat
namespace Go.Proofs.YtdeammfdkaomlaaGreat
open Go.RowKit Go.Deep

structure Gr where
  nu : Int
  tw : ByteArray
  gb : ByteArray
  vb : List Int
  kd : ByteArray
  tm : ByteArray
  pf : ByteArray
structure GrSize (x : Gr) : Prop where
  s0 : x.tw.size ≤ maxLen
  s1 : x.gb.size ≤ maxLen
  s2 : x.kd.size ≤ maxLen
  s3 : x.tm.size ≤ maxLen
  s4 : x.pf.size ≤ maxLen
def GrSmall (x : Gr) : Prop := x.vb.length ≤ 1048576
structure GrCells (w : World) (b o : Nat) (x : Gr) (vv0 : Value) : Prop where
  c0 : w.cell? ⟨b, o, none⟩ = some (.int .i64 x.nu)
  c1 : w.cell? ⟨b, o + 1, none⟩ = some (.string x.tw)
  c2 : w.cell? ⟨b, o + 2, none⟩ = some (.string x.gb)
  c3 : w.cell? ⟨b, o + 3, none⟩ = some vv0
  c4 : w.cell? ⟨b, o + 4, none⟩ = some (.string x.kd)
  c5 : w.cell? ⟨b, o + 5, none⟩ = some (.string x.tm)
  c6 : w.cell? ⟨b, o + 6, none⟩ = some (.string x.pf)
theorem GrCells.below {w w' : World} {b o : Nat} {x : Gr} {vv0 : Value} (h : GrCells w b o x vv0) {m : Nat} (hb : Below m w w') (hlt : b < m) : GrCells w' b o x vv0 := by
  have e : ∀ o, w'.cell? ⟨b, o, none⟩ = w.cell? ⟨b, o, none⟩ := fun o => hb.cell (p := ⟨b, o, none⟩) hlt
  exact ⟨by rw [e]; exact h.c0, by rw [e]; exact h.c1, by rw [e]; exact h.c2, by rw [e]; exact h.c3, by rw [e]; exact h.c4, by rw [e]; exact h.c5, by rw [e]; exact h.c6⟩
theorem GrCells.set {w : World} {b o : Nat} {x : Gr} {vv0 : Value} (h : GrCells w b o x vv0) {p : Addr} (hp : b ≠ p.block) (u : Value) : GrCells (w.setCell p u) b o x vv0 := by
  have e : ∀ o, (w.setCell p u).cell? ⟨b, o, none⟩ = w.cell? ⟨b, o, none⟩ := fun o => cell_setCell_ne _ _ _ _ hp
  exact ⟨by rw [e]; exact h.c0, by rw [e]; exact h.c1, by rw [e]; exact h.c2, by rw [e]; exact h.c3, by rw [e]; exact h.c4, by rw [e]; exact h.c5, by rw [e]; exact h.c6⟩
def GrsAt (lo : Nat) (w : World) (v : Value) (Xl : List Gr) : Prop :=
  (∃ (a : Option Addr) (cap : Nat), v = .slice a 0 cap ∧ Xl = []) ∨
  ∃ (b off cap : Nat), v = .slice (some ⟨b, off, none⟩) Xl.length cap ∧ Xl ≠ [] ∧ Xl.length ≤ maxLen ∧ b < w.heap.size ∧ lo ≤ b ∧ Xl.length ≤ cap ∧
    ∀ i (h : i < Xl.length), GrSize Xl[i] ∧ ∃ vv0, GrCells w b (off + i * 7) Xl[i] vv0 ∧ IntsIn lo w vv0 Xl[i].vb
theorem GrsAt.below {lo : Nat} {w w' : World} {v : Value} {Xl : List Gr} (h : GrsAt lo w v Xl) (hb : Below w.heap.size w w') : GrsAt lo w' v Xl := by
  rcases h with h | ⟨b, off, cap, h1, h2, h3, h4, h5, h6, h7⟩
  · exact Or.inl h
  · refine Or.inr ⟨b, off, cap, h1, h2, h3, Nat.lt_of_lt_of_le h4 hb.size, h5, h6, fun i hi => ?_⟩
    obtain ⟨hs, vv0, hc, hv0⟩ := h7 i hi
    exact ⟨hs, vv0, hc.below hb h4, hv0.below hb⟩
theorem GrsAt.mono {lo lo' : Nat} {w : World} {v : Value} {Xl : List Gr} (h : GrsAt lo w v Xl) (hl : lo' ≤ lo) : GrsAt lo' w v Xl := by
  rcases h with h | ⟨b, off, cap, h1, h2, h3, h4, h5, h6, h7⟩
  · exact Or.inl h
  · refine Or.inr ⟨b, off, cap, h1, h2, h3, h4, Nat.le_trans hl h5, h6, fun i hi => ?_⟩
    obtain ⟨hs, vv0, hc, hv0⟩ := h7 i hi
    exact ⟨hs, vv0, hc, hv0.mono hl⟩
theorem GrsAt.set {lo : Nat} {w : World} {v : Value} {Xl : List Gr} (h : GrsAt lo w v Xl) {p : Addr} (hp : p.block < lo) (u : Value) : GrsAt lo (w.setCell p u) v Xl := by
  rcases h with h | ⟨b, off, cap, h1, h2, h3, h4, h5, h6, h7⟩
  · exact Or.inl h
  · refine Or.inr ⟨b, off, cap, h1, h2, h3, by simpa [World.setCell] using h4, h5, h6, fun i hi => ?_⟩
    obtain ⟨hs, vv0, hc, hv0⟩ := h7 i hi
    exact ⟨hs, vv0, hc.set (by omega) u, hv0.setCell hp u⟩
theorem GrsAt.form {lo : Nat} {w : World} {v : Value} {Xl : List Gr} (h : GrsAt lo w v Xl) : ∃ a cap, v = .slice a Xl.length cap := by
  rcases h with ⟨a, cap, h, rfl⟩ | ⟨b, off, cap, h, _⟩
  · exact ⟨a, cap, h⟩
  · exact ⟨_, cap, h⟩
theorem GrsAt.max {lo : Nat} {w : World} {v : Value} {Xl : List Gr} (h : GrsAt lo w v Xl) : Xl.length ≤ maxLen := by
  rcases h with ⟨a, cap, h, rfl⟩ | ⟨b, off, cap, h, _, h3, _⟩
  · exact Nat.zero_le _
  · exact h3
theorem GrsAt.full {lo : Nat} {w : World} {v : Value} {Xl : List Gr} (h : GrsAt lo w v Xl) (hne : Xl ≠ []) : ∃ (b off cap : Nat), v = .slice (some ⟨b, off, none⟩) Xl.length cap ∧ Xl.length ≤ maxLen ∧ b < w.heap.size ∧ Xl.length ≤ cap ∧
    ∀ i (h : i < Xl.length), GrSize Xl[i] ∧ ∃ vv0, GrCells w b (off + i * 7) Xl[i] vv0 ∧ IntsIn lo w vv0 Xl[i].vb := by
  rcases h with ⟨_, _, _, h⟩ | ⟨b, off, cap, h1, _, h3, h4, _, h6, h7⟩
  · exact absurd h hne
  · exact ⟨b, off, cap, h1, h3, h4, h6, h7⟩
theorem GrsAt.full' {lo : Nat} {w : World} {a : Option Addr} {n cap : Nat} {Xl : List Gr} (h : GrsAt lo w (.slice a n cap) Xl) (hL : 0 < Xl.length) :
    ∃ b off, a = some ⟨b, off, none⟩ ∧ b < w.heap.size ∧ lo ≤ b ∧ ∀ i (h : i < Xl.length), GrSize Xl[i] ∧ ∃ vv0, GrCells w b (off + i * 7) Xl[i] vv0 ∧ IntsIn lo w vv0 Xl[i].vb := by
  rcases h with ⟨a', cap', h, rfl⟩ | ⟨b', off', cap', h1, h2, h3, h4, h5, h6, h7⟩
  · simp at hL
  · injection h1 with e1 e2 e3
    exact ⟨b', off', e1, h4, h5, h7⟩
def GrsSmall (Xl : List Gr) : Prop := Xl.length ≤ 1048576 ∧ ∀ i (h : i < Xl.length), GrSmall Xl[i]
def SzGrs (Xl : List Gr) (left r : Int) : Prop := -1 ≤ r ∧ r ≤ left ∧ (0 ≤ r → GrsSmall Xl)

def Gr.ru (x : Gr) : Ru := ⟨x.vb, x.kd, x.tm, x.pf⟩
set_option maxHeartbeats 1000000 in
theorem szGr_any (lo : Nat) (x : Gr) (vv0 : Value) (left : Int) (w : World) (h0 : 0 ≤ left) (h1 : left ≤ 1048576) (hv0 : IntsIn lo w vv0 x.vb) (hz : GrSize x) :
    Calls Tryz.prog 91 #[.agg #[.int .i64 x.nu, .string x.tw, .string x.gb, vv0, .string x.kd, .string x.tm, .string x.pf], .int .i64 left] w
      fun e w' => ∃ r : Int, e = .returned (.int .i64 r) ∧ Below w.heap.size w w' ∧ -1 ≤ r ∧ r ≤ left ∧ (0 ≤ r → GrSmall x) := by
  have HV := hide hv0
  obtain ⟨a, cap, rfl⟩ := hv0.form
  obtain ⟨s0, s1, s2, s3, s4⟩ := hz
  have HZ : Hid (RuSize x.ru) := ⟨s2, s3, s4⟩
  unfold maxLen at s0 s1
  clear hv0 s2 s3 s4
  have HW : ∀ o, Hid (Below w.heap.size w (w.alloc o)) := fun o => (Below.refl _ _).alloc (Nat.le_refl _) _
  by_cases c0 : (x.tw.size : Int) ≤ left
  · by_cases c1 : (x.tw.size : Int) + x.gb.size ≤ left
    · go_enter Tryz.func91, Tryz.ntmps91
      go_wp2_with fail
      refine (szRule_any lo x.ru _ _ _ (by omega) (by omega) (HV.out.below (HW _).out) HZ.out).mono ?_
      rintro e w1 ⟨r, rfl, hb, q0, q1, q2⟩
      have HB : Hid (Below w.heap.size w w1) := (HW _).out.trans (hb.mono (HW _).out.size)
      have Q2 := hide q2
      clear hb q2
      by_cases hr : r < 0
      · go_wp2
        go_ret
        exact ⟨-1, rfl, HB.out, by omega, by omega, fun h => by omega⟩
      · go_wp2
        go_ret
        exact ⟨_, rfl, HB.out, by omega, by omega, fun h => by have : (x.ru.vb.length : Int) ≤ _ := Q2.out h; show x.vb.length ≤ 1048576; unfold Gr.ru at this; simp only [] at this; omega⟩
    · go_enter Tryz.func91, Tryz.ntmps91
      go_wp2
      go_ret
      exact ⟨-1, rfl, (HW _).out, by omega, by omega, fun h => by omega⟩
  · go_enter Tryz.func91, Tryz.ntmps91
    go_wp2
    go_ret
    exact ⟨-1, rfl, (HW _).out, by omega, by omega, fun h => by omega⟩
set_option maxHeartbeats 1000000 in
theorem toGr_any (lo : Nat) (x : Gr) (vv0 : Value) (w : World) (hv0 : IntsIn lo w vv0 x.vb) (hn : GrSmall x) :
    Calls Tryz.prog 99 #[.agg #[.int .i64 x.nu, .string x.tw, .string x.gb, vv0, .string x.kd, .string x.tm, .string x.pf]] w
      fun e w' => ∃ z0, e = .returned (.agg #[.int .i64 x.nu, .string x.tw, .string x.gb, z0, .string x.kd, .string x.tm, .string x.pf]) ∧ Below w.heap.size w w' ∧ IntsIn w.heap.size w' z0 x.vb := by
  have HV := hide hv0
  obtain ⟨a, cap, rfl⟩ := hv0.form
  have hn' : x.ru.vb.length ≤ 1048576 := hn
  clear hv0 hn
  go_enter Tryz.func99, Tryz.ntmps99
  go_wp2_with fail
  refine (toRule_any lo x.ru _ _ (HV.out.below ?_) hn').mono ?_
  · exact (((Below.refl _ _).alloc (Nat.le_refl _) _).alloc (by simp) _).alloc (by simp; omega) _
  rintro e w1 ⟨v', rfl, hb, hs⟩
  obtain ⟨a', cap', rfl⟩ := hs.form
  have HS : Hid (IntsIn (w.heap.size + 3) w1 (.slice a' x.ru.vb.length cap') x.vb) := hs.mono (by simp)
  clear hs
  have hz : w.heap.size + 2 < w1.heap.size := by have := hb.size; simp at this; omega
  have hc : ∀ b o, b < w.heap.size + 3 → w1.cell? ⟨b, o, none⟩ = _ := fun b o h => hb.cell (p := ⟨b, o, none⟩) (by simpa using h)
  have hf : ∀ b o, b < w.heap.size + 3 → w1.frozen? ⟨b, o, none⟩ = _ := fun b o h => hb.frozen (p := ⟨b, o, none⟩) (by simpa using h)
  have HB : Hid (Below w.heap.size w w1) := ((((Below.refl _ _).alloc (Nat.le_refl _) _).alloc (by simp) _).alloc (by simp; omega) _).trans (hb.mono (by simp; omega))
  clear hb
  go_wp2
  refine bodyPost_ret (v := .agg #[.int .i64 x.nu, .string x.tw, .string x.gb, (.slice a' x.ru.vb.length cap'), .string x.kd, .string x.tm, .string x.pf]) (by simp [results, Tryz.results99, go_sem, hc]; exact ⟨rfl, rfl, rfl⟩) rfl ⟨_, rfl, ?_, ?_⟩
  · repeat (refine Below.setCell ?_ (by simp only []; omega) _)
    exact HB.out
  · refine IntsIn.mono (lo := w.heap.size + 3) ?_ (by omega)
    repeat (refine IntsIn.setCell ?_ (by simp only []; omega) _)
    exact HS.out
set_option maxHeartbeats 1000000 in
theorem eqGr_same (lo lo' : Nat) (x : Gr) (vv0 vv0' : Value) (w : World) (hv0 : IntsIn lo w vv0 x.vb) (hw0 : IntsIn lo' w vv0' x.vb) :
    Calls Tryz.prog 110 #[.agg #[.int .i64 x.nu, .string x.tw, .string x.gb, vv0, .string x.kd, .string x.tm, .string x.pf], .agg #[.int .i64 x.nu, .string x.tw, .string x.gb, vv0', .string x.kd, .string x.tm, .string x.pf]] w fun e w' => e = .returned (.bool true) ∧ Below w.heap.size w w' := by
  have HV := hide hv0
  have HV' := hide hw0
  obtain ⟨a, cap, rfl⟩ := hv0.form
  obtain ⟨a', cap', rfl⟩ := hw0.form
  clear hv0 hw0
  have HW : ∀ o o', Hid (Below w.heap.size w ((w.alloc o).alloc o')) := fun o o' => ((Below.refl _ _).alloc (Nat.le_refl _) _).alloc (by simp) _
  go_enter Tryz.func110, Tryz.ntmps110
  go_wp2_with fail
  refine (eqRule_same lo lo' x.ru _ _ _ (HV.out.below (HW _ _).out) (HV'.out.below (HW _ _).out)).mono ?_
  rintro e w1 ⟨rfl, hb1⟩
  have HB1 : Hid (Below w.heap.size w w1) := (HW _ _).out.trans (hb1.mono (HW _ _).out.size)
  clear hb1
  go_wp2
  go_ret
  exact ⟨rfl, HB1.out⟩

set_option maxHeartbeats 1000000 in
theorem szGrs_any (lo : Nat) (v : Value) (Xl : List Gr) (left : Int) (w : World) (h0 : 0 ≤ left) (h1 : left ≤ 1048576) (hv : GrsAt lo w v Xl) :
    Calls Tryz.prog 25 #[v, .int .i64 left] w fun e w' => ∃ r : Int, e = .returned (.int .i64 r) ∧ Below w.heap.size w w' ∧ SzGrs Xl left r := by
  rcases hv with ⟨a, cap, rfl, rfl⟩ | ⟨b, off, cap, rfl, hne, hm, hbw, _, _, hc⟩
  · go_enter Tryz.func25, Tryz.ntmps25
    go_wp2
    go_loop [1, 5] (fun l i => ∃ r : Int, l = .int .i64 r ∧ 0 ≤ r ∧ r ≤ left ∧ i = .int .i64 0) (fun _ _ => 0)
    case atStart => exact ⟨_, rfl, by omega, by omega, rfl⟩
    case round =>
      obtain ⟨r, rfl, hr0, hr1, rfl⟩ := hrel
      go_wp2
      go_ret
      exact ⟨r, rfl, Below.refl _ _, by omega, by omega, fun _ => ⟨by simp, fun i h => by simp at h⟩⟩
  · unfold maxLen at hm
    by_cases hle : (Xl.length : Int) ≤ left
    · go_enter Tryz.func25, Tryz.ntmps25
      go_wp2
      go_loopw [1, 5] (fun l i wr => ∃ (r : Int) (k : Nat), l = .int .i64 r ∧ 0 ≤ r ∧ r ≤ left ∧ i = .int .i64 k ∧ k ≤ Xl.length ∧ Below w.heap.size w wr ∧ ∀ j (hj : j < Xl.length), j < k → GrSmall Xl[j]) (fun _ i _ => Xl.length - (intOf i).toNat)
      case atStart => exact ⟨_, 0, rfl, by omega, by omega, rfl, by omega, Below.refl _ _, fun j _ h => by omega⟩
      case round =>
        obtain ⟨r, k, rfl, hr0, hr1, rfl, hk, hb, hall⟩ := hrel
        have HA := hide hall
        clear hall
        by_cases hlt : k < Xl.length
        · obtain ⟨hs, vv0, hc, hv0⟩ := hc k hlt
          have HV0 := hide (hv0.below hb)
          obtain ⟨a0, k0, rfl⟩ := hv0.form
          obtain ⟨c0, c1, c2, c3, c4, c5, c6⟩ := hc.below hb hbw
          clear hc hv0
          go_wp2_with fail
          refine (szGr_any lo _ _ _ _ hr0 (by omega) HV0.out hs).mono ?_
          rintro e w1 ⟨r1, rfl, hb1, q0, q1, q2⟩
          have HQ2 := hide q2
          have hB : Hid (Below w.heap.size w w1) := hb.trans (hb1.mono hb.size)
          clear hb1 c0 c1 c2 c3 c4 c5 c6 hb q2 HV0
          by_cases hneg : r1 < 0
          · go_wp2
            go_ret
            exact ⟨-1, rfl, hB.out, by omega, by omega, fun h => by omega⟩
          · have HL : Hid (GrSmall Xl[k]) := HQ2.out (by omega)
            clear HQ2
            go_wp2
            go_roundw
            case rel => exact ⟨_, k + 1, rfl, by omega, by omega, by go_num, by omega, hB.out, fun j hj h => by
                          by_cases e : j = k
                          · subst e; exact HL.out
                          · exact HA.out j hj (by omega)⟩
            case measure => simp [intOf]; omega
        · go_wp2
          go_ret
          exact ⟨r, rfl, hb, by omega, by omega, fun _ => ⟨by omega, fun j hj => HA.out j hj (by omega)⟩⟩
    · go_enter Tryz.func25, Tryz.ntmps25
      go_wp2
      go_ret
      exact ⟨-1, rfl, Below.refl _ _, by omega, by omega, fun h => by omega⟩

set_option maxHeartbeats 1000000 in
theorem eqGrs_same (lo lo' : Nat) (v v' : Value) (Xl : List Gr) (w : World) (hv : GrsAt lo w v Xl) (hv' : GrsAt lo' w v' Xl) :
    Calls Tryz.prog 39 #[v, v'] w fun e w' => e = .returned (.bool true) ∧ Below w.heap.size w w' := by
  by_cases hL : Xl = []
  · subst hL
    obtain ⟨a, cap, rfl⟩ := hv.form
    obtain ⟨a', cap', rfl⟩ := hv'.form
    clear hv hv'
    go_enter Tryz.func39, Tryz.ntmps39
    go_wp2
    go_loop [5] (fun i => i = .int .i64 0) (fun _ => 0)
    case atStart => rfl
    case round =>
      subst hrel
      go_wp2
      go_ret
      exact ⟨rfl, Below.refl _ _⟩
  · obtain ⟨b, off, cap, rfl, hm, hbw, _, hc⟩ := hv.full hL
    obtain ⟨b', off', cap', rfl, _, hbw', _, hc'⟩ := hv'.full hL
    clear hv hv'
    unfold maxLen at hm
    go_enter Tryz.func39, Tryz.ntmps39
    go_wp2
    go_loopw [5] (fun i wr => ∃ k : Nat, i = .int .i64 k ∧ k ≤ Xl.length ∧ Below w.heap.size w wr) (fun i _ => Xl.length - (intOf i).toNat)
    case atStart => exact ⟨0, rfl, by omega, Below.refl _ _⟩
    case round =>
      obtain ⟨k, rfl, hk, hb⟩ := hrel
      by_cases hlt : k < Xl.length
      · obtain ⟨hs, vv0, hc, hv0⟩ := hc k hlt
        obtain ⟨ht, vv0', hd, hw0⟩ := hc' k hlt
        have HV0 := hide (hv0.below hb)
        have HW0 := hide (hw0.below hb)
        obtain ⟨a0, k0, rfl⟩ := hv0.form
        obtain ⟨e0, g0, rfl⟩ := hw0.form
        obtain ⟨c0, c1, c2, c3, c4, c5, c6⟩ := hc.below hb hbw
        obtain ⟨d0, d1, d2, d3, d4, d5, d6⟩ := hd.below hb hbw'
        clear hc hd hv0 hw0 hs ht
        have HB := hide hb
        clear hb
        go_wp2
        go_region_with (go_at_call 110; refine (eqGr_same lo lo' _ _ _ _ (HV0.out.below ((Below.refl _ _).drew)) (HW0.out.below ((Below.refl _ _).drew))).mono ?_; rintro e w1 ⟨rfl, hb1⟩; have hB : Hid (Below w.heap.size w w1) := (HB.out.drew).trans (hb1.mono HB.out.size); clear hb1)
        all_goals go_wp2
        all_goals go_roundw
        all_goals first
          | (case rel => exact ⟨k + 1, by go_num, by omega, hB.out⟩)
          | (case measure => simp [intOf]; omega)
      · go_wp2
        go_ret
        exact ⟨rfl, hb⟩

theorem Tryz.info133 : (Tryz.prog.info? 133).map (fun i => (i.zero, i.size, i.bytes)) = some (some (.agg #[.int .i64 0, .string ⟨#[]⟩, .string ⟨#[]⟩, .slice none 0 0, .string ⟨#[]⟩, .string ⟨#[]⟩, .string ⟨#[]⟩]), 7, 112) := by kernel_rfl
def GrsFill (wr : World) (B : Nat) (Xl : List Gr) (k : Nat) : Prop :=
  ∃ f, wr.rowIs B 133 (Xl.length * 7) f ∧ ∀ i (h : i < Xl.length), i < k → GrSize Xl[i] ∧ ∃ vv0, f (i * 7) = .int .i64 Xl[i].nu ∧ f (i * 7 + 1) = .string Xl[i].tw ∧ f (i * 7 + 2) = .string Xl[i].gb ∧ f (i * 7 + 3) = vv0 ∧ f (i * 7 + 4) = .string Xl[i].kd ∧ f (i * 7 + 5) = .string Xl[i].tm ∧ f (i * 7 + 6) = .string Xl[i].pf ∧ IntsIn (B + 1) wr vv0 Xl[i].vb
theorem GrsFill.below {wr w1 : World} {B : Nat} {Xl : List Gr} {k : Nat} (h : GrsFill wr B Xl k) (hb : Below wr.heap.size wr w1) : GrsFill w1 B Xl k := by
  obtain ⟨f, hr, hall⟩ := h
  refine ⟨f, hr.of_block (hb.block B hr.lt), fun i hi hik => ?_⟩
  obtain ⟨hz, vv0, h0, h1, h2, h3, h4, h5, h6, hv0⟩ := hall i hi hik
  exact ⟨hz, vv0, h0, h1, h2, h3, h4, h5, h6, hv0.below hb⟩
theorem GrsFill.free {wr : World} {B : Nat} {Xl : List Gr} {k : Nat} (h : GrsFill wr B Xl k) (i : Nat) : wr.frozen? ⟨B, i, none⟩ = false := by
  obtain ⟨f, hr, _⟩ := h
  exact hr.frozen i
theorem GrsFill.there {wr : World} {B : Nat} {Xl : List Gr} {k : Nat} (h : GrsFill wr B Xl k) (i : Nat) (hi : i < Xl.length * 7) : ∃ v, wr.cell? ⟨B, i, none⟩ = some v := by
  obtain ⟨f, hr, _⟩ := h
  exact ⟨_, hr.cell hi⟩
theorem GrsFill.step {w1 : World} {B : Nat} {Xl : List Gr} {k : Nat} {vv0 : Value} (h : GrsFill w1 B Xl k) (hk : k < Xl.length) (hz : GrSize Xl[k]) (hv0 : IntsIn (B + 1) w1 vv0 Xl[k].vb) :
    GrsFill (((((((w1.setCell ⟨B, k * 7, none⟩ (.int .i64 Xl[k].nu)).setCell ⟨B, k * 7 + 1, none⟩ (.string Xl[k].tw)).setCell ⟨B, k * 7 + 2, none⟩ (.string Xl[k].gb)).setCell ⟨B, k * 7 + 3, none⟩ vv0).setCell ⟨B, k * 7 + 4, none⟩ (.string Xl[k].kd)).setCell ⟨B, k * 7 + 5, none⟩ (.string Xl[k].tm)).setCell ⟨B, k * 7 + 6, none⟩ (.string Xl[k].pf)) B Xl (k + 1) := by
  obtain ⟨f, hr, hall⟩ := h
  refine ⟨_, (((((((hr.set _ _).set _ _).set _ _).set _ _).set _ _).set _ _).set _ _), fun i hi hik => ?_⟩
  by_cases e : i = k
  · subst e
    refine ⟨hz, vv0, by simp, by simp, by simp, by simp, by simp, by simp, by simp, ?_⟩
    · repeat (refine IntsIn.setCell ?_ (by simp only []; omega) _)
      exact hv0
  · obtain ⟨hz', vv0', h0, h1, h2, h3, h4, h5, h6, hv0'⟩ := hall i hi (by omega)
    refine ⟨hz', vv0', ?_, ?_, ?_, ?_, ?_, ?_, ?_, ?_⟩
    · rw [if_neg (by omega), if_neg (by omega), if_neg (by omega), if_neg (by omega), if_neg (by omega), if_neg (by omega), if_neg (by omega)]; exact h0
    · rw [if_neg (by omega), if_neg (by omega), if_neg (by omega), if_neg (by omega), if_neg (by omega), if_neg (by omega), if_neg (by omega)]; exact h1
    · rw [if_neg (by omega), if_neg (by omega), if_neg (by omega), if_neg (by omega), if_neg (by omega), if_neg (by omega), if_neg (by omega)]; exact h2
    · rw [if_neg (by omega), if_neg (by omega), if_neg (by omega), if_neg (by omega), if_neg (by omega), if_neg (by omega), if_neg (by omega)]; exact h3
    · rw [if_neg (by omega), if_neg (by omega), if_neg (by omega), if_neg (by omega), if_neg (by omega), if_neg (by omega), if_neg (by omega)]; exact h4
    · rw [if_neg (by omega), if_neg (by omega), if_neg (by omega), if_neg (by omega), if_neg (by omega), if_neg (by omega), if_neg (by omega)]; exact h5
    · rw [if_neg (by omega), if_neg (by omega), if_neg (by omega), if_neg (by omega), if_neg (by omega), if_neg (by omega), if_neg (by omega)]; exact h6
    · repeat (refine IntsIn.setCell ?_ (by simp only []; omega) _)
      exact hv0'
theorem GrsFill.done {wr : World} {B : Nat} {Xl : List Gr} {k : Nat} (h : GrsFill wr B Xl k) (hk : Xl.length ≤ k) (hne : Xl ≠ []) (hm : Xl.length ≤ maxLen) : GrsAt B wr (.slice (some ⟨B, 0, none⟩) Xl.length Xl.length) Xl := by
  obtain ⟨f, hr, hall⟩ := h
  refine Or.inr ⟨B, 0, Xl.length, rfl, hne, hm, hr.lt, Nat.le_refl _, Nat.le_refl _, fun i hi => ?_⟩
  obtain ⟨hz, vv0, h0, h1, h2, h3, h4, h5, h6, hv0⟩ := hall i hi (by omega)
  rw [Nat.zero_add]
  exact ⟨hz, vv0, ⟨by rw [hr.cell (by omega), h0], by rw [hr.cell (by omega), h1], by rw [hr.cell (by omega), h2], by rw [hr.cell (by omega), h3], by rw [hr.cell (by omega), h4], by rw [hr.cell (by omega), h5], by rw [hr.cell (by omega), h6]⟩, hv0.mono (by omega)⟩
theorem GrsFill.new (w : World) (Xl : List Gr) (z : Array Value) : GrsFill (w.alloc (.cells (madeCells z (Xl.length * 7)) 133)) w.heap.size Xl 0 := by
  refine ⟨fun i => (madeCells z (Xl.length * 7)).getD i default, ?_, fun i _ h => by omega⟩
  have := World.rowIs_alloc w (madeCells z (Xl.length * 7)) 133 (fun i => (madeCells z (Xl.length * 7)).getD i default) (fun i hi => by simp [Array.getD, hi])
  rwa [size_madeCells] at this

set_option maxHeartbeats 2000000 in
theorem toGrs_any (lo : Nat) (v : Value) (Xl : List Gr) (w : World) (hv : GrsAt lo w v Xl) (hn : GrsSmall Xl) :
    Calls Tryz.prog 31 #[v] w fun e w' => ∃ v', e = .returned v' ∧ Below w.heap.size w w' ∧ GrsAt w.heap.size w' v' Xl := by
  obtain ⟨i0, hi, hz0, hz1, hz2⟩ := info_parts Tryz.info133
  have HSM := hide hn.2
  have hn1 := hn.1
  clear hn
  by_cases hL : Xl = []
  · subst hL
    obtain ⟨a, cap, rfl⟩ := hv.form
    clear hv
    have hmk : ∀ u : World, (Instr.makeSlice 28 (.int .i64 0) (.int .i64 0)).run Tryz.prog u = .ok (.slice (some ⟨u.heap.size, 0, none⟩) 0 0) (u.alloc (.cells (madeCells (Value.cells (.agg #[.int .i64 0, .string ⟨#[]⟩, .string ⟨#[]⟩, .slice none 0 0, .string ⟨#[]⟩, .string ⟨#[]⟩, .string ⟨#[]⟩])) 0) 133)) := fun u => by
      have h := run_make (P := Tryz.prog) u 28 133 i0 _ Tryz.underlying28 hi hz0 .i64 .i64 0 0 (by omega) (by omega) (by omega) (by omega)
      simpa [hz1] using h
    go_enter Tryz.func31, Tryz.ntmps31
    go_wp2
    go_loop [4] (fun i => i = .int .i64 0) (fun _ => 0)
    case atStart => rfl
    case round =>
      subst hrel
      go_wp2
      go_ret
      exact ⟨_, rfl, (Below.refl _ _).alloc (Nat.le_refl _) _, Or.inl ⟨_, _, rfl, rfl⟩⟩
  · obtain ⟨b, off, cap, rfl, hm, hbw, _, hc⟩ := hv.full hL
    clear hv
    have HM : Hid (Xl.length ≤ maxLen) := hm
    unfold maxLen at hm
    have hmk : ∀ u : World, (Instr.makeSlice 28 (.int .i64 (Xl.length : Int)) (.int .i64 (Xl.length : Int))).run Tryz.prog u = .ok (.slice (some ⟨u.heap.size, 0, none⟩) Xl.length Xl.length) (u.alloc (.cells (madeCells (Value.cells (.agg #[.int .i64 0, .string ⟨#[]⟩, .string ⟨#[]⟩, .slice none 0 0, .string ⟨#[]⟩, .string ⟨#[]⟩, .string ⟨#[]⟩])) (Xl.length * 7)) 133)) := fun u => by
      have h := run_make (P := Tryz.prog) u 28 133 i0 _ Tryz.underlying28 hi hz0 .i64 .i64 Xl.length Xl.length (by omega) (by omega) (by rw [hz2]; omega) (by omega)
      rw [hz1] at h
      simpa using h
    clear hi hz0 hz1 hz2
    go_enter Tryz.func31, Tryz.ntmps31
    go_wp2
    clear hmk
    go_loopw [4] (fun i wr => ∃ k : Nat, i = .int .i64 k ∧ k ≤ Xl.length ∧ Below w.heap.size w wr ∧ GrsFill wr w.heap.size Xl k) (fun i _ => Xl.length - (intOf i).toNat)
    case atStart => exact ⟨0, rfl, by omega, (Below.refl _ _).alloc (Nat.le_refl _) _, GrsFill.new w Xl _⟩
    case round =>
      obtain ⟨k, rfl, hk, hb, hf⟩ := hrel
      by_cases hlt : k < Xl.length
      · obtain ⟨hs, vv0, hc, hv0⟩ := hc k hlt
        have HV0 := hide (hv0.below hb)
        obtain ⟨a0, k0, rfl⟩ := hv0.form
        obtain ⟨c0, c1, c2, c3, c4, c5, c6⟩ := hc.below hb hbw
        have hBl : w.heap.size < wr.heap.size := by
          obtain ⟨_, hr, _⟩ := hf
          exact hr.lt
        clear hc hv0
        go_wp2_with fail
        refine (toGr_any lo _ _ _ HV0.out (HSM.out k hlt)).mono ?_
        rintro e w1 ⟨z0, rfl, hb1, hz0⟩
        obtain ⟨m0, n0, rfl⟩ := hz0.form
        have hf1 := hf.below hb1
        have HST := hide (hf1.step hlt hs (hz0.mono (by omega)))
        have hB : Hid (Below w.heap.size w w1) := hb.trans (hb1.mono hb.size)
        have hfr := hf1.free
        obtain ⟨o0, ho0⟩ := hf1.there (k * 7) (by omega)
        obtain ⟨o1, ho1⟩ := hf1.there (k * 7 + 1) (by omega)
        obtain ⟨o2, ho2⟩ := hf1.there (k * 7 + 2) (by omega)
        obtain ⟨o3, ho3⟩ := hf1.there (k * 7 + 3) (by omega)
        obtain ⟨o4, ho4⟩ := hf1.there (k * 7 + 4) (by omega)
        obtain ⟨o5, ho5⟩ := hf1.there (k * 7 + 5) (by omega)
        obtain ⟨o6, ho6⟩ := hf1.there (k * 7 + 6) (by omega)
        clear hf hf1 hb1 hb c0 c1 c2 c3 c4 c5 c6 hz0 HV0
        go_wp2
        go_roundw
        case rel =>
          exact ⟨k + 1, by go_num, by omega, (((((((hB.out.setCell (Nat.le_refl _) _).setCell (Nat.le_refl _) _).setCell (Nat.le_refl _) _).setCell (Nat.le_refl _) _).setCell (Nat.le_refl _) _).setCell (Nat.le_refl _) _).setCell (Nat.le_refl _) _), HST.out⟩
        case measure => simp [intOf]; omega
      · go_wp2
        go_ret
        exact ⟨_, rfl, hb, hf.done (by omega) hL HM.out⟩
end Go.Proofs.YtdeammfdkaomlaaGreat
