import Derived.Test.YtjkkbkdpoebfaaaGreatV07
namespace Go.Proofs.YtjkkbkdpoebfaaaGreat
open Go.RowKit Go.Deep

theorem box_cell (w u : World) (O : Array Value) (T : TypeId) (h : Below (w.heap.size + 1) (w.alloc (.cells O T)) u) (i : Nat) : u.cell? ⟨w.heap.size, i, none⟩ = O[i]? := by
  rw [h.cell (p := ⟨w.heap.size, i, none⟩) (by simp)]
  simp

def sound1 (le mo : Int) (we : ByteArray) : Bool := decide (0 ≤ le) && decide (le ≤ mo) && decide (mo ≤ 1000000) && emptyOrName we
def sound2 (n : Nat) (L : List ByteArray) : Bool := decide (1 ≤ (n : Int)) && decide ((n : Int) ≤ 6) && ascB L
def sound3 (le mo : Int) : Bool := decide (1 ≤ le) && decide (le ≤ mo) && decide (mo ≤ 40)
def role4 (ro : Int) (mu : Bool) : Bool := ro == 1 || ro == 3 || ro == 2 && !mu
def sound4 (Ss : List Sh) (to : ByteArray) (ro : Int) (mu : Bool) (df : ByteArray) : Bool := hasK Ss to && df.toList.isEmpty && role4 ro mu

theorem un1 (n : Nat) (to : ByteArray) (ro : Int) : unusedB 0 0 n to ro ⟨#[]⟩ = bare1 n to ro := by simp [unusedB, bare1, ByteArray.toList_eq]
theorem un2 (le mo : Int) (to : ByteArray) (ro : Int) (we : ByteArray) : unusedB le mo 0 to ro we = bare2 le mo to ro we := by
  simp only [unusedB, bare2]; cases (le == 0) <;> cases (mo == 0) <;> cases to.toList.isEmpty <;> cases (ro == 0) <;> cases we.toList.isEmpty <;> rfl
theorem un3 (n : Nat) (to : ByteArray) (ro : Int) (we : ByteArray) : unusedB 0 0 n to ro we = bare3 n to ro we := by
  simp only [unusedB, bare3]; cases ((n : Int) == 0) <;> cases to.toList.isEmpty <;> cases (ro == 0) <;> cases we.toList.isEmpty <;> rfl
theorem un4 (le mo : Int) (n : Nat) (we : ByteArray) : unusedB le mo n ⟨#[]⟩ 0 we = bare4 le mo n we := by
  simp only [unusedB, bare4, ByteArray.toList_eq]; cases (le == 0) <;> cases (mo == 0) <;> cases ((n : Int) == 0) <;> cases we.data.toList.isEmpty <;> rfl

section
variable (nm to df we : ByteArray) (le mo ro : Int) (mu fx : Bool) (a : Option Addr) (n cap : Nat) (w : World)

set_option maxHeartbeats 1000000 in
theorem l1Bare0 (kd : Int) (h1 : kd ≠ 1) (h2 : kd ≠ 2) (h3 : kd ≠ 3) (h4 : kd ≠ 4) :
    Calls Tryz.prog 91 #[.agg #[.string nm, .int .i64 kd, .int .i64 le, .int .i64 mo, .slice a n cap, .string to, .int .i64 ro, .bool mu, .bool fx, .string df, .string we]] w fun e w' => ∃ b, e = .returned (.bool b) ∧ Below w.heap.size w w' := by
  have b1 : (kd == 1) = false := beq_eq_false_iff_ne.2 h1
  have b2 : (kd == 2) = false := beq_eq_false_iff_ne.2 h2
  have b3 : (kd == 3) = false := beq_eq_false_iff_ne.2 h3
  have b4 : (kd == 4) = false := beq_eq_false_iff_ne.2 h4
  have c1 : (kd != 1) = true := by simp [bne, b1]
  have c2 : (kd != 2) = true := by simp [bne, b2]
  clear h1 h2 h3 h4
  go_enter Tryz.func91, Tryz.ntmps91
  go_wp2
  all_goals go_ret
  all_goals exact ⟨_, rfl, (Below.refl _ _).alloc (Nat.le_refl _) _⟩

set_option maxHeartbeats 1000000 in
theorem sound85 (lv : Value) (hs : we.size ≤ maxLen) :
    Calls Tryz.prog 117 #[.agg #[.int .i64 le, .int .i64 mo, .string we], lv] w fun e w' => e = .returned (.bool (sound1 le mo we)) ∧ Below w.heap.size w w' := by
  have HW : ∀ o, Hid (Below w.heap.size w (w.alloc o)) := fun o => (Below.refl _ _).alloc (Nat.le_refl _) _
  have hk := fun u => emptyOrName_any we u hs
  by_cases h1 : 0 ≤ le
  · by_cases h2 : le ≤ mo
    · by_cases h3 : mo ≤ 1000000
      · go_enter Tryz.func117, Tryz.ntmps117
        go_wp2_with fail
        refine (hk _).mono ?_
        rintro e w1 ⟨rfl, rfl⟩
        go_wp2
        go_ret
        exact ⟨ret_bool (by simp [sound1, h1, h2, h3]), (HW _).out⟩
      · go_enter Tryz.func117, Tryz.ntmps117
        go_wp2
        go_ret
        exact ⟨ret_bool (by rw [Bool.eq_iff_iff]; simp [sound1]; omega), (HW _).out⟩
    · go_enter Tryz.func117, Tryz.ntmps117
      go_wp2
      go_ret
      exact ⟨ret_bool (by rw [Bool.eq_iff_iff]; simp [sound1]; omega), (HW _).out⟩
  · go_enter Tryz.func117, Tryz.ntmps117
    go_wp2
    go_ret
    exact ⟨ret_bool (by rw [Bool.eq_iff_iff]; simp [sound1]; omega), (HW _).out⟩

set_option maxHeartbeats 1000000 in
theorem sound90 (lv : Value) (L : List ByteArray) (hv : StrsAt w (.slice a L.length cap) L) :
    Calls Tryz.prog 122 #[.agg #[.slice a L.length cap], lv] w fun e w' => e = .returned (.bool (sound2 L.length L)) ∧ Below w.heap.size w w' := by
  have HV := hide hv
  clear hv
  have HW : ∀ o, Hid (Below w.heap.size w (w.alloc o)) := fun o => (Below.refl _ _).alloc (Nat.le_refl _) _
  by_cases h1 : (1 : Int) ≤ L.length
  · by_cases h2 : (L.length : Int) ≤ 6
    · go_enter Tryz.func122, Tryz.ntmps122
      go_wp2_with fail
      refine (ascNames_any _ L _ (HV.out.below (HW _).out)).mono ?_
      rintro e w1 ⟨rfl, rfl⟩
      go_wp2
      go_ret
      exact ⟨ret_bool (by simp [sound2, h1, h2]), (HW _).out⟩
    · go_enter Tryz.func122, Tryz.ntmps122
      go_wp2
      go_ret
      exact ⟨ret_bool (by rw [Bool.eq_iff_iff]; simp [sound2]; omega), (HW _).out⟩
  · go_enter Tryz.func122, Tryz.ntmps122
    go_wp2
    go_ret
    exact ⟨ret_bool (by rw [Bool.eq_iff_iff]; simp [sound2]; omega), (HW _).out⟩

set_option maxHeartbeats 1000000 in
theorem sound96 (lv : Value) :
    Calls Tryz.prog 126 #[.agg #[.int .i64 le, .int .i64 mo], lv] w fun e w' => e = .returned (.bool (sound3 le mo)) ∧ Below w.heap.size w w' := by
  have HW : ∀ o, Hid (Below w.heap.size w (w.alloc o)) := fun o => (Below.refl _ _).alloc (Nat.le_refl _) _
  by_cases h1 : 1 ≤ le
  · by_cases h2 : le ≤ mo
    · go_enter Tryz.func126, Tryz.ntmps126
      go_wp2
      go_ret
      exact ⟨ret_bool (by simp [sound3, h1, h2]), (HW _).out⟩
    · go_enter Tryz.func126, Tryz.ntmps126
      go_wp2
      go_ret
      exact ⟨ret_bool (by rw [Bool.eq_iff_iff]; simp [sound3]; omega), (HW _).out⟩
  · go_enter Tryz.func126, Tryz.ntmps126
    go_wp2
    go_ret
    exact ⟨ret_bool (by rw [Bool.eq_iff_iff]; simp [sound3]; omega), (HW _).out⟩

set_option maxHeartbeats 1000000 in
theorem sound99 (lo : Nat) (lv : Value) (Ss : List Sh) (hv : ShsAt lo w lv Ss) :
    Calls Tryz.prog 129 #[.agg #[.string to, .int .i64 ro, .bool mu, .string df], lv] w fun e w' => e = .returned (.bool (sound4 Ss to ro mu df)) ∧ Below w.heap.size w w' := by
  have HV := hide hv
  obtain ⟨la, lcap, rfl⟩ := hv.form
  clear hv
  have HW : ∀ o, Hid (Below w.heap.size w (w.alloc o)) := fun o => (Below.refl _ _).alloc (Nat.le_refl _) _
  go_enter Tryz.func129, Tryz.ntmps129
  go_wp2_with fail
  refine (shapeOf_any lo _ Ss _ _ (HV.out.below (HW _).out)).mono ?_
  rintro e w1 ⟨hb1, hsh⟩
  have hz : w.heap.size < w1.heap.size := by have := hb1.size; simp at this; omega
  have hbx := fun i => box_cell w w1 #[.string to, .int .i64 ro, .bool mu, .string df] 138 (by have := hb1; simp at this; exact this) i
  have HB : Hid (Below w.heap.size w w1) := (HW _).out.trans (hb1.mono (by simp))
  clear hb1
  rcases hsh with ⟨x, fv, hx, rfl, hfd⟩ | ⟨hx, rfl⟩
  · have HK : Hid (hasK Ss to = true) := hasK_some hx
    obtain ⟨fa, fcap, rfl⟩ := hfd.form
    clear hfd hx
    cases hd : df.toList.isEmpty with
    | false =>
      go_wp2
      go_ret
      exact ⟨ret_bool (by simp [sound4, hd]), HB.out.alloc (by omega) _⟩
    | true =>
      cases a1 : (ro == 1) with
      | true =>
        go_wp2
        go_ret
        exact ⟨ret_bool (by simp [sound4, role4, hd, HK.out, a1]), HB.out.alloc (by omega) _⟩
      | false =>
        cases a3 : (ro == 3) with
        | true =>
          go_wp2
          go_ret
          exact ⟨ret_bool (by simp [sound4, role4, hd, HK.out, a1, a3]), HB.out.alloc (by omega) _⟩
        | false =>
          cases a2 : (ro == 2) with
          | true =>
            go_wp2
            go_ret
            exact ⟨ret_bool (by simp [sound4, role4, hd, HK.out, a1, a3, a2]), HB.out.alloc (by omega) _⟩
          | false =>
            go_wp2
            go_ret
            exact ⟨ret_bool (by simp [sound4, role4, hd, HK.out, a1, a3, a2]), HB.out.alloc (by omega) _⟩
  · have HK : Hid (hasK Ss to = false) := hasK_none hx
    clear hx
    go_wp2
    go_ret
    exact ⟨ret_bool (by simp [sound4, HK.out]), HB.out.alloc (by omega) _⟩
end
end Go.Proofs.YtjkkbkdpoebfaaaGreat
