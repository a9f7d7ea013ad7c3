import Derived.Test.YtjkkbkdpoebfaaaGreatV06
namespace Go.Proofs.YtjkkbkdpoebfaaaGreat
open Go.RowKit Go.Deep

/-- nothing of these six is set -/
def unusedB (le mo : Int) (n : Nat) (to : ByteArray) (ro : Int) (we : ByteArray) : Bool := (le == 0) && (mo == 0) && ((n : Int) == 0) && to.toList.isEmpty && (ro == 0) && we.toList.isEmpty
def emptyOrName (s : ByteArray) : Bool := s.toList.isEmpty || nameB s

set_option maxHeartbeats 400000 in
theorem emptyOrName_any (s : ByteArray) (w : World) (hs : s.size ≤ maxLen) :
    Calls Tryz.prog 120 #[.string s] w fun e w' => e = .returned (.bool (emptyOrName s)) ∧ w' = w := by
  have hk := isName_any s w hs
  cases he : s.toList.isEmpty with
  | true =>
    go_enter Tryz.func120, Tryz.ntmps120
    go_wp2
    go_ret
    exact ⟨ret_bool (by simp [emptyOrName, he]), rfl⟩
  | false =>
    go_enter Tryz.func120, Tryz.ntmps120
    go_wp2_with fail
    refine hk.mono ?_
    rintro e w1 ⟨rfl, rfl⟩
    go_wp2
    go_ret
    exact ⟨ret_bool (by simp [emptyOrName, he]), rfl⟩

section
variable (nm to df we : ByteArray) (le mo ro : Int) (mu fx : Bool) (a : Option Addr) (n cap : Nat) (w : World)

set_option maxHeartbeats 1000000 in
theorem unused_any (kd : Int) :
    Calls Tryz.prog 96 #[.agg #[.string nm, .int .i64 kd, .int .i64 le, .int .i64 mo, .slice a n cap, .string to, .int .i64 ro, .bool mu, .bool fx, .string df, .string we]] w fun e w' => e = .returned (.bool (unusedB le mo n to ro we)) ∧ Below w.heap.size w w' := by
  cases hle : (le == 0) with
  | false =>
    have gle : (le != 0) = true := by simp [bne, hle]
    go_enter Tryz.func96, Tryz.ntmps96
    go_wp2
    go_ret
    exact ⟨ret_bool (by simp [unusedB, hle]), (Below.refl _ _).alloc (Nat.le_refl _) _⟩
  | true =>
    have gle : (le != 0) = false := by simp [bne, hle]
    cases hmo : (mo == 0) with
    | false =>
      have gmo : (mo != 0) = true := by simp [bne, hmo]
      go_enter Tryz.func96, Tryz.ntmps96
      go_wp2
      go_ret
      exact ⟨ret_bool (by simp [unusedB, hle, hmo]), (Below.refl _ _).alloc (Nat.le_refl _) _⟩
    | true =>
      have gmo : (mo != 0) = false := by simp [bne, hmo]
      cases hn : ((n : Int) == 0) with
      | false =>
        have gn : (0 : Int) < n := by simp at hn; omega
        go_enter Tryz.func96, Tryz.ntmps96
        go_wp2
        go_ret
        exact ⟨ret_bool (by simp [unusedB, hle, hmo, hn]), (Below.refl _ _).alloc (Nat.le_refl _) _⟩
      | true =>
        have gn : ¬ (0 : Int) < n := by simp at hn; omega
        cases hto : to.toList.isEmpty with
        | false =>
          go_enter Tryz.func96, Tryz.ntmps96
          go_wp2
          go_ret
          exact ⟨ret_bool (by simp [unusedB, hle, hmo, hn, hto]), (Below.refl _ _).alloc (Nat.le_refl _) _⟩
        | true =>
          cases hro : (ro == 0) with
          | false =>
            have gro : (ro != 0) = true := by simp [bne, hro]
            go_enter Tryz.func96, Tryz.ntmps96
            go_wp2
            go_ret
            exact ⟨ret_bool (by simp [unusedB, hle, hmo, hn, hto, hro]), (Below.refl _ _).alloc (Nat.le_refl _) _⟩
          | true =>
            have gro : (ro != 0) = false := by simp [bne, hro]
            cases hwe : we.toList.isEmpty with
            | false =>
              go_enter Tryz.func96, Tryz.ntmps96
              go_wp2
              go_ret
              exact ⟨ret_bool (by simp [unusedB, hle, hmo, hn, hto, hro, hwe]), (Below.refl _ _).alloc (Nat.le_refl _) _⟩
            | true =>
              go_enter Tryz.func96, Tryz.ntmps96
              go_wp2
              go_ret
              exact ⟨ret_bool (by simp [unusedB, hle, hmo, hn, hto, hro, hwe]), (Below.refl _ _).alloc (Nat.le_refl _) _⟩

set_option maxHeartbeats 1000000 in
theorem without86 (kd : Int) :
    Calls Tryz.prog 118 #[.agg #[.int .i64 le, .int .i64 mo, .string we], .agg #[.string nm, .int .i64 kd, .int .i64 le, .int .i64 mo, .slice a n cap, .string to, .int .i64 ro, .bool mu, .bool fx, .string df, .string we]] w fun e w' => e = .returned (.agg #[.string nm, .int .i64 kd, .int .i64 0, .int .i64 0, .slice a n cap, .string to, .int .i64 ro, .bool mu, .bool fx, .string df, .string ⟨#[]⟩]) ∧ Below w.heap.size w w' := by
  go_enter Tryz.func118, Tryz.ntmps118
  go_wp2
  refine bodyPost_ret (v := .agg #[.string nm, .int .i64 kd, .int .i64 0, .int .i64 0, .slice a n cap, .string to, .int .i64 ro, .bool mu, .bool fx, .string df, .string ⟨#[]⟩]) (by simp [results, Tryz.results118, go_sem]) rfl ⟨rfl, ?_⟩
  repeat (first | exact Below.refl _ _ | refine Below.alloc ?_ (by simp; try omega) _ | refine Below.setCell ?_ (by simp only []; omega) _)

set_option maxHeartbeats 1000000 in
theorem without91 (kd : Int) :
    Calls Tryz.prog 123 #[.agg #[.slice a n cap], .agg #[.string nm, .int .i64 kd, .int .i64 le, .int .i64 mo, .slice a n cap, .string to, .int .i64 ro, .bool mu, .bool fx, .string df, .string we]] w fun e w' => e = .returned (.agg #[.string nm, .int .i64 kd, .int .i64 le, .int .i64 mo, .slice none 0 0, .string to, .int .i64 ro, .bool mu, .bool fx, .string df, .string we]) ∧ Below w.heap.size w w' := by
  go_enter Tryz.func123, Tryz.ntmps123
  go_wp2
  refine bodyPost_ret (v := .agg #[.string nm, .int .i64 kd, .int .i64 le, .int .i64 mo, .slice none 0 0, .string to, .int .i64 ro, .bool mu, .bool fx, .string df, .string we]) (by simp [results, Tryz.results123, go_sem]) rfl ⟨rfl, ?_⟩
  repeat (first | exact Below.refl _ _ | refine Below.alloc ?_ (by simp; try omega) _ | refine Below.setCell ?_ (by simp only []; omega) _)

set_option maxHeartbeats 1000000 in
theorem without97 (kd : Int) :
    Calls Tryz.prog 127 #[.agg #[.int .i64 le, .int .i64 mo], .agg #[.string nm, .int .i64 kd, .int .i64 le, .int .i64 mo, .slice a n cap, .string to, .int .i64 ro, .bool mu, .bool fx, .string df, .string we]] w fun e w' => e = .returned (.agg #[.string nm, .int .i64 kd, .int .i64 0, .int .i64 0, .slice a n cap, .string to, .int .i64 ro, .bool mu, .bool fx, .string df, .string we]) ∧ Below w.heap.size w w' := by
  go_enter Tryz.func127, Tryz.ntmps127
  go_wp2
  refine bodyPost_ret (v := .agg #[.string nm, .int .i64 kd, .int .i64 0, .int .i64 0, .slice a n cap, .string to, .int .i64 ro, .bool mu, .bool fx, .string df, .string we]) (by simp [results, Tryz.results127, go_sem]) rfl ⟨rfl, ?_⟩
  repeat (first | exact Below.refl _ _ | refine Below.alloc ?_ (by simp; try omega) _ | refine Below.setCell ?_ (by simp only []; omega) _)

set_option maxHeartbeats 1000000 in
theorem without100 (kd : Int) :
    Calls Tryz.prog 130 #[.agg #[.string to, .int .i64 ro, .bool mu, .string df], .agg #[.string nm, .int .i64 kd, .int .i64 le, .int .i64 mo, .slice a n cap, .string to, .int .i64 ro, .bool mu, .bool fx, .string df, .string we]] w fun e w' => e = .returned (.agg #[.string nm, .int .i64 kd, .int .i64 le, .int .i64 mo, .slice a n cap, .string ⟨#[]⟩, .int .i64 0, .bool mu, .bool fx, .string df, .string we]) ∧ Below w.heap.size w w' := by
  go_enter Tryz.func130, Tryz.ntmps130
  go_wp2
  refine bodyPost_ret (v := .agg #[.string nm, .int .i64 kd, .int .i64 le, .int .i64 mo, .slice a n cap, .string ⟨#[]⟩, .int .i64 0, .bool mu, .bool fx, .string df, .string we]) (by simp [results, Tryz.results130, go_sem]) rfl ⟨rfl, ?_⟩
  repeat (first | exact Below.refl _ _ | refine Below.alloc ?_ (by simp; try omega) _ | refine Below.setCell ?_ (by simp only []; omega) _)

/-- what a kind does not use is nothing -/
def bare1 (n : Nat) (to : ByteArray) (ro : Int) : Bool := ((n : Int) == 0) && to.toList.isEmpty && (ro == 0)
def bare2 (le mo : Int) (to : ByteArray) (ro : Int) (we : ByteArray) : Bool := (le == 0) && (mo == 0) && we.toList.isEmpty && to.toList.isEmpty && (ro == 0)
def bare3 (n : Nat) (to : ByteArray) (ro : Int) (we : ByteArray) : Bool := we.toList.isEmpty && ((n : Int) == 0) && to.toList.isEmpty && (ro == 0)
def bare4 (le mo : Int) (n : Nat) (we : ByteArray) : Bool := (le == 0) && (mo == 0) && we.toList.isEmpty && ((n : Int) == 0)

set_option maxHeartbeats 1000000 in
theorem l1Bare1 :
    Calls Tryz.prog 91 #[.agg #[.string nm, .int .i64 1, .int .i64 le, .int .i64 mo, .slice a n cap, .string to, .int .i64 ro, .bool mu, .bool fx, .string df, .string we]] w fun e w' => e = .returned (.bool (bare1 n to ro)) ∧ Below w.heap.size w w' := by
  cases hn : ((n : Int) == 0) with
  | false =>
    have gn : (0 : Int) < n := by simp at hn; omega
    go_enter Tryz.func91, Tryz.ntmps91
    go_wp2
    go_ret
    exact ⟨ret_bool (by simp [bare1, hn]), (Below.refl _ _).alloc (Nat.le_refl _) _⟩
  | true =>
    have gn : ¬ (0 : Int) < n := by simp at hn; omega
    cases hto : to.toList.isEmpty with
    | false =>
      go_enter Tryz.func91, Tryz.ntmps91
      go_wp2
      go_ret
      exact ⟨ret_bool (by simp [bare1, hn, hto]), (Below.refl _ _).alloc (Nat.le_refl _) _⟩
    | true =>
      cases hro : (ro == 0) with
      | false =>
        have gro : (ro != 0) = true := by simp [bne, hro]
        go_enter Tryz.func91, Tryz.ntmps91
        go_wp2
        go_ret
        exact ⟨ret_bool (by simp [bare1, hn, hto, hro]), (Below.refl _ _).alloc (Nat.le_refl _) _⟩
      | true =>
        have gro : (ro != 0) = false := by simp [bne, hro]
        go_enter Tryz.func91, Tryz.ntmps91
        go_wp2
        go_ret
        exact ⟨ret_bool (by simp [bare1, hn, hto, hro]), (Below.refl _ _).alloc (Nat.le_refl _) _⟩

set_option maxHeartbeats 1000000 in
theorem l1Bare2 :
    Calls Tryz.prog 91 #[.agg #[.string nm, .int .i64 2, .int .i64 le, .int .i64 mo, .slice a n cap, .string to, .int .i64 ro, .bool mu, .bool fx, .string df, .string we]] w fun e w' => e = .returned (.bool (bare2 le mo to ro we)) ∧ Below w.heap.size w w' := by
  cases hle : (le == 0) with
  | false =>
    have gle : (le != 0) = true := by simp [bne, hle]
    go_enter Tryz.func91, Tryz.ntmps91
    go_wp2
    go_ret
    exact ⟨ret_bool (by simp [bare2, hle]), (Below.refl _ _).alloc (Nat.le_refl _) _⟩
  | true =>
    have gle : (le != 0) = false := by simp [bne, hle]
    cases hmo : (mo == 0) with
    | false =>
      have gmo : (mo != 0) = true := by simp [bne, hmo]
      go_enter Tryz.func91, Tryz.ntmps91
      go_wp2
      go_ret
      exact ⟨ret_bool (by simp [bare2, hle, hmo]), (Below.refl _ _).alloc (Nat.le_refl _) _⟩
    | true =>
      have gmo : (mo != 0) = false := by simp [bne, hmo]
      cases hwe : we.toList.isEmpty with
      | false =>
        go_enter Tryz.func91, Tryz.ntmps91
        go_wp2
        go_ret
        exact ⟨ret_bool (by simp [bare2, hle, hmo, hwe]), (Below.refl _ _).alloc (Nat.le_refl _) _⟩
      | true =>
        cases hto : to.toList.isEmpty with
        | false =>
          go_enter Tryz.func91, Tryz.ntmps91
          go_wp2
          go_ret
          exact ⟨ret_bool (by simp [bare2, hle, hmo, hwe, hto]), (Below.refl _ _).alloc (Nat.le_refl _) _⟩
        | true =>
          cases hro : (ro == 0) with
          | false =>
            have gro : (ro != 0) = true := by simp [bne, hro]
            go_enter Tryz.func91, Tryz.ntmps91
            go_wp2
            go_ret
            exact ⟨ret_bool (by simp [bare2, hle, hmo, hwe, hto, hro]), (Below.refl _ _).alloc (Nat.le_refl _) _⟩
          | true =>
            have gro : (ro != 0) = false := by simp [bne, hro]
            go_enter Tryz.func91, Tryz.ntmps91
            go_wp2
            go_ret
            exact ⟨ret_bool (by simp [bare2, hle, hmo, hwe, hto, hro]), (Below.refl _ _).alloc (Nat.le_refl _) _⟩

set_option maxHeartbeats 1000000 in
theorem l1Bare3 :
    Calls Tryz.prog 91 #[.agg #[.string nm, .int .i64 3, .int .i64 le, .int .i64 mo, .slice a n cap, .string to, .int .i64 ro, .bool mu, .bool fx, .string df, .string we]] w fun e w' => e = .returned (.bool (bare3 n to ro we)) ∧ Below w.heap.size w w' := by
  cases hwe : we.toList.isEmpty with
  | false =>
    go_enter Tryz.func91, Tryz.ntmps91
    go_wp2
    go_ret
    exact ⟨ret_bool (by simp [bare3, hwe]), (Below.refl _ _).alloc (Nat.le_refl _) _⟩
  | true =>
    cases hn : ((n : Int) == 0) with
    | false =>
      have gn : (0 : Int) < n := by simp at hn; omega
      go_enter Tryz.func91, Tryz.ntmps91
      go_wp2
      go_ret
      exact ⟨ret_bool (by simp [bare3, hwe, hn]), (Below.refl _ _).alloc (Nat.le_refl _) _⟩
    | true =>
      have gn : ¬ (0 : Int) < n := by simp at hn; omega
      cases hto : to.toList.isEmpty with
      | false =>
        go_enter Tryz.func91, Tryz.ntmps91
        go_wp2
        go_ret
        exact ⟨ret_bool (by simp [bare3, hwe, hn, hto]), (Below.refl _ _).alloc (Nat.le_refl _) _⟩
      | true =>
        cases hro : (ro == 0) with
        | false =>
          have gro : (ro != 0) = true := by simp [bne, hro]
          go_enter Tryz.func91, Tryz.ntmps91
          go_wp2
          go_ret
          exact ⟨ret_bool (by simp [bare3, hwe, hn, hto, hro]), (Below.refl _ _).alloc (Nat.le_refl _) _⟩
        | true =>
          have gro : (ro != 0) = false := by simp [bne, hro]
          go_enter Tryz.func91, Tryz.ntmps91
          go_wp2
          go_ret
          exact ⟨ret_bool (by simp [bare3, hwe, hn, hto, hro]), (Below.refl _ _).alloc (Nat.le_refl _) _⟩

set_option maxHeartbeats 1000000 in
theorem l1Bare4 :
    Calls Tryz.prog 91 #[.agg #[.string nm, .int .i64 4, .int .i64 le, .int .i64 mo, .slice a n cap, .string to, .int .i64 ro, .bool mu, .bool fx, .string df, .string we]] w fun e w' => e = .returned (.bool (bare4 le mo n we)) ∧ Below w.heap.size w w' := by
  cases hle : (le == 0) with
  | false =>
    have gle : (le != 0) = true := by simp [bne, hle]
    go_enter Tryz.func91, Tryz.ntmps91
    go_wp2
    go_ret
    exact ⟨ret_bool (by simp [bare4, hle]), (Below.refl _ _).alloc (Nat.le_refl _) _⟩
  | true =>
    have gle : (le != 0) = false := by simp [bne, hle]
    cases hmo : (mo == 0) with
    | false =>
      have gmo : (mo != 0) = true := by simp [bne, hmo]
      go_enter Tryz.func91, Tryz.ntmps91
      go_wp2
      go_ret
      exact ⟨ret_bool (by simp [bare4, hle, hmo]), (Below.refl _ _).alloc (Nat.le_refl _) _⟩
    | true =>
      have gmo : (mo != 0) = false := by simp [bne, hmo]
      cases hwe : we.toList.isEmpty with
      | false =>
        go_enter Tryz.func91, Tryz.ntmps91
        go_wp2
        go_ret
        exact ⟨ret_bool (by simp [bare4, hle, hmo, hwe]), (Below.refl _ _).alloc (Nat.le_refl _) _⟩
      | true =>
        cases hn : ((n : Int) == 0) with
        | false =>
          have gn : (0 : Int) < n := by simp at hn; omega
          go_enter Tryz.func91, Tryz.ntmps91
          go_wp2
          go_ret
          exact ⟨ret_bool (by simp [bare4, hle, hmo, hwe, hn]), (Below.refl _ _).alloc (Nat.le_refl _) _⟩
        | true =>
          have gn : ¬ (0 : Int) < n := by simp at hn; omega
          go_enter Tryz.func91, Tryz.ntmps91
          go_wp2
          go_ret
          exact ⟨ret_bool (by simp [bare4, hle, hmo, hwe, hn]), (Below.refl _ _).alloc (Nat.le_refl _) _⟩

end
end Go.Proofs.YtjkkbkdpoebfaaaGreat
