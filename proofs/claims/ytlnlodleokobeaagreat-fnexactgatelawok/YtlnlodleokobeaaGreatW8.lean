import Derived.Test.YtlnlodleokobeaaGreatW7
import Derived.WideMake
namespace Go.Proofs.YtlnlodleokobeaaGreat
open Go.RowKit Go.Deep

theorem push_set {α : Type} (a : Array α) (x y : α) : (a.push x).setIfInBounds a.size y = a.push y := by
  apply Array.ext'
  simp

theorem upd_new (u : World) (es : Array MapEntry) (c : Nat) (k : Int) (v : Value) (hf : Instr.findNow (.int .i64) (.int .i64 k) es.toList 0 = some none) :
    (Instr.mapUpdate 195 (.map (some u.heap.size)) (.int .i64 k) v).run Tryz.prog (u.alloc (.map es c)) = .ok () (u.alloc (.map (es.push { key := .int .i64 k, val := v, born := c }) (c + 1))) := by
  have hb : (u.alloc (.map es c)).heap[u.heap.size]? = some (.map es c) := (MapKept.heap_alloc u _).1
  have hc : (Instr.checkKey false 10000 3 (.int .i64 k)).run Tryz.prog (u.alloc (.map es c)) = .ok () (u.alloc (.map es c)) := MapKept.run_checkKey (k := .int .i64 k) Tryz.underlying3 (by simp [MapKept.IsKey]) false 9999
  simp [Instr.mapUpdate, run_underlying Tryz.underlying195, MapKept.run_getObj_map hb, hc, MapKept.run_findKey Tryz.underlying3 hf, MapKept.run_setObj_map _ hb, Result.andThen]
  show ({ u with heap := (u.heap.push (.map es c)).setIfInBounds u.heap.size (.map (es.push { key := .int .i64 k, val := v, born := c }) (c + 1)) } : World) = _
  rw [push_set]
  rfl

def makerEntries : Array MapEntry := #[⟨.int .i64 1, .func (.func 202) #[] #[], 0⟩, ⟨.int .i64 2, .func (.func 203) #[] #[], 1⟩, ⟨.int .i64 3, .func (.func 204) #[] #[], 2⟩, ⟨.int .i64 4, .func (.func 205) #[] #[], 3⟩]

set_option maxHeartbeats 400000 in
theorem makers_any (w : World) :
    Calls Tryz.prog 151 #[] w fun e w' => e = .returned (.map (some w.heap.size)) ∧ w' = w.alloc (.map makerEntries 4) := by
  have hmm := @run_makeMap Tryz.prog
  have h1 := upd_new w #[] 0 1 (.func (.func 202) #[] #[]) rfl
  have h2 := upd_new w #[⟨.int .i64 1, .func (.func 202) #[] #[], 0⟩] 1 2 (.func (.func 203) #[] #[]) rfl
  have h3 := upd_new w #[⟨.int .i64 1, .func (.func 202) #[] #[], 0⟩, ⟨.int .i64 2, .func (.func 203) #[] #[], 1⟩] 2 3 (.func (.func 204) #[] #[]) rfl
  have h4 := upd_new w #[⟨.int .i64 1, .func (.func 202) #[] #[], 0⟩, ⟨.int .i64 2, .func (.func 203) #[] #[], 1⟩, ⟨.int .i64 3, .func (.func 204) #[] #[], 2⟩] 3 4 (.func (.func 205) #[] #[]) rfl
  go_enter Tryz.func151, Tryz.ntmps151
  go_wp2
  go_ret
  exact ⟨rfl, rfl⟩

theorem look_of (W : World) (r : Nat) (k : Int) (a : Option (Nat × Value)) (hb : W.heap[r]? = some (.map makerEntries 4)) (hf : Instr.findNow (.int .i64) (.int .i64 k) makerEntries.toList 0 = some a) :
    (Instr.lookup 195 (.map (some r)) (.int .i64 k) true).run Tryz.prog W = .ok (.tuple (match a with | some (_, v) => #[v, .bool true] | none => #[.nilFunc, .bool false])) W := by
  have hc : (Instr.checkKey makerEntries.isEmpty 10000 3 (.int .i64 k)).run Tryz.prog W = .ok () W := MapKept.run_checkKey (k := .int .i64 k) Tryz.underlying3 (by simp [MapKept.IsKey]) _ 9999
  have hz : (zeroValue 248).run Tryz.prog W = .ok .nilFunc W := by kernel_rfl
  rcases a with _ | ⟨i, v⟩ <;>
  simp [Instr.lookup, run_underlying Tryz.underlying195, MapKept.run_getObj_map hb, hc, MapKept.run_findKey Tryz.underlying3 hf, Result.andThen, hz]

theorem find1 : Instr.findNow (.int .i64) (.int .i64 1) makerEntries.toList 0 = some (some (0, .func (.func 202) #[] #[])) := by kernel_rfl
theorem find2 : Instr.findNow (.int .i64) (.int .i64 2) makerEntries.toList 0 = some (some (1, .func (.func 203) #[] #[])) := by kernel_rfl
theorem find3 : Instr.findNow (.int .i64) (.int .i64 3) makerEntries.toList 0 = some (some (2, .func (.func 204) #[] #[])) := by kernel_rfl
theorem find4 : Instr.findNow (.int .i64) (.int .i64 4) makerEntries.toList 0 = some (some (3, .func (.func 205) #[] #[])) := by kernel_rfl
theorem find0 {k : Int} (h1 : k ≠ 1) (h2 : k ≠ 2) (h3 : k ≠ 3) (h4 : k ≠ 4) : Instr.findNow (.int .i64) (.int .i64 k) makerEntries.toList 0 = some none := by
  simp [makerEntries, Instr.findNow, Instr.sameNow, beq_eq_false_iff_ne.2 h1, beq_eq_false_iff_ne.2 h2, beq_eq_false_iff_ne.2 h3, beq_eq_false_iff_ne.2 h4]


section
variable (nm to df we : ByteArray) (kd le mo ro : Int) (mu fx : Bool) (a : Option Addr) (n cap : Nat) (s : ByteArray) (w : World)

theorem new49 : Calls Tryz.prog 202 #[.agg #[.string nm, .int .i64 kd, .int .i64 le, .int .i64 mo, .slice a n cap, .string to, .int .i64 ro, .bool mu, .bool fx, .string df, .string we]] w
      fun e w' => e = .returned (.iface 282 (.agg #[.int .i64 le, .int .i64 mo, .string we])) ∧ Below w.heap.size w w' := by
  go_enter Tryz.func202, Tryz.ntmps202
  go_wp2
  go_ret
  exact ⟨rfl, (Below.refl _ _).alloc (Nat.le_refl _) _⟩
theorem new50 : Calls Tryz.prog 203 #[.agg #[.string nm, .int .i64 kd, .int .i64 le, .int .i64 mo, .slice a n cap, .string to, .int .i64 ro, .bool mu, .bool fx, .string df, .string we]] w
      fun e w' => e = .returned (.iface 284 (.agg #[.slice a n cap])) ∧ Below w.heap.size w w' := by
  go_enter Tryz.func203, Tryz.ntmps203
  go_wp2
  go_ret
  exact ⟨rfl, (Below.refl _ _).alloc (Nat.le_refl _) _⟩
theorem new51 : Calls Tryz.prog 204 #[.agg #[.string nm, .int .i64 kd, .int .i64 le, .int .i64 mo, .slice a n cap, .string to, .int .i64 ro, .bool mu, .bool fx, .string df, .string we]] w
      fun e w' => e = .returned (.iface 286 (.agg #[.int .i64 le, .int .i64 mo])) ∧ Below w.heap.size w w' := by
  go_enter Tryz.func204, Tryz.ntmps204
  go_wp2
  go_ret
  exact ⟨rfl, (Below.refl _ _).alloc (Nat.le_refl _) _⟩
theorem new52 : Calls Tryz.prog 205 #[.agg #[.string nm, .int .i64 kd, .int .i64 le, .int .i64 mo, .slice a n cap, .string to, .int .i64 ro, .bool mu, .bool fx, .string df, .string we]] w
      fun e w' => e = .returned (.iface 288 (.agg #[.string to, .int .i64 ro, .bool mu, .string df])) ∧ Below w.heap.size w w' := by
  go_enter Tryz.func205, Tryz.ntmps205
  go_wp2
  go_ret
  exact ⟨rfl, (Below.refl _ _).alloc (Nat.le_refl _) _⟩

set_option maxHeartbeats 1000000 in
theorem numFits (hs : s.size ≤ maxLen) : Calls Tryz.prog 276 #[.agg #[.int .i64 le, .int .i64 mo, .string we], .string s] w
      fun e w' => e = .returned (.bool (decB s && inB le mo (decV s))) ∧ Below w.heap.size w w' := by
  have HW : ∀ o, Hid (Below w.heap.size w (w.alloc o)) := fun o => (Below.refl _ _).alloc (Nat.le_refl _) _
  have hdec := fun u => gateDecimal_any s u hs
  by_cases hd : decB s = true
  · have HR := hide (decR_yes hd)
    rw [inB_eq]
    generalize decV s = v at *
    by_cases h1 : le ≤ v
    · by_cases h2 : v ≤ mo
      all_goals
        go_enter Tryz.func276, Tryz.ntmps276
        go_wp2_with fail
        refine (hdec _).mono ?_
        rintro e w1 ⟨rfl, rfl⟩
        rw [HR.out, hd]
        go_wp2
        go_ret
        exact ⟨ret_bool (by simp [h1, h2, hd]), (HW _).out⟩
    · go_enter Tryz.func276, Tryz.ntmps276
      go_wp2_with fail
      refine (hdec _).mono ?_
      rintro e w1 ⟨rfl, rfl⟩
      rw [HR.out, hd]
      go_wp2
      go_ret
      exact ⟨ret_bool (by rw [Bool.eq_iff_iff]; simp; omega), (HW _).out⟩
  · have hd' : decB s = false := by simpa using hd
    go_enter Tryz.func276, Tryz.ntmps276
    go_wp2_with fail
    refine (hdec _).mono ?_
    rintro e w1 ⟨rfl, rfl⟩
    rw [hd']
    go_wp2
    go_ret
    exact ⟨ret_bool (by simp [hd']), (HW _).out⟩

set_option maxHeartbeats 1000000 in
theorem wordFits (L : List ByteArray) (hv : StrsAt w (.slice a n cap) L) : Calls Tryz.prog 279 #[.agg #[.slice a n cap], .string s] w
      fun e w' => e = .returned (.bool (decide (0 < s.size) && hasB L s)) ∧ Below w.heap.size w w' := by
  have HV := hide hv
  clear hv
  have HW : ∀ o, Hid (Below w.heap.size w (w.alloc o)) := fun o => (Below.refl _ _).alloc (Nat.le_refl _) _
  by_cases hb0 : 0 < s.size
  · have he := empty_no hb0
    go_enter Tryz.func279, Tryz.ntmps279
    go_wp2_with fail
    refine (contains_any _ L _ _ (HV.out.below (HW _).out)).mono ?_
    rintro e w1 ⟨rfl, rfl⟩
    go_wp2
    go_ret
    exact ⟨ret_bool (by simp [hb0]), (HW _).out⟩
  · have he := empty_yes (s := s) (by omega)
    go_enter Tryz.func279, Tryz.ntmps279
    go_wp2
    go_ret
    exact ⟨ret_bool (by simp [hb0]), (HW _).out⟩

set_option maxHeartbeats 1000000 in
theorem linkFits (hs : s.size ≤ maxLen) : Calls Tryz.prog 285 #[.agg #[.string to, .int .i64 ro, .bool mu, .string df], .string s] w
      fun e w' => e = .returned (.bool (nameB s)) ∧ Below w.heap.size w w' := by
  have HW : ∀ o, Hid (Below w.heap.size w (w.alloc o)) := fun o => (Below.refl _ _).alloc (Nat.le_refl _) _
  go_enter Tryz.func285, Tryz.ntmps285
  go_wp2_with fail
  refine (isName_any _ _ hs).mono ?_
  rintro e w1 ⟨rfl, rfl⟩
  go_wp2
  go_ret
  exact ⟨rfl, (HW _).out⟩
end
end Go.Proofs.YtlnlodleokobeaaGreat

