import Derived.Test.YtjkkbkdpoebfaaaGreatV02
import Derived.WideMake
namespace Go.Proofs.YtjkkbkdpoebfaaaGreat
open Go.RowKit Go.Deep

/-- which values fit, by the field's kind -/
def fitsB (kd le mo : Int) (L : List ByteArray) (s : ByteArray) : Bool :=
  if kd = 1 then decB s && inB le mo (decV s) else if kd = 2 then decide (0 < s.size) && hasB L s else if kd = 3 then textB le mo s else if kd = 4 then nameB s else false

theorem fits1 {le mo : Int} {L : List ByteArray} {s : ByteArray} : fitsB 1 le mo L s = (decB s && inB le mo (decV s)) := by simp [fitsB]
theorem fits2 {le mo : Int} {L : List ByteArray} {s : ByteArray} : fitsB 2 le mo L s = (decide (0 < s.size) && hasB L s) := by simp [fitsB]
theorem fits3 {le mo : Int} {L : List ByteArray} {s : ByteArray} : fitsB 3 le mo L s = textB le mo s := by simp [fitsB]
theorem fits4 {le mo : Int} {L : List ByteArray} {s : ByteArray} : fitsB 4 le mo L s = nameB s := by simp [fitsB]
theorem fits0 {kd le mo : Int} {L : List ByteArray} {s : ByteArray} (h1 : kd ≠ 1) (h2 : kd ≠ 2) (h3 : kd ≠ 3) (h4 : kd ≠ 4) : fitsB kd le mo L s = false := by simp [fitsB, h1, h2, h3, h4]

theorem decV_nonneg {s : ByteArray} (h : decB s = true) : 0 ≤ decV s := by
  have h3 : allB digit s = true := by unfold decB at h; simp at h; exact h.2
  have := valOf_take_pow s s.size (Nat.le_refl _) (by rw [List.take_of_length_le (by simp)]; exact h3)
  rw [decV_take (Nat.le_refl _)] at this
  exact this.1

theorem wrap64_byte (c : UInt8) : wrap64 (c.toNat : Int) = c.toNat := by
  have := c.toNat_lt
  unfold wrap64
  omega
theorem textB_bad {lo hi : Int} {s : ByteArray} (h : allB textByte s = false) : textB lo hi s = false := by unfold textB; simp [h]

section
variable (nm to df we : ByteArray) (le mo ro : Int) (mu fx : Bool) (wv : Value) (L : List ByteArray) (s : ByteArray) (w : World)

set_option maxHeartbeats 1000000 in
theorem specFits1 (hv : StrsAt w wv L) (hs : s.size ≤ maxLen) :
    Calls Tryz.prog 59 #[.agg #[.string nm, .int .i64 1, .int .i64 le, .int .i64 mo, wv, .string to, .int .i64 ro, .bool mu, .bool fx, .string df, .string we], .string s] w
      fun e w' => e = .returned (.bool (fitsB 1 le mo L s)) ∧ Below w.heap.size w w' := by
  obtain ⟨a, n, cap, rfl⟩ := hv.form
  clear hv
  have HW : ∀ o, Hid (Below w.heap.size w (w.alloc o)) := fun o => (Below.refl _ _).alloc (Nat.le_refl _) _
  rw [fits1]
  have hnum := fun u => l1Number_any s u hs
  by_cases hd : decB s = true
  · have h0 := decV_nonneg hd
    have HN := hide (numV_yes hd)
    go_enter Tryz.func59, Tryz.ntmps59
    go_wp2_with fail
    refine (hnum _).mono ?_
    rintro e w1 ⟨rfl, rfl⟩
    rw [HN.out]
    go_wp2_with fail
    refine (in_any _ _ _ _).mono ?_
    rintro e w1 ⟨rfl, rfl⟩
    go_wp2
    go_ret
    exact ⟨ret_bool (by rw [hd]; rfl), (HW _).out⟩
  · have hd' : decB s = false := by simpa using hd
    have HN := hide (numV_no hd')
    go_enter Tryz.func59, Tryz.ntmps59
    go_wp2_with fail
    refine (hnum _).mono ?_
    rintro e w1 ⟨rfl, rfl⟩
    rw [HN.out]
    go_wp2
    go_ret
    exact ⟨ret_bool (by rw [hd']; rfl), (HW _).out⟩

set_option maxHeartbeats 1000000 in
theorem specFits2 (hv : StrsAt w wv L) (_hs : s.size ≤ maxLen) :
    Calls Tryz.prog 59 #[.agg #[.string nm, .int .i64 2, .int .i64 le, .int .i64 mo, wv, .string to, .int .i64 ro, .bool mu, .bool fx, .string df, .string we], .string s] w
      fun e w' => e = .returned (.bool (fitsB 2 le mo L s)) ∧ Below w.heap.size w w' := by
  have HV := hide hv
  obtain ⟨a, n, cap, rfl⟩ := hv.form
  clear hv
  have HW : ∀ o, Hid (Below w.heap.size w (w.alloc o)) := fun o => (Below.refl _ _).alloc (Nat.le_refl _) _
  rw [fits2]
  by_cases hb0 : 0 < s.size
  · have he := empty_no hb0
    go_enter Tryz.func59, Tryz.ntmps59
    go_wp2_with fail
    refine (l1Has_any _ L _ _ (HV.out.below (HW _).out)).mono ?_
    rintro e w1 ⟨rfl, rfl⟩
    go_wp2
    go_ret
    exact ⟨ret_bool (by simp [hb0]), (HW _).out⟩
  · have he := empty_yes (s := s) (by omega)
    go_enter Tryz.func59, Tryz.ntmps59
    go_wp2
    go_ret
    exact ⟨ret_bool (by simp [hb0]), (HW _).out⟩

set_option maxHeartbeats 1000000 in
theorem specFits3 (hv : StrsAt w wv L) (hs : s.size ≤ maxLen) :
    Calls Tryz.prog 59 #[.agg #[.string nm, .int .i64 3, .int .i64 le, .int .i64 mo, wv, .string to, .int .i64 ro, .bool mu, .bool fx, .string df, .string we], .string s] w
      fun e w' => e = .returned (.bool (fitsB 3 le mo L s)) ∧ Below w.heap.size w w' := by
  obtain ⟨a, n, cap, rfl⟩ := hv.form
  clear hv
  have HW : ∀ o, Hid (Below w.heap.size w (w.alloc o)) := fun o => (Below.refl _ _).alloc (Nat.le_refl _) _
  rw [fits3]
  unfold maxLen at hs
  go_enter Tryz.func59, Tryz.ntmps59
  go_wp2_with fail
  go_loop [6] (fun i => ∃ k : Nat, k ≤ s.size ∧ i = .int .i64 k ∧ (s.data.toList.take k).all textByte = true) (fun i => s.size - (intOf i).toNat)
  case atStart => exact ⟨0, Nat.zero_le _, rfl, rfl⟩
  case round =>
    obtain ⟨k, hk, rfl, hall⟩ := hrel
    have HA : Hid ((s.data.toList.take k).all textByte = true) := hall
    clear hall
    by_cases hlt : k < s.size
    · have HS : Hid (textByte s[k] = true ↔ (33 ≤ (s[k].toNat : Int) ∧ (s[k].toNat : Int) ≤ 126)) := textByte_iff s[k]
      go_wp2_with fail
      simp only [wrap64_byte]
      refine (in_any _ _ _ _).mono ?_
      rintro e w1 ⟨rfl, rfl⟩
      by_cases hin : inB 33 126 (s[k].toNat : Int) = true
      · go_wp2
        go_round
        case rel => exact ⟨k + 1, by omega, by go_num, all_step HA.out hlt (HS.out.2 (by unfold inB at hin; simpa using hin))⟩
        case measure => simp [intOf]; omega
      · have hin' : inB 33 126 (s[k].toNat : Int) = false := by simpa using hin
        go_wp2
        go_ret
        exact ⟨ret_bool (textB_bad (all_stop hlt (Bool.eq_false_iff.2 fun h => by have := HS.out.1 h; unfold inB at hin; simp at hin; omega))).symm, (HW _).out⟩
    · have HE : Hid (allB textByte s = true) := all_end HA.out (by omega)
      by_cases hb0 : 0 < s.size
      · have he := empty_no hb0
        go_wp2_with fail
        refine (in_any _ _ _ _).mono ?_
        rintro e w1 ⟨rfl, rfl⟩
        go_wp2
        go_ret
        exact ⟨ret_bool (by unfold textB; rw [HE.out]; simp [hb0]), (HW _).out⟩
      · have he := empty_yes (s := s) (by omega)
        go_wp2
        go_ret
        exact ⟨ret_bool (textB_size (by omega)).symm, (HW _).out⟩

set_option maxHeartbeats 1000000 in
theorem specFits4 (hv : StrsAt w wv L) (hs : s.size ≤ maxLen) :
    Calls Tryz.prog 59 #[.agg #[.string nm, .int .i64 4, .int .i64 le, .int .i64 mo, wv, .string to, .int .i64 ro, .bool mu, .bool fx, .string df, .string we], .string s] w
      fun e w' => e = .returned (.bool (fitsB 4 le mo L s)) ∧ Below w.heap.size w w' := by
  obtain ⟨a, n, cap, rfl⟩ := hv.form
  clear hv
  have HW : ∀ o, Hid (Below w.heap.size w (w.alloc o)) := fun o => (Below.refl _ _).alloc (Nat.le_refl _) _
  rw [fits4]
  go_enter Tryz.func59, Tryz.ntmps59
  go_wp2_with fail
  refine (nameOk_any _ _ hs).mono ?_
  rintro e w1 ⟨rfl, rfl⟩
  go_wp2
  go_ret
  exact ⟨rfl, (HW _).out⟩

set_option maxHeartbeats 1000000 in
theorem specFits0 (kd : Int) (hv : StrsAt w wv L) (h1 : kd ≠ 1) (h2 : kd ≠ 2) (h3 : kd ≠ 3) (h4 : kd ≠ 4) :
    Calls Tryz.prog 59 #[.agg #[.string nm, .int .i64 kd, .int .i64 le, .int .i64 mo, wv, .string to, .int .i64 ro, .bool mu, .bool fx, .string df, .string we], .string s] w
      fun e w' => e = .returned (.bool (fitsB kd le mo L s)) ∧ Below w.heap.size w w' := by
  obtain ⟨a, n, cap, rfl⟩ := hv.form
  clear hv
  have HW : ∀ o, Hid (Below w.heap.size w (w.alloc o)) := fun o => (Below.refl _ _).alloc (Nat.le_refl _) _
  rw [fits0 h1 h2 h3 h4]
  have b1 : (kd == 1) = false := beq_eq_false_iff_ne.2 h1
  have b2 : (kd == 2) = false := beq_eq_false_iff_ne.2 h2
  have b3 : (kd == 3) = false := beq_eq_false_iff_ne.2 h3
  have b4 : (kd == 4) = false := beq_eq_false_iff_ne.2 h4
  clear h1 h2 h3 h4
  go_enter Tryz.func59, Tryz.ntmps59
  go_wp2
  go_ret
  exact ⟨rfl, (HW _).out⟩
end
end Go.Proofs.YtjkkbkdpoebfaaaGreat
namespace Go.Proofs.YtjkkbkdpoebfaaaGreat
open Go.RowKit Go.Deep

theorem push_set {α : Type} (a : Array α) (x y : α) : (a.push x).setIfInBounds a.size y = a.push y := by
  apply Array.ext'
  simp

theorem upd_new (u : World) (es : Array MapEntry) (c : Nat) (k : Int) (v : Value) (hf : Instr.findNow (.int .i64) (.int .i64 k) es.toList 0 = some none) :
    (Instr.mapUpdate 65 (.map (some u.heap.size)) (.int .i64 k) v).run Tryz.prog (u.alloc (.map es c)) = .ok () (u.alloc (.map (es.push { key := .int .i64 k, val := v, born := c }) (c + 1))) := by
  have hb : (u.alloc (.map es c)).heap[u.heap.size]? = some (.map es c) := (MapKept.heap_alloc u _).1
  have hc : (Instr.checkKey false 10000 3 (.int .i64 k)).run Tryz.prog (u.alloc (.map es c)) = .ok () (u.alloc (.map es c)) := MapKept.run_checkKey (k := .int .i64 k) Tryz.underlying3 (by simp [MapKept.IsKey]) false 9999
  simp [Instr.mapUpdate, run_underlying Tryz.underlying65, MapKept.run_getObj_map hb, hc, MapKept.run_findKey Tryz.underlying3 hf, MapKept.run_setObj_map _ hb, Result.andThen]
  show ({ u with heap := (u.heap.push (.map es c)).setIfInBounds u.heap.size (.map (es.push { key := .int .i64 k, val := v, born := c }) (c + 1)) } : World) = _
  rw [push_set]
  rfl

def makerEntries : Array MapEntry := #[⟨.int .i64 1, .func (.func 65) #[] #[], 0⟩, ⟨.int .i64 2, .func (.func 66) #[] #[], 1⟩, ⟨.int .i64 3, .func (.func 67) #[] #[], 2⟩, ⟨.int .i64 4, .func (.func 68) #[] #[], 3⟩]

set_option maxHeartbeats 400000 in
theorem makers_any (w : World) :
    Calls Tryz.prog 39 #[] w fun e w' => e = .returned (.map (some w.heap.size)) ∧ w' = w.alloc (.map makerEntries 4) := by
  have hmm := @run_makeMap Tryz.prog
  have h1 := upd_new w #[] 0 1 (.func (.func 65) #[] #[]) rfl
  have h2 := upd_new w #[⟨.int .i64 1, .func (.func 65) #[] #[], 0⟩] 1 2 (.func (.func 66) #[] #[]) rfl
  have h3 := upd_new w #[⟨.int .i64 1, .func (.func 65) #[] #[], 0⟩, ⟨.int .i64 2, .func (.func 66) #[] #[], 1⟩] 2 3 (.func (.func 67) #[] #[]) rfl
  have h4 := upd_new w #[⟨.int .i64 1, .func (.func 65) #[] #[], 0⟩, ⟨.int .i64 2, .func (.func 66) #[] #[], 1⟩, ⟨.int .i64 3, .func (.func 67) #[] #[], 2⟩] 3 4 (.func (.func 68) #[] #[]) rfl
  go_enter Tryz.func39, Tryz.ntmps39
  go_wp2
  go_ret
  exact ⟨rfl, rfl⟩

theorem look_of (W : World) (r : Nat) (k : Int) (a : Option (Nat × Value)) (hb : W.heap[r]? = some (.map makerEntries 4)) (hf : Instr.findNow (.int .i64) (.int .i64 k) makerEntries.toList 0 = some a) :
    (Instr.lookup 65 (.map (some r)) (.int .i64 k) true).run Tryz.prog W = .ok (.tuple (match a with | some (_, v) => #[v, .bool true] | none => #[.nilFunc, .bool false])) W := by
  have hc : (Instr.checkKey makerEntries.isEmpty 10000 3 (.int .i64 k)).run Tryz.prog W = .ok () W := MapKept.run_checkKey (k := .int .i64 k) Tryz.underlying3 (by simp [MapKept.IsKey]) _ 9999
  have hz : (zeroValue 103).run Tryz.prog W = .ok .nilFunc W := by kernel_rfl
  rcases a with _ | ⟨i, v⟩ <;>
  simp [Instr.lookup, run_underlying Tryz.underlying65, MapKept.run_getObj_map hb, hc, MapKept.run_findKey Tryz.underlying3 hf, Result.andThen, hz]

theorem find1 : Instr.findNow (.int .i64) (.int .i64 1) makerEntries.toList 0 = some (some (0, .func (.func 65) #[] #[])) := by kernel_rfl
theorem find2 : Instr.findNow (.int .i64) (.int .i64 2) makerEntries.toList 0 = some (some (1, .func (.func 66) #[] #[])) := by kernel_rfl
theorem find3 : Instr.findNow (.int .i64) (.int .i64 3) makerEntries.toList 0 = some (some (2, .func (.func 67) #[] #[])) := by kernel_rfl
theorem find4 : Instr.findNow (.int .i64) (.int .i64 4) makerEntries.toList 0 = some (some (3, .func (.func 68) #[] #[])) := by kernel_rfl
theorem find0 {k : Int} (h1 : k ≠ 1) (h2 : k ≠ 2) (h3 : k ≠ 3) (h4 : k ≠ 4) : Instr.findNow (.int .i64) (.int .i64 k) makerEntries.toList 0 = some none := by
  simp [makerEntries, Instr.findNow, Instr.sameNow, beq_eq_false_iff_ne.2 h1, beq_eq_false_iff_ne.2 h2, beq_eq_false_iff_ne.2 h3, beq_eq_false_iff_ne.2 h4]


section
variable (nm to df we : ByteArray) (kd le mo ro : Int) (mu fx : Bool) (a : Option Addr) (n cap : Nat) (s : ByteArray) (w : World)

theorem new49 : Calls Tryz.prog 65 #[.agg #[.string nm, .int .i64 kd, .int .i64 le, .int .i64 mo, .slice a n cap, .string to, .int .i64 ro, .bool mu, .bool fx, .string df, .string we]] w
      fun e w' => e = .returned (.iface 132 (.agg #[.int .i64 le, .int .i64 mo, .string we])) ∧ Below w.heap.size w w' := by
  go_enter Tryz.func65, Tryz.ntmps65
  go_wp2
  go_ret
  exact ⟨rfl, (Below.refl _ _).alloc (Nat.le_refl _) _⟩
theorem new50 : Calls Tryz.prog 66 #[.agg #[.string nm, .int .i64 kd, .int .i64 le, .int .i64 mo, .slice a n cap, .string to, .int .i64 ro, .bool mu, .bool fx, .string df, .string we]] w
      fun e w' => e = .returned (.iface 134 (.agg #[.slice a n cap])) ∧ Below w.heap.size w w' := by
  go_enter Tryz.func66, Tryz.ntmps66
  go_wp2
  go_ret
  exact ⟨rfl, (Below.refl _ _).alloc (Nat.le_refl _) _⟩
theorem new51 : Calls Tryz.prog 67 #[.agg #[.string nm, .int .i64 kd, .int .i64 le, .int .i64 mo, .slice a n cap, .string to, .int .i64 ro, .bool mu, .bool fx, .string df, .string we]] w
      fun e w' => e = .returned (.iface 136 (.agg #[.int .i64 le, .int .i64 mo])) ∧ Below w.heap.size w w' := by
  go_enter Tryz.func67, Tryz.ntmps67
  go_wp2
  go_ret
  exact ⟨rfl, (Below.refl _ _).alloc (Nat.le_refl _) _⟩
theorem new52 : Calls Tryz.prog 68 #[.agg #[.string nm, .int .i64 kd, .int .i64 le, .int .i64 mo, .slice a n cap, .string to, .int .i64 ro, .bool mu, .bool fx, .string df, .string we]] w
      fun e w' => e = .returned (.iface 138 (.agg #[.string to, .int .i64 ro, .bool mu, .string df])) ∧ Below w.heap.size w w' := by
  go_enter Tryz.func68, Tryz.ntmps68
  go_wp2
  go_ret
  exact ⟨rfl, (Below.refl _ _).alloc (Nat.le_refl _) _⟩

set_option maxHeartbeats 1000000 in
theorem numFits (hs : s.size ≤ maxLen) : Calls Tryz.prog 116 #[.agg #[.int .i64 le, .int .i64 mo, .string we], .string s] w
      fun e w' => e = .returned (.bool (decB s && inB le mo (decV s))) ∧ Below w.heap.size w w' := by
  have HW : ∀ o, Hid (Below w.heap.size w (w.alloc o)) := fun o => (Below.refl _ _).alloc (Nat.le_refl _) _
  have hdec := fun u => gateDecimal_any s u hs
  by_cases hd : decB s = true
  · have HR := hide (decR_yes hd)
    rw [inB_eq]
    generalize decV s = v at *
    by_cases h1 : le ≤ v
    · by_cases h2 : v ≤ mo
      all_goals
        go_enter Tryz.func116, Tryz.ntmps116
        go_wp2_with fail
        refine (hdec _).mono ?_
        rintro e w1 ⟨rfl, rfl⟩
        rw [HR.out, hd]
        go_wp2
        go_ret
        exact ⟨ret_bool (by simp [h1, h2, hd]), (HW _).out⟩
    · go_enter Tryz.func116, Tryz.ntmps116
      go_wp2_with fail
      refine (hdec _).mono ?_
      rintro e w1 ⟨rfl, rfl⟩
      rw [HR.out, hd]
      go_wp2
      go_ret
      exact ⟨ret_bool (by rw [Bool.eq_iff_iff]; simp; omega), (HW _).out⟩
  · have hd' : decB s = false := by simpa using hd
    go_enter Tryz.func116, Tryz.ntmps116
    go_wp2_with fail
    refine (hdec _).mono ?_
    rintro e w1 ⟨rfl, rfl⟩
    rw [hd']
    go_wp2
    go_ret
    exact ⟨ret_bool (by simp [hd']), (HW _).out⟩

set_option maxHeartbeats 1000000 in
theorem wordFits (L : List ByteArray) (hv : StrsAt w (.slice a n cap) L) : Calls Tryz.prog 121 #[.agg #[.slice a n cap], .string s] w
      fun e w' => e = .returned (.bool (decide (0 < s.size) && hasB L s)) ∧ Below w.heap.size w w' := by
  have HV := hide hv
  clear hv
  have HW : ∀ o, Hid (Below w.heap.size w (w.alloc o)) := fun o => (Below.refl _ _).alloc (Nat.le_refl _) _
  by_cases hb0 : 0 < s.size
  · have he := empty_no hb0
    go_enter Tryz.func121, Tryz.ntmps121
    go_wp2_with fail
    refine (contains_any _ L _ _ (HV.out.below (HW _).out)).mono ?_
    rintro e w1 ⟨rfl, rfl⟩
    go_wp2
    go_ret
    exact ⟨ret_bool (by simp [hb0]), (HW _).out⟩
  · have he := empty_yes (s := s) (by omega)
    go_enter Tryz.func121, Tryz.ntmps121
    go_wp2
    go_ret
    exact ⟨ret_bool (by simp [hb0]), (HW _).out⟩

set_option maxHeartbeats 1000000 in
theorem linkFits (hs : s.size ≤ maxLen) : Calls Tryz.prog 128 #[.agg #[.string to, .int .i64 ro, .bool mu, .string df], .string s] w
      fun e w' => e = .returned (.bool (nameB s)) ∧ Below w.heap.size w w' := by
  have HW : ∀ o, Hid (Below w.heap.size w (w.alloc o)) := fun o => (Below.refl _ _).alloc (Nat.le_refl _) _
  go_enter Tryz.func128, Tryz.ntmps128
  go_wp2_with fail
  refine (isName_any _ _ hs).mono ?_
  rintro e w1 ⟨rfl, rfl⟩
  go_wp2
  go_ret
  exact ⟨rfl, (HW _).out⟩
end
end Go.Proofs.YtjkkbkdpoebfaaaGreat
