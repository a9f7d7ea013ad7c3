import Derived.Test.YtjkkbkdpoebfaaaGreatV16
namespace Go.Proofs.YtjkkbkdpoebfaaaGreat
open Go.RowKit Go.Deep

theorem FdsAt.take {lo : Nat} {w : World} {b off cap k : Nat} {Fs : List Fd} (hk : k ≤ Fs.length) (hm : Fs.length ≤ maxLen) (hb : b < w.heap.size) (hlo : lo ≤ b) (hcap : Fs.length ≤ cap)
    (hc : ∀ i (h : i < Fs.length), FdSize Fs[i] ∧ ∃ wv, FdCells w b (off + i * 11) Fs[i] wv ∧ StrsIn lo w wv Fs[i].words) : FdsAt lo w (.slice (some ⟨b, off, none⟩) k cap) (Fs.take k) := by
  have hl : (Fs.take k).length = k := by rw [List.length_take]; omega
  by_cases h0 : k = 0
  · subst h0; exact Or.inl ⟨_, _, rfl, by simp⟩
  · refine Or.inr ⟨b, off, cap, by rw [hl], ?_, by omega, hb, hlo, by omega, fun i hi => ?_⟩
    · intro e; rw [e] at hl; simp at hl; omega
    · rw [List.getElem_take]
      exact hc i (by omega)

section
variable (nm to df we : ByteArray) (kd le mo ro : Int) (mu fx : Bool) (wv : Value) (w : World)

set_option maxHeartbeats 400000 in
theorem clos_any (s : ByteArray) (B : Nat) (hB : B < w.heap.size) (hs : w.cell? ⟨B, 0, none⟩ = some (.string s)) :
    Calls Tryz.prog 95 #[.agg #[.string nm, .int .i64 kd, .int .i64 le, .int .i64 mo, wv, .string to, .int .i64 ro, .bool mu, .bool fx, .string df, .string we], .pointer (some ⟨B, 0, none⟩)] w
      fun e w' => e = .returned (.bool (nm.toList == s.toList)) ∧ Below w.heap.size w w' := by
  go_enter Tryz.func95, Tryz.ntmps95
  go_wp2
  go_ret
  exact ⟨rfl, (Below.refl _ _).alloc (Nat.le_refl _) _⟩
end

theorem dup_end {Fs : List Fd} {s : ByteArray} (h : ∀ j (hj : j < Fs.length), (Fs[j].nm.toList == s.toList) = false) : dupB Fs s = false := by
  have := dup_none (Fs := Fs) (s := s) (k := Fs.length) (fun j hj _ => h j hj)
  rwa [List.take_of_length_le (Nat.le_refl _)] at this
theorem dup_hit {Fs : List Fd} {s : ByteArray} {j : Nat} (hj : j < Fs.length) (h : (Fs[j].nm.toList == s.toList) = true) : dupB Fs s = true := by
  have := dup_stop (Fs := Fs) (s := s) (k := Fs.length) hj hj h
  rwa [List.take_of_length_le (Nat.le_refl _)] at this

set_option maxHeartbeats 1000000 in
theorem indexFunc_any (lo : Nat) (v : Value) (Fs : List Fd) (s : ByteArray) (B : Nat) (w : World) (hv : FdsAt lo w v Fs) (hB : B < w.heap.size) (hs : w.cell? ⟨B, 0, none⟩ = some (.string s)) :
    Calls Tryz.prog 79 #[v, .func (.func 95) #[] #[.pointer (some ⟨B, 0, none⟩)]] w fun e w' => ∃ r : Int, e = .returned (.int .i64 r) ∧ Below w.heap.size w w' ∧ decide (0 ≤ r) = dupB Fs s := by
  by_cases hL : Fs = []
  · subst hL
    obtain ⟨a, cap, rfl⟩ := nil_form hv
    clear hv
    go_enter Tryz.func79, Tryz.ntmps79
    go_wp2
    go_loop [8] (fun i => i = .int .i64 0) (fun _ => 0)
    case atStart => rfl
    case round =>
      subst hrel
      go_wp2
      go_ret
      exact ⟨-1, rfl, Below.refl _ _, rfl⟩
  · obtain ⟨b, off, cap, rfl, hm, hbw, _, hc⟩ := hv.full hL
    clear hv
    unfold maxLen at hm
    go_enter Tryz.func79, Tryz.ntmps79
    go_wp2
    go_loopw [8] (fun i wr => ∃ k : Nat, i = .int .i64 k ∧ k ≤ Fs.length ∧ Below w.heap.size w wr ∧ ∀ j (hj : j < Fs.length), j < k → (Fs[j].nm.toList == s.toList) = false) (fun i _ => Fs.length - (intOf i).toNat)
    case atStart => exact ⟨0, rfl, by omega, Below.refl _ _, fun j _ h => by omega⟩
    case round =>
      obtain ⟨k, rfl, hk, hb, hall⟩ := hrel
      have HA := hide hall
      have HB := hide hb
      clear hall hb
      by_cases hlt : k < Fs.length
      · obtain ⟨_, wv, hcell, _⟩ := hc k hlt
        obtain ⟨c0, c1, c2, c3, c4, c5, c6, c7, c8, c9, c10⟩ := hcell.below HB.out hbw
        clear hcell
        go_wp2_with fail
        refine (clos_any _ _ _ _ _ _ _ _ _ _ _ _ s B (Nat.lt_of_lt_of_le hB HB.out.size) (by rw [HB.out.cell (p := ⟨B, 0, none⟩) hB]; exact hs)).mono ?_
        rintro e w1 ⟨rfl, hb1⟩
        have HB1 : Hid (Below w.heap.size w w1) := HB.out.trans (hb1.mono HB.out.size)
        clear hb1 c0 c1 c2 c3 c4 c5 c6 c7 c8 c9 c10
        cases he : (Fs[k].nm.toList == s.toList) with
        | true =>
          go_wp2
          go_ret
          exact ⟨k, rfl, HB1.out, by rw [dup_hit hlt he]; simp⟩
        | false =>
          go_wp2
          go_roundw
          case rel => exact ⟨k + 1, by go_num, by omega, HB1.out, fun j hj h => by
                        by_cases e : j = k
                        · subst e; exact he
                        · exact HA.out j hj (by omega)⟩
          case measure => simp [intOf]; omega
      · go_wp2
        go_ret
        exact ⟨-1, rfl, HB.out, by rw [dup_end fun j hj => HA.out j hj (by omega)]; rfl⟩

set_option maxHeartbeats 400000 in
theorem containsFunc_any (lo : Nat) (v : Value) (Fs : List Fd) (s : ByteArray) (B : Nat) (w : World) (hv : FdsAt lo w v Fs) (hB : B < w.heap.size) (hs : w.cell? ⟨B, 0, none⟩ = some (.string s)) :
    Calls Tryz.prog 94 #[v, .func (.func 95) #[] #[.pointer (some ⟨B, 0, none⟩)]] w fun e w' => e = .returned (.bool (dupB Fs s)) ∧ Below w.heap.size w w' := by
  go_enter Tryz.func94, Tryz.ntmps94
  go_wp2_with fail
  refine (indexFunc_any lo v Fs s B _ hv hB hs).mono ?_
  rintro e w1 ⟨r, rfl, hb, hr⟩
  have HR := hide hr
  have HB := hide hb
  clear hr hb
  go_wp2
  go_ret
  exact ⟨ret_bool HR.out, HB.out⟩

set_option maxHeartbeats 400000 in
theorem hasField_any (lo : Nat) (v : Value) (Fs : List Fd) (s : ByteArray) (w : World) (hv : FdsAt lo w v Fs) :
    Calls Tryz.prog 70 #[v, .string s] w fun e w' => e = .returned (.bool (dupB Fs s)) ∧ Below w.heap.size w w' := by
  have HV := hide hv
  obtain ⟨a, cap, rfl⟩ := hv.form
  clear hv
  have HW : ∀ o, Hid (Below w.heap.size w (w.alloc o)) := fun o => (Below.refl _ _).alloc (Nat.le_refl _) _
  go_enter Tryz.func70, Tryz.ntmps70
  go_wp2_with fail
  refine (containsFunc_any lo _ Fs s _ _ (HV.out.below (HW _).out) (by simp) (by simp)).mono ?_
  rintro e w1 ⟨rfl, hb⟩
  have HB : Hid (Below w.heap.size w w1) := (HW _).out.trans (hb.mono (by simp))
  clear hb
  go_wp2
  go_ret
  exact ⟨rfl, HB.out⟩
end Go.Proofs.YtjkkbkdpoebfaaaGreat
