import Derived.Test.YtoklnkojacdciaaG49
namespace Go.Proofs.Ytoklnkojacdciaa
open Go.RowKit Go.Deep

/-! what is fixed, each text at its place -/
structure RwAt (w : World) (ρ : Nat) (T : Nat → Option ByteArray) : Prop where
  lt : ρ < w.heap.size
  tx : ∀ i, i ≤ 120 → w.cell? ⟨ρ, i, none⟩ = some (.string ((T i).getD ⟨#[]⟩))
  st : ∀ i, i ≤ 120 → w.cell? ⟨ρ, 121 + i, none⟩ = some (.bool (T i).isSome)
  fz : ∀ j, w.frozen? ⟨ρ, j, none⟩ = false
theorem RwAt.below {w w' : World} {ρ m : Nat} {T : Nat → Option ByteArray} (h : RwAt w ρ T) (hb : Below m w w') (hl : ρ < m) : RwAt w' ρ T :=
  ⟨Nat.lt_of_lt_of_le h.lt hb.size, fun i hi => by rw [hb.cell (p := ⟨ρ, i, none⟩) hl]; exact h.tx i hi, fun i hi => by rw [hb.cell (p := ⟨ρ, 121 + i, none⟩) hl]; exact h.st i hi, fun j => by rw [hb.frozen (p := ⟨ρ, j, none⟩) hl]; exact h.fz j⟩
theorem RwAt.to {w : World} {ρ : Nat} {T T' : Nat → Option ByteArray} (h : RwAt w ρ T) (e : ∀ i, i ≤ 120 → T i = T' i) : RwAt w ρ T' :=
  ⟨h.lt, fun i hi => by rw [← e i hi]; exact h.tx i hi, fun i hi => by rw [← e i hi]; exact h.st i hi, h.fz⟩
theorem RwAt.put {w : World} {ρ p : Nat} {T : Nat → Option ByteArray} {t : ByteArray} (h : RwAt w ρ T) (hp : p ≤ 120) : RwAt ((w.setCell ⟨ρ, p, none⟩ (.string t)).setCell ⟨ρ, 121 + p, none⟩ (.bool true)) ρ (fun i => if i = p then some t else T i) := by
  have c0 : (w.setCell ⟨ρ, p, none⟩ (.string t)).cell? ⟨ρ, 121 + p, none⟩ = some (.bool (T p).isSome) := by rw [cell_set_ne0 _ _ _ _ _ (by omega)]; exact h.st p hp
  refine ⟨by simpa [World.setCell] using h.lt, fun i hi => ?_, fun i hi => ?_, fun j => by rw [World.frozen?_setCell, World.frozen?_setCell]; exact h.fz j⟩
  · rw [cell_set_ne0 _ _ _ _ _ (by omega)]
    by_cases e : i = p
    · subst e
      rw [if_pos rfl, World.cell?_setCell_same _ _ _ (h.tx i hi)]; rfl
    · rw [if_neg e, cell_set_ne0 _ _ _ _ _ (by omega)]; exact h.tx i hi
  · by_cases e : i = p
    · subst e
      rw [if_pos rfl, World.cell?_setCell_same _ _ _ c0]; rfl
    · rw [if_neg e, cell_set_ne0 _ _ _ _ _ (by omega), cell_set_ne0 _ _ _ _ _ (by omega)]; exact h.st i hi
def rz0 (z : Array Value) (i : Nat) : Bool := (match z[i]? with | some (.string s) => s.size == 0 | _ => false) && (match z[121 + i]? with | some (.bool b) => !b | _ => false)
set_option maxRecDepth 100000 in
theorem rz_all : (List.range 121).all (rz0 Try.zeroCells119) = true := by kernel_rfl
set_option maxRecDepth 100000 in
theorem RwAt.new (w : World) : RwAt (w.alloc (.cells Try.zeroCells119 119)) w.heap.size (fun _ => none) := by
  have hz : ∀ i, i ≤ 120 → Try.zeroCells119[i]? = some (.string ⟨#[]⟩) ∧ Try.zeroCells119[121 + i]? = some (.bool false) := fun i hi => by
    have h := List.all_eq_true.1 rz_all i (List.mem_range.2 (by omega))
    unfold rz0 at h
    rw [Bool.and_eq_true] at h
    obtain ⟨h1, h2⟩ := h
    constructor
    · split at h1
      · rename_i s e
        rw [e]
        congr 2
        have : s.data.size = 0 := by simpa using h1
        exact ByteArray.ext (Array.eq_empty_of_size_eq_zero this)
      · cases h1
    · split at h2
      · rename_i b e
        rw [e]
        cases b
        · rfl
        · cases h2
      · cases h2
  have hb := Box.new w Try.zeroCells119 119 _ rfl
  exact ⟨hb.lt, fun i hi => (hb.cell i).trans (hz i hi).1, fun i hi => (hb.cell _).trans (hz i hi).2, hb.free⟩

theorem fixT_take {F : List Rx} {k : Nat} (hk : k < F.length) (hd : ∀ j (hj : j < F.length), j < k → F[j].ix ≠ F[k].ix) (i : Int) : fixT (F.take (k + 1)) i = if i = F[k].ix then some F[k].tx else fixT (F.take k) i := by
  unfold fixT
  rw [List.take_succ_eq_append_getElem hk, List.find?_append]
  by_cases e : i = F[k].ix
  · have hn : (F.take k).find? (fun x => decide (x.ix = i)) = none := List.find?_eq_none.2 fun x hx => by
      obtain ⟨j, hj, rfl⟩ := List.getElem_of_mem hx
      rw [List.length_take] at hj
      rw [List.getElem_take]
      have := hd j (by omega) (by omega)
      rw [e]
      simpa using this
    rw [if_pos e, hn]
    simp [e]
  · rw [if_neg e]
    have : decide (F[k].ix = i) = false := decide_eq_false (fun h => e h.symm)
    cases (F.take k).find? (fun x => decide (x.ix = i)) <;> simp [this]
theorem fix_asc {F : List Rx} (h : fixB F = true) : (∀ k (hk : k < F.length), 1 ≤ F[k].ix ∧ F[k].ix ≤ 120) ∧ ∀ k (hk : k < F.length) j (hj : j < F.length), j < k → F[j].ix < F[k].ix := by
  have h1 : ∀ k (hk : k < F.length), (1 ≤ F[k].ix ∧ F[k].ix ≤ 120) ∧ (∀ (h0 : 0 < k), (F[k - 1]'(by omega)).ix < F[k].ix) := fun k hk => by
    have := List.all_eq_true.1 h k (List.mem_range.2 hk)
    unfold xokB at this
    rw [fixA_at hk, Bool.and_eq_true, Bool.and_eq_true] at this
    obtain ⟨q1, _, q3⟩ := this
    refine ⟨of_decide_eq_true q1, fun h0 => ?_⟩
    rw [fixA_at (show k - 1 < F.length by omega)] at q3
    simp at q3
    omega
  refine ⟨fun k hk => (h1 k hk).1, fun k => ?_⟩
  induction k with
  | zero => intro _ j _ h; omega
  | succ k ih =>
    intro hk j hj hjk
    have h2 := (h1 (k + 1) hk).2 (by omega)
    simp only [Nat.add_sub_cancel] at h2
    by_cases e : j = k
    · subst e; exact h2
    · have := ih (by omega) j hj (by omega); omega

set_option maxHeartbeats 4000000 in
theorem fixRow_any (w : World) (ρ p : Nat) (t : ByteArray) (T : Nat → Option ByteArray) (h : RwAt w ρ T) (hp : p ≤ 120) :
    Calls Try.prog 80 #[.pointer (some ⟨ρ, 0, none⟩), .int .i64 p, .string t] w fun e w' => e = .returned (.tuple #[]) ∧ RwAt w' ρ (fun i => if i = p then some t else T i) ∧ Touch ρ (ρ + 1) w w' := by
  have HR := hide h
  have x0 := h.tx p hp
  have x1 := h.st p hp
  have fz := h.fz
  have i0 : (0 : Int) ≤ (p : Int) := by omega
  have i1 : (p : Int) < 121 := by omega
  clear h
  go_enter Try.func80, Try.ntmps80
  go_wp2
  go_region
  go_end0
  have h1 : RwAt ((w.setCell ⟨ρ, p, none⟩ (.string t)).setCell ⟨ρ, 121 + p, none⟩ (.bool true)) ρ (fun i => if i = p then some t else T i) := HR.out.put hp
  have t1 := Touch.setCell ρ (ρ + 1) w ⟨ρ, p, none⟩ (.string t) ⟨Nat.le_refl _, Nat.lt_succ_self _⟩
  have t2 := Touch.setCell ρ (ρ + 1) (w.setCell ⟨ρ, p, none⟩ (.string t)) ⟨ρ, 121 + p, none⟩ (.bool true) ⟨Nat.le_refl _, Nat.lt_succ_self _⟩
  exact ⟨rfl, h1.below ((Below.refl _ _).drew) h1.lt, (t1.trans t2).trans (Touch.below ((Below.refl _ _).drew))⟩

set_option maxRecDepth 20000 in
set_option maxHeartbeats 8000000 in
theorem rowOf_any (lo : Nat) (v : Value) (F : List Rx) (w : World) (hv : RxsAt lo w v F) (hf : fixB F = true) :
    Calls Try.prog 48 #[v] w fun e w' => e = .returned (.pointer (some ⟨w.heap.size, 0, none⟩)) ∧ Below w.heap.size w w' ∧ RwAt w' w.heap.size (fun i => fixT F (i : Int)) := by
  have HV := hide hv
  have HA := hide (fix_asc hf)
  have hm := hv.max
  unfold maxLen at hm
  obtain ⟨a, cap, rfl⟩ := hv.form
  clear hv hf
  go_enter Try.func48, Try.ntmps48
  go_upto_region 2 with fail
  obtain ⟨Wa, hWa, HB, HR⟩ : ∃ Wa, Wa = w.alloc (.cells Try.zeroCells119 119) ∧ Hid (Below w.heap.size w Wa) ∧ Hid (RwAt Wa w.heap.size (fun _ => none)) := ⟨_, rfl, one_al _ _, RwAt.new w⟩
  rw [← hWa]
  clear hWa
  go_wp2
  go_loopw [10] (fun i wr => ∃ k : Nat, i = .int .i64 k ∧ k ≤ F.length ∧ Below w.heap.size w wr ∧ RwAt wr w.heap.size (fun i => fixT (F.take k) (i : Int))) (fun i _ => F.length - (intOf i).toNat)
  case atStart => exact ⟨0, rfl, by omega, HB.out, HR.out.to (fun i _ => by simp [fixT])⟩
  case round =>
    clear HB HR
    obtain ⟨k, rfl, hk, hb, hr⟩ := hrel
    have HB := hide hb
    have HR := hide hr
    clear hb hr
    by_cases hlt : k < F.length
    · obtain ⟨b, off, rfl, hbw, -, hc⟩ := HV.out.full' (by omega)
      obtain ⟨-, hcz⟩ := hc k hlt
      have s0 : wr.cell? ⟨b, off + k * 2, none⟩ = some (.int .i64 F[k].ix) := (hcz.below HB.out hbw).c0
      have s1 : wr.cell? ⟨b, off + k * 2 + 1, none⟩ = some (.string F[k].tx) := (hcz.below HB.out hbw).c1
      have hrg := HA.out.1 k hlt
      have HTK : Hid (∀ i : Int, fixT (F.take (k + 1)) i = if i = F[k].ix then some F[k].tx else fixT (F.take k) i) := fixT_take hlt (fun j hj hjk => by have := HA.out.2 k hlt j hj hjk; omega)
      obtain ⟨x, hx⟩ : ∃ x, x = F[k] := ⟨_, rfl⟩
      rw [← hx] at s0 s1 hrg HTK
      obtain ⟨p, hp⟩ : ∃ p : Nat, x.ix = (p : Int) := ⟨x.ix.toNat, by omega⟩
      rw [hp] at s0 hrg HTK
      have i0 : (0 : Int) ≤ (k : Int) := by omega
      have i1 : (k : Int) < (F.length : Int) := by omega
      clear hc hcz hx hp
      obtain ⟨Wb, hWb, HBb, HRb⟩ : ∃ Wb, Wb = wr.alloc (.cells #[.int .i64 p, .string x.tx] 67) ∧ Hid (Below wr.heap.size wr Wb) ∧ Hid (RwAt Wb w.heap.size (fun i => fixT (F.take k) (i : Int))) := ⟨_, rfl, one_al _ _, HR.out.below (one_al _ _) HR.out.lt⟩
      go_wp2_with fail
      rw [← hWb]
      clear hWb
      refine (fixRow_any Wb w.heap.size p x.tx _ HRb.out (by omega)).mono ?_
      rintro e w1 ⟨rfl, hr1, ht1⟩
      have HR1 : Hid (RwAt w1 w.heap.size (fun i => fixT (F.take (k + 1)) (i : Int))) := hr1.to (fun i hi => by
        rw [HTK.out]
        by_cases e : i = p
        · rw [if_pos e, if_pos (by rw [e])]
        · rw [if_neg e, if_neg (by omega)])
      have HB1 : Hid (Below w.heap.size w w1) := (bt HB.out HBb.out).trans (ht1.under (by have := HRb.out.lt; omega))
      clear hr1 ht1
      go_wp2
      go_roundw
      case rel => exact ⟨k + 1, by go_num, by omega, HB1.out, HR1.out⟩
      case measure => simp [intOf]; omega
    · have e : F.take k = F := List.take_of_length_le (by omega)
      have HR2 : Hid (RwAt wr w.heap.size (fun i => fixT F (i : Int))) := by have := HR.out; rwa [e] at this
      go_wp2
      go_ret
      exact ⟨rfl, HB.out, HR2.out⟩

set_option maxHeartbeats 4000000 in
theorem hasRow_any (w : World) (ρ p : Nat) (t : ByteArray) (T : Nat → Option ByteArray) (h : RwAt w ρ T) (hp : p ≤ 120) :
    Calls Try.prog 50 #[.pointer (some ⟨ρ, 0, none⟩), .int .i64 p, .string t] w fun e w' => e = .returned (.bool (match T p with | some u => decide (u = t) | none => false)) ∧ w' = w := by
  have x0 := h.tx p hp
  have x1 := h.st p hp
  have i0 : (0 : Int) ≤ (p : Int) := by omega
  have i1 : (p : Int) < 121 := by omega
  clear h
  cases e : T p with
  | none =>
    rw [e] at x0 x1
    go_enter Try.func50, Try.ntmps50
    go_wp2
    go_ret
    exact ⟨rfl, rfl⟩
  | some u =>
    rw [e] at x0 x1
    simp only [Option.getD_some, Option.isSome_some] at x0 x1
    by_cases q : u = t
    · subst q
      have hrf := bytes_refl u
      go_enter Try.func50, Try.ntmps50
      go_wp2
      go_ret
      exact ⟨by simp, rfl⟩
    · have hne : (u.toList == t.toList) = false := bytes_ne.2 q
      go_enter Try.func50, Try.ntmps50
      go_wp2
      go_ret
      exact ⟨by simp [q], rfl⟩
end Go.Proofs.Ytoklnkojacdciaa
