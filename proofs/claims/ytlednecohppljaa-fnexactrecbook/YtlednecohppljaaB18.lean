import Derived.Test.YtlednecohppljaaB08
import Derived.Test.YtlednecohppljaaB13
namespace Go.Proofs.Ytlednecohppljaa
open Go.RowKit Go.Deep

/-! lists, one by one -/
theorem all_no {X : Type} {L : List X} {f : X → Bool} {k : Nat} (hk : k < L.length) (h : f L[k] = false) : L.all f = false := by
  rw [List.all_eq_false]
  exact ⟨L[k], List.getElem_mem hk, by simp [h]⟩
theorem all_yes {X : Type} {L : List X} {f : X → Bool} (h : ∀ i (h : i < L.length), f L[i] = true) : L.all f = true := by
  rw [List.all_eq_true]
  intro x hx
  obtain ⟨i, hi, rfl⟩ := List.getElem_of_mem hx
  exact h i hi
theorem all_at {X : Type} {L : List X} {f : X → Bool} (h : L.all f = true) {k : Nat} (hk : k < L.length) : f L[k] = true := List.all_eq_true.1 h _ (List.getElem_mem hk)
theorem step_all {X : Type} {L : List X} {f : X → Bool} {k : Nat} (hall : ∀ j (h : j < L.length), j < k → f L[j] = true) (hk : k < L.length) (h : f L[k] = true) : ∀ j (h : j < L.length), j < k + 1 → f L[j] = true := fun j hj hjk => by
  by_cases e : j = k
  · subst e; exact h
  · exact hall j hj (by omega)
theorem in21_any (n lo hi : Int) (w : World) :
    Calls Try.prog 53 #[.int .i64 n, .int .i64 lo, .int .i64 hi] w fun e w' => e = .returned (.bool (inB lo hi n)) ∧ w' = w := by
  rw [inB_eq]
  by_cases h1 : lo ≤ n
  · by_cases h2 : n ≤ hi
    all_goals
      go_enter Try.func53, Try.ntmps53
      go_wp2
      go_ret
      exact ⟨ret_bool (by simp [h1, h2]), rfl⟩
  · go_enter Try.func53, Try.ntmps53
    go_wp2
    go_ret
    refine ⟨ret_bool ?_, rfl⟩
    rw [Bool.eq_iff_iff]; simp; omega
/-- a slot is ok -/
def slotB (x : Rs) : Bool := inB 0 1000000 x.ba && (decide (x.tx.size ≤ 160) && !(x.ba == 0 && !x.tx.toList.isEmpty))
def slotsB (L : List Rs) : Bool := decide (L.length ≤ 120) && L.all slotB

set_option maxRecDepth 20000 in
set_option maxHeartbeats 4000000 in
theorem slotsOk_any (lo : Nat) (v : Value) (L : List Rs) (w : World) (hv : RssAt lo w v L) :
    Calls Try.prog 58 #[v] w fun e w' => e = .returned (.bool (slotsB L)) ∧ w' = w := by
  have HV := hide hv
  have hm := hv.max
  unfold maxLen at hm
  obtain ⟨a, cap, rfl⟩ := hv.form
  clear hv
  have HI : Hid (slotsB L = (decide (L.length ≤ 120) && L.all slotB)) := rfl
  by_cases l0 : L.length ≤ 120
  case neg =>
    have HE : Hid (slotsB L = false) := by unfold Hid; rw [HI.out, decide_eq_false l0]; rfl
    have d0 : decide ((120 : Int) < (L.length : Int)) = true := by simp; omega
    go_enter Try.func58, Try.ntmps58
    go_wp2
    go_ret
    exact ⟨ret_bool HE.out.symm, rfl⟩
  have d0 : decide ((120 : Int) < (L.length : Int)) = false := by simp; omega
  have HE1 : Hid (slotsB L = L.all slotB) := by unfold Hid; rw [HI.out, decide_eq_true l0]; rfl
  go_enter Try.func58, Try.ntmps58
  go_wp2
  clear d0
  go_loop [3] (fun i => ∃ k : Nat, i = .int .i64 k ∧ k ≤ L.length ∧ ∀ j (hj : j < L.length), j < k → slotB L[j] = true) (fun i => L.length - (intOf i).toNat)
  case atStart => exact ⟨0, rfl, by omega, fun j _ h => by omega⟩
  case round =>
    obtain ⟨k, rfl, hk, hall⟩ := hrel
    have HAL := hide hall
    clear hall
    by_cases hlt : k < L.length
    · obtain ⟨b, off, rfl, hbw, -, hc⟩ := HV.out.full' (by omega)
      obtain ⟨hsz, hcc⟩ := hc k hlt
      obtain ⟨x, hx⟩ : ∃ x, x = L[k] := ⟨_, rfl⟩
      rw [← hx] at hsz hcc
      have HX := hide hx
      have e0 := hcc.c0
      have e1 := hcc.c1
      have i0 : (0 : Int) ≤ (k : Int) := by omega
      have i1 : (k : Int) < (L.length : Int) := by omega
      have hs := hsz.s0
      unfold maxLen at hs
      clear hc hcc hsz hx
      cases h1 : inB 0 1000000 x.ba with
      | false =>
        have HN : Hid (slotB x = false) := by unfold Hid slotB; rw [h1]; rfl
        go_wp2_with (go_at_call 53; refine (in21_any _ _ _ _).mono ?_; rintro e w' ⟨rfl, rfl⟩)
        go_ret
        exact ⟨ret_bool (by rw [HE1.out]; exact (all_no hlt (by rw [← HX.out]; exact HN.out)).symm), rfl⟩
      | true =>
        by_cases h2 : x.tx.size ≤ 160
        case neg =>
          have HN : Hid (slotB x = false) := by unfold Hid slotB; rw [h1, decide_eq_false h2]; rfl
          have d2 : decide ((160 : Int) < (x.tx.size : Int)) = true := by simp; omega
          go_wp2_with (go_at_call 53; refine (in21_any _ _ _ _).mono ?_; rintro e w' ⟨rfl, rfl⟩)
          go_ret
          exact ⟨ret_bool (by rw [HE1.out]; exact (all_no hlt (by rw [← HX.out]; exact HN.out)).symm), rfl⟩
        have d2 : decide ((160 : Int) < (x.tx.size : Int)) = false := by simp; omega
        have HS : Hid (slotB x = !(x.ba == 0 && !x.tx.toList.isEmpty)) := by unfold Hid slotB; rw [h1, decide_eq_true h2]; rfl
        cases h3 : (x.ba == 0) with
        | false =>
          have HY : Hid (slotB x = true) := by unfold Hid; rw [HS.out, h3]; rfl
          go_wp2_with (go_at_call 53; refine (in21_any _ _ _ _).mono ?_; rintro e w' ⟨rfl, rfl⟩)
          go_round
          case rel => exact ⟨k + 1, by go_num, by omega, step_all HAL.out hlt (by rw [← HX.out]; exact HY.out)⟩
          case measure => simp [intOf]; omega
        | true =>
          cases h4 : x.tx.toList.isEmpty with
          | true =>
            have HY : Hid (slotB x = true) := by unfold Hid; rw [HS.out, h3, h4]; rfl
            go_wp2_with (go_at_call 53; refine (in21_any _ _ _ _).mono ?_; rintro e w' ⟨rfl, rfl⟩)
            go_round
            case rel => exact ⟨k + 1, by go_num, by omega, step_all HAL.out hlt (by rw [← HX.out]; exact HY.out)⟩
            case measure => simp [intOf]; omega
          | false =>
            have HN : Hid (slotB x = false) := by unfold Hid; rw [HS.out, h3, h4]; rfl
            go_wp2_with (go_at_call 53; refine (in21_any _ _ _ _).mono ?_; rintro e w' ⟨rfl, rfl⟩)
            go_ret
            exact ⟨ret_bool (by rw [HE1.out]; exact (all_no hlt (by rw [← HX.out]; exact HN.out)).symm), rfl⟩
    · have HT : Hid (L.all slotB = true) := all_yes (fun i hi => HAL.out i hi (by omega))
      go_wp2
      go_ret
      exact ⟨ret_bool (by rw [HE1.out, HT.out]), rfl⟩
end Go.Proofs.Ytlednecohppljaa
namespace Go.Proofs.Ytlednecohppljaa
open Go.RowKit Go.Deep

structure Sv where
  nm : ByteArray
  ve : Int
  gn : Bool
  im : Int
  wa : Int
  dn : Int
  ov : Int
  nx : Int
  pr : Int
  ls : Int
  ms : Int
  ld : Int
  cl : Int
structure SvSize (x : Sv) : Prop where
  s0 : x.nm.size ≤ maxLen
def SvSmall (x : Sv) : Prop := x = x
structure SvCells (w : World) (b o : Nat) (x : Sv) : Prop where
  c0 : w.cell? ⟨b, o, none⟩ = some (.string x.nm)
  c1 : w.cell? ⟨b, o + 1, none⟩ = some (.int .i64 x.ve)
  c2 : w.cell? ⟨b, o + 2, none⟩ = some (.bool x.gn)
  c3 : w.cell? ⟨b, o + 3, none⟩ = some (.int .i64 x.im)
  c4 : w.cell? ⟨b, o + 4, none⟩ = some (.int .i64 x.wa)
  c5 : w.cell? ⟨b, o + 5, none⟩ = some (.int .i64 x.dn)
  c6 : w.cell? ⟨b, o + 6, none⟩ = some (.int .i64 x.ov)
  c7 : w.cell? ⟨b, o + 7, none⟩ = some (.int .i64 x.nx)
  c8 : w.cell? ⟨b, o + 8, none⟩ = some (.int .i64 x.pr)
  c9 : w.cell? ⟨b, o + 9, none⟩ = some (.int .i64 x.ls)
  c10 : w.cell? ⟨b, o + 10, none⟩ = some (.int .i64 x.ms)
  c11 : w.cell? ⟨b, o + 11, none⟩ = some (.int .i64 x.ld)
  c12 : w.cell? ⟨b, o + 12, none⟩ = some (.int .i64 x.cl)
theorem SvCells.below {w w' : World} {b o : Nat} {x : Sv} (h : SvCells w b o x ) {m : Nat} (hb : Below m w w') (hlt : b < m) : SvCells w' b o x  := by
  have e : ∀ o, w'.cell? ⟨b, o, none⟩ = w.cell? ⟨b, o, none⟩ := fun o => hb.cell (p := ⟨b, o, none⟩) hlt
  exact ⟨by rw [e]; exact h.c0, by rw [e]; exact h.c1, by rw [e]; exact h.c2, by rw [e]; exact h.c3, by rw [e]; exact h.c4, by rw [e]; exact h.c5, by rw [e]; exact h.c6, by rw [e]; exact h.c7, by rw [e]; exact h.c8, by rw [e]; exact h.c9, by rw [e]; exact h.c10, by rw [e]; exact h.c11, by rw [e]; exact h.c12⟩
theorem SvCells.set {w : World} {b o : Nat} {x : Sv} (h : SvCells w b o x ) {p : Addr} (hp : b ≠ p.block) (u : Value) : SvCells (w.setCell p u) b o x  := by
  have e : ∀ o, (w.setCell p u).cell? ⟨b, o, none⟩ = w.cell? ⟨b, o, none⟩ := fun o => cell_setCell_ne _ _ _ _ hp
  exact ⟨by rw [e]; exact h.c0, by rw [e]; exact h.c1, by rw [e]; exact h.c2, by rw [e]; exact h.c3, by rw [e]; exact h.c4, by rw [e]; exact h.c5, by rw [e]; exact h.c6, by rw [e]; exact h.c7, by rw [e]; exact h.c8, by rw [e]; exact h.c9, by rw [e]; exact h.c10, by rw [e]; exact h.c11, by rw [e]; exact h.c12⟩
def SvsAt (lo : Nat) (w : World) (v : Value) (Xl : List Sv) : Prop :=
  (∃ (a : Option Addr) (cap : Nat), v = .slice a 0 cap ∧ Xl = []) ∨
  ∃ (b off cap : Nat), v = .slice (some ⟨b, off, none⟩) Xl.length cap ∧ Xl ≠ [] ∧ Xl.length ≤ maxLen ∧ b < w.heap.size ∧ lo ≤ b ∧ Xl.length ≤ cap ∧
    ∀ i (h : i < Xl.length), SvSize Xl[i] ∧ SvCells w b (off + i * 13) Xl[i]
theorem SvsAt.below {lo : Nat} {w w' : World} {v : Value} {Xl : List Sv} (h : SvsAt lo w v Xl) (hb : Below w.heap.size w w') : SvsAt lo w' v Xl := by
  rcases h with h | ⟨b, off, cap, h1, h2, h3, h4, h5, h6, h7⟩
  · exact Or.inl h
  · refine Or.inr ⟨b, off, cap, h1, h2, h3, Nat.lt_of_lt_of_le h4 hb.size, h5, h6, fun i hi => ?_⟩
    obtain ⟨hs, hc⟩ := h7 i hi
    exact ⟨hs, hc.below hb h4⟩
theorem SvsAt.mono {lo lo' : Nat} {w : World} {v : Value} {Xl : List Sv} (h : SvsAt lo w v Xl) (hl : lo' ≤ lo) : SvsAt lo' w v Xl := by
  rcases h with h | ⟨b, off, cap, h1, h2, h3, h4, h5, h6, h7⟩
  · exact Or.inl h
  · refine Or.inr ⟨b, off, cap, h1, h2, h3, h4, Nat.le_trans hl h5, h6, fun i hi => ?_⟩
    obtain ⟨hs, hc⟩ := h7 i hi
    exact ⟨hs, hc⟩
theorem SvsAt.set {lo : Nat} {w : World} {v : Value} {Xl : List Sv} (h : SvsAt lo w v Xl) {p : Addr} (hp : p.block < lo) (u : Value) : SvsAt lo (w.setCell p u) v Xl := by
  rcases h with h | ⟨b, off, cap, h1, h2, h3, h4, h5, h6, h7⟩
  · exact Or.inl h
  · refine Or.inr ⟨b, off, cap, h1, h2, h3, by simpa [World.setCell] using h4, h5, h6, fun i hi => ?_⟩
    obtain ⟨hs, hc⟩ := h7 i hi
    exact ⟨hs, hc.set (by omega) u⟩
theorem SvsAt.form {lo : Nat} {w : World} {v : Value} {Xl : List Sv} (h : SvsAt lo w v Xl) : ∃ a cap, v = .slice a Xl.length cap := by
  rcases h with ⟨a, cap, h, rfl⟩ | ⟨b, off, cap, h, _⟩
  · exact ⟨a, cap, h⟩
  · exact ⟨_, cap, h⟩
theorem SvsAt.max {lo : Nat} {w : World} {v : Value} {Xl : List Sv} (h : SvsAt lo w v Xl) : Xl.length ≤ maxLen := by
  rcases h with ⟨a, cap, h, rfl⟩ | ⟨b, off, cap, h, _, h3, _⟩
  · exact Nat.zero_le _
  · exact h3
theorem SvsAt.full {lo : Nat} {w : World} {v : Value} {Xl : List Sv} (h : SvsAt lo w v Xl) (hne : Xl ≠ []) : ∃ (b off cap : Nat), v = .slice (some ⟨b, off, none⟩) Xl.length cap ∧ Xl.length ≤ maxLen ∧ b < w.heap.size ∧ Xl.length ≤ cap ∧
    ∀ i (h : i < Xl.length), SvSize Xl[i] ∧ SvCells w b (off + i * 13) Xl[i] := by
  rcases h with ⟨_, _, _, h⟩ | ⟨b, off, cap, h1, _, h3, h4, _, h6, h7⟩
  · exact absurd h hne
  · exact ⟨b, off, cap, h1, h3, h4, h6, h7⟩
theorem SvsAt.full' {lo : Nat} {w : World} {a : Option Addr} {n cap : Nat} {Xl : List Sv} (h : SvsAt lo w (.slice a n cap) Xl) (hL : 0 < Xl.length) :
    ∃ b off, a = some ⟨b, off, none⟩ ∧ b < w.heap.size ∧ lo ≤ b ∧ ∀ i (h : i < Xl.length), SvSize Xl[i] ∧ SvCells w b (off + i * 13) Xl[i] := by
  rcases h with ⟨a', cap', h, rfl⟩ | ⟨b', off', cap', h1, h2, h3, h4, h5, h6, h7⟩
  · simp at hL
  · injection h1 with e1 e2 e3
    exact ⟨b', off', e1, h4, h5, h7⟩
def SvsSmall (Xl : List Sv) : Prop := Xl.length ≤ 1048576 ∧ ∀ i (h : i < Xl.length), SvSmall Xl[i]
def SzSvs (Xl : List Sv) (left r : Int) : Prop := -1 ≤ r ∧ r ≤ left ∧ (0 ≤ r → SvsSmall Xl)

end Go.Proofs.Ytlednecohppljaa
