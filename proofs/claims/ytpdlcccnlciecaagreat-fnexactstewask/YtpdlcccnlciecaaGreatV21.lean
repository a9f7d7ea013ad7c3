import Derived.Test.YtpdlcccnlciecaaGreatV16
import Derived.Test.YtpdlcccnlciecaaGreatV17
import Derived.Test.YtpdlcccnlciecaaGreatV19
import Derived.Test.YtpdlcccnlciecaaGreatV20
namespace Go.Proofs.YtpdlcccnlciecaaGreat
open Go.RowKit Go.Deep

/-! a list of ends of one's own -/
def enL (x : En) : List Value := [.int .i64 x.nu, .int .i64 x.sn]
theorem enL_len (x : En) : (enL x).length = 2 := rfl
theorem enL_one (L : List En) : ∀ u ∈ flatV enL L, u.oneCell' = true := fun u hu => by
  obtain ⟨x, -, h⟩ := flatV_mem hu
  unfold enL at h
  simp at h
  rcases h with rfl | rfl <;> rfl
theorem NewRow.Ens {base : Nat} {w' : World} {v' : Value} {Xl : List En} (h : NewRow base w' 113 2 Xl.length v' (flatV enL Xl)) (hm : Xl.length ≤ maxLen) (hz : ∀ i (hi : i < Xl.length), EnSize Xl[i]) : EnsOwn base w'.heap.size w' v' Xl := by
  by_cases h0 : Xl.length = 0
  · have hx : Xl = [] := List.length_eq_zero_iff.1 h0
    rcases h with ⟨-, a, c, rfl⟩ | ⟨-, ⟨rfl, -⟩ | ⟨g, cap, cur, rfl, -⟩⟩
    · exact Or.inl ⟨_, _, rfl, hx⟩
    · exact Or.inl ⟨_, _, rfl, hx⟩
    · exact Or.inl ⟨_, _, by rw [h0], hx⟩
  · rcases h with ⟨h, -⟩ | ⟨hl, ⟨-, h⟩ | ⟨g, cap, cur, rfl, hbg, hg, hnc, hcm, hcs, htake⟩⟩
    · exact absurd h h0
    · exact absurd h h0
    · have hlt : g < w'.heap.size := (Array.getElem?_eq_some_iff.1 hg).1
      refine Or.inr ⟨g, 0, cap, fun _ => g + 1, fun i => if h : i < Xl.length then Xl[i] else Xl[0]'(by omega), rfl, fun e => h0 (by rw [e]; rfl), hm, hnc, fun i hi => by simp [hi], ⟨hlt, hbg, Nat.lt_succ_self _, hlt, fun _ _ => Nat.le_refl _, hlt, frozen_none hg, fun i hi => ?_⟩⟩
      simp only [hi, dif_pos]
      have hc : ∀ t v, (enL Xl[i])[t]? = some v → w'.cell? ⟨g, 0 + i * 2 + t, none⟩ = some v := fun t v hv => by
        have ht : t < 2 := by have := (List.getElem?_eq_some_iff.1 hv).1; rwa [enL_len] at this
        rw [cell_heap hg, Nat.zero_add, ← Array.getElem?_toList]
        have h1 := flatV_get enL_len Xl i t hi ht
        rw [hv, ← htake, List.getElem?_take] at h1
        split at h1
        · exact h1
        · cases h1
      exact ⟨hz i hi, ⟨hc 0 _ rfl, hc 1 _ rfl⟩⟩
def ERow (w : World) (base : Nat) (v : Value) (L : List En) : Prop := w.ownsRow base 113 2 v L.length (flatV enL L)
theorem ERow.below {w w' : World} {base : Nat} {v : Value} {L : List En} (h : ERow w base v L) (hb : Below w.heap.size w w') : ERow w' base v L := ownsB_on h hb
theorem ERow.own {w : World} {base : Nat} {v : Value} {L : List En} (h : ERow w base v L) (hm : L.length ≤ maxLen) : EnsOwn base w.heap.size w v L := NewRow.Ens (Or.inr h) hm fun _ _ => ⟨trivial⟩
theorem ERow.form {w : World} {base : Nat} {v : Value} {L : List En} (h : ERow w base v L) : ∃ a k, v = .slice a L.length k := by
  rcases h.2 with ⟨rfl, h0⟩ | ⟨g, cap, cur, rfl, -⟩
  · exact ⟨none, 0, by rw [h0]⟩
  · exact ⟨_, _, rfl⟩
theorem ERow.low {base base' : Nat} {w : World} {v : Value} {L : List En} (h : ERow w base v L) (hb : base' ≤ base) : ERow w base' v L := by
  obtain ⟨h1, h2 | ⟨g, cap, cur, h3, h4, h5⟩⟩ := h
  · exact ⟨h1, Or.inl h2⟩
  · exact ⟨h1, Or.inr ⟨g, cap, cur, h3, Nat.le_trans hb h4, h5⟩⟩
theorem Tryz.infoE : (Tryz.prog.info? 113).map (fun i => (i.zero, i.size, i.bytes)) = some (some (.agg #[.int .i64 0, .int .i64 0]), 2, 16) := by kernel_rfl
end Go.Proofs.YtpdlcccnlciecaaGreat
namespace Go.Proofs.YtpdlcccnlciecaaGreat
open Go.RowKit Go.Deep Go.Maps

def ckSv (now : Int) (x : Sv) : Nat → Bool
  | 0 => nmB x.nm && inB 1 now x.ve
  | 1 => inB 1 1000000 x.im && inB 1 1000000 x.nx
  | 2 => inB 0 10 x.wa && (inB 0 10 x.dn && (inB 0 10 x.ov && (decide (0 < x.dn) || decide (0 < x.ov))))
  | 3 => inB 0 1000000 x.pr && (inB 0 1000000 x.ld && (inB 0 10 x.ms && (inB 0 x.ms x.ls && inB 0 3 x.cl)))
  | _ => decide (0 < x.pr) || ((x.ls == 0) && ((x.ms == 0) && ((x.ld == 0) && (x.cl == 0))))
theorem inB_iff {lo hi n : Int} : inB lo hi n = true ↔ lo ≤ n ∧ n ≤ hi := by unfold inB; simp
theorem ckSv_all (now : Int) (x : Sv) : svB now x = (ckSv now x 0 && (ckSv now x 1 && (ckSv now x 2 && (ckSv now x 3 && ckSv now x 4)))) := by
  have h1 : (x.dn + x.ov == 0) = decide (x.dn + x.ov = 0) := by by_cases h : x.dn + x.ov = 0 <;> simp [h]
  simp only [svB, ckSv, perB, h1]
  cases nmB x.nm with
  | false => rfl
  | true =>
    rw [Bool.eq_iff_iff]
    by_cases hp : x.pr = 0
    · simp only [hp, Bool.true_and, Bool.and_eq_true, Bool.or_eq_true, inB_iff, decide_eq_true_iff, Bool.not_eq_true', decide_eq_false_iff_not, beq_self_eq_true, if_true, beq_iff_eq]
      constructor <;> intro h <;> omega
    · have hp' : (x.pr == 0) = false := by simpa using hp
      simp only [hp', Bool.true_and, Bool.and_eq_true, Bool.or_eq_true, inB_iff, decide_eq_true_iff, Bool.not_eq_true', decide_eq_false_iff_not, Bool.false_eq_true, if_false, beq_iff_eq]
      constructor <;> intro h <;> omega
def ckCp (B : Sb) (x : Cp) : Nat → Bool
  | 0 => servB B x
  | 1 => inB 1 B.now x.ve && (inB 1 1000000 x.im && inB 1 4 x.st)
  | _ => if x.st == 1 then x.be.toList.isEmpty else hasBe B.bs x.be
theorem ckCp_all (B : Sb) (x : Cp) : cpB B x = (ckCp B x 0 && (ckCp B x 1 && ckCp B x 2)) := by
  simp only [cpB, ckCp, servB, cpT]
  cases svF B.ss x.se with
  | none => rfl
  | some y => simp only [Bool.and_assoc]
def ckBe (x : Be) : Nat → Bool
  | _ => nmB x.nm
theorem and5 {f : Nat → Bool} {b : Bool} (h : b = (f 0 && (f 1 && (f 2 && (f 3 && f 4))))) : (∀ j, j < 5 → f j = true) → b = true := fun hf => by
  rw [h, hf 0 (by omega), hf 1 (by omega), hf 2 (by omega), hf 3 (by omega), hf 4 (by omega)]; rfl
theorem and5n {f : Nat → Bool} {b : Bool} (h : b = (f 0 && (f 1 && (f 2 && (f 3 && f 4))))) {j : Nat} (hj : j < 5) (hf : f j = false) : b = false := by
  have hj' : j = 0 ∨ j = 1 ∨ j = 2 ∨ j = 3 ∨ j = 4 := by omega
  rcases hj' with rfl | rfl | rfl | rfl | rfl <;> simp [h, hf]
theorem and3 {f : Nat → Bool} {b : Bool} (h : b = (f 0 && (f 1 && f 2))) : (∀ j, j < 3 → f j = true) → b = true := fun hf => by
  rw [h, hf 0 (by omega), hf 1 (by omega), hf 2 (by omega)]; rfl
theorem and3n {f : Nat → Bool} {b : Bool} (h : b = (f 0 && (f 1 && f 2))) {j : Nat} (hj : j < 3) (hf : f j = false) : b = false := by
  have hj' : j = 0 ∨ j = 1 ∨ j = 2 := by omega
  rcases hj' with rfl | rfl | rfl <;> simp [h, hf]
theorem and1 {f : Nat → Bool} {b : Bool} (h : b = f 0) : (∀ j, j < 1 → f j = true) → b = true := fun hf => by rw [h, hf 0 (by omega)]
theorem and1n {f : Nat → Bool} {b : Bool} (h : b = f 0) {j : Nat} (hj : j < 1) (hf : f j = false) : b = false := by
  have hj' : j = 0 := by omega
  subst hj'
  rw [h, hf]

end Go.Proofs.YtpdlcccnlciecaaGreat
