import Derived.Test.YtobijdenhbpdfaaDoorD1
namespace Go.Proofs.YtobijdenhbpdfaaDoor
open Go.RowKit Go.Deep

set_option maxHeartbeats 1000000 in
theorem l1Open_any (v : Value) (bs : List UInt8) (w : World) (hv : CodeAt w.heap.size w v bs ∨ (∃ b off cap, v = .slice (some ⟨b, off, none⟩) bs.length cap ∧ 2000 < bs.length ∧ bs.length ≤ maxLen ∧ bs.length ≤ cap ∧ b < w.heap.size ∧ ∀ i (h : i < bs.length), w.cell? ⟨b, off + i, none⟩ = some (.int .u8 (bs[i].toNat : Int)))) :
    Calls Tryd.prog 11 #[v] w fun e w' => e = .returned (.pointer (some ⟨w.heap.size, 0, none⟩)) ∧ (∃ bs', Rd w' w.heap.size 0 bs') ∧ Below w.heap.size w w' := by
  rcases hv with hv | ⟨b, off, cap, rfl, hb, hm, hcap, hbw, hc⟩
  · have HV := hide hv
    have hl : bs.length ≤ 2000 := by
      rcases hv with ⟨_, _, _, h⟩ | ⟨_, _, _, _, _, h, _⟩
      · rw [h]; simp
      · exact h
    obtain ⟨a, cap, rfl⟩ := hv.form
    clear hv
    have hl2 : ¬ (2000 : Int) < bs.length := by omega
    go_enter Tryd.func11, Tryd.ntmps11
    go_wp2
    go_ret
    exact ⟨rfl, ⟨bs, ⟨by simp, ⟨.slice a bs.length cap, by simp, HV.out.tch (Tch.below (one_al _ _)) (Nat.le_refl _)⟩, by simp, fun i => by simp⟩⟩, one_al _ _⟩
  · unfold maxLen at hm
    have hl2 : (2000 : Int) < bs.length := by omega
    have HC := hide hc
    clear hc
    go_enter Tryd.func11, Tryd.ntmps11
    go_wp2
    go_ret
    have ht : (bs.take 2000).length = 2000 := by rw [List.length_take]; omega
    refine ⟨rfl, ⟨bs.take 2000, ⟨by simp, ⟨.slice (some ⟨b, off, none⟩) 2000 cap, by simp, Or.inr ⟨b, off, cap, by rw [ht], ?_, by omega, hbw, fun i hi => ?_⟩⟩, by simp, fun i => by simp⟩⟩, one_al _ _⟩
    · intro e; rw [e] at ht; simp at ht
    · rw [(one_al w _).cell (p := ⟨b, _, none⟩) hbw, HC.out i (by omega)]
      simp

def isS : Value → Bool
  | .string s => decide (s.size ≤ 1000)
  | _ => false
def strOf : Value → ByteArray
  | .string s => s
  | _ => ⟨#[]⟩
theorem isS_eq {v : Value} (h : isS v = true) : v = .string (strOf v) ∧ (strOf v).size ≤ 1000 := by
  cases v with
  | string s => exact ⟨rfl, by simpa [isS, strOf] using h⟩
  | _ => simp [isS] at h

set_option maxHeartbeats 1000000 in
/-- one of some texts that are written down -/
theorem ofLit_any (ρ p : Nat) (bs : List UInt8) (cs : Array Value) (n : Nat) (b : Nat) (w : World) (h : Rd w ρ p bs) (hp : p ≤ 1000000000) (hcs : cs.all isS = true) (hn : cs.size = n) (h1 : 1 ≤ n) (h2 : n ≤ 1000) (hb : Box w b cs) (hne : b ≠ ρ) :
    Calls Tryd.prog 32 #[.pointer (some ⟨ρ, 0, none⟩), .slice (some ⟨b, 0, none⟩) n n] w fun e w' => ∃ s, e = .returned (.string s) ∧ s.size ≤ 1000 ∧ Rd w' ρ (p + 1) bs ∧ Tch ρ w w' := by
  have HR := hide h
  have HB := hide hb
  have hlt := h.lt
  clear h hb
  go_enter Tryd.func32, Tryd.ntmps32
  go_wp2_with fail
  refine (pick_any ρ p bs n _ HR.out hp (by omega) (by omega)).mono ?_
  rintro e w1 ⟨x, rfl, hx0, hx1, hr1, ht1⟩
  obtain ⟨i, rfl⟩ := Int.eq_ofNat_of_zero_le hx0
  have hi : i < cs.size := by omega
  have HR1 := hide hr1
  have HT1 := hide ht1
  obtain ⟨e1, e2⟩ := isS_eq (Array.all_eq_true.1 hcs i hi)
  have HE2 := hide e2
  have ck : w1.cell? ⟨b, i, none⟩ = some (.string (strOf cs[i])) := by
    rw [(HT1.out.box HB.out hne).cell i, Array.getElem?_eq_getElem hi, ← e1]
  clear hr1 ht1 e1 e2
  generalize strOf cs[i] = s at *
  go_wp2
  go_ret
  exact ⟨s, rfl, HE2.out, HR1.out, HT1.out⟩
end Go.Proofs.YtobijdenhbpdfaaDoor

