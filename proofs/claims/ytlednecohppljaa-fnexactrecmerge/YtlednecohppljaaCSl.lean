
import Derived.Test.YtlednecohppljaaNR0
namespace Go.Proofs.Ytlednecohppljaa
open Go.RowKit Go.Deep

theorem NRow.freshB {X : Type} {f : X → List Value} {n : Nat} {w w' : World} {v : Value} {L : List X} (h : NRow f n w' w.heap.size w.heap.size v L ∨ NRow f n w' w.heap.size w'.heap.size v L) (hs : w.heap.size ≤ w'.heap.size) : NRow f n w' w.heap.size w'.heap.size v L := by
  rcases h with h | h
  · exact h.wide (Nat.le_refl _) hs
  · exact h
theorem Touch.none {n : Nat} {w w' : World} (h : Touch n n w w') (_hn : w.heap.size ≤ n) : Below w.heap.size w w' := ⟨h.os, h.tape, h.output, h.size, fun k hk => h.block k hk (by omega)⟩
set_option maxRecDepth 20000 in
set_option maxHeartbeats 4000000 in
theorem copySl_any (lo : Nat) (v : Value) (L : List Rs) (w : World) (hv : RssAt lo w v L) (hn : L.length ≤ 1048576) :
    Calls Try.prog 26 #[v] w fun e w' => ∃ v', e = .returned v' ∧ Below w.heap.size w w' ∧ NRow rsL 2 w' w.heap.size w'.heap.size v' L := by
  have HV := hide hv
  obtain ⟨a, cap, rfl⟩ := hv.form
  clear hv
  go_enter Try.func26, Try.ntmps26
  go_wp2_with (at_builtin; refine wpList_nr rsL_len (by decide) Try.underlying24 infoRs rfl (w := w) (lo := w.heap.size) (hi' := w.heap.size) (L := []) L rfl (.const (.slice none 0 0)) (.tmp 3) rfl rfl (NRow.nil _ _ _ _ _) a L.length cap rfl rfl (fun e => HV.out.nilN e) HV.out.src (rsL_one L) (by simp; omega) (by decide) ?_; intro v' w' h1 h2; have H1 := hide h1; have H2 := hide h2; clear h1 h2)
  go_ret
  have h2 := H2.out
  rw [List.nil_append] at h2
  exact ⟨v', rfl, H1.out.none (Nat.le_refl _), NRow.freshB h2 H1.out.size⟩
end Go.Proofs.Ytlednecohppljaa
