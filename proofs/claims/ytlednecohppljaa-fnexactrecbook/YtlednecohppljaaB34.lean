import Derived.Test.YtlednecohppljaaB30
namespace Go.Proofs.Ytlednecohppljaa
open Go.RowKit Go.Deep

theorem RasOwn.fullO {lo hi : Nat} {w : World} {a : Option Addr} {n cap : Nat} {Xl : List Ra} (h : RasOwn lo hi w (.slice a n cap) Xl) (hL : 0 < Xl.length) :
    ∃ b off, a = some ⟨b, off, none⟩ ∧ b < w.heap.size ∧ ∀ i (h : i < Xl.length), ∃ vv0, RaCells w b (off + i * 2) Xl[i] vv0 ∧ RisAt lo w vv0 Xl[i].fr := by
  rcases h with ⟨a', cap', h, rfl⟩ | ⟨b, off, cap', c, X, h1, h2, h3, h4, h5, h6⟩
  · simp at hL
  · injection h1 with e1 e2 e3
    refine ⟨b, off, e1, h6.lt, fun i hi' => ?_⟩
    have hr := h6.row i hi'
    rw [h5 i hi'] at hr
    obtain ⟨hs, vv0, q0, hc, l0⟩ := hr
    exact ⟨vv0, hc, l0.at.mono (h6.seg i hi').1⟩
end Go.Proofs.Ytlednecohppljaa
namespace Go.Proofs.Ytlednecohppljaa
open Go.RowKit Go.Deep

set_option maxHeartbeats 2000000 in
theorem numberI_any (n of : Int) (w : World) :
    Calls Try.prog 63 #[.int .i64 n, .int .i64 of] w fun e w' => e = .returned (.bool (inB 1 5 of && inB 1 of n)) ∧ w' = w := by
  cases h1 : inB 1 5 of with
  | false =>
    go_enter Try.func63, Try.ntmps63
    go_wp2_with (go_at_call 67; refine (within_any _ _ _ _).mono ?_; rintro e w' ⟨rfl, rfl⟩)
    go_ret
    exact ⟨rfl, rfl⟩
  | true =>
    go_enter Try.func63, Try.ntmps63
    go_wp2_with (go_at_call 67; refine (within_any _ _ _ _).mono ?_; rintro e w' ⟨rfl, rfl⟩)
    go_ret
    exact ⟨rfl, rfl⟩

end Go.Proofs.Ytlednecohppljaa
