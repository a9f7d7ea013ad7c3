
import Derived.Test.YtoklnkojacdciaaRP0
namespace Go.Proofs.Ytoklnkojacdciaa
open Go.RowKit Go.Deep

set_option maxHeartbeats 2000000 in
theorem numberI_any (n of : Int) (w : World) :
    Calls Try.prog 51 #[.int .i64 n, .int .i64 of] w fun e w' => e = .returned (.bool (inB 1 5 of && inB 1 of n)) ∧ w' = w := by
  cases h1 : inB 1 5 of with
  | false =>
    go_enter Try.func51, Try.ntmps51
    go_wp2_with (go_at_call 22; refine (within_any _ _ _ _).mono ?_; rintro e w' ⟨rfl, rfl⟩)
    go_ret
    exact ⟨rfl, rfl⟩
  | true =>
    go_enter Try.func51, Try.ntmps51
    go_wp2_with (go_at_call 22; refine (within_any _ _ _ _).mono ?_; rintro e w' ⟨rfl, rfl⟩)
    go_ret
    exact ⟨rfl, rfl⟩

end Go.Proofs.Ytoklnkojacdciaa
