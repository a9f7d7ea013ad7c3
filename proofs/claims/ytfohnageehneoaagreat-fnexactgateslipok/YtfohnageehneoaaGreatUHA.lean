import Derived.Test.YtfohnageehneoaaGreatUTA
import Derived.Sort.Walk0
import Derived.Deep.RegionHeld3
import Derived.Test.YtfohnageehneoaaGreatUDA
import Derived.Test.YtfohnageehneoaaGreatUA2
import Derived.Test.YtfohnageehneoaaGreatUA1
import Derived.Test.YtfohnageehneoaaGreatUBBL
namespace Go.Proofs.YtfohnageehneoaaGreat
open Go.RowKit Go.Deep

end Go.Proofs.YtfohnageehneoaaGreat

namespace Go.Proofs.YtfohnageehneoaaGreat
open Go.RowKit Go.Deep

end Go.Proofs.YtfohnageehneoaaGreat

namespace Go.Proofs.YtfohnageehneoaaGreat
open Go.RowKit Go.Deep

theorem within_any (n lo hi : Int) (w : World) :
    Calls Tryz.prog 111 #[.int .i64 n, .int .i64 lo, .int .i64 hi] w fun e w' => e = .returned (.bool (inB lo hi n)) ∧ w' = w := by
  rw [inB_eq]
  by_cases h : lo ≤ n
  · by_cases h2 : n ≤ hi
    · go_enter Tryz.func111, Tryz.ntmps111
      go_wp2
      go_ret
      exact ⟨by rw [decide_eq_true h, decide_eq_true h2]; rfl, rfl⟩
    · go_enter Tryz.func111, Tryz.ntmps111
      go_wp2
      go_ret
      exact ⟨by simp [h2], rfl⟩
  · go_enter Tryz.func111, Tryz.ntmps111
    go_wp2
    go_ret
    exact ⟨by rw [decide_eq_false (show ¬ lo ≤ n by omega)]; rfl, rfl⟩

end Go.Proofs.YtfohnageehneoaaGreat

