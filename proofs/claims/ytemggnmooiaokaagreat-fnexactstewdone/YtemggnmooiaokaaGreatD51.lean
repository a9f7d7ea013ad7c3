import Derived.Test.YtemggnmooiaokaaGreatD50
import Derived.DeepKeys
namespace Go.Proofs.YtemggnmooiaokaaGreat
open Go.RowKit Go.Deep

theorem eq5 (r0 r1 r2 r3 r4 : Int) (W : World) : (Op.equalIn 10000 100 (.agg #[.int .i64 r0, .int .i64 r1, .int .i64 r2, .int .i64 r3, .int .i64 r4]) (.agg #[.int .i64 0, .int .i64 0, .int .i64 0, .int .i64 0, .int .i64 0])).run Tryz.prog W = .ok ((r0 == 0) && ((r1 == 0) && ((r2 == 0) && ((r3 == 0) && (r4 == 0))))) W := by
  show (Op.equalIn (9998 + 1 + 1) _ _ _).run _ _ = _
  have hs : ∀ W : World, (sizeOf 3).run Tryz.prog W = .ok 1 W := fun W => by kernel_rfl
  rw [Op.equalIn]
  simp only [Sem.run_bind, run_underlying Tryz.underlying100, Result.andThen_ok, hs]
  simp [List.range', Sem.run_bind, go_sem]
  (repeat' split) <;> simp_all
end Go.Proofs.YtemggnmooiaokaaGreat
