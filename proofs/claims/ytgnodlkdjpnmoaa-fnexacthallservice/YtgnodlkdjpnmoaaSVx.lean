
import Derived.Test.YtgnodlkdjpnmoaaHL0
namespace Go.Proofs.Ytgnodlkdjpnmoaa
open Go.RowKit Go.Deep

structure Sv where
  nm : ByteArray
  ve : Int
  gn : Bool
  im : Int
  wa : Int
  dn : Int
  ov : Int
  nx : Int
  pr : Int
  ls : Int
  ms : Int
  ld : Int
  cl : Int
structure SvSize (x : Sv) : Prop where
  s0 : x.nm.size ≤ maxLen
def svL (x : Sv) : List Value := [.string x.nm, .int .i64 x.ve, .bool x.gn, .int .i64 x.im, .int .i64 x.wa, .int .i64 x.dn, .int .i64 x.ov, .int .i64 x.nx, .int .i64 x.pr, .int .i64 x.ls, .int .i64 x.ms, .int .i64 x.ld, .int .i64 x.cl]
theorem svL_one (x : Sv) : Array.all (svL x).toArray (·.oneCell') = true := by
  unfold svL
  simp [Value.oneCell']
theorem Sv_sizeI : (Try.prog.info? 29).map (·.size) = some 13 := by kernel_rfl
set_option maxHeartbeats 1000000 in
theorem szSv_any (x : Sv) (left : Int) (w : World) (h0 : 0 ≤ left) (h1 : left ≤ 1048576) (hz : SvSize x) :
    Calls Try.prog 5 #[.agg (svL x).toArray, .int .i64 left] w
      fun e w' => ∃ r : Int, e = .returned (.int .i64 r) ∧ Below w.heap.size w w' ∧ -1 ≤ r ∧ r ≤ left := by
  obtain ⟨s0⟩ := hz
  unfold maxLen at s0
  unfold svL
  go_enter Try.func5, Try.ntmps5
  go_wp2
  all_goals go_ret
  all_goals exact ⟨_, rfl, (Below.refl _ _).alloc (Nat.le_refl _) _, by omega, by omega⟩
set_option maxHeartbeats 1000000 in
theorem toSv_any (x : Sv) (w : World) :
    Calls Try.prog 8 #[.agg (svL x).toArray] w fun e w' => e = .returned (.agg (svL x).toArray) ∧ Below w.heap.size w w' := by
  unfold svL
  go_enter Try.func8, Try.ntmps8
  go_wp2
  refine bodyPost_ret (v := .agg #[.string x.nm, .int .i64 x.ve, .bool x.gn, .int .i64 x.im, .int .i64 x.wa, .int .i64 x.dn, .int .i64 x.ov, .int .i64 x.nx, .int .i64 x.pr, .int .i64 x.ls, .int .i64 x.ms, .int .i64 x.ld, .int .i64 x.cl]) (by simp [results, Try.results8, go_sem]) rfl ⟨rfl, ?_⟩
  repeat (refine Below.setCell ?_ (by simp) _)
  exact (((Below.refl _ _).alloc (Nat.le_refl _) _).alloc (by simp) _).alloc (by simp; omega) _
set_option maxHeartbeats 1000000 in
theorem eqSv_same (x : Sv) (w : World) :
    Calls Try.prog 10 #[.agg (svL x).toArray, .agg (svL x).toArray] w fun e w' => e = .returned (.bool true) ∧ Below w.heap.size w w' := by
  unfold svL
  go_enter Try.func10, Try.ntmps10
  go_wp2
  go_ret
  exact ⟨rfl, ((Below.refl _ _).alloc (Nat.le_refl _) _).alloc (by simp) _⟩
end Go.Proofs.Ytgnodlkdjpnmoaa
