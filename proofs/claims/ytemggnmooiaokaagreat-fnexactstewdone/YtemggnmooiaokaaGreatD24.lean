import Derived.Test.YtemggnmooiaokaaGreatD21
namespace Go.Proofs.YtemggnmooiaokaaGreat
open Go.RowKit Go.Deep

set_option maxRecDepth 100000 in
set_option maxHeartbeats 8000000 in
theorem l16Desired_any (x : Sv) (w : World) (hp : 1 ≤ x.pr) (hp2 : x.pr ≤ 1000000) (hl0 : 0 ≤ x.ld) (hl : x.ld ≤ 1000000) :
    Calls Tryz.prog 21 #[.agg #[.string x.nm, .int .i64 x.ve, .bool x.gn, .int .i64 x.im, .int .i64 x.wa, .int .i64 x.dn, .int .i64 x.ov, .int .i64 x.nx, .int .i64 x.pr, .int .i64 x.ls, .int .i64 x.ms, .int .i64 x.ld, .int .i64 x.cl]] w fun e w' => e = .returned (.int .i64 (desF x)) ∧ ∃ o, w' = w.alloc o := by
  have hne : x.pr ≠ 0 := by omega
  go_enter Tryz.func21, Tryz.ntmps21
  go_wp2
  all_goals
    go_ret
    refine ⟨congrArg (fun q => Ending.returned (.int .i64 q)) ?_, _, rfl⟩
    unfold desF
    dsimp only
    (repeat' split) <;> omega
/-- an act with no ends, as a value -/
def ac0V (A : Ac) : Value := .agg #[.string A.sv, .int .i64 A.sn, .int .i64 A.cr, .int .i64 A.wa, .int .i64 A.cl, .bool A.sc, .slice none 0 0, .bool A.dp]

set_option maxRecDepth 100000 in
set_option maxHeartbeats 8000000 in
theorem l16Scaler_any (x : Sv) (w : World) (hp : 1 ≤ x.pr) (hp2 : x.pr ≤ 1000000) (hl0 : 0 ≤ x.ld) (hl : x.ld ≤ 1000000) (hw0 : 0 ≤ x.wa) (hw : x.wa ≤ 10) (hc0 : 0 ≤ x.cl) (hc : x.cl ≤ 3) :
    Calls Tryz.prog 66 #[.agg #[.string x.nm, .int .i64 x.ve, .bool x.gn, .int .i64 x.im, .int .i64 x.wa, .int .i64 x.dn, .int .i64 x.ov, .int .i64 x.nx, .int .i64 x.pr, .int .i64 x.ls, .int .i64 x.ms, .int .i64 x.ld, .int .i64 x.cl], ac0V (ac0 x)] w fun e w' => e = .returned (ac0V (sclF x)) ∧ Below w.heap.size w w' := by
  have HC := fun w => hide (l16Desired_any x w hp hp2 hl0 hl)
  generalize hD : desF x = D at HC
  unfold ac0V ac0
  go_enter Tryz.func66, Tryz.ntmps66
  go_wp2_with fail
  refine (HC _).out.mono ?_
  rintro e w3 ⟨rfl, o, rfl⟩
  clear HC
  go_wp2
  · refine bodyPost_ret (v := .agg #[.string x.nm, .int .i64 x.ve, .int .i64 0, .int .i64 x.ls, .int .i64 0, .bool true, .slice none 0 0, .bool false]) (by simp [results, Tryz.results66, go_sem]) rfl ⟨?_, (((one_al w _).alloc (by simp) _).alloc (by simp; omega) _).alloc (by simp; omega) _⟩
    subst hD
    unfold sclF
    (repeat' split) <;> first | rfl | omega
  · refine bodyPost_ret (v := .agg #[.string x.nm, .int .i64 x.ve, .int .i64 0, .int .i64 x.ms, .int .i64 0, .bool true, .slice none 0 0, .bool false]) (by simp [results, Tryz.results66, go_sem]) rfl ⟨?_, (((one_al w _).alloc (by simp) _).alloc (by simp; omega) _).alloc (by simp; omega) _⟩
    subst hD
    unfold sclF
    (repeat' split) <;> first | rfl | omega
  · refine bodyPost_ret (v := .agg #[.string x.nm, .int .i64 x.ve, .int .i64 0, .int .i64 D, .int .i64 0, .bool true, .slice none 0 0, .bool false]) (by simp [results, Tryz.results66, go_sem]) rfl ⟨?_, (((one_al w _).alloc (by simp) _).alloc (by simp; omega) _).alloc (by simp; omega) _⟩
    subst hD
    unfold sclF
    (repeat' split) <;> first | rfl | omega
  · refine bodyPost_ret (v := .agg #[.string x.nm, .int .i64 x.ve, .int .i64 0, .int .i64 (x.wa - 1), .int .i64 0, .bool true, .slice none 0 0, .bool false]) (by simp [results, Tryz.results66, go_sem]) rfl ⟨?_, (((one_al w _).alloc (by simp) _).alloc (by simp; omega) _).alloc (by simp; omega) _⟩
    subst hD
    unfold sclF
    (repeat' split) <;> first | rfl | omega
  · refine bodyPost_ret (v := .agg #[.string x.nm, .int .i64 x.ve, .int .i64 0, .int .i64 x.wa, .int .i64 (x.cl + 1), .bool true, .slice none 0 0, .bool false]) (by simp [results, Tryz.results66, go_sem]) rfl ⟨?_, (((one_al w _).alloc (by simp) _).alloc (by simp; omega) _).alloc (by simp; omega) _⟩
    subst hD
    unfold sclF
    (repeat' split) <;> first | rfl | omega
  · refine bodyPost_ret (v := .agg #[.string x.nm, .int .i64 x.ve, .int .i64 0, .int .i64 0, .int .i64 0, .bool false, .slice none 0 0, .bool false]) (by simp [results, Tryz.results66, go_sem]) rfl ⟨?_, (((one_al w _).alloc (by simp) _).alloc (by simp; omega) _).alloc (by simp; omega) _⟩
    have hy : (x.cl == 0) = true := by assumption
    have hz : x.cl = 0 := by simpa using hy
    subst hD
    unfold sclF
    (repeat' split) <;> first | rfl | omega
  · refine bodyPost_ret (v := .agg #[.string x.nm, .int .i64 x.ve, .int .i64 0, .int .i64 x.wa, .int .i64 0, .bool true, .slice none 0 0, .bool false]) (by simp [results, Tryz.results66, go_sem]) rfl ⟨?_, (((one_al w _).alloc (by simp) _).alloc (by simp; omega) _).alloc (by simp; omega) _⟩
    have hy : (x.cl == 0) = false := by assumption
    have hz : x.cl ≠ 0 := by simpa using hy
    subst hD
    unfold sclF
    (repeat' split) <;> first | rfl | omega
end Go.Proofs.YtemggnmooiaokaaGreat
