import Derived.Test.YtpdlcccnlciecaaGreatV28
namespace Go.Proofs.YtpdlcccnlciecaaGreat
open Go.RowKit Go.Deep

/-! impl's acts of one look -/
theorem rest_any (w : World) : Calls Tryz.prog 99 #[] w fun e w' => e = .returned (.tuple #[.agg zAct.toArray, .bool false]) ∧ ∃ o, w' = w.alloc o := by
  go_enter Tryz.func99, Tryz.ntmps99
  go_wp2
  refine bodyPost_ret (v := .tuple #[.agg zAct.toArray, .bool false]) (by simp [results, Tryz.results99, go_sem]) rfl ⟨rfl, _, rfl⟩

section
variable (lo m : Nat) (sv cv bv : Value) (B : Sb) (x : Sv) (n : Ct) (d : Int) (lk : List Value) (w : World)

set_option maxRecDepth 100000 in
set_option maxHeartbeats 4000000 in
theorem lookAct_any (hlk : LkIs lk m sv cv bv B x n d) :
    Calls Tryz.prog 129 #[.agg lk.toArray] w fun e w' => e = .returned (.agg #[.string x.nm, .int .i64 x.ve, .int .i64 0, .int .i64 0, .int .i64 0, .bool false, .slice none 0 0, .bool false]) ∧ ∃ o o', w' = (w.alloc o).alloc o' := by
  have FA : ∀ o i, ((w.alloc (.cells lk.toArray 105)).alloc o).cell? ⟨w.heap.size, i, none⟩ = lk.toArray[i]? := fun o i => ((Box.new _ _ _ _ rfl).on (one_al _ _)).cell i
  have f5 : ∀ o, ((w.alloc (.cells lk.toArray 105)).alloc o).cell? ⟨w.heap.size, 5, none⟩ = some (.string x.nm) := fun o => by rw [FA, hlk]; rfl
  have f6 : ∀ o, ((w.alloc (.cells lk.toArray 105)).alloc o).cell? ⟨w.heap.size, 6, none⟩ = some (.int .i64 x.ve) := fun o => by rw [FA, hlk]; rfl
  clear FA
  go_enter Tryz.func129, Tryz.ntmps129
  go_wp2
  refine bodyPost_ret (v := .agg #[.string x.nm, .int .i64 x.ve, .int .i64 0, .int .i64 0, .int .i64 0, .bool false, .slice none 0 0, .bool false]) (by simp [results, Tryz.results129, go_sem]) rfl ⟨rfl, _, _, rfl⟩

set_option maxRecDepth 100000 in
set_option maxHeartbeats 4000000 in
theorem lookCreate_any (k : Int) (hlk : LkIs lk m sv cv bv B x n d) :
    Calls Tryz.prog 100 #[.agg lk.toArray, .int .i64 k] w fun e w' => e = .returned (.tuple #[.agg #[.string x.nm, .int .i64 x.ve, .int .i64 k, .int .i64 0, .int .i64 0, .bool false, .slice none 0 0, .bool false], .bool true]) ∧ ∃ o0 o1 o2 o3 o4, w' = ((((w.alloc o0).alloc o1).alloc o2).alloc o3).alloc o4 := by
  have FX : Hid (Box ((w.alloc (.cells lk.toArray 105)).alloc (.cells zAct.toArray 47)) w.heap.size lk.toArray) := (Box.new _ _ _ _ rfl).on (one_al _ _)
  have HLK := hide hlk
  clear hlk
  go_enter Tryz.func100, Tryz.ntmps100
  go_wp2_with (first
    | (refine wpList_load_mid rfl 105 (.tmp 2) rfl w.heap.size 0 rfl lk _ FX.out.rng Tryz.underlying105 rfl HLK.out.size ?_)
    | (go_at_call 129; refine (lookAct_any m sv cv bv B x n d lk _ HLK.out).mono ?_; rintro e w1 ⟨rfl, o, o', rfl⟩))
  exact bodyPost_ret (v := .tuple #[.agg #[.string x.nm, .int .i64 x.ve, .int .i64 k, .int .i64 0, .int .i64 0, .bool false, .slice none 0 0, .bool false], .bool true]) (by simp [results, Tryz.results100, go_sem]) rfl ⟨rfl, _, _, _, _, _, rfl⟩

set_option maxRecDepth 100000 in
set_option maxHeartbeats 4000000 in
theorem lookScale_any (a b : Int) (hlk : LkIs lk m sv cv bv B x n d) :
    Calls Tryz.prog 111 #[.agg lk.toArray, .int .i64 a, .int .i64 b] w fun e w' => e = .returned (.tuple #[.agg #[.string x.nm, .int .i64 x.ve, .int .i64 0, .int .i64 a, .int .i64 b, .bool true, .slice none 0 0, .bool false], .bool true]) ∧ ∃ o0 o1 o2 o3 o4, w' = ((((w.alloc o0).alloc o1).alloc o2).alloc o3).alloc o4 := by
  have FX : Hid (Box ((w.alloc (.cells lk.toArray 105)).alloc (.cells zAct.toArray 47)) w.heap.size lk.toArray) := (Box.new _ _ _ _ rfl).on (one_al _ _)
  have HLK := hide hlk
  clear hlk
  go_enter Tryz.func111, Tryz.ntmps111
  go_wp2_with (first
    | (refine wpList_load_mid rfl 105 (.tmp 3) rfl w.heap.size 0 rfl lk _ FX.out.rng Tryz.underlying105 rfl HLK.out.size ?_)
    | (go_at_call 129; refine (lookAct_any m sv cv bv B x n d lk _ HLK.out).mono ?_; rintro e w1 ⟨rfl, o, o', rfl⟩))
  exact bodyPost_ret (v := .tuple #[.agg #[.string x.nm, .int .i64 x.ve, .int .i64 0, .int .i64 a, .int .i64 b, .bool true, .slice none 0 0, .bool false], .bool true]) (by simp [results, Tryz.results111, go_sem]) rfl ⟨rfl, _, _, _, _, _, rfl⟩

set_option maxRecDepth 100000 in
set_option maxHeartbeats 4000000 in
theorem lookDrop_any (hlk : LkIs lk m sv cv bv B x n d) :
    Calls Tryz.prog 113 #[.agg lk.toArray] w fun e w' => e = .returned (.tuple #[.agg #[.string x.nm, .int .i64 x.ve, .int .i64 0, .int .i64 0, .int .i64 0, .bool false, .slice none 0 0, .bool true], .bool true]) ∧ ∃ o0 o1 o2 o3 o4, w' = ((((w.alloc o0).alloc o1).alloc o2).alloc o3).alloc o4 := by
  have FX : Hid (Box ((w.alloc (.cells lk.toArray 105)).alloc (.cells zAct.toArray 47)) w.heap.size lk.toArray) := (Box.new _ _ _ _ rfl).on (one_al _ _)
  have HLK := hide hlk
  clear hlk
  go_enter Tryz.func113, Tryz.ntmps113
  go_wp2_with (first
    | (refine wpList_load_mid rfl 105 (.tmp 1) rfl w.heap.size 0 rfl lk _ FX.out.rng Tryz.underlying105 rfl HLK.out.size ?_)
    | (go_at_call 129; refine (lookAct_any m sv cv bv B x n d lk _ HLK.out).mono ?_; rintro e w1 ⟨rfl, o, o', rfl⟩))
  exact bodyPost_ret (v := .tuple #[.agg #[.string x.nm, .int .i64 x.ve, .int .i64 0, .int .i64 0, .int .i64 0, .bool false, .slice none 0 0, .bool true], .bool true]) (by simp [results, Tryz.results113, go_sem]) rfl ⟨rfl, _, _, _, _, _, rfl⟩

end
end Go.Proofs.YtpdlcccnlciecaaGreat
