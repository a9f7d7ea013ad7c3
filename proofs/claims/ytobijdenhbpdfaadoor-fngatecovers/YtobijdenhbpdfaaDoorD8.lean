import Derived.Test.YtobijdenhbpdfaaDoorD7
namespace Go.Proofs.YtobijdenhbpdfaaDoor
open Go.RowKit Go.Deep

def fieldV (n : ByteArray) (k lo hi : Int) (ws : Value) (to : ByteArray) (ro : Int) (mu fx : Bool) (df we : ByteArray) : Value :=
  .agg #[.string n, .int .i64 k, .int .i64 lo, .int .i64 hi, ws, .string to, .int .i64 ro, .bool mu, .bool fx, .string df, .string we]

set_option maxHeartbeats 1000000 in
theorem l11Num_any (n df we : ByteArray) (m : Int) (mu fx : Bool) (w : World) :
    Calls Tryd.prog 66 #[.string n, .int .i64 m, .bool mu, .bool fx, .string df, .string we] w fun e w' => e = .returned (fieldV n 1 1 m (.slice none 0 0) ⟨#[]⟩ 0 mu fx df we) ∧ Below w.heap.size w w' := by
  go_enter Tryd.func66, Tryd.ntmps66
  go_wp2
  refine bodyPost_ret (v := fieldV n 1 1 m (.slice none 0 0) ⟨#[]⟩ 0 mu fx df we) (by simp [results, Tryd.results66, go_sem, fieldV]) rfl ⟨rfl, ?_⟩
  repeat (refine Below.setCell ?_ (by simp only []; omega) _)
  exact one_al _ _

set_option maxHeartbeats 1000000 in
theorem l11Word_any (n df : ByteArray) (a : Option Addr) (k c : Nat) (w : World) :
    Calls Tryd.prog 67 #[.string n, .slice a k c, .string df] w fun e w' => e = .returned (fieldV n 2 0 0 (.slice a k c) ⟨#[]⟩ 0 false false df ⟨#[]⟩) ∧ Below w.heap.size w w' := by
  go_enter Tryd.func67, Tryd.ntmps67
  go_wp2
  refine bodyPost_ret (v := fieldV n 2 0 0 (.slice a k c) ⟨#[]⟩ 0 false false df ⟨#[]⟩) (by simp [results, Tryd.results67, go_sem, fieldV]) rfl ⟨rfl, ?_⟩
  repeat (refine Below.setCell ?_ (by simp only []; omega) _)
  exact one_al _ _

set_option maxHeartbeats 1000000 in
theorem l11Link_any (n t : ByteArray) (r : Int) (w : World) :
    Calls Tryd.prog 68 #[.string n, .string t, .int .i64 r] w fun e w' => e = .returned (fieldV n 4 0 0 (.slice none 0 0) t r false false ⟨#[]⟩ ⟨#[]⟩) ∧ Below w.heap.size w w' := by
  go_enter Tryd.func68, Tryd.ntmps68
  go_wp2
  refine bodyPost_ret (v := fieldV n 4 0 0 (.slice none 0 0) t r false false ⟨#[]⟩ ⟨#[]⟩) (by simp [results, Tryd.results68, go_sem, fieldV]) rfl ⟨rfl, ?_⟩
  repeat (refine Below.setCell ?_ (by simp only []; omega) _)
  exact one_al _ _

end Go.Proofs.YtobijdenhbpdfaaDoor

