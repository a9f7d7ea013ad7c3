import Derived.Test.YtmaagbnjpdijnaaS6
namespace Go.Proofs.Ytmaagbnjpdijnaa
open Go.RowKit Go.Deep

def emptyOrName (s : ByteArray) : Bool := s.toList.isEmpty || nameB s

set_option maxHeartbeats 400000 in
theorem emptyOrName_any (s : ByteArray) (w : World) (hs : s.size ≤ maxLen) :
    Calls Try.prog 82 #[.string s] w fun e w' => e = .returned (.bool (emptyOrName s)) ∧ w' = w := by
  have hk := isName_any s w hs
  cases he : s.toList.isEmpty with
  | true =>
    go_enter Try.func82, Try.ntmps82
    go_wp2
    go_ret
    exact ⟨ret_bool (by simp [emptyOrName, he]), rfl⟩
  | false =>
    go_enter Try.func82, Try.ntmps82
    go_wp2_with fail
    refine hk.mono ?_
    rintro e w1 ⟨rfl, rfl⟩
    go_wp2
    go_ret
    exact ⟨ret_bool (by simp [emptyOrName, he]), rfl⟩

section
variable (nm to df we : ByteArray) (le mo ro : Int) (mu fx : Bool) (a : Option Addr) (n cap : Nat) (w : World)

/-- what a kind does not use is nothing -/
def bare1 (n : Nat) (to : ByteArray) (ro : Int) : Bool := ((n : Int) == 0) && to.toList.isEmpty && (ro == 0)
def bare2 (le mo : Int) (to : ByteArray) (ro : Int) (we : ByteArray) : Bool := (le == 0) && (mo == 0) && we.toList.isEmpty && to.toList.isEmpty && (ro == 0)
def bare3 (n : Nat) (to : ByteArray) (ro : Int) (we : ByteArray) : Bool := we.toList.isEmpty && ((n : Int) == 0) && to.toList.isEmpty && (ro == 0)
def bare4 (le mo : Int) (n : Nat) (we : ByteArray) : Bool := (le == 0) && (mo == 0) && we.toList.isEmpty && ((n : Int) == 0)

end
end Go.Proofs.Ytmaagbnjpdijnaa

