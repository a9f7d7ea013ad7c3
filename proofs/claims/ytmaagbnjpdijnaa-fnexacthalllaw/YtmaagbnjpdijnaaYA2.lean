import Derived.Test.YtmaagbnjpdijnaaYA1
import Derived.WideMake
import Derived.Deep.RegionWith
namespace Go.Proofs.Ytmaagbnjpdijnaa
open Go.RowKit Go.Deep

theorem bcell {W w1 : World} (hb : Below W.heap.size W w1) : (∀ b o, b < W.heap.size → w1.cell? ⟨b, o, none⟩ = W.cell? ⟨b, o, none⟩) ∧ (∀ b o, b < W.heap.size → w1.frozen? ⟨b, o, none⟩ = W.frozen? ⟨b, o, none⟩) :=
  ⟨fun b o h => hb.cell (p := ⟨b, o, none⟩) h, fun b o h => hb.frozen (p := ⟨b, o, none⟩) h⟩

set_option maxHeartbeats 1000000 in
theorem eqField_same (nm to df we : ByteArray) (kd le mo ro : Int) (mu fx : Bool) (wv wv' : Value) (L : List ByteArray) (w : World) (hv : StrsAt w wv L) (hv' : StrsAt w wv' L) :
    Calls Try.prog 123 #[.agg #[.string nm, .int .i64 kd, .int .i64 le, .int .i64 mo, wv, .string to, .int .i64 ro, .bool mu, .bool fx, .string df, .string we],
      .agg #[.string nm, .int .i64 kd, .int .i64 le, .int .i64 mo, wv', .string to, .int .i64 ro, .bool mu, .bool fx, .string df, .string we]] w
      fun e w' => e = .returned (.bool true) ∧ Below w.heap.size w w' := by
  have HV := hide hv
  have HV' := hide hv'
  obtain ⟨a, n, cap, rfl⟩ := hv.form
  obtain ⟨a', n', cap', rfl⟩ := hv'.form
  clear hv hv'
  have HW : ∀ o o', Hid (Below w.heap.size w ((w.alloc o).alloc o')) := fun o o' => ((Below.refl _ _).alloc (Nat.le_refl _) _).alloc (by simp) _
  go_enter Try.func123, Try.ntmps123
  go_wp2_with fail
  refine (eqStrs_same _ _ L _ (HV.out.below (HW _ _).out) (HV'.out.below (HW _ _).out)).mono ?_
  rintro e w1 ⟨rfl, hb⟩
  have hz : w.heap.size + 1 < w1.heap.size := by have := hb.size; simp at this; omega
  have HB : Hid (Below w.heap.size w w1) := (HW _ _).out.trans (hb.mono (by simp; omega))
  obtain ⟨hc, hf⟩ := bcell hb
  clear hb
  go_wp2
  go_ret
  exact ⟨rfl, HB.out⟩
end Go.Proofs.Ytmaagbnjpdijnaa

namespace Go.Proofs.Ytmaagbnjpdijnaa
open Go.RowKit Go.Deep

/-- which values fit, by the field's kind -/
def fitsB (kd le mo : Int) (L : List ByteArray) (s : ByteArray) : Bool :=
  if kd = 1 then decB s && inB le mo (decV s) else if kd = 2 then decide (0 < s.size) && hasB L s else if kd = 3 then textB le mo s else if kd = 4 then nameB s else false

section
variable (nm to df we : ByteArray) (le mo ro : Int) (mu fx : Bool) (wv : Value) (L : List ByteArray) (s : ByteArray) (w : World)

end
end Go.Proofs.Ytmaagbnjpdijnaa

namespace Go.Proofs.Ytmaagbnjpdijnaa
open Go.RowKit Go.Deep

section
variable (nm to df we : ByteArray) (kd le mo ro : Int) (mu fx : Bool) (a : Option Addr) (n cap : Nat) (s : ByteArray) (w : World)

end
end Go.Proofs.Ytmaagbnjpdijnaa

namespace Go.Proofs.Ytmaagbnjpdijnaa
open Go.RowKit Go.Deep

section
variable (nm to df we : ByteArray) (le mo ro : Int) (mu fx : Bool) (wv : Value) (L : List ByteArray) (s : ByteArray) (w : World) (r : Nat)

end
end Go.Proofs.Ytmaagbnjpdijnaa

namespace Go.Proofs.Ytmaagbnjpdijnaa
open Go.RowKit Go.Deep
section
variable (nm to df we : ByteArray) (le mo ro : Int) (mu fx : Bool) (wv : Value) (L : List ByteArray) (s : ByteArray) (w : World) (r : Nat)
end
end Go.Proofs.Ytmaagbnjpdijnaa

