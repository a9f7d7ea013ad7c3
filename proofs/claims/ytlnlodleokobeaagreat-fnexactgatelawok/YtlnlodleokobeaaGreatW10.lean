import Derived.Test.YtlnlodleokobeaaGreatW9
import Derived.Deep.RegionWith
namespace Go.Proofs.YtlnlodleokobeaaGreat
open Go.RowKit Go.Deep
section
variable (nm to df we : ByteArray) (le mo ro : Int) (mu fx : Bool) (wv : Value) (L : List ByteArray) (s : ByteArray) (w : World) (r : Nat)
theorem makers_there (u : World) (o : Obj) : (u.alloc o).heap[u.heap.size]? = some o := (MapKept.heap_alloc u _).1

set_option maxHeartbeats 1000000 in
theorem implFits_any (kd : Int) (hv : StrsAt w wv L) (hs : s.size ≤ maxLen) :
    Calls Tryz.prog 210 #[.agg #[.string nm, .int .i64 kd, .int .i64 le, .int .i64 mo, wv, .string to, .int .i64 ro, .bool mu, .bool fx, .string df, .string we], .string s] w
      fun e w' => e = .returned (.bool (fitsB kd le mo L s)) ∧ Below w.heap.size w w' := by
  have HV := hide hv
  have HS := hide hs
  obtain ⟨a, n, cap, rfl⟩ := hv.form
  clear hv hs
  have HW : ∀ o, Hid (Below w.heap.size w (w.alloc o)) := fun o => (Below.refl _ _).alloc (Nat.le_refl _) _
  have hr0 : ∀ o, Hid ((((w.alloc o).alloc (.map makerEntries 4)).drew).heap[w.heap.size + 1]? = some (.map makerEntries 4)) := fun o => by
    have := makers_there (w.alloc o) (.map makerEntries 4)
    rw [World.size_alloc] at this
    exact this
  have hbw : ∀ o o', Hid (Below w.heap.size w (((w.alloc o).alloc o').drew)) := fun o o' => ((HW o).out.alloc (by simp) o').drew
  go_enter Tryz.func210, Tryz.ntmps210
  go_wp2
  go_region_with (first
    | (go_at_call 151; refine (makers_any _).mono ?_; rintro e w' ⟨rfl, rfl⟩)
    | (go_at_call 237; refine (fitsBy_any _ _ _ _ _ _ _ _ _ _ L _ _ _ _ (hr0 _).out (HV.out.below (hbw _ _).out) HS.out).mono ?_; rintro e w' ⟨rfl, hb⟩; have HB : Hid (Below w.heap.size w w') := (hbw _ _).out.trans (hb.mono (hbw _ _).out.size); clear hb))
  all_goals go_wp2
  all_goals go_ret
  all_goals exact ⟨rfl, HB.out⟩
end
end Go.Proofs.YtlnlodleokobeaaGreat

