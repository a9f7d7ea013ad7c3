import Derived.Test.YtlnlodleokobeaaGreatW5
namespace Go.Proofs.YtlnlodleokobeaaGreat
open Go.RowKit Go.Deep

theorem bcell {W w1 : World} (hb : Below W.heap.size W w1) : (∀ b o, b < W.heap.size → w1.cell? ⟨b, o, none⟩ = W.cell? ⟨b, o, none⟩) ∧ (∀ b o, b < W.heap.size → w1.frozen? ⟨b, o, none⟩ = W.frozen? ⟨b, o, none⟩) :=
  ⟨fun b o h => hb.cell (p := ⟨b, o, none⟩) h, fun b o h => hb.frozen (p := ⟨b, o, none⟩) h⟩

set_option maxHeartbeats 1000000 in
theorem toField_any (nm to df we : ByteArray) (kd le mo ro : Int) (mu fx : Bool) (wv : Value) (L : List ByteArray) (w : World) (hv : StrsAt w wv L) (hn : L.length ≤ 1048576) :
    Calls Tryz.prog 201 #[.agg #[.string nm, .int .i64 kd, .int .i64 le, .int .i64 mo, wv, .string to, .int .i64 ro, .bool mu, .bool fx, .string df, .string we]] w
      fun e w' => ∃ wv', e = .returned (.agg #[.string nm, .int .i64 kd, .int .i64 le, .int .i64 mo, wv', .string to, .int .i64 ro, .bool mu, .bool fx, .string df, .string we]) ∧ Below w.heap.size w w' ∧ StrsIn w.heap.size w' wv' L := by
  have HV : Hid (StrsAt w wv L) := hv
  obtain ⟨a, n, cap, rfl⟩ := hv.form
  clear hv
  go_enter Tryz.func201, Tryz.ntmps201
  go_wp2_with fail
  refine (toStrs_any _ L _ (HV.out.below ?_) hn).mono ?_
  · exact (((Below.refl _ _).alloc (Nat.le_refl _) _).alloc (by simp) _).alloc (by simp; omega) _
  rintro e w1 ⟨wv', rfl, hb, hs⟩
  obtain ⟨a', n', cap', rfl⟩ := hs.form
  have HS : Hid (StrsIn (w.heap.size + 3) w1 (.slice a' n' cap') L) := hs.mono (by simp)
  clear hs
  have hz : w.heap.size + 2 < w1.heap.size := by have := hb.size; simp at this; omega
  obtain ⟨hc, hf⟩ := bcell hb
  have HB : Hid (Below w.heap.size w w1) := ((((Below.refl _ _).alloc (Nat.le_refl _) _).alloc (by simp) _).alloc (by simp; omega) _).trans (hb.mono (by simp; omega))
  clear hb
  go_wp2
  refine bodyPost_ret (v := .agg #[.string nm, .int .i64 kd, .int .i64 le, .int .i64 mo, .slice a' n' cap', .string to, .int .i64 ro, .bool mu, .bool fx, .string df, .string we]) (by simp [results, Tryz.results201, go_sem, hc]) rfl ⟨_, rfl, ?_, ?_⟩
  · repeat (refine Below.setCell ?_ (by simp only []; omega) _)
    exact HB.out
  · refine StrsIn.mono (lo := w.heap.size + 3) ?_ (by omega)
    repeat (refine StrsIn.setCell ?_ (by simp only []; omega) _)
    exact HS.out

set_option maxHeartbeats 1000000 in
theorem szField_any (nm to df we : ByteArray) (kd le mo ro : Int) (mu fx : Bool) (wv : Value) (L : List ByteArray) (left : Int) (w : World) (hv : StrsAt w wv L) (h0 : 0 ≤ left) (h1 : left ≤ 1048576)
    (s1 : nm.size ≤ maxLen) (s2 : to.size ≤ maxLen) (s3 : df.size ≤ maxLen) (s4 : we.size ≤ maxLen) :
    Calls Tryz.prog 198 #[.agg #[.string nm, .int .i64 kd, .int .i64 le, .int .i64 mo, wv, .string to, .int .i64 ro, .bool mu, .bool fx, .string df, .string we], .int .i64 left] w
      fun e w' => ∃ r : Int, e = .returned (.int .i64 r) ∧ Below w.heap.size w w' ∧ SzOk L.length left r := by
  have HV : Hid (StrsAt w wv L) := hv
  obtain ⟨a, n, cap, rfl⟩ := hv.form
  clear hv
  unfold maxLen at s1 s2 s3 s4
  have HW : ∀ o, Hid (Below w.heap.size w (w.alloc o)) := fun o => (Below.refl _ _).alloc (Nat.le_refl _) _
  by_cases c1 : (nm.size : Int) ≤ left
  · go_enter Tryz.func198, Tryz.ntmps198
    go_wp2_with fail
    refine (szStrs_any _ L _ _ (by omega) (by omega) (HV.out.below (HW _).out)).mono ?_
    rintro e w1 ⟨r, rfl, rfl, hr0, hr1, hr2⟩
    go_wp2
    all_goals go_ret
    all_goals refine ⟨_, rfl, (HW _).out, by omega, by omega, fun _ => ?_⟩
    all_goals have := hr2 (by omega)
    all_goals omega
  · go_enter Tryz.func198, Tryz.ntmps198
    go_wp2
    go_ret
    exact ⟨-1, rfl, (HW _).out, by omega, by omega, fun h => by omega⟩

set_option maxHeartbeats 1000000 in
theorem eqField_same (nm to df we : ByteArray) (kd le mo ro : Int) (mu fx : Bool) (wv wv' : Value) (L : List ByteArray) (w : World) (hv : StrsAt w wv L) (hv' : StrsAt w wv' L) :
    Calls Tryz.prog 214 #[.agg #[.string nm, .int .i64 kd, .int .i64 le, .int .i64 mo, wv, .string to, .int .i64 ro, .bool mu, .bool fx, .string df, .string we],
      .agg #[.string nm, .int .i64 kd, .int .i64 le, .int .i64 mo, wv', .string to, .int .i64 ro, .bool mu, .bool fx, .string df, .string we]] w
      fun e w' => e = .returned (.bool true) ∧ Below w.heap.size w w' := by
  have HV := hide hv
  have HV' := hide hv'
  obtain ⟨a, n, cap, rfl⟩ := hv.form
  obtain ⟨a', n', cap', rfl⟩ := hv'.form
  clear hv hv'
  have HW : ∀ o o', Hid (Below w.heap.size w ((w.alloc o).alloc o')) := fun o o' => ((Below.refl _ _).alloc (Nat.le_refl _) _).alloc (by simp) _
  go_enter Tryz.func214, Tryz.ntmps214
  go_wp2_with fail
  refine (eqStrs_same _ _ L _ (HV.out.below (HW _ _).out) (HV'.out.below (HW _ _).out)).mono ?_
  rintro e w1 ⟨rfl, hb⟩
  have hz : w.heap.size + 1 < w1.heap.size := by have := hb.size; simp at this; omega
  have HB : Hid (Below w.heap.size w w1) := (HW _ _).out.trans (hb.mono (by simp; omega))
  obtain ⟨hc, hf⟩ := bcell hb
  clear hb
  go_wp2
  go_ret
  exact ⟨rfl, HB.out⟩
end Go.Proofs.YtlnlodleokobeaaGreat

