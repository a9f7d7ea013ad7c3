import Derived.Test.YtgnodlkdjpnmoaaW6
namespace Go.Proofs.Ytgnodlkdjpnmoaa
open Go.RowKit Go.Deep

section
variable (kind nm team : ByteArray) (vv hv : Value) (en : Bool) (ver : Int) (V Ho : List ByteArray) (w : World)

def SzObj (V Ho : List ByteArray) (left r : Int) : Prop := -1 ≤ r ∧ r ≤ left ∧ (0 ≤ r → (V.length : Int) ≤ left ∧ (Ho.length : Int) ≤ left)

set_option maxHeartbeats 1000000 in
theorem szObj_any (left : Int) (hV : StrsAt w vv V) (hH : StrsAt w hv Ho) (h0 : 0 ≤ left) (h1 : left ≤ 1048576) (s1 : kind.size ≤ maxLen) (s2 : nm.size ≤ maxLen) (s3 : team.size ≤ maxLen) :
    Calls Try.prog 4 #[.agg #[.string kind, .string nm, .string team, vv, .bool en, hv, .int .i64 ver], .int .i64 left] w
      fun e w' => ∃ r : Int, e = .returned (.int .i64 r) ∧ Below w.heap.size w w' ∧ SzObj V Ho left r := by
  have HV := hide hV
  have HH := hide hH
  obtain ⟨a, n, cap, rfl⟩ := hV.form
  obtain ⟨a', n', cap', rfl⟩ := hH.form
  clear hV hH
  unfold maxLen at s1 s2 s3
  have HW : ∀ o, Hid (Below w.heap.size w (w.alloc o)) := fun o => (Below.refl _ _).alloc (Nat.le_refl _) _
  by_cases c1 : (kind.size : Int) ≤ left
  · by_cases c2 : (kind.size : Int) + nm.size ≤ left
    · by_cases c3 : (kind.size : Int) + nm.size + team.size ≤ left
      · go_enter Try.func4, Try.ntmps4
        go_wp2_with fail
        refine (szStrs_any _ V _ _ (by omega) (by omega) (HV.out.below (HW _).out)).mono ?_
        rintro e w1 ⟨r, rfl, rfl, q0, q1, q2⟩
        by_cases hr : r < 0
        · go_wp2
          go_ret
          exact ⟨-1, rfl, (HW _).out, by omega, by omega, fun h => by omega⟩
        · go_wp2_with fail
          refine (szStrs_any _ Ho _ _ (by omega) (by omega) (HH.out.below (HW _).out)).mono ?_
          rintro e w1 ⟨r2, rfl, rfl, p0, p1, p2⟩
          go_wp2
          all_goals go_ret
          all_goals first
            | exact ⟨_, rfl, (HW _).out, by omega, by omega, fun h => ⟨by have := q2 (by omega); omega, by have := p2 (by omega); omega⟩⟩
            | exact ⟨-1, rfl, (HW _).out, by omega, by omega, fun h => by omega⟩
      · go_enter Try.func4, Try.ntmps4
        go_wp2
        go_ret
        exact ⟨-1, rfl, (HW _).out, by omega, by omega, fun h => by omega⟩
    · go_enter Try.func4, Try.ntmps4
      go_wp2
      go_ret
      exact ⟨-1, rfl, (HW _).out, by omega, by omega, fun h => by omega⟩
  · go_enter Try.func4, Try.ntmps4
    go_wp2
    go_ret
    exact ⟨-1, rfl, (HW _).out, by omega, by omega, fun h => by omega⟩

set_option maxHeartbeats 1000000 in
theorem toObj_any (hV : StrsAt w vv V) (hH : StrsAt w hv Ho) (n1 : V.length ≤ 1048576) (n2 : Ho.length ≤ 1048576) :
    Calls Try.prog 7 #[.agg #[.string kind, .string nm, .string team, vv, .bool en, hv, .int .i64 ver]] w
      fun e w' => ∃ v' h', e = .returned (.agg #[.string kind, .string nm, .string team, v', .bool en, h', .int .i64 ver]) ∧ Below w.heap.size w w' ∧ StrsIn w.heap.size w' v' V ∧ StrsIn w.heap.size w' h' Ho := by
  have HV := hide hV
  have HH := hide hH
  obtain ⟨a, n, cap, rfl⟩ := hV.form
  obtain ⟨a', n', cap', rfl⟩ := hH.form
  clear hV hH
  have HW : ∀ o o' o'', Hid (Below w.heap.size w (((w.alloc o).alloc o').alloc o'')) := fun o o' o'' => (((Below.refl _ _).alloc (Nat.le_refl _) _).alloc (by simp) _).alloc (by simp; omega) _
  go_enter Try.func7, Try.ntmps7
  go_wp2_with fail
  refine (toStrs_any _ V _ (HV.out.below (HW _ _ _).out) n1).mono ?_
  rintro e w1 ⟨v1, rfl, hb, hs⟩
  obtain ⟨a1, m1, cap1, rfl⟩ := hs.form
  have HS : Hid (StrsIn (w.heap.size + 3) w1 (.slice a1 m1 cap1) V) := hs.mono (by simp)
  have hz : w.heap.size + 2 < w1.heap.size := by have := hb.size; simp at this; omega
  obtain ⟨hc, hf⟩ := bcell hb
  have HB : Hid (Below w.heap.size w w1) := (HW _ _ _).out.trans (hb.mono (by simp; omega))
  clear hb hs
  go_wp2_with fail
  have hX : Hid (Below w.heap.size w ((w1.setCell ⟨w.heap.size + 1 + 1, 3, none⟩ (.slice a1 m1 cap1)).setCell ⟨w.heap.size + 1 + 1, 4, none⟩ (.bool en))) := (HB.out.setCell (by simp only []; omega) _).setCell (by simp only []; omega) _
  have hXs : ((w1.setCell ⟨w.heap.size + 1 + 1, 3, none⟩ (.slice a1 m1 cap1)).setCell ⟨w.heap.size + 1 + 1, 4, none⟩ (.bool en)).heap.size = w1.heap.size := by simp [World.setCell]
  have HS' := hide ((HS.out.setCell (p := ⟨w.heap.size + 1 + 1, 3, none⟩) (by simp only []; omega) (.slice a1 m1 cap1)).setCell (p := ⟨w.heap.size + 1 + 1, 4, none⟩) (by simp only []; omega) (.bool en))
  refine (toStrs_any _ Ho _ (HH.out.below hX.out) n2).mono ?_
  rintro e w2 ⟨v2, rfl, hb2, hs2⟩
  obtain ⟨a2, m2, cap2, rfl⟩ := hs2.form
  have HS2 : Hid (StrsIn (w.heap.size + 3) w2 (.slice a1 m1 cap1) V) := HS'.out.below hb2
  have HH2 : Hid (StrsIn (w.heap.size + 3) w2 (.slice a2 m2 cap2) Ho) := hs2.mono (by rw [hXs]; omega)
  have hz2 : w.heap.size + 2 < w2.heap.size := by have := hb2.size; rw [hXs] at this; omega
  have HB2 : Hid (Below w.heap.size w w2) := hX.out.trans (hb2.mono hX.out.size)
  have hc2 : ∀ b o, b < w1.heap.size → w2.cell? ⟨b, o, none⟩ = ((w1.setCell ⟨w.heap.size + 1 + 1, 3, none⟩ (.slice a1 m1 cap1)).setCell ⟨w.heap.size + 1 + 1, 4, none⟩ (.bool en)).cell? ⟨b, o, none⟩ := fun b o h => hb2.cell (p := ⟨b, o, none⟩) (by rw [hXs]; exact h)
  have hf2 : ∀ b o, b < w1.heap.size → w2.frozen? ⟨b, o, none⟩ = ((w1.setCell ⟨w.heap.size + 1 + 1, 3, none⟩ (.slice a1 m1 cap1)).setCell ⟨w.heap.size + 1 + 1, 4, none⟩ (.bool en)).frozen? ⟨b, o, none⟩ := fun b o h => hb2.frozen (p := ⟨b, o, none⟩) (by rw [hXs]; exact h)
  clear hb2 hs2 hXs
  have hz0 : w.heap.size < w1.heap.size := by omega
  have hz1 : w.heap.size + 1 < w1.heap.size := by omega
  have hz1' : w.heap.size + 1 + 1 < w1.heap.size := by omega
  go_wp2
  refine bodyPost_ret (v := .agg #[.string kind, .string nm, .string team, .slice a1 m1 cap1, .bool en, .slice a2 m2 cap2, .int .i64 ver]) (by simp [results, Try.results7, go_sem, hc, hc2, hz1]) rfl ⟨_, _, rfl, ?_, ?_, ?_⟩
  · repeat (refine Below.setCell ?_ (by simp only []; omega) _)
    exact HB2.out
  · refine StrsIn.mono (lo := w.heap.size + 3) ?_ (by omega)
    repeat (refine StrsIn.setCell ?_ (by simp only []; omega) _)
    exact HS2.out
  · refine StrsIn.mono (lo := w.heap.size + 3) ?_ (by omega)
    repeat (refine StrsIn.setCell ?_ (by simp only []; omega) _)
    exact HH2.out

set_option maxHeartbeats 1000000 in
theorem eqObj_same (vv' hv' : Value) (hV : StrsAt w vv V) (hH : StrsAt w hv Ho) (hV' : StrsAt w vv' V) (hH' : StrsAt w hv' Ho) :
    Calls Try.prog 11 #[.agg #[.string kind, .string nm, .string team, vv, .bool en, hv, .int .i64 ver], .agg #[.string kind, .string nm, .string team, vv', .bool en, hv', .int .i64 ver]] w
      fun e w' => e = .returned (.bool true) ∧ Below w.heap.size w w' := by
  have HV := hide hV
  have HH := hide hH
  have HV' := hide hV'
  have HH' := hide hH'
  obtain ⟨a, n, cap, rfl⟩ := hV.form
  obtain ⟨a1, n1, cap1, rfl⟩ := hH.form
  obtain ⟨a2, n2, cap2, rfl⟩ := hV'.form
  obtain ⟨a3, n3, cap3, rfl⟩ := hH'.form
  clear hV hH hV' hH'
  have HW : ∀ o o', Hid (Below w.heap.size w ((w.alloc o).alloc o')) := fun o o' => ((Below.refl _ _).alloc (Nat.le_refl _) _).alloc (by simp) _
  go_enter Try.func11, Try.ntmps11
  go_wp2_with fail
  refine (eqStrs_same _ _ V _ (HV.out.below (HW _ _).out) (HV'.out.below (HW _ _).out)).mono ?_
  rintro e w1 ⟨rfl, hb⟩
  have hz : w.heap.size + 1 < w1.heap.size := by have := hb.size; simp at this; omega
  have HB : Hid (Below w.heap.size w w1) := (HW _ _).out.trans (hb.mono (by simp; omega))
  obtain ⟨hc, hf⟩ := bcell hb
  clear hb
  go_wp2_with fail
  refine (eqStrs_same _ _ Ho _ (HH.out.below HB.out) (HH'.out.below HB.out)).mono ?_
  rintro e w2 ⟨rfl, hb2⟩
  have HB2 : Hid (Below w.heap.size w w2) := HB.out.trans (hb2.mono HB.out.size)
  have hz2 : w.heap.size < w1.heap.size := by omega
  obtain ⟨hc2, hf2⟩ := bcell hb2
  clear hb2
  go_wp2
  go_ret
  exact ⟨rfl, HB2.out⟩
end
end Go.Proofs.Ytgnodlkdjpnmoaa

