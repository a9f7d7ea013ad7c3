import Derived.Test.YthfdfdlojfdckaaGreatVS14
import Derived.Test.YthfdfdlojfdckaaGreatVB1
import Derived.Test.YthfdfdlojfdckaaGreatVB4
import Derived.Test.YthfdfdlojfdckaaGreatVA1
import Derived.Test.YthfdfdlojfdckaaGreatVA2
import Derived.Test.YthfdfdlojfdckaaGreatVB5
namespace Go.Proofs.YthfdfdlojfdckaaGreat
open Go.RowKit Go.Deep

theorem shapes_all {Ss : List Sh} {k : Nat} (h6 : Ss.length ≤ 6) (hk : Ss.length ≤ k) (h : ∀ i, i < k → shapeAt Ss i = true) : shapesB Ss = true := by
  unfold shapesB
  rw [range_all (fun i hi => h i (by omega))]
  simp [h6]

set_option maxRecDepth 100000 in
set_option maxHeartbeats 4000000 in
theorem implShapes_any (lo : Nat) (v : Value) (Ss : List Sh) (w : World) (hv : ShsAt lo w v Ss) :
    Calls Tryz.prog 132 #[v] w fun e w' => e = .returned (.bool (shapesB Ss)) ∧ Below w.heap.size w w' := by
  have HL := hide hv
  have HW : ∀ o, Hid (Below w.heap.size w (w.alloc o)) := fun o => (Below.refl _ _).alloc (Nat.le_refl _) _
  by_cases hL : Ss = []
  · subst hL
    obtain ⟨a, cap, rfl⟩ := hv.form
    clear hv
    go_enter Tryz.func132, Tryz.ntmps132
    go_wp2_with fail
    refine (makers_any _).mono ?_
    rintro e w1 ⟨rfl, rfl⟩
    go_wp2
    go_loop [12] (fun i => i = .int .i64 0) (fun _ => 0)
    case atStart => rfl
    case round =>
      subst hrel
      go_wp2
      go_ret
      exact ⟨rfl, (HW _).out⟩
  obtain ⟨b, off, cap, rfl, hm, hbw, hc⟩ := hv.full hL
  clear hv
  unfold maxLen at hm
  by_cases h6 : (Ss.length : Int) ≤ 6
  · go_enter Tryz.func132, Tryz.ntmps132
    go_wp2_with fail
    refine (makers_any _).mono ?_
    rintro e w1 ⟨rfl, hw1⟩
    have HB0 : Hid (Below w.heap.size w w1) := by unfold Hid; rw [hw1]; exact (HW _).out
    have HR0 : Hid (w1.heap[w.heap.size]? = some (.map makerEntries 4)) := by unfold Hid; rw [hw1]; exact (MapKept.heap_alloc w _).1
    have hz1 : w.heap.size < w1.heap.size := by rw [hw1]; simp
    clear hw1
    go_wp2
    go_loopw [12] (fun i wr => ∃ k : Nat, i = .int .i64 k ∧ k ≤ Ss.length ∧ Below w1.heap.size w1 wr ∧ ∀ i, i < k → shapeAt Ss i = true) (fun i _ => Ss.length - (intOf i).toNat)
    case atStart => exact ⟨0, rfl, by omega, Below.refl _ _, fun i h => by omega⟩
    case round =>
      obtain ⟨k, rfl, hk, hb1, hall⟩ := hrel
      have HA := hide hall
      have HB1 := hide hb1
      have HB : Hid (Below w.heap.size w wr) := HB0.out.trans (hb1.mono HB0.out.size)
      have HR : Hid (wr.heap[w.heap.size]? = some (.map makerEntries 4)) := by unfold Hid; rw [hb1.block w.heap.size hz1]; exact HR0.out
      clear hall hb1
      by_cases hlt : k < Ss.length
      · obtain ⟨hsz, fv, d0, d1, hst⟩ := hc k hlt
        have c0 : wr.cell? ⟨b, off + k * 2, none⟩ = some (.string Ss[k].kind) := by rw [HB.out.cell (p := ⟨b, _, none⟩) hbw]; exact d0
        have c1 : wr.cell? ⟨b, off + k * 2 + 1, none⟩ = some fv := by rw [HB.out.cell (p := ⟨b, _, none⟩) hbw]; exact d1
        have HST := hide hst
        obtain ⟨fa, fcap, rfl⟩ := hst.form
        clear d0 d1 hst
        have hbo : b < wr.heap.size := Nat.lt_of_lt_of_le hbw HB.out.size
        cases hnm : nameB Ss[k].kind with
        | false =>
          have HN : Hid (shapesB Ss = false) := by
            unfold Hid
            refine shapes_no hlt ?_
            cases k with
            | zero => rw [shapeAt_zero hlt, hnm]; rfl
            | succ j => rw [shapeAt_succ hlt, hnm]; rfl
          go_wp2
          go_quiet ((go_at_call 98; exact Calls.quiet_of_same (isName_any _ _ hsz)))
          go_wp2
          go_ret
          exact ⟨ret_bool HN.out.symm, below_drewN (HB.out.alloc HB.out.size _) _⟩
        | true =>
          cases k with
          | zero =>
            have HEQ : Hid (shapeAt Ss 0 = fieldsB Ss Ss[0].fields) := by unfold Hid; rw [shapeAt_zero hlt, hnm]; rfl
            have c0' : wr.cell? ⟨b, off, none⟩ = some (.string Ss[0].kind) := by simpa using c0
            have c1' : wr.cell? ⟨b, off + 1, none⟩ = some (.slice fa Ss[0].fields.length fcap) := by simpa using c1
            clear c0 c1
            go_wp2
            go_quiet ((go_at_call 98; exact Calls.quiet_of_same (isName_any _ _ hsz)))
            go_wp2_with fail
            have HBD : ∀ o n, Hid (Below w.heap.size w ((wr.alloc o).drewN n)) := fun o n => below_drewN (HB.out.alloc HB.out.size _) _
            have HRD : ∀ o n, Hid (((wr.alloc o).drewN n).heap[w.heap.size]? = some (.map makerEntries 4)) := fun o n => by
              unfold Hid
              rw [(below_drewN ((Below.refl wr.heap.size wr).alloc (Nat.le_refl _) o) n).block w.heap.size (Nat.lt_of_lt_of_le hz1 HB1.out.size)]; exact HR.out
            refine (fieldsOk_any w.heap.size lo lo _ _ Ss Ss[0].fields _ (HRD _ _).out (HL.out.below (HBD _ _).out) (HST.out.below (HBD _ _).out)).mono ?_
            rintro e w3 ⟨rfl, hb3⟩
            have HB3 : Hid (Below w.heap.size w w3) := (HBD _ _).out.trans (hb3.mono (HBD _ _).out.size)
            have HB13 : Hid (Below w1.heap.size w1 w3) := (below_drewN (HB1.out.alloc HB1.out.size _) _).trans (hb3.mono (below_drewN (HB1.out.alloc HB1.out.size _) _).size)
            clear hb3
            cases hfb : fieldsB Ss Ss[0].fields with
            | false =>
              have HN : Hid (shapesB Ss = false) := shapes_no hlt (by rw [HEQ.out]; exact hfb)
              go_wp2
              go_ret
              exact ⟨ret_bool HN.out.symm, HB3.out⟩
            | true =>
              have hnx : Hid (∀ i, i < 0 + 1 → shapeAt Ss i = true) := fun i hi => by
                by_cases e : i = 0
                · rw [e, HEQ.out]; exact hfb
                · exact HA.out i (by omega)
              go_wp2
              go_roundw
              case rel => exact ⟨0 + 1, by go_num, by omega, HB13.out, hnx.out⟩
              case measure => simp [intOf]; omega
          | succ jj =>
            obtain ⟨_, fvj, dj, _, _⟩ := hc jj (by omega)
            have cj : wr.cell? ⟨b, off + jj * 2, none⟩ = some (.string Ss[jj].kind) := by rw [HB.out.cell (p := ⟨b, _, none⟩) hbw]; exact dj
            clear dj
            have hjw : IntKind.i64.wrap (jj : Int) = jj := by rw [IntKind.wrap_i64]; omega
            have hjl : jj < Ss.length := by omega
            have hdl : decide ((jj : Int) + 1 < (Ss.length : Int)) = true := by simp; omega
            have cj2 : ∀ o, (wr.alloc o).cell? ⟨b, off + jj * 2, none⟩ = some (.string Ss[jj].kind) := fun o => by rw [((Below.refl wr.heap.size wr).alloc (Nat.le_refl _) o).cell (p := ⟨b, _, none⟩) hbo]; exact cj
            have cj3 : ∀ o n, ((wr.alloc o).drewN n).cell? ⟨b, off + jj * 2, none⟩ = some (.string Ss[jj].kind) := fun o n => cj2 o
            cases hls : Op.bytesLess Ss[jj].kind.toList Ss[jj + 1].kind.toList with
            | false =>
              have HN : Hid (shapesB Ss = false) := shapes_no hlt (by rw [shapeAt_succ hlt, hls]; simp)
              go_wp2
              go_quiet ((go_at_call 98; exact Calls.quiet_of_same (isName_any _ _ hsz)))
              go_wp2
              go_ret
              exact ⟨ret_bool HN.out.symm, below_drewN (HB.out.alloc HB.out.size _) _⟩
            | true =>
              have HEQ : Hid (shapeAt Ss (jj + 1) = fieldsB Ss Ss[jj + 1].fields) := by unfold Hid; rw [shapeAt_succ hlt, hnm, hls]; rfl
              go_wp2
              go_quiet ((go_at_call 98; exact Calls.quiet_of_same (isName_any _ _ hsz)))
              go_wp2_with fail
              have HBD : ∀ o n, Hid (Below w.heap.size w ((wr.alloc o).drewN n)) := fun o n => below_drewN (HB.out.alloc HB.out.size _) _
              have HRD : ∀ o n, Hid (((wr.alloc o).drewN n).heap[w.heap.size]? = some (.map makerEntries 4)) := fun o n => by
                unfold Hid
                rw [(below_drewN ((Below.refl wr.heap.size wr).alloc (Nat.le_refl _) o) n).block w.heap.size (Nat.lt_of_lt_of_le hz1 HB1.out.size)]; exact HR.out
              refine (fieldsOk_any w.heap.size lo lo _ _ Ss Ss[jj + 1].fields _ (HRD _ _).out (HL.out.below (HBD _ _).out) (HST.out.below (HBD _ _).out)).mono ?_
              rintro e w3 ⟨rfl, hb3⟩
              have HB3 : Hid (Below w.heap.size w w3) := (HBD _ _).out.trans (hb3.mono (HBD _ _).out.size)
              have HB13 : Hid (Below w1.heap.size w1 w3) := (below_drewN (HB1.out.alloc HB1.out.size _) _).trans (hb3.mono (below_drewN (HB1.out.alloc HB1.out.size _) _).size)
              clear hb3
              cases hfb : fieldsB Ss Ss[jj + 1].fields with
              | false =>
                have HN : Hid (shapesB Ss = false) := shapes_no hlt (by rw [HEQ.out]; exact hfb)
                go_wp2
                go_ret
                exact ⟨ret_bool HN.out.symm, HB3.out⟩
              | true =>
                have hnx : Hid (∀ i, i < jj + 1 + 1 → shapeAt Ss i = true) := fun i hi => by
                  by_cases e : i = jj + 1
                  · rw [e, HEQ.out]; exact hfb
                  · exact HA.out i (by omega)
                go_wp2
                go_roundw
                case rel => exact ⟨jj + 1 + 1, by go_num, by omega, HB13.out, hnx.out⟩
                case measure => simp [intOf]; omega
      · go_wp2
        go_ret
        exact ⟨ret_bool (shapes_all (by omega) (by omega) HA.out).symm, HB.out⟩
  · go_enter Tryz.func132, Tryz.ntmps132
    go_wp2
    go_ret
    exact ⟨ret_bool (by unfold shapesB; simp; intro h; omega), Below.refl _ _⟩
end Go.Proofs.YthfdfdlojfdckaaGreat

