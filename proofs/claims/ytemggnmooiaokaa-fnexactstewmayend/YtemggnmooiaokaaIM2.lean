
import Derived.Test.YtemggnmooiaokaaIM
namespace Go.Proofs.Ytemggnmooiaokaa
open Go.RowKit Go.Deep

theorem svB_of {B : Sb} (hv : validB B = true) {s : ByteArray} {x : Sv} (hx : svF B.ss s = some x) : (0 ≤ x.wa ∧ x.wa ≤ 10) ∧ (0 ≤ x.dn ∧ x.dn ≤ 10) := by
  have h := valid_ss hv
  have hm := List.mem_of_find?_eq_some hx
  exact svB_wd (List.all_eq_true.1 h x hm)

set_option maxRecDepth 100000 in
set_option maxHeartbeats 8000000 in
theorem implMay_any (lo : Nat) (sv cv bv : Value) (B : Sb) (s : ByteArray) (n : Int) (w : World) (h : SbAt lo w sv cv bv B) (hs : s.size ≤ maxLen) :
    Calls Try.prog 15 #[.agg #[.int .i64 B.now, sv, cv, bv], .string s, .int .i64 n] w fun e w' => e = .returned (.bool (mayB B s n)) ∧ Below w.heap.size w w' := by
  have HK := hide h
  have HSZ := hide hs
  obtain ⟨a0, k0, rfl⟩ := h.svs.form
  obtain ⟨a1, k1, rfl⟩ := h.cps.form
  obtain ⟨a2, k2, rfl⟩ := h.bes.form
  clear h hs
  go_enter Try.func15, Try.ntmps15
  go_wp2_with fail
  generalize hWa : w.alloc _ = Wa
  have HB0 : Hid (Below w.heap.size w Wa) := by rw [← hWa]; exact one_al w _
  have FA0 : Hid (Box Wa w.heap.size #[.int .i64 B.now, .slice a0 B.ss.length k0, .slice a1 B.cs.length k1, .slice a2 B.bs.length k2]) := by rw [← hWa]; exact Box.new _ _ _ _ rfl
  clear hWa
  refine (validIndex_any lo _ _ _ B _ (HK.out.below HB0.out)).mono ?_
  rintro e w1 ⟨hb1, hh⟩
  have HB1 := hide (bt HB0.out hb1)
  have FA1 := hide (FA0.out.on hb1)
  clear hb1 FA0 HB0
  rcases hh with ⟨hv, rfl⟩ | ⟨hv, m, hix, rfl⟩
  · have HE : Hid (mayB B s n = false) := by unfold Hid mayB; rw [hv]; rfl
    clear hv
    go_wp2
    go_ret
    exact ⟨ret_bool HE.out.symm, bt HB1.out (one_al _ _)⟩
  · have HIX := hide hix
    have HV := hide hv
    have HVC := hide (valid_cps hv)
    clear hix hv
    go_wp2_with fail
    generalize hWb : w1.alloc _ = Wb
    have HBb : Hid (Below w.heap.size w Wb) := by rw [← hWb]; exact bt HB1.out (one_al _ _)
    have FAb : Hid (Box Wb w.heap.size #[.int .i64 B.now, .slice a0 B.ss.length k0, .slice a1 B.cs.length k1, .slice a2 B.bs.length k2]) := by rw [← hWb]; exact FA1.out.on (one_al _ _)
    have HIb : Hid (IxAt Wb m B) := by rw [← hWb]; exact HIX.out.below (one_al _ _)
    clear hWb HB1 FA1 HIX
    refine (svcOf_any lo m _ _ _ B s _ (HK.out.below HBb.out) HIb.out HSZ.out HVC.out.2.1).mono ?_
    rintro e w2 ⟨x, t, rfl, hb2, hf⟩
    have HB2 := hide (bt HBb.out hb2)
    have FA2 := hide (FAb.out.on hb2)
    clear hb2 HBb FAb HIb
    cases t with
    | false =>
      have HE : Hid (mayB B s n = false) := by
        unfold Hid mayB mayT
        rw [hf.out, HV.out]
        cases cpF B.cs s n <;> rfl
      clear hf
      go_wp2
      go_ret
      exact ⟨ret_bool HE.out.symm, bt HB2.out (one_al _ _)⟩
    | true =>
      have HX : Hid (svF B.ss s = some x) := hf.out.trans (if_pos rfl)
      have HWD := hide (svB_of HV.out HX.out)
      have g1 : ∀ o i, (w2.alloc o).cell? ⟨w.heap.size, i, none⟩ = (#[.int .i64 B.now, .slice a0 B.ss.length k0, .slice a1 B.cs.length k1, .slice a2 B.bs.length k2] : Array Value)[i]? := fun o i => (FA2.out.on (one_al _ o)).cell i
      clear hf
      go_wp2_with fail
      clear g1
      generalize hWc : w2.alloc _ = Wc
      have HBc : Hid (Below w.heap.size w Wc) := by rw [← hWc]; exact bt HB2.out (one_al _ _)
      have FAc : Hid (Box Wc w.heap.size #[.int .i64 B.now, .slice a0 B.ss.length k0, .slice a1 B.cs.length k1, .slice a2 B.bs.length k2]) := by rw [← hWc]; exact FA2.out.on (one_al _ _)
      have FXc : Hid (Box Wc w2.heap.size #[.string x.nm, .int .i64 x.ve, .bool x.gn, .int .i64 x.im, .int .i64 x.wa, .int .i64 x.dn, .int .i64 x.ov, .int .i64 x.nx, .int .i64 x.pr, .int .i64 x.ls, .int .i64 x.ms, .int .i64 x.ld, .int .i64 x.cl]) := by
        unfold Hid
        rw [← hWc]
        exact Box.new _ _ _ _ rfl
      clear hWc HB2 FA2
      have h200 := HVC.out.1
      refine (copyPlace_any lo B.now _ _ _ B.cs s n _ (HK.out.below HBc.out).cps (by omega) HVC.out.2.2.1 ⟨_, _, _, rfl⟩ ⟨_, _, _, rfl⟩).mono ?_
      rintro e w3 ⟨⟨p, hsp, rfl⟩, hb3⟩
      have HB3 := hide (bt HBc.out hb3)
      have FA3 := hide (FAc.out.on hb3)
      have FX3 := hide (FXc.out.on hb3)
      have HCI := hide (cp_is HVC.out.2.2.1 hsp)
      clear hb3 hsp HBc FAc FXc
      rcases HCI.out with ⟨ht, hn⟩ | ⟨ht, hp, hc, -, -, -⟩
      · have HE : Hid (mayB B s n = false) := by
          unfold Hid mayB mayT
          rw [hn, HV.out]
          rfl
        rw [ht]
        clear hn ht HCI
        go_wp2
        go_ret
        exact ⟨ret_bool HE.out.symm, HB3.out⟩
      · have HE : Hid (mayB B s n = mayC B.cs x B.cs[p]) := by
          unfold Hid mayB
          rw [HV.out, may_is HVC.out.2.2.1 hp hc HX.out]
          rfl
        rw [ht]
        have g1 := FA3.out.cell
        have g2 := FX3.out.cell
        clear hc ht HCI
        go_wp2_with fail
        refine (mayAt_any lo B.now _ _ _ B.cs x p hp _ (HK.out.below HB3.out).cps (by omega) HVC.out.2.2.1 HVC.out.2.2.2 ⟨_, _, _, rfl⟩ ⟨_, _, _, rfl⟩ HWD.out).mono ?_
        rintro e w4 ⟨rfl, hb4⟩
        have HB4 := hide (bt HB3.out hb4)
        clear hb4 g1 g2
        go_wp2
        go_ret
        exact ⟨ret_bool HE.out.symm, HB4.out⟩
end Go.Proofs.Ytemggnmooiaokaa
