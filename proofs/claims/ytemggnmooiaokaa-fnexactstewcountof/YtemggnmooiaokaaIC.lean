
import Derived.Test.YtemggnmooiaokaaIU
namespace Go.Proofs.Ytemggnmooiaokaa
open Go.RowKit Go.Deep Go.Maps

theorem valid_cps {B : Sb} (h : validB B = true) : B.cs.length ≤ 200 ∧ risR rSv B.ss = true ∧ risR aheadB B.cs = true ∧ ∀ i (h : i < B.cs.length), 1 ≤ B.cs[i].nu := by
  unfold validB at h
  simp only [Bool.and_eq_true, decide_eq_true_iff] at h
  obtain ⟨-, -, h1, -, ⟨-, h2⟩, -, h3, h4⟩ := h
  refine ⟨h1, h2, h4, fun i hi => ?_⟩
  have := all_at h3 hi
  unfold cpB at this
  split at this
  · cases this
  · unfold cpT at this
    simp only [Bool.and_eq_true] at this
    exact inB_lo this.1

set_option maxRecDepth 100000 in
set_option maxHeartbeats 8000000 in
theorem implCount_any (lo : Nat) (sv cv bv : Value) (B : Sb) (s : ByteArray) (w : World) (h : SbAt lo w sv cv bv B) (hs : s.size ≤ maxLen) :
    Calls Try.prog 12 #[.agg #[.int .i64 B.now, sv, cv, bv], .string s] w fun e w' => ∃ c : Ct, e = .returned (.agg #[.int .i64 c.li, .int .i64 c.re, .int .i64 c.ol, .int .i64 c.fa, .int .i64 c.en]) ∧ Hid (c = countB B s) ∧ Below w.heap.size w w' := by
  have HK := hide h
  have HSZ := hide hs
  obtain ⟨a0, k0, rfl⟩ := h.svs.form
  obtain ⟨a1, k1, rfl⟩ := h.cps.form
  obtain ⟨a2, k2, rfl⟩ := h.bes.form
  clear h hs
  go_enter Try.func12, Try.ntmps12
  go_wp2_with fail
  generalize hWa : World.alloc (w.alloc _) _ = Wa
  have HB0 : Hid (Below w.heap.size w Wa) := by rw [← hWa]; exact (one_al w _).alloc (by simp) _
  have FA0 : Hid (Box Wa w.heap.size #[.int .i64 B.now, .slice a0 B.ss.length k0, .slice a1 B.cs.length k1, .slice a2 B.bs.length k2]) := by rw [← hWa]; exact (Box.new _ _ _ _ rfl).on (one_al _ _)
  have FR0 : Hid (Box Wa (w.heap.size + 1) #[.int .i64 0, .int .i64 0, .int .i64 0, .int .i64 0, .int .i64 0]) := by rw [← hWa]; exact Box.new _ _ _ _ (by simp)
  clear hWa
  refine (validIndex_any lo _ _ _ B _ (HK.out.below HB0.out)).mono ?_
  rintro e w1 ⟨hb1, hh⟩
  have HB1 := hide (bt HB0.out hb1)
  have FA1 := hide (FA0.out.on hb1)
  have FR1 := hide (FR0.out.on hb1)
  clear hb1 FA0 FR0 HB0
  rcases hh with ⟨hv, rfl⟩ | ⟨hv, m, hix, rfl⟩
  · have HE : Hid (ct0 = countB B s) := by unfold Hid countB; rw [hv]; rfl
    have r0 : ∀ o i, (w1.alloc o).cell? ⟨w.heap.size + 1, i, none⟩ = (#[.int .i64 0, .int .i64 0, .int .i64 0, .int .i64 0, .int .i64 0] : Array Value)[i]? := fun o i => (FR1.out.on (one_al _ o)).cell i
    have g0 : ∀ o i, (w1.alloc o).frozen? ⟨w.heap.size + 1, i, none⟩ = false := fun o i => (FR1.out.on (one_al _ o)).free i
    have hlt := HB1.out.size
    clear hv
    go_wp2
    refine bodyPost_ret (v := .agg #[.int .i64 0, .int .i64 0, .int .i64 0, .int .i64 0, .int .i64 0]) (by simp [results, Try.results12, go_sem, r0]) rfl ⟨ct0, rfl, HE.out, ?_⟩
    repeat (refine Below.setCell ?_ (by simp only []; omega) _)
    exact bt HB1.out (one_al _ _)
  · have HIX := hide hix
    have HV := hide hv
    have HVC := hide (valid_cps hv)
    clear hix hv
    go_wp2_with fail
    generalize hWb : w1.alloc _ = Wb
    have HBb : Hid (Below w.heap.size w Wb) := by rw [← hWb]; exact bt HB1.out (one_al _ _)
    have FAb : Hid (Box Wb w.heap.size #[.int .i64 B.now, .slice a0 B.ss.length k0, .slice a1 B.cs.length k1, .slice a2 B.bs.length k2]) := by rw [← hWb]; exact FA1.out.on (one_al _ _)
    have FRb : Hid (Box Wb (w.heap.size + 1) #[.int .i64 0, .int .i64 0, .int .i64 0, .int .i64 0, .int .i64 0]) := by rw [← hWb]; exact FR1.out.on (one_al _ _)
    have HIb : Hid (IxAt Wb m B) := by rw [← hWb]; exact HIX.out.below (one_al _ _)
    clear hWb HB1 FA1 FR1 HIX
    refine (svcOf_any lo m _ _ _ B s _ (HK.out.below HBb.out) HIb.out HSZ.out HVC.out.2.1).mono ?_
    rintro e w2 ⟨x, t, rfl, hb2, hf⟩
    have HB2 := hide (bt HBb.out hb2)
    have FA2 := hide (FAb.out.on hb2)
    have FR2 := hide (FRb.out.on hb2)
    clear hb2 HBb FAb FRb HIb
    have hlt := HB2.out.size
    cases t with
    | false =>
      have HE : Hid (ct0 = countB B s) := by unfold Hid countB ctB; rw [HV.out, hf.out]; rfl
      have r0 : ∀ o i, (w2.alloc o).cell? ⟨w.heap.size + 1, i, none⟩ = (#[.int .i64 0, .int .i64 0, .int .i64 0, .int .i64 0, .int .i64 0] : Array Value)[i]? := fun o i => (FR2.out.on (one_al _ o)).cell i
      have g0 : ∀ o i, (w2.alloc o).frozen? ⟨w.heap.size + 1, i, none⟩ = false := fun o i => (FR2.out.on (one_al _ o)).free i
      go_wp2
      refine bodyPost_ret (v := .agg #[.int .i64 0, .int .i64 0, .int .i64 0, .int .i64 0, .int .i64 0]) (by simp [results, Try.results12, go_sem, r0]) rfl ⟨ct0, rfl, HE.out, ?_⟩
      repeat (refine Below.setCell ?_ (by simp only []; omega) _)
      exact bt HB2.out (one_al _ _)
    | true =>
      have HNM : Hid (x.nm = s) := by
        have h1 := List.find?_some (hf.out.trans (if_pos rfl))
        exact bytes_eq.1 h1
      have HE : Hid (ctL B.cs x.nm x.im = countB B s) := by unfold Hid countB ctB; rw [HV.out, hf.out, HNM.out]; rfl
      have g1 : ∀ o i, (w2.alloc o).cell? ⟨w.heap.size, i, none⟩ = (#[.int .i64 B.now, .slice a0 B.ss.length k0, .slice a1 B.cs.length k1, .slice a2 B.bs.length k2] : Array Value)[i]? := fun o i => (FA2.out.on (one_al _ o)).cell i
      go_wp2_with fail
      clear g1
      generalize hWc : w2.alloc _ = Wc
      have HBc : Hid (Below w.heap.size w Wc) := by rw [← hWc]; exact bt HB2.out (one_al _ _)
      have FRc : Hid (Box Wc (w.heap.size + 1) #[.int .i64 0, .int .i64 0, .int .i64 0, .int .i64 0, .int .i64 0]) := by rw [← hWc]; exact FR2.out.on (one_al _ _)
      clear hWc HB2 FA2 FR2
      have h200 := HVC.out.1
      refine (countIn_any lo B.now _ _ _ B.cs x _ (HK.out.below HBc.out).cps (by omega) HVC.out.2.2.1 HVC.out.2.2.2 ⟨_, _, _, rfl⟩ ⟨_, _, _, rfl⟩).mono ?_
      rintro e w3 ⟨c, rfl, hc, hb3⟩
      have HB3 := hide (bt HBc.out hb3)
      have FR3 := hide (FRc.out.on hb3)
      have HC : Hid (c = countB B s) := hc.out.trans HE.out
      clear hb3 hc
      have r0 := FR3.out.cell
      have g0 := FR3.out.free
      go_wp2
      refine bodyPost_ret (v := .agg #[.int .i64 c.li, .int .i64 c.re, .int .i64 c.ol, .int .i64 c.fa, .int .i64 c.en]) (by simp [results, Try.results12, go_sem, r0]) rfl ⟨c, rfl, HC.out, ?_⟩
      repeat (refine Below.setCell ?_ (by simp only []; omega) _)
      exact HB3.out
end Go.Proofs.Ytemggnmooiaokaa
