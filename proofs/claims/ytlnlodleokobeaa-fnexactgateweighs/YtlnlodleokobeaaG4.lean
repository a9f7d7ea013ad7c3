import Derived.Test.YtlnlodleokobeaaG3
namespace Go.Proofs.Ytlnlodleokobeaa
open Go.RowKit Go.Deep Go.Shelf

attribute [local go_sem] Oper.semAt_some

theorem wrap_add (a b : Int) : wrap64 (wrap64 a + b) = wrap64 (a + b) := by unfold wrap64; omega
theorem wrap_in {n : Int} (h : -9223372036854775808 ≤ n ∧ n ≤ 9223372036854775807) : wrap64 n = n := by unfold wrap64; omega

section
variable (lo : Nat) (sv mv tv : Value) (Ss : List Sh) (Ms : List Md) (Ts : List Tm) (kind nm team : ByteArray) (vv hv : Value) (en : Bool) (ver : Int) (V Ho : List ByteArray) (r : ByteArray) (w : World)

set_option maxRecDepth 100000 in
set_option maxHeartbeats 4000000 in
theorem implWeighs_any (h : LawAt lo w sv mv tv Ss Ms Ts) (hV : StrsAt w vv V) (hH : StrsAt w hv Ho) (n1 : V.length ≤ 1048576) :
    Calls Try.prog 10 #[.agg #[sv, mv, tv], .agg #[.string kind, .string nm, .string team, vv, .bool en, hv, .int .i64 ver], .string r] w
      fun e w' => e = .returned (.int .i64 (weighV Ss kind V r)) ∧ Below w.heap.size w w' := by
  have HL := hide h
  have HV := hide hV
  obtain ⟨a, cap, rfl⟩ := h.shs.form
  obtain ⟨a1, cap1, rfl⟩ := h.mds.form
  obtain ⟨a2, cap2, rfl⟩ := h.tms.form
  obtain ⟨va, vcap, rfl⟩ := hV.form'
  obtain ⟨ha, hcap, rfl⟩ := hH.form'
  clear h hV hH
  refine (callsIn_wide (n := 5)).1 ?_
  refine callsIn_of_wp_marks Try.func10 rfl trivial ?_ rfl
  simp only [Try.ntmps10, List.size_toArray, List.length_cons, List.length_nil, Nat.reduceAdd, Nat.reduceSub, Array.replicate_succ, Array.replicate_zero, List.push_toArray, List.append_toArray, List.nil_append, List.cons_append]
  gi_wp2_with fail
  refine ⟨trivial, (weights_in kind nm team en ver _ Fence.wide _ trivial rfl a Ss.length cap va V.length vcap ha Ho.length hcap).mono ?_⟩
  rintro e w1 ⟨rfl, hw1⟩
  obtain ⟨wl, hwl, HX1, HX2, HR, HS, HB, hsz⟩ : ∃ wl, wl = w1 ∧
      Hid (Box wl (w.heap.size + 1 + 1 + 1 + 1) #[.slice a Ss.length cap]) ∧ Hid (Box wl (w.heap.size + 1 + 1 + 1 + 1 + 1) #[.string kind, .string nm, .string team, .slice va V.length vcap, .bool en, .slice ha Ho.length hcap, .int .i64 ver]) ∧
      Hid (Box wl (w.heap.size + 1 + 1) #[.string r]) ∧ Hid (Box wl (w.heap.size + 1 + 1 + 1) #[.int .i64 0]) ∧ Hid (Below w.heap.size w wl) ∧ wl.heap.size = w.heap.size + 6 := by
    subst hw1
    refine ⟨_, rfl, (Box.new _ _ _ _ (by simp)).on (one_al _ _), Box.new _ _ _ _ (by simp), (((Box.new _ _ _ _ (by simp)).on (one_al _ _)).on (one_al _ _)).on (one_al _ _), ((Box.new _ _ _ _ (by simp)).on (one_al _ _)).on (one_al _ _), ?_, by simp⟩
    exact (((((one_al _ _).trans ((one_al _ _).mono (by simp))).trans ((one_al _ _).mono (by simp; omega))).trans ((one_al _ _).mono (by simp; omega))).trans ((one_al _ _).mono (by simp; omega))).trans ((one_al _ _).mono (by simp; omega))
  subst hwl
  clear hw1
  gi_wp2
  have hSd : ∀ k, k < w.heap.size → ¬ (fun k => k = w.heap.size + 1 + 1 + 1) k := fun k hk he => by simp only at he; omega
  refine wpIn_rangeFunc_ownF rfl (by decide) (gf := 56) (lb := #[.pointer (some ⟨w.heap.size + 1 + 1 + 1 + 1, 0, none⟩), .pointer (some ⟨w.heap.size + 1 + 1 + 1 + 1 + 1, 0, none⟩)]) rfl trivial (enters_of Try.func56 (by kernel_rfl) rfl)
    (weights_stops lo _ Ss kind nm team _ _ en ver V wl _ (by decide) (fun k => k = w.heap.size + 1 + 1 + 1) w _ _ HB.out HL.out.shs HV.out n1 hSd (by omega) (fun k hk he => by omega) HX1.out HX2.out)
    KeepsBut.trans KeepsBut.put (Below.refl _ _) (fun _ => rfl)
    (fun pre W => (W.cell? ⟨w.heap.size + 1 + 1 + 1, 0, none⟩ = some (.int .i64 (wrap64 (rsum r pre))) ∧ W.frozen? ⟨w.heap.size + 1 + 1 + 1, 0, none⟩ = false ∧ W.cell? ⟨w.heap.size + 1 + 1, 0, none⟩ = some (.string r)) ∧ Below w.heap.size w W)
    (fun _ _ _ => False)
    (OwnFrom.and (Own.from (fun s A B row hs hg hr => ⟨cell_kept hs.1 hg hr, (frozen_kept hs.1 hg hr).trans hs.2.1, cell_kept hs.2.2 hg hr⟩) _) (ownFrom_below (Nat.le_refl _) (by omega)))
    (fun _ _ _ _ _ hs _ _ => hs)
    ⟨⟨by have := HS.out.cell 0; simpa [rsum_nil, wrap64] using this, HS.out.free 0, by have := HR.out.cell 0; simpa using this⟩, HB.out⟩
    (fun x => { tmps := #[.agg #[.slice a Ss.length cap, .slice a1 Ms.length cap1, .slice a2 Ts.length cap2], .agg #[.string kind, .string nm, .string team, .slice va V.length vcap, .bool en, .slice ha Ho.length hcap, .int .i64 ver], .string r, .pointer (some ⟨w.heap.size, 0, none⟩), .pointer (some ⟨w.heap.size + 1, 0, none⟩), .pointer (some ⟨w.heap.size + 1 + 1, 0, none⟩), .int .i64 0, .pointer (some ⟨w.heap.size + 1 + 1 + 1, 0, none⟩), .string x.1, .int .i64 x.2, .pointer (some ⟨w.heap.size, 0, none⟩), .slice a Ss.length cap, .agg #[.string kind, .string nm, .string team, .slice va V.length vcap, .bool en, .slice ha Ho.length hcap, .int .i64 ver], .func (.func 56) #[] #[.pointer (some ⟨w.heap.size + 1 + 1 + 1 + 1, 0, none⟩), .pointer (some ⟨w.heap.size + 1 + 1 + 1 + 1 + 1, 0, none⟩)], .string x.1, .int .i64 x.2, undef, undef, undef, undef, undef, undef, undef], defers := [] }) ?assign ?body ?done ?stop
  case assign =>
    intro l x W K hK
    gi_wp2
    exact hK
  case body =>
    rintro l pre x W ⟨⟨hc, hf, hr⟩, hB⟩ _
    have HBW := hide hB
    clear hB
    cases hx : (x.1.toList == r.toList) with
    | true =>
      gi_wp2
      refine ⟨KeepsOthers.setCell _ _ _, KeepsBut.set _ _ _ rfl, ⟨?_, by rw [World.frozen?_setCell]; exact hf, by rw [cell_setCell_ne _ _ _ _ (by simp only []; omega)]; exact hr⟩, HBW.out.setCell (p := ⟨w.heap.size + 1 + 1 + 1, 0, none⟩) (by simp only []; omega) _⟩
      rw [rsum_append, rsum_one, hx, if_pos rfl]
      exact (World.cell?_setCell_same' _ _ _ (by rw [hc]; rfl)).trans (by rw [wrap_add])
    | false =>
      gi_wp2
      refine ⟨KeepsOthers.refl _, KeepsBut.refl _ _ _, ⟨?_, hf, hr⟩, HBW.out⟩
      rw [rsum_append, rsum_one, hx]
      simpa using hc
  case done =>
    rintro D ys W hD rfl ⟨⟨hc, _, _⟩, hB⟩ hK
    have HBW := hide hB
    clear hB
    have hbd := weigh_bd Ss kind V r
    rw [rsum_wlist, wrap_in (by omega)] at hc
    gi_wp2
    refine ⟨by simp, .inl ⟨_, _, rfl, run_takeDeferred hK, ?_⟩⟩
    exact ⟨_, results_tmp rfl _ _ _, rfl, HBW.out.trans (belowK_b (w := w) (Nat.le_refl _) W D _ _ (by omega) hK rfl rfl)⟩
  case stop =>
    rintro D c pre W _ _ h _
    exact h.elim
end
end Go.Proofs.Ytlnlodleokobeaa
