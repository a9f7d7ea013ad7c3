
import Derived.Test.YthecacabcgaenaaIX
import Derived.WalkSmall
namespace Go.Proofs.Ythecacabcgaenaa
open Go.RowKit Go.Deep Go.Maps

theorem ranges_kept_below {w wr w1 : World} {r : Nat} (h : Below w.heap.size w wr) (hg : wr.grownBy w1 (some r)) (hr : w.heap.size ≤ r) : Below w.heap.size w w1 := by
  have hz := h.size
  exact h.trans ⟨hg.os, hg.tape, hg.output, hg.size, fun k hk => hg.block k (by omega) (fun e => by have := Option.some.inj e; omega)⟩
theorem grown_of_below' {w w' : World} (h : Below w.heap.size w w') : w.grownBy w' none :=
  ⟨h.os, h.tape, h.output, h.size, fun k hk _ => h.block k hk⟩
theorem Box.grown {w w' : World} {β m : Nat} {cs : Array Value} (h : Box w β cs) (hg : w.grownBy w' (some m)) (hm : β ≠ m) : Box w' β cs := by
  have hb : w'.heap[β]? = w.heap[β]? := hg.block β h.lt (fun e => hm (by injection e))
  exact ⟨Nat.lt_of_lt_of_le h.lt hg.size, fun i => by rw [World.cell?_of_block (w := w) (a := ⟨β, i, none⟩) hb]; exact h.cell i, fun i => by rw [World.frozen?_of_block (w := w) (a := ⟨β, i, none⟩) hb]; exact h.free i⟩

set_option maxRecDepth 100000 in
set_option maxHeartbeats 4000000 in
theorem indexOf_any (lo : Nat) (sv cv bv : Value) (B : Sb) (w : World) (h : SbAt lo w sv cv bv B) (h1 : B.ss.length ≤ 8) (h2 : B.bs.length ≤ 6) :
    Calls Try.prog 49 #[.agg #[.int .i64 B.now, sv, cv, bv]] w
      fun e w' => ∃ m : Nat, w.heap.size ≤ m ∧ e = .returned (.agg #[.int .i64 B.now, sv, cv, bv, .map (some m)]) ∧ Below w.heap.size w w' ∧ ∃ D : DataW Unit, w'.ownsMap Try.prog 102 (plainElem Try.prog 3) m (B.ss.length + B.bs.length) D ∧ IxOk B.ss B.bs D := by
  have HK := hide h
  obtain ⟨a0, k0, rfl⟩ := h.svs.form
  obtain ⟨a1, k1, rfl⟩ := h.cps.form
  obtain ⟨a2, k2, rfl⟩ := h.bes.form
  clear h
  have hmk : ∀ (n : Nat) (w : World), (Instr.makeMap 71 (some (.int .i64 n))).run Try.prog w = .ok (.map (some w.heap.size)) (w.alloc (.map #[] 0)) := fun n w => by simp [Instr.makeMap, go_sem, run_underlying Try.underlying71, Result.andThen]
  have hmm : ∀ w : World, (Instr.makeMap 71 (some (.int .i64 ((B.ss.length : Int) + (B.bs.length : Int))))).run Try.prog w = .ok (.map (some w.heap.size)) (w.alloc (.map #[] 0)) := fun w => by rw [← Int.natCast_add]; exact hmk _ _
  clear hmk
  go_enter Try.func49, Try.ntmps49
  go_wp2
  clear hmm
  generalize hWa : World.alloc (World.alloc (w.alloc _) _) _ = Wa
  have HB0 : Hid (Below w.heap.size w Wa) := by rw [← hWa]; exact ((one_al w _).alloc (by simp) _).alloc (by simp; omega) _
  have HX0 : Hid (Box Wa w.heap.size #[.int .i64 B.now, .slice a0 B.ss.length k0, .slice a1 B.cs.length k1, .slice a2 B.bs.length k2]) := by rw [← hWa]; exact ((Box.new _ _ _ _ rfl).on (one_al _ _)).on (one_al _ _)
  have HR0 : Hid (Box Wa (w.heap.size + 1) #[.int .i64 0, .slice none 0 0, .slice none 0 0, .slice none 0 0, .map none]) := by rw [← hWa]; exact (Box.new _ _ _ _ (by simp)).on (one_al _ _)
  have HO0 : Hid (Wa.ownsMap Try.prog 102 (plainElem Try.prog 3) (w.heap.size + 1 + 1) 0 (.map [] : DataW Unit)) := by
    rw [← hWa]
    have := World.ownsMap_made (H := Unit) ((w.alloc (.cells #[.int .i64 B.now, .slice a0 B.ss.length k0, .slice a1 B.cs.length k1, .slice a2 B.bs.length k2] 37)).alloc (.cells #[.int .i64 0, .slice none 0 0, .slice none 0 0, .slice none 0 0, .map none] 73)) Try.prog 102 (plainElem Try.prog 3)
    unfold Hid
    simpa using this
  clear hWa
  have x1 := HX0.out.cell 1
  simp at x1
  go_wp2
  clear x1
  go_loopw [19] (fun i wr => ∃ k : Nat, i = .int .i64 k ∧ k ≤ B.ss.length ∧ Below w.heap.size w wr ∧ Box wr w.heap.size #[.int .i64 B.now, .slice a0 B.ss.length k0, .slice a1 B.cs.length k1, .slice a2 B.bs.length k2] ∧ Box wr (w.heap.size + 1) #[.int .i64 0, .slice none 0 0, .slice none 0 0, .slice none 0 0, .map none] ∧ ∃ D : DataW Unit, wr.ownsMap Try.prog 102 (plainElem Try.prog 3) (w.heap.size + 1 + 1) k D ∧ IxOk (B.ss.take k) [] D) (fun i _ => B.ss.length - (intOf i).toNat)
  case atStart => exact ⟨0, rfl, Nat.zero_le _, HB0.out, HX0.out, HR0.out, .map [], HO0.out, IxOk.start⟩
  case round =>
    obtain ⟨k, rfl, hk, hb, hx, hr, D, ho, hix⟩ := hrel
    have HB := hide hb
    have HX := hide hx
    have HR := hide hr
    have HO := hide ho
    have HIX := hide hix
    clear hb hx hr ho hix HB0 HX0 HR0 HO0
    by_cases hlt : k < B.ss.length
    · obtain ⟨b, off, rfl, hbw, -, hc⟩ := HK.out.svs.full' (by omega)
      obtain ⟨hs, hc⟩ := hc k hlt
      have HZ := hide hs
      obtain ⟨c0, c1, c2, c3, c4, c5, c6, c7, c8, c9, c10, c11, c12⟩ := hc.below HB.out hbw
      have HTK := hide (List.take_succ_eq_append_getElem hlt)
      have HLN : Hid ((B.ss.take k).length = k) := by unfold Hid; simp; omega
      clear hc hs
      go_wp2_with (at_mapUpdate; refine wpList_mapUpdate_own _ rfl _ _ _ 71 rfl 102 3 ixKeyed Try.underlying71 _ (w.heap.size + 1 + 1) k _ rfl (HO.out.alloc _) (by unfold maxLen; omega) _ _ _ rfl rfl (ixNum.mk' wf0 HZ.out.s0) _ [] (plainElem_int Try.underlying3 (WalkArith.wf_i64 (by omega))) ?_; intro w2 ho2 hg2; have HO2 := hide ho2; have HG2 := hide hg2; clear ho2 hg2)
      go_roundw
      case rel => exact ⟨k + 1, by go_num, by omega, ranges_kept_below (bt HB.out (one_al _ _)) HG2.out (by omega), (HX.out.on (one_al _ _)).grown HG2.out (by omega), (HR.out.on (one_al _ _)).grown HG2.out (by omega), _, HO2.out, by
                    rw [HTK.out]
                    have := HIX.out.sv _ HZ.out
                    rw [HLN.out] at this
                    exact this⟩
      case measure => simp [intOf]; omega
    · have HTK : Hid (B.ss.take k = B.ss) := List.take_of_length_le (by omega)
      have x3 := HX.out.cell 3
      simp at x3
      go_wp2
      clear x3
      obtain ⟨W1, hW1⟩ : ∃ W, W = wr := ⟨_, rfl⟩
      subst hW1
      go_loopw [33] (fun i wr => ∃ j : Nat, i = .int .i64 j ∧ j ≤ B.bs.length ∧ Below w.heap.size w wr ∧ Box wr w.heap.size #[.int .i64 B.now, .slice a0 B.ss.length k0, .slice a1 B.cs.length k1, .slice a2 B.bs.length k2] ∧ Box wr (w.heap.size + 1) #[.int .i64 0, .slice none 0 0, .slice none 0 0, .slice none 0 0, .map none] ∧ ∃ D : DataW Unit, wr.ownsMap Try.prog 102 (plainElem Try.prog 3) (w.heap.size + 1 + 1) (B.ss.length + j) D ∧ IxOk B.ss (B.bs.take j) D) (fun i _ => B.bs.length - (intOf i).toNat)
      case atStart => exact ⟨0, rfl, Nat.zero_le _, HB.out, HX.out, HR.out, D, HO.out.mono (by omega), by rw [← HTK.out]; exact HIX.out⟩
      case round =>
        obtain ⟨j, rfl, hj, hb, hx, hr, D2, ho, hix⟩ := hrel
        have HBj := hide hb
        have HXj := hide hx
        have HRj := hide hr
        have HOj := hide ho
        have HIXj := hide hix
        clear hb hx hr ho hix HB HX HR HO HIX HTK
        by_cases hltj : j < B.bs.length
        · obtain ⟨b, off, rfl, hbw, -, hc⟩ := HK.out.bes.full' (by omega)
          obtain ⟨hs, hc⟩ := hc j hltj
          have HZ := hide hs
          obtain ⟨c0, c1⟩ := hc.below HBj.out hbw
          have HTK := hide (List.take_succ_eq_append_getElem hltj)
          have HLN : Hid ((B.bs.take j).length = j) := by unfold Hid; simp; omega
          clear hc hs
          go_wp2_with (at_mapUpdate; refine wpList_mapUpdate_own _ rfl _ _ _ 71 rfl 102 3 ixKeyed Try.underlying71 _ (w.heap.size + 1 + 1) (B.ss.length + j) _ rfl (HOj.out.alloc _) (by unfold maxLen; omega) _ _ _ rfl rfl (ixNum.mk' wf1 HZ.out.s0) _ [] (plainElem_int Try.underlying3 (WalkArith.wf_i64 (by omega))) ?_; intro w2 ho2 hg2; have HO2 := hide ho2; have HG2 := hide hg2; clear ho2 hg2)
          go_roundw
          case rel => exact ⟨j + 1, by go_num, by omega, ranges_kept_below (bt HBj.out (one_al _ _)) HG2.out (by omega), (HXj.out.on (one_al _ _)).grown HG2.out (by omega), (HRj.out.on (one_al _ _)).grown HG2.out (by omega), _, HO2.out, by
                        rw [HTK.out]
                        have := HIXj.out.bb _ HZ.out
                        rw [HLN.out] at this
                        exact this⟩
          case measure => simp [intOf]; omega
        · have hjj : j = B.bs.length := by omega
          have HTK : Hid (B.bs.take j = B.bs) := List.take_of_length_le (by omega)
          have HJ := hide hjj
          clear hjj
          have x := HXj.out.cell
          have r0 := HRj.out.cell
          have g0 := HRj.out.free
          go_wp2
          refine bodyPost_ret (v := .agg #[.int .i64 B.now, .slice a0 B.ss.length k0, .slice a1 B.cs.length k1, .slice a2 B.bs.length k2, .map (some (w.heap.size + 1 + 1))]) (by simp [results, Try.results49, go_sem, r0]) rfl ⟨(w.heap.size + 1 + 1), by omega, rfl, ?_, D2, ?_, by rw [← HTK.out]; exact HIXj.out⟩
          · repeat (refine Below.setCell ?_ (by simp only []; omega) _)
            exact HBj.out
          · repeat (refine World.ownsMap.setCell ?_ (by simp only []; omega) _)
            rw [← HJ.out]
            exact HOj.out
end Go.Proofs.Ythecacabcgaenaa
