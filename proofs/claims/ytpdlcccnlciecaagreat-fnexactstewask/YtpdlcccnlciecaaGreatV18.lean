import Derived.Test.YtpdlcccnlciecaaGreatV10
import Derived.Test.YtpdlcccnlciecaaGreatV13
import Derived.Deep.OwnRows
import Derived.Maps.Own
import Derived.Maps.Views
import Derived.WideKeyEntry
import Derived.DeepKeys4
import Derived.Maps.RangeWalk
import Derived.Maps.OwnOps
import Derived.Maps.OwnSet
import Derived.WalkSmall
namespace Go.Proofs.YtpdlcccnlciecaaGreat
open Go.RowKit Go.Deep Go.Maps Go.ChangeMaps Go.MapKept

/-- a key of a number and a text -/
def ixL (n : Int) (a : ByteArray) : Lit := .string (keyBytes [.int .i64 n, .string a.data.toList])
structure NumKey (P : Program) (k : TypeId) : Prop where
  ex : ∃ f0 f1 : Field, P.underlying k = some (.struct #[f0, f1]) ∧ P.underlying f0.type = some (.int .i64) ∧ P.underlying f1.type = some .string ∧ P.cellsOf f0.type = 1 ∧ P.cellsOf f1.type = 1 ∧ f0.offset = 0 ∧ f1.offset = 1 ∧ f0.name ≠ "_" ∧ f1.name ≠ "_"
  ty : P.keyType k = true
  cs : P.cellsOf k = 2
  sz : 0 < P.types.size
theorem NumKey.mk' {P : Program} {k : TypeId} (h : NumKey P k) {n : Int} {b : ByteArray} (ha : (Lit.int .i64 n).wf = true) (hb : b.size ≤ maxLen) : keyOf P k (.agg #[.int .i64 n, .string b]) = some (ixL n b) := by
  obtain ⟨f0, f1, hu, h0, h1, k0, k1, o0, o1, n0, n1⟩ := h.ex
  obtain ⟨n, hn⟩ : ∃ n, P.types.size = n + 1 := ⟨P.types.size - 1, by have := h.sz; omega⟩
  simp [keyOf, hu, h.ty, Value.formed, h.cs, hn, Program.keyLits, h0, h1, k0, k1, Value.cells, ha, hb, ixL, o0, o1, n0, n1]
theorem NumKey.wide {P : Program} {k : TypeId} (h : NumKey P k) : (match P.underlying k with | some (.array _ _) | some (.struct _) => true | _ => false) = true := by
  obtain ⟨f0, f1, hu, -⟩ := h.ex
  rw [hu]
theorem NumKey.inj {P : Program} {k : TypeId} (h : NumKey P k) (K : WideMaps.KeyLaw P k) {n n' : Int} {b b' : ByteArray} (ha : (Lit.int .i64 n).wf = true) (hb : b.size ≤ maxLen) (ha' : (Lit.int .i64 n').wf = true) (hb' : b'.size ≤ maxLen) (e : ixL n b = ixL n' b') : n = n' ∧ b = b' := by
  have e := K.inj (h.mk' ha hb) (e ▸ h.mk' ha' hb')
  simpa using e
theorem ixNum : NumKey Tryz.prog 121 :=
  ⟨⟨_, _, Tryz.underlying121, by kernel_rfl, by kernel_rfl, by kernel_rfl, by kernel_rfl, rfl, rfl, by decide, by decide⟩, by kernel_rfl, by kernel_rfl, of_decide_eq_true (by kernel_rfl)⟩
theorem ixLaid : laidOutB Tryz.prog = true := by kernel_rfl
theorem ixRow : (121 : TypeId) < Tryz.prog.types.size := of_decide_eq_true (by kernel_rfl)
theorem ixAt : Tryz.prog.keyTypeAt 2 121 = true := by kernel_rfl
set_option maxRecDepth 100000 in
theorem ixLaw : WideMaps.KeyLaw Tryz.prog 121 := deep_law_laid ixLaid (by decide) ixRow ixAt ixNum.wide
theorem ixKeyed : Keyed Tryz.prog 121 := Keyed.of_law ixLaw
theorem ixZero (w : World) : (zeroValue 3).run Tryz.prog w = .ok (.int .i64 0) w := by kernel_rfl
theorem isKey_ix (n : Int) (a : ByteArray) : WideAt.IsKeyLit (ixL n a) := trivial
theorem wf0 : (Lit.int .i64 0).wf = true := by decide
theorem wf1 : (Lit.int .i64 1).wf = true := by decide
theorem ix_ne {n n' : Int} {b b' : ByteArray} (hn : n = 0 ∨ n = 1) (hn' : n' = 0 ∨ n' = 1) (hb : b.size ≤ maxLen) (hb' : b'.size ≤ maxLen) (h : ¬ (n = n' ∧ b = b')) : ixL n b ≠ ixL n' b' := fun e =>
  h (ixNum.inj ixLaw (by rcases hn with rfl | rfl <;> decide) hb (by rcases hn' with rfl | rfl <;> decide) hb' e)

/-- the places of services, and which berths there are -/
structure IxOk {H : Type} (S : List Sv) (Bl : List Be) (D : DataW H) : Prop where
  isMap : IsMap D
  no : ∀ s : ByteArray, s.size ≤ maxLen → Maps.has D (ixL 0 s) = S.any fun x => x.nm.toList == s.toList
  yes : ∀ s : ByteArray, s.size ≤ maxLen → Maps.has D (ixL 0 s) = true → ∃ (k : Nat) (h : k < S.length), (S[k].nm.toList == s.toList) = true ∧ D.atKey (ixL 0 s) (.lit (.int .i64 0)) = .lit (.int .i64 k)
  be : ∀ s : ByteArray, s.size ≤ maxLen → Maps.has D (ixL 1 s) = hasBe Bl s
  bey : ∀ s : ByteArray, s.size ≤ maxLen → Maps.has D (ixL 1 s) = true → ∃ (k : Nat) (h : k < Bl.length), (Bl[k].nm.toList == s.toList) = true ∧ D.atKey (ixL 1 s) (.lit (.int .i64 0)) = .lit (.int .i64 k)
theorem IxOk.start {H : Type} : IxOk [] [] (.map [] : DataW H) := ⟨⟨[], rfl⟩, fun _ _ => rfl, fun _ _ h => (by cases h), fun _ _ => rfl, fun _ _ h => (by cases h)⟩
theorem IxOk.sv {H : Type} {S : List Sv} {Bl : List Be} {D : DataW H} (h : IxOk S Bl D) (x : Sv) (hz : SvSize x) : IxOk (S ++ [x]) Bl (D.put (ixL 0 x.nm) (.lit (.int .i64 S.length))) := by
  refine ⟨h.isMap.put _ _, fun s hs => ?_, fun s hs hh => ?_, fun s hs => ?_, fun s hs hh => ?_⟩
  · rw [List.any_append]
    by_cases e : s = x.nm
    · subst e
      rw [has_put_same h.isMap (isKey_ix _ _)]
      simp
    · rw [has_put_other (ix_ne (Or.inl rfl) (Or.inl rfl) hs hz.s0 (fun e' => e e'.2)), h.no s hs]
      have hn : (x.nm.toList == s.toList) = false := bytes_ne.2 fun e' => e e'.symm
      simp [hn]
  · by_cases e : s = x.nm
    · subst e
      exact ⟨S.length, by simp, by simp, by rw [atKey_put_same h.isMap (isKey_ix _ _)]⟩
    · have hne := ix_ne (Or.inl rfl) (Or.inl rfl) hs hz.s0 (fun e' => e e'.2)
      rw [has_put_other hne] at hh
      obtain ⟨k, hk, h1, h2⟩ := h.yes s hs hh
      exact ⟨k, by simp; omega, by rw [List.getElem_append_left hk]; exact h1, by rw [atKey_put_other hne]; exact h2⟩
  · rw [has_put_other (ix_ne (Or.inr rfl) (Or.inl rfl) hs hz.s0 (fun e' => by omega)), h.be s hs]
  · have hne := ix_ne (n := 1) (n' := 0) (Or.inr rfl) (Or.inl rfl) hs hz.s0 (fun e' => by omega)
    rw [has_put_other hne] at hh
    obtain ⟨k, hk, h1, h2⟩ := h.bey s hs hh
    exact ⟨k, hk, h1, by rw [atKey_put_other hne]; exact h2⟩
theorem IxOk.bb {H : Type} {S : List Sv} {Bl : List Be} {D : DataW H} (h : IxOk S Bl D) (x : Be) (hz : BeSize x) : IxOk S (Bl ++ [x]) (D.put (ixL 1 x.nm) (.lit (.int .i64 Bl.length))) := by
  refine ⟨h.isMap.put _ _, fun s hs => ?_, fun s hs hh => ?_, fun s hs => ?_, fun s hs hh => ?_⟩
  · rw [has_put_other (ix_ne (Or.inl rfl) (Or.inr rfl) hs hz.s0 (fun e' => by omega)), h.no s hs]
  · have hne := ix_ne (n := 0) (n' := 1) (Or.inl rfl) (Or.inr rfl) hs hz.s0 (fun e' => by omega)
    rw [has_put_other hne] at hh
    obtain ⟨k, hk, h1, h2⟩ := h.yes s hs hh
    exact ⟨k, hk, h1, by rw [atKey_put_other hne]; exact h2⟩
  · unfold hasBe
    rw [List.any_append]
    by_cases e : s = x.nm
    · subst e
      rw [has_put_same h.isMap (isKey_ix _ _)]
      simp
    · rw [has_put_other (ix_ne (Or.inr rfl) (Or.inr rfl) hs hz.s0 (fun e' => e e'.2)), h.be s hs]
      have hn : (x.nm.toList == s.toList) = false := bytes_ne.2 fun e' => e e'.symm
      simp [hn, hasBe]
  · by_cases e : s = x.nm
    · subst e
      exact ⟨Bl.length, by simp, by simp, by rw [atKey_put_same h.isMap (isKey_ix _ _)]⟩
    · have hne := ix_ne (Or.inr rfl) (Or.inr rfl) hs hz.s0 (fun e' => e e'.2)
      rw [has_put_other hne] at hh
      obtain ⟨k, hk, h1, h2⟩ := h.bey s hs hh
      exact ⟨k, by simp; omega, by rw [List.getElem_append_left hk]; exact h1, by rw [atKey_put_other hne]; exact h2⟩
end Go.Proofs.YtpdlcccnlciecaaGreat
namespace Go.Proofs.YtpdlcccnlciecaaGreat
open Go.RowKit Go.Deep Go.Maps

theorem ranges_kept_below {w wr w1 : World} {r : Nat} (h : Below w.heap.size w wr) (hg : wr.grownBy w1 (some r)) (hr : w.heap.size ≤ r) : Below w.heap.size w w1 := by
  have hz := h.size
  exact h.trans ⟨hg.os, hg.tape, hg.output, hg.size, fun k hk => hg.block k (by omega) (fun e => by have := Option.some.inj e; omega)⟩
theorem grown_of_below' {w w' : World} (h : Below w.heap.size w w') : w.grownBy w' none :=
  ⟨h.os, h.tape, h.output, h.size, fun k hk _ => h.block k hk⟩
theorem Box.grown {w w' : World} {β m : Nat} {cs : Array Value} (h : Box w β cs) (hg : w.grownBy w' (some m)) (hm : β ≠ m) : Box w' β cs := by
  have hb : w'.heap[β]? = w.heap[β]? := hg.block β h.lt (fun e => hm (by injection e))
  exact ⟨Nat.lt_of_lt_of_le h.lt hg.size, fun i => by rw [World.cell?_of_block (w := w) (a := ⟨β, i, none⟩) hb]; exact h.cell i, fun i => by rw [World.frozen?_of_block (w := w) (a := ⟨β, i, none⟩) hb]; exact h.free i⟩

set_option maxRecDepth 100000 in
set_option maxHeartbeats 4000000 in
theorem indexOf_any (lo : Nat) (sv cv bv : Value) (B : Sb) (w : World) (h : SbAt lo w sv cv bv B) (h1 : B.ss.length ≤ 8) (h2 : B.bs.length ≤ 6) :
    Calls Tryz.prog 53 #[.agg #[.int .i64 B.now, sv, cv, bv]] w
      fun e w' => ∃ m : Nat, w.heap.size ≤ m ∧ e = .returned (.agg #[.int .i64 B.now, sv, cv, bv, .map (some m)]) ∧ Below w.heap.size w w' ∧ ∃ D : DataW Unit, w'.ownsMap Tryz.prog 121 (plainElem Tryz.prog 3) m (B.ss.length + B.bs.length) D ∧ IxOk B.ss B.bs D := by
  have HK := hide h
  obtain ⟨a0, k0, rfl⟩ := h.svs.form
  obtain ⟨a1, k1, rfl⟩ := h.cps.form
  obtain ⟨a2, k2, rfl⟩ := h.bes.form
  clear h
  have hmk : ∀ (n : Nat) (w : World), (Instr.makeMap 54 (some (.int .i64 n))).run Tryz.prog w = .ok (.map (some w.heap.size)) (w.alloc (.map #[] 0)) := fun n w => by simp [Instr.makeMap, go_sem, run_underlying Tryz.underlying54, Result.andThen]
  have hmm : ∀ w : World, (Instr.makeMap 54 (some (.int .i64 ((B.ss.length : Int) + (B.bs.length : Int))))).run Tryz.prog w = .ok (.map (some w.heap.size)) (w.alloc (.map #[] 0)) := fun w => by rw [← Int.natCast_add]; exact hmk _ _
  clear hmk
  go_enter Tryz.func53, Tryz.ntmps53
  go_wp2
  clear hmm
  generalize hWa : World.alloc (World.alloc (w.alloc _) _) _ = Wa
  have HB0 : Hid (Below w.heap.size w Wa) := by rw [← hWa]; exact ((one_al w _).alloc (by simp) _).alloc (by simp; omega) _
  have HX0 : Hid (Box Wa w.heap.size #[.int .i64 B.now, .slice a0 B.ss.length k0, .slice a1 B.cs.length k1, .slice a2 B.bs.length k2]) := by rw [← hWa]; exact ((Box.new _ _ _ _ rfl).on (one_al _ _)).on (one_al _ _)
  have HR0 : Hid (Box Wa (w.heap.size + 1) #[.int .i64 0, .slice none 0 0, .slice none 0 0, .slice none 0 0, .map none]) := by rw [← hWa]; exact (Box.new _ _ _ _ (by simp)).on (one_al _ _)
  have HO0 : Hid (Wa.ownsMap Tryz.prog 121 (plainElem Tryz.prog 3) (w.heap.size + 1 + 1) 0 (.map [] : DataW Unit)) := by
    rw [← hWa]
    have := World.ownsMap_made (H := Unit) ((w.alloc (.cells #[.int .i64 B.now, .slice a0 B.ss.length k0, .slice a1 B.cs.length k1, .slice a2 B.bs.length k2] 34)).alloc (.cells #[.int .i64 0, .slice none 0 0, .slice none 0 0, .slice none 0 0, .map none] 56)) Tryz.prog 121 (plainElem Tryz.prog 3)
    unfold Hid
    simpa using this
  clear hWa
  have x1 := HX0.out.cell 1
  simp at x1
  go_wp2
  clear x1
  go_loopw [19] (fun i wr => ∃ k : Nat, i = .int .i64 k ∧ k ≤ B.ss.length ∧ Below w.heap.size w wr ∧ Box wr w.heap.size #[.int .i64 B.now, .slice a0 B.ss.length k0, .slice a1 B.cs.length k1, .slice a2 B.bs.length k2] ∧ Box wr (w.heap.size + 1) #[.int .i64 0, .slice none 0 0, .slice none 0 0, .slice none 0 0, .map none] ∧ ∃ D : DataW Unit, wr.ownsMap Tryz.prog 121 (plainElem Tryz.prog 3) (w.heap.size + 1 + 1) k D ∧ IxOk (B.ss.take k) [] D) (fun i _ => B.ss.length - (intOf i).toNat)
  case atStart => exact ⟨0, rfl, Nat.zero_le _, HB0.out, HX0.out, HR0.out, .map [], HO0.out, IxOk.start⟩
  case round =>
    obtain ⟨k, rfl, hk, hb, hx, hr, D, ho, hix⟩ := hrel
    have HB := hide hb
    have HX := hide hx
    have HR := hide hr
    have HO := hide ho
    have HIX := hide hix
    clear hb hx hr ho hix HB0 HX0 HR0 HO0
    by_cases hlt : k < B.ss.length
    · obtain ⟨b, off, rfl, hbw, -, hc⟩ := HK.out.svs.full' (by omega)
      obtain ⟨hs, hc⟩ := hc k hlt
      have HZ := hide hs
      obtain ⟨c0, c1, c2, c3, c4, c5, c6, c7, c8, c9, c10, c11, c12⟩ := hc.below HB.out hbw
      have HTK := hide (List.take_succ_eq_append_getElem hlt)
      have HLN : Hid ((B.ss.take k).length = k) := by unfold Hid; simp; omega
      clear hc hs
      go_wp2_with (at_mapUpdate; refine wpList_mapUpdate_own _ rfl _ _ _ 54 rfl 121 3 ixKeyed Tryz.underlying54 _ (w.heap.size + 1 + 1) k _ rfl (HO.out.alloc _) (by unfold maxLen; omega) _ _ _ rfl rfl (ixNum.mk' wf0 HZ.out.s0) _ [] (plainElem_int Tryz.underlying3 (WalkArith.wf_i64 (by omega))) ?_; intro w2 ho2 hg2; have HO2 := hide ho2; have HG2 := hide hg2; clear ho2 hg2)
      go_roundw
      case rel => exact ⟨k + 1, by go_num, by omega, ranges_kept_below (bt HB.out (one_al _ _)) HG2.out (by omega), (HX.out.on (one_al _ _)).grown HG2.out (by omega), (HR.out.on (one_al _ _)).grown HG2.out (by omega), _, HO2.out, by
                    rw [HTK.out]
                    have := HIX.out.sv _ HZ.out
                    rw [HLN.out] at this
                    exact this⟩
      case measure => simp [intOf]; omega
    · have HTK : Hid (B.ss.take k = B.ss) := List.take_of_length_le (by omega)
      have x3 := HX.out.cell 3
      simp at x3
      go_wp2
      clear x3
      obtain ⟨W1, hW1⟩ : ∃ W, W = wr := ⟨_, rfl⟩
      subst hW1
      go_loopw [33] (fun i wr => ∃ j : Nat, i = .int .i64 j ∧ j ≤ B.bs.length ∧ Below w.heap.size w wr ∧ Box wr w.heap.size #[.int .i64 B.now, .slice a0 B.ss.length k0, .slice a1 B.cs.length k1, .slice a2 B.bs.length k2] ∧ Box wr (w.heap.size + 1) #[.int .i64 0, .slice none 0 0, .slice none 0 0, .slice none 0 0, .map none] ∧ ∃ D : DataW Unit, wr.ownsMap Tryz.prog 121 (plainElem Tryz.prog 3) (w.heap.size + 1 + 1) (B.ss.length + j) D ∧ IxOk B.ss (B.bs.take j) D) (fun i _ => B.bs.length - (intOf i).toNat)
      case atStart => exact ⟨0, rfl, Nat.zero_le _, HB.out, HX.out, HR.out, D, HO.out.mono (by omega), by rw [← HTK.out]; exact HIX.out⟩
      case round =>
        obtain ⟨j, rfl, hj, hb, hx, hr, D2, ho, hix⟩ := hrel
        have HBj := hide hb
        have HXj := hide hx
        have HRj := hide hr
        have HOj := hide ho
        have HIXj := hide hix
        clear hb hx hr ho hix HB HX HR HO HIX HTK
        by_cases hltj : j < B.bs.length
        · obtain ⟨b, off, rfl, hbw, -, hc⟩ := HK.out.bes.full' (by omega)
          obtain ⟨hs, hc⟩ := hc j hltj
          have HZ := hide hs
          obtain ⟨c0, c1⟩ := hc.below HBj.out hbw
          have HTK := hide (List.take_succ_eq_append_getElem hltj)
          have HLN : Hid ((B.bs.take j).length = j) := by unfold Hid; simp; omega
          clear hc hs
          go_wp2_with (at_mapUpdate; refine wpList_mapUpdate_own _ rfl _ _ _ 54 rfl 121 3 ixKeyed Tryz.underlying54 _ (w.heap.size + 1 + 1) (B.ss.length + j) _ rfl (HOj.out.alloc _) (by unfold maxLen; omega) _ _ _ rfl rfl (ixNum.mk' wf1 HZ.out.s0) _ [] (plainElem_int Tryz.underlying3 (WalkArith.wf_i64 (by omega))) ?_; intro w2 ho2 hg2; have HO2 := hide ho2; have HG2 := hide hg2; clear ho2 hg2)
          go_roundw
          case rel => exact ⟨j + 1, by go_num, by omega, ranges_kept_below (bt HBj.out (one_al _ _)) HG2.out (by omega), (HXj.out.on (one_al _ _)).grown HG2.out (by omega), (HRj.out.on (one_al _ _)).grown HG2.out (by omega), _, HO2.out, by
                        rw [HTK.out]
                        have := HIXj.out.bb _ HZ.out
                        rw [HLN.out] at this
                        exact this⟩
          case measure => simp [intOf]; omega
        · have hjj : j = B.bs.length := by omega
          have HTK : Hid (B.bs.take j = B.bs) := List.take_of_length_le (by omega)
          have HJ := hide hjj
          clear hjj
          have x := HXj.out.cell
          have r0 := HRj.out.cell
          have g0 := HRj.out.free
          go_wp2
          refine bodyPost_ret (v := .agg #[.int .i64 B.now, .slice a0 B.ss.length k0, .slice a1 B.cs.length k1, .slice a2 B.bs.length k2, .map (some (w.heap.size + 1 + 1))]) (by simp [results, Tryz.results53, go_sem, r0]) rfl ⟨(w.heap.size + 1 + 1), by omega, rfl, ?_, D2, ?_, by rw [← HTK.out]; exact HIXj.out⟩
          · repeat (refine Below.setCell ?_ (by simp only []; omega) _)
            exact HBj.out
          · repeat (refine World.ownsMap.setCell ?_ (by simp only []; omega) _)
            rw [← HJ.out]
            exact HOj.out
end Go.Proofs.YtpdlcccnlciecaaGreat
