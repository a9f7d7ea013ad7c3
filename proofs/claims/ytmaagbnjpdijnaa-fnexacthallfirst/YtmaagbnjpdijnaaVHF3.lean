import Derived.Test.YtmaagbnjpdijnaaVHF1
import Derived.Test.YtmaagbnjpdijnaaVHF2
import Derived.Test.YtmaagbnjpdijnaaVHO
import Derived.Test.YtmaagbnjpdijnaaVCLE
import Derived.Test.YtmaagbnjpdijnaaVSC2
import Derived.Test.YtmaagbnjpdijnaaVGX
import Derived.Test.YtmaagbnjpdijnaaVBBL
import Derived.Test.YtmaagbnjpdijnaaVHO0
import Derived.Test.YtmaagbnjpdijnaaVBW
import Derived.Test.YtmaagbnjpdijnaaVDA
import Derived.Test.YtmaagbnjpdijnaaVBOG
import Derived.Test.YtmaagbnjpdijnaaVA1
import Derived.Test.YtmaagbnjpdijnaaVBT
namespace Go.Proofs.Ytmaagbnjpdijnaa
open Go.RowKit Go.Deep

def firstBk (U : Ho) : Bk := if houseB U then ⟨(U.gr.length : Int), 0, (U.gr.length : Int), [], U.gr, [], []⟩ else ⟨0, 0, 0, [], [], [], []⟩
theorem first_small {U : Ho} (h : HoSmall U) : BookSmall (firstBk U) := by
  unfold firstBk
  split
  · exact ⟨⟨by simp, fun i hi => absurd hi (by simp)⟩, h.2, ⟨by simp, fun i hi => absurd hi (by simp)⟩, ⟨by simp, fun i hi => absurd hi (by simp)⟩⟩
  · exact ⟨⟨by simp, fun i hi => absurd hi (by simp)⟩, ⟨by simp, fun i hi => absurd hi (by simp)⟩, ⟨by simp, fun i hi => absurd hi (by simp)⟩, ⟨by simp, fun i hi => absurd hi (by simp)⟩⟩

set_option maxRecDepth 20000 in
set_option maxHeartbeats 16000000 in
theorem specFirst_any (cs : List Value) (U : Ho) (w : World) (h : HoC 0 w cs U) (hn : HoSmall U) :
    Calls Try.prog 17 #[.agg cs.toArray] w fun e w' => ∃ cs', e = .returned (.agg cs'.toArray) ∧ Below w.heap.size w w' ∧ HbOwn w.heap.size w'.heap.size w' cs' (firstBk U) := by
  have H := hide h
  have HN := hide hn
  obtain ⟨a0, k0, a1, k1, rfl, h⟩ := h
  show Calls Try.prog 17 #[.agg #[.slice a0 U.tm.length k0, .slice a1 U.gr.length k1]] w _
  clear h hn
  go_enter Try.func17, Try.ntmps17
  go_wp2_with fail
  generalize hWa : (World.alloc (w.alloc _) _) = Wa
  have HB : Hid (Below w.heap.size w Wa) := by unfold Hid; rw [← hWa]; exact (one_al w _).alloc (by simp) _
  have FX : Hid (Box Wa w.heap.size #[.slice a0 U.tm.length k0, .slice a1 U.gr.length k1]) := by unfold Hid; rw [← hWa]; exact (Box.new _ _ _ _ rfl).on (one_al _ _)
  have FR : Hid (Box Wa (w.heap.size + 1) #[.int .i64 0, .int .i64 0, .int .i64 0, .slice none 0 0, .slice none 0 0, .slice none 0 0, .slice none 0 0, .int .i64 0, .slice none 0 0, .slice none 0 0, .slice none 0 0]) := by unfold Hid; rw [← hWa]; exact Box.new _ _ _ _ (by simp)
  clear hWa
  refine (specHouse_any 0 (hoL U a0 k0 a1 k1) U _ (H.out.below HB.out)).mono ?_
  rintro e w1 ⟨rfl, hb⟩
  replace HB := hide (bt HB.out hb)
  replace FX := hide (FX.out.on hb)
  replace FR := hide (FR.out.on hb)
  clear hb
  cases hh : houseB U with
  | false =>
    have HE : Hid (firstBk U = ⟨0, 0, 0, [], [], [], []⟩) := by unfold Hid firstBk; rw [hh]; rfl
    have g0 := FR.out.cell
    have g1 := FR.out.free
    have hz := HB.out.size
    go_wp2
    refine bodyPost_ret (v := .agg #[.int .i64 0, .int .i64 0, .int .i64 0, .slice none 0 0, .slice none 0 0, .slice none 0 0, .slice none 0 0, .int .i64 0, .slice none 0 0, .slice none 0 0, .slice none 0 0]) (by simp [results, Try.results17, go_sem, g0]) rfl ?_
    rw [HE.out]
    have hkey : ∀ W', Below w.heap.size w W' → ∃ cs', Ending.returned (.agg #[.int .i64 0, .int .i64 0, .int .i64 0, .slice none 0 0, .slice none 0 0, .slice none 0 0, .slice none 0 0, .int .i64 0, .slice none 0 0, .slice none 0 0, .slice none 0 0]) = .returned (.agg cs'.toArray) ∧ Below w.heap.size w W' ∧ HbOwn w.heap.size W'.heap.size W' cs' ⟨0, 0, 0, [], [], [], []⟩ := fun W' hb =>
      ⟨hbL ⟨0, 0, 0, [], [], [], []⟩ none 0 none 0 none 0 none 0, rfl, hb, none, 0, none, 0, none, 0, none, 0, rfl, w.heap.size, w.heap.size, w.heap.size, w.heap.size, w.heap.size, w.heap.size, w.heap.size, w.heap.size, ⟨⟨Nat.le_refl _, hb.size⟩, ⟨Nat.le_refl _, hb.size⟩, ⟨Nat.le_refl _, hb.size⟩, ⟨Nat.le_refl _, hb.size⟩, Or.inl (Nat.le_refl _), Or.inl (Nat.le_refl _), Or.inl (Nat.le_refl _), Or.inl (Nat.le_refl _), Or.inl (Nat.le_refl _), Or.inl (Nat.le_refl _)⟩, Or.inl ⟨_, _, rfl, rfl⟩, Or.inl ⟨_, _, rfl, rfl⟩, Or.inl ⟨_, _, rfl, rfl⟩, Or.inl ⟨_, _, rfl, rfl⟩⟩
    refine hkey _ ?_
    repeat (refine Below.setCell ?_ (by simp only []; omega) _)
    exact HB.out
  | true =>
    have HE : Hid (firstBk U = ⟨(U.gr.length : Int), 0, (U.gr.length : Int), [], U.gr, [], []⟩) := by unfold Hid firstBk; rw [hh]; rfl
    have g0 := FX.out.cell
    go_wp2_with fail
    clear g0
    have hq : w.heap.size + 1 < w1.heap.size := FR.out.lt
    have HG : Hid (GrsAt 0 w1 (.slice a1 U.gr.length k1) U.gr) := by
      obtain ⟨c0, d0, c1, d1, he, h⟩ := H.out.below HB.out
      injection he with e0 e1
      injection e1 with e1 e2
      rw [e1]
      exact h.l1
    refine (l5Copy_any 0 (.slice none 0 0) (.slice a1 U.gr.length k1) (.slice none 0 0) (.slice none 0 0) ⟨(U.gr.length : Int), 0, (U.gr.length : Int), [], U.gr, [], []⟩ _ ⟨Or.inl ⟨_, _, rfl, rfl⟩, HG.out, Or.inl ⟨_, _, rfl, rfl⟩, Or.inl ⟨_, _, rfl, rfl⟩⟩ ⟨⟨by simp, fun i hi => absurd hi (by simp)⟩, HN.out.2, ⟨by simp, fun i hi => absurd hi (by simp)⟩, ⟨by simp, fun i hi => absurd hi (by simp)⟩⟩).mono ?_
    rintro e w2 ⟨b0, m0, b1, m1, b2, m2, b3, m3, rfl, hb, ho⟩
    simp only [List.length_nil] at ho ⊢
    have hq2 := hb.size
    replace HB := hide (bt HB.out hb)
    replace FR := hide (FR.out.on hb)
    have HO := hide ho
    clear hb ho
    have g0 := FR.out.cell
    have g1 := FR.out.free
    go_wp2
    refine bodyPost_ret (v := .agg #[.int .i64 (U.gr.length : Int), .int .i64 0, .int .i64 (U.gr.length : Int), .slice b0 0 m0, .slice b1 U.gr.length m1, .slice b2 0 m2, .slice b3 0 m3, .int .i64 0, .slice none 0 0, .slice none 0 0, .slice none 0 0]) (by simp [results, Try.results17, go_sem, g0]) rfl ?_
    rw [HE.out]
    refine ⟨hbL ⟨(U.gr.length : Int), 0, (U.gr.length : Int), [], U.gr, [], []⟩ b0 m0 b1 m1 b2 m2 b3 m3, rfl, ?_, b0, m0, b1, m1, b2, m2, b3, m3, rfl, ?_⟩
    · repeat (refine Below.setCell ?_ (by simp only []; omega) _)
      exact HB.out
    · refine BookOwn.wide (lo := w1.heap.size) (hi := w2.heap.size) ?_ (by omega) (by simp [World.setCell])
      repeat (refine BookOwn.setLow ?_ (by simp only []; omega) _)
      exact HO.out

set_option maxRecDepth 20000 in
set_option maxHeartbeats 16000000 in
theorem implFirst_any (cs : List Value) (U : Ho) (w : World) (h : HoC 0 w cs U) (hn : HoSmall U) :
    Calls Try.prog 18 #[.agg cs.toArray] w fun e w' => ∃ cs', e = .returned (.agg cs'.toArray) ∧ Below w.heap.size w w' ∧ HbOwn w.heap.size w'.heap.size w' cs' (firstBk U) := by
  have H := hide h
  have HN := hide hn
  obtain ⟨a0, k0, a1, k1, rfl, h⟩ := h
  show Calls Try.prog 18 #[.agg #[.slice a0 U.tm.length k0, .slice a1 U.gr.length k1]] w _
  clear h hn
  go_enter Try.func18, Try.ntmps18
  go_wp2_with fail
  generalize hWa : (World.alloc (w.alloc _) _) = Wa
  have HB : Hid (Below w.heap.size w Wa) := by unfold Hid; rw [← hWa]; exact (one_al w _).alloc (by simp) _
  have FX : Hid (Box Wa w.heap.size #[.slice a0 U.tm.length k0, .slice a1 U.gr.length k1]) := by unfold Hid; rw [← hWa]; exact (Box.new _ _ _ _ rfl).on (one_al _ _)
  have FR : Hid (Box Wa (w.heap.size + 1) #[.int .i64 0, .int .i64 0, .int .i64 0, .slice none 0 0, .slice none 0 0, .slice none 0 0, .slice none 0 0, .int .i64 0, .slice none 0 0, .slice none 0 0, .slice none 0 0]) := by unfold Hid; rw [← hWa]; exact Box.new _ _ _ _ (by simp)
  clear hWa
  refine (implHouse_any 0 (hoL U a0 k0 a1 k1) U _ (H.out.below HB.out)).mono ?_
  rintro e w1 ⟨rfl, hb⟩
  replace HB := hide (bt HB.out hb)
  replace FX := hide (FX.out.on hb)
  replace FR := hide (FR.out.on hb)
  clear hb
  cases hh : houseB U with
  | false =>
    have HE : Hid (firstBk U = ⟨0, 0, 0, [], [], [], []⟩) := by unfold Hid firstBk; rw [hh]; rfl
    have g0 := FR.out.cell
    have g1 := FR.out.free
    have hz := HB.out.size
    go_wp2
    refine bodyPost_ret (v := .agg #[.int .i64 0, .int .i64 0, .int .i64 0, .slice none 0 0, .slice none 0 0, .slice none 0 0, .slice none 0 0, .int .i64 0, .slice none 0 0, .slice none 0 0, .slice none 0 0]) (by simp [results, Try.results18, go_sem, g0]) rfl ?_
    rw [HE.out]
    have hkey : ∀ W', Below w.heap.size w W' → ∃ cs', Ending.returned (.agg #[.int .i64 0, .int .i64 0, .int .i64 0, .slice none 0 0, .slice none 0 0, .slice none 0 0, .slice none 0 0, .int .i64 0, .slice none 0 0, .slice none 0 0, .slice none 0 0]) = .returned (.agg cs'.toArray) ∧ Below w.heap.size w W' ∧ HbOwn w.heap.size W'.heap.size W' cs' ⟨0, 0, 0, [], [], [], []⟩ := fun W' hb =>
      ⟨hbL ⟨0, 0, 0, [], [], [], []⟩ none 0 none 0 none 0 none 0, rfl, hb, none, 0, none, 0, none, 0, none, 0, rfl, w.heap.size, w.heap.size, w.heap.size, w.heap.size, w.heap.size, w.heap.size, w.heap.size, w.heap.size, ⟨⟨Nat.le_refl _, hb.size⟩, ⟨Nat.le_refl _, hb.size⟩, ⟨Nat.le_refl _, hb.size⟩, ⟨Nat.le_refl _, hb.size⟩, Or.inl (Nat.le_refl _), Or.inl (Nat.le_refl _), Or.inl (Nat.le_refl _), Or.inl (Nat.le_refl _), Or.inl (Nat.le_refl _), Or.inl (Nat.le_refl _)⟩, Or.inl ⟨_, _, rfl, rfl⟩, Or.inl ⟨_, _, rfl, rfl⟩, Or.inl ⟨_, _, rfl, rfl⟩, Or.inl ⟨_, _, rfl, rfl⟩⟩
    refine hkey _ ?_
    repeat (refine Below.setCell ?_ (by simp only []; omega) _)
    exact HB.out
  | true =>
    have HE : Hid (firstBk U = ⟨(U.gr.length : Int), 0, (U.gr.length : Int), [], U.gr, [], []⟩) := by unfold Hid firstBk; rw [hh]; rfl
    have g0 := FX.out.cell
    go_wp2_with fail
    clear g0
    have hq : w.heap.size + 1 < w1.heap.size := FR.out.lt
    have HG : Hid (GrsAt 0 w1 (.slice a1 U.gr.length k1) U.gr) := by
      obtain ⟨c0, d0, c1, d1, he, h⟩ := H.out.below HB.out
      injection he with e0 e1
      injection e1 with e1 e2
      rw [e1]
      exact h.l1
    refine (eachGrs_any 0 _ U.gr _ HG.out HN.out.2).mono ?_
    rintro e w2 ⟨v1, rfl, hb, ho⟩
    obtain ⟨b1, m1, rfl⟩ := ho.at.form
    have hq2 := hb.size
    replace HB := hide (bt HB.out hb)
    replace FR := hide (FR.out.on hb)
    have HO := hide ho
    clear hb ho
    have g0 := FR.out.cell
    have g1 := FR.out.free
    go_wp2
    refine bodyPost_ret (v := .agg #[.int .i64 (U.gr.length : Int), .int .i64 0, .int .i64 (U.gr.length : Int), .slice none 0 0, .slice b1 U.gr.length m1, .slice none 0 0, .slice none 0 0, .int .i64 0, .slice none 0 0, .slice none 0 0, .slice none 0 0]) (by simp [results, Try.results18, go_sem, g0]) rfl ?_
    rw [HE.out]
    refine ⟨hbL ⟨(U.gr.length : Int), 0, (U.gr.length : Int), [], U.gr, [], []⟩ none 0 b1 m1 none 0 none 0, rfl, ?_, none, 0, b1, m1, none, 0, none, 0, rfl, ?_⟩
    · repeat (refine Below.setCell ?_ (by simp only []; omega) _)
      exact HB.out
    · have hsz : ∀ (X : World) p u, (X.setCell p u).heap.size = X.heap.size := fun X p u => by simp [World.setCell]
      simp only [hsz]
      refine ⟨w.heap.size, w.heap.size, w1.heap.size, w2.heap.size, w.heap.size, w.heap.size, w.heap.size, w.heap.size, ⟨⟨by omega, by omega⟩, ⟨by omega, by omega⟩, ⟨by omega, by omega⟩, ⟨by omega, by omega⟩, by omega, by omega, by omega, by omega, by omega, by omega⟩, Or.inl ⟨_, _, rfl, rfl⟩, ?_, Or.inl ⟨_, _, rfl, rfl⟩, Or.inl ⟨_, _, rfl, rfl⟩⟩
      repeat (refine GrsOwn.setLow ?_ (by simp only []; omega) _)
      exact HO.out
end Go.Proofs.Ytmaagbnjpdijnaa

