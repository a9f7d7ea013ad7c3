import Derived.Test.YtlednecohppljaaB16
namespace Go.Proofs.Ytlednecohppljaa
open Go.RowKit Go.Deep

theorem RisFill.own {wr : World} {B : Nat} {Xl : List Int} {k : Nat} (h : RisFill wr B Xl k) (hk : Xl.length ≤ k) (hne : Xl ≠ []) (hm : Xl.length ≤ maxLen) : RisOwn B wr.heap.size wr (.slice (some ⟨B, 0, none⟩) Xl.length Xl.length) Xl := by
  obtain ⟨f, hr, hall⟩ := h
  refine Or.inr ⟨B, 0, Xl.length, rfl, hne, hm, Nat.le_refl _, hr.lt, fun i hi => by
    obtain ⟨hz, h0⟩ := hall i hi (by omega)
    rw [Nat.zero_add, hr.cell hi, h0], Nat.le_refl _, hr.lt, fun i => hr.frozen _⟩

set_option maxHeartbeats 1000000 in
theorem toRisO_any (lo : Nat) (v : Value) (Xl : List Int) (w : World) (hv : RisAt lo w v Xl) (hn : RisSmall Xl) :
    Calls Try.prog 38 #[v] w fun e w' => ∃ v', e = .returned v' ∧ Below w.heap.size w w' ∧ RisOwn w.heap.size w'.heap.size w' v' Xl := by
  unfold RisSmall at hn
  by_cases hL : Xl = []
  · subst hL
    obtain ⟨a, cap, rfl⟩ := hv.form
    clear hv
    have hmk : ∀ u : World, (Instr.makeSlice 34 (.int .i64 0) (.int .i64 0)).run Try.prog u = .ok (.slice (some ⟨u.heap.size, 0, none⟩) 0 0) (u.alloc (.cells (madeCells #[.int .i64 0] 0) 3)) :=
      fun u => run_make_row' 34 3 (.int .i64 0) 8 Try.underlying34 Try.infoRis rfl .i64 .i64 0 (by omega) (by omega) u
    go_enter Try.func38, Try.ntmps38
    go_wp2
    go_loop [4] (fun i => i = .int .i64 0) (fun _ => 0)
    case atStart => rfl
    case round =>
      subst hrel
      go_wp2
      go_ret
      exact ⟨_, rfl, (Below.refl _ _).alloc (Nat.le_refl _) _, Or.inl ⟨_, _, rfl, rfl⟩⟩
  · obtain ⟨b, off, cap, rfl, hm, hbw, _, hc⟩ := hv.full hL
    clear hv
    have HM : Hid (Xl.length ≤ maxLen) := hm
    unfold maxLen at hm
    have hmk : ∀ u : World, (Instr.makeSlice 34 (.int .i64 (Xl.length : Int)) (.int .i64 (Xl.length : Int))).run Try.prog u = .ok (.slice (some ⟨u.heap.size, 0, none⟩) Xl.length Xl.length) (u.alloc (.cells (madeCells #[.int .i64 0] Xl.length) 3)) :=
      fun u => run_make_row' 34 3 (.int .i64 0) 8 Try.underlying34 Try.infoRis rfl .i64 .i64 Xl.length (by omega) (by omega) u
    go_enter Try.func38, Try.ntmps38
    go_wp2
    clear hmk
    go_loopw [4] (fun i wr => ∃ k : Nat, i = .int .i64 k ∧ k ≤ Xl.length ∧ Below w.heap.size w wr ∧ RisFill wr w.heap.size Xl k) (fun i _ => Xl.length - (intOf i).toNat)
    case atStart => exact ⟨0, rfl, by omega, (Below.refl _ _).alloc (Nat.le_refl _) _, ⟨_, World.rowIs_made w (.int .i64 0) Xl.length 3, fun i _ h => by omega⟩⟩
    case round =>
      obtain ⟨k, rfl, hk, hb, hf⟩ := hrel
      by_cases hlt : k < Xl.length
      · obtain ⟨hz, hck⟩ := hc k hlt
        rw [← hb.cell (p := ⟨b, off + k, none⟩) hbw] at hck
        obtain ⟨v0, hold⟩ := hf.there k hlt
        have hfz := hf.free k
        have HZ := hide hz
        have HF := hide hf
        have HB := hide hb
        clear hz hf hb
        go_wp2
        go_roundw
        case rel => exact ⟨k + 1, by go_num, by omega, HB.out.setCell (Nat.le_refl _) _, HF.out.step hlt HZ.out⟩
        case measure => simp [intOf]; omega
      · go_wp2
        go_ret
        exact ⟨_, rfl, hb, hf.own (by omega) hL HM.out⟩
end Go.Proofs.Ytlednecohppljaa
namespace Go.Proofs.Ytlednecohppljaa
open Go.RowKit Go.Deep

set_option maxRecDepth 20000 in
set_option maxHeartbeats 16000000 in
theorem toRmO_any (lo : Nat) (cs : List Value) (U : Rm) (w : World) (h : RmC lo w cs U) (hn : RmSmall U) :
    Calls Try.prog 61 #[.agg cs.toArray] w
      fun e w' => ∃ b0 m0, e = .returned (.agg (rmL U b0 m0).toArray) ∧ Below w.heap.size w w' ∧ RssOwn w.heap.size w'.heap.size w' (.slice b0 U.sl.length m0) U.sl := by
  obtain ⟨a0, k0, rfl, h⟩ := h
  show Calls Try.prog 61 #[.agg #[.int .i64 U.kd, .int .i64 U.fr, .int .i64 U.tt, .int .i64 U.ba, .int .i64 U.ix, .int .i64 U.kn, .string U.tx, .slice a0 U.sl.length k0]] w _
  have HL := hide h
  have hn0 := hn
  clear h
  go_enter Try.func61, Try.ntmps61
  go_wp2_with fail
  obtain ⟨wz, hwz, FX, FR, FO, HB⟩ : ∃ wz, wz = ((w.alloc (.cells #[.int .i64 U.kd, .int .i64 U.fr, .int .i64 U.tt, .int .i64 U.ba, .int .i64 U.ix, .int .i64 U.kn, .string U.tx, .slice a0 U.sl.length k0] 85)).alloc (.cells #[.int .i64 0, .int .i64 0, .int .i64 0, .int .i64 0, .int .i64 0, .int .i64 0, .string ⟨#[]⟩, .slice none 0 0] 94)).alloc (.cells #[.int .i64 U.kd, .int .i64 U.fr, .int .i64 U.tt, .int .i64 U.ba, .int .i64 U.ix, .int .i64 U.kn, .string U.tx, .slice none 0 0] 94) ∧
      Hid (Box wz w.heap.size #[.int .i64 U.kd, .int .i64 U.fr, .int .i64 U.tt, .int .i64 U.ba, .int .i64 U.ix, .int .i64 U.kn, .string U.tx, .slice a0 U.sl.length k0]) ∧ Hid (Box wz (w.heap.size + 1) #[.int .i64 0, .int .i64 0, .int .i64 0, .int .i64 0, .int .i64 0, .int .i64 0, .string ⟨#[]⟩, .slice none 0 0]) ∧ Hid (Box wz (w.heap.size + 1 + 1) #[.int .i64 U.kd, .int .i64 U.fr, .int .i64 U.tt, .int .i64 U.ba, .int .i64 U.ix, .int .i64 U.kn, .string U.tx, .slice none 0 0]) ∧ Hid (Below w.heap.size w wz) :=
    ⟨_, rfl, ((Box.new w _ _ _ rfl).on (one_al _ _)).on (one_al _ _), (Box.new _ _ _ _ (by simp)).on (one_al _ _), Box.new _ _ _ _ (by simp), ((one_al _ _).trans ((one_al _ _).mono (by simp))).trans ((one_al _ _).mono (by simp; omega))⟩
  rw [← hwz]
  clear hwz
  generalize wz = v0 at *
  have hz0 : w.heap.size + 3 ≤ v0.heap.size := by have := FO.out.lt; omega
  refine (toRssO_any lo _ U.sl _ ((HL.out.below HB.out).l0) hn0).mono ?_
  rintro e x0 ⟨u, rfl, hb, hs⟩
  obtain ⟨b0, m0, rfl⟩ := hs.form
  have N0 := hide (hs.wide hz0 (Nat.le_refl _))
  replace FX := hide (FX.out.on hb)
  replace FR := hide (FR.out.on hb)
  replace FO := hide (FO.out.on hb)
  replace HB := hide (bt HB.out hb)
  clear hb hs hz0
  have g0 := FO.out.cell
  have g1 := FO.out.free
  have g2 := FR.out.cell
  have g3 := FR.out.free
  have g4 := FX.out.cell
  go_wp2
  refine bodyPost_ret (v := .agg #[.int .i64 U.kd, .int .i64 U.fr, .int .i64 U.tt, .int .i64 U.ba, .int .i64 U.ix, .int .i64 U.kn, .string U.tx, .slice b0 U.sl.length m0]) (by simp [results, Try.results61, go_sem, g2]) rfl ⟨b0, m0, rfl, ?_, ?_⟩
  · repeat (refine Below.setCell ?_ (by simp only []; omega) _)
    exact HB.out
  · refine RssOwn.wide (lo := w.heap.size + 3) (hi := x0.heap.size) ?_ (by omega) (by simp [World.setCell])
    repeat (refine RssOwn.set ?_ (by simp only []; omega) _)
    exact N0.out
end Go.Proofs.Ytlednecohppljaa
