import Derived.Test.YtoklnkojacdciaaG01
import Derived.Test.YtoklnkojacdciaaG06
import Derived.Deep.MidRow
import Derived.ProofKit
import Derived.Deep.Strs
import Derived.Deep.RegionHeld
import Derived.ChangeSlices
namespace Go.Proofs.Ytoklnkojacdciaa
open Go.RowKit Go.Deep

structure Ra where
  ix : Int
  fr : List Int
def RaSmall (U : Ra) : Prop := RisSmall U.fr
structure RaAt (lo : Nat) (w : World) (v0 : Value) (U : Ra) : Prop where
  l0 : RisAt lo w v0 U.fr
theorem RaAt.below {lo : Nat} {w w' : World} {v0 : Value} {U : Ra} (h : RaAt lo w v0 U) (hb : Below w.heap.size w w') : RaAt lo w' v0 U := ⟨h.l0.below hb⟩
theorem RaAt.mono {lo lo' : Nat} {w : World} {v0 : Value} {U : Ra} (h : RaAt lo w v0 U) (hl : lo' ≤ lo) : RaAt lo' w v0 U := ⟨h.l0.mono hl⟩
theorem RaAt.set {lo : Nat} {w : World} {v0 : Value} {U : Ra} (h : RaAt lo w v0 U) {p : Addr} (hp : p.block < lo) (u : Value) : RaAt lo (w.setCell p u) v0 U := ⟨h.l0.set hp u⟩
/-- its cells -/
def raL (U : Ra) (a0 : Option Addr) (k0 : Nat) : List Value := [.int .i64 U.ix, .slice a0 U.fr.length k0]
/-- its cells, and what they lead to -/
def RaC (lo : Nat) (w : World) (cs : List Value) (U : Ra) : Prop := ∃ a0 k0, cs = raL U a0 k0 ∧ RaAt lo w (.slice a0 U.fr.length k0) U
theorem RaC.below {lo : Nat} {w w' : World} {cs : List Value} {U : Ra} (h : RaC lo w cs U) (hb : Below w.heap.size w w') : RaC lo w' cs U := by
  obtain ⟨a0, k0, h1, h2⟩ := h
  exact ⟨a0, k0, h1, h2.below hb⟩
theorem RaC.mono {lo lo' : Nat} {w : World} {cs : List Value} {U : Ra} (h : RaC lo w cs U) (hl : lo' ≤ lo) : RaC lo' w cs U := by
  obtain ⟨a0, k0, h1, h2⟩ := h
  exact ⟨a0, k0, h1, h2.mono hl⟩
theorem RaC.set {lo : Nat} {w : World} {cs : List Value} {U : Ra} (h : RaC lo w cs U) {p : Addr} (hp : p.block < lo) (u : Value) : RaC lo (w.setCell p u) cs U := by
  obtain ⟨a0, k0, h1, h2⟩ := h
  exact ⟨a0, k0, h1, h2.set hp u⟩
theorem RaC.len {lo : Nat} {w : World} {cs : List Value} {U : Ra} (h : RaC lo w cs U) : cs.length = 2 := by
  obtain ⟨a0, k0, h1, h2⟩ := h
  rw [h1]; rfl
theorem RaC.one {lo : Nat} {w : World} {cs : List Value} {U : Ra} (h : RaC lo w cs U) : Array.all cs.toArray (·.oneCell') = true := by
  obtain ⟨a0, k0, h1, h2⟩ := h
  rw [h1]
  unfold raL
  simp [Value.oneCell']

set_option maxHeartbeats 8000000 in
theorem szRa_c (lo : Nat) (cs : List Value) (U : Ra) (left : Int) (w : World) (h0 : 0 ≤ left) (h1 : left ≤ 1048576) (h : RaC lo w cs U) :
    Calls Try.prog 110 #[.agg cs.toArray, .int .i64 left] w
      fun e w' => ∃ r : Int, e = .returned (.int .i64 r) ∧ Below w.heap.size w w' ∧ -1 ≤ r ∧ r ≤ left ∧ (0 ≤ r → RaSmall U) := by
  obtain ⟨a0, k0, rfl, h⟩ := h
  show Calls Try.prog 110 #[.agg #[.int .i64 U.ix, .slice a0 U.fr.length k0], .int .i64 left] w _
  have HL := hide h
  clear h
  go_enter Try.func110, Try.ntmps110
  go_wp2_with fail
  generalize hWa : w.alloc _ = Wa
  have HB : Hid (Below w.heap.size w Wa) := by unfold Hid; rw [← hWa]; exact one_al _ _
  have FX : Hid (Box Wa w.heap.size #[.int .i64 U.ix, .slice a0 U.fr.length k0]) := by unfold Hid; rw [← hWa]; exact Box.new _ _ _ _ rfl
  clear hWa
  refine (szRis_any lo _ U.fr _ _ (by omega) (by omega) ((HL.out.below HB.out).l0)).mono ?_
  rintro e w0 ⟨q0, rfl, hb, p0a, p0b, p0c⟩
  have Q0 := hide p0c
  replace HB := hide (bt HB.out hb)
  replace FX := hide (FX.out.on hb)
  clear hb p0c
  by_cases m0 : q0 < 0
  · go_wp2
    go_ret
    exact ⟨-1, rfl, HB.out, by omega, by omega, fun h => by omega⟩
  go_wp2
  go_ret
  exact ⟨_, rfl, HB.out, by omega, by omega, fun h => Q0.out (by omega)⟩

set_option maxHeartbeats 8000000 in
theorem eqRa_c (lo lo' : Nat) (cs cs' : List Value) (U : Ra) (w : World) (h : RaC lo w cs U) (h' : RaC lo' w cs' U) :
    Calls Try.prog 108 #[.agg cs.toArray, .agg cs'.toArray] w fun e w' => e = .returned (.bool true) ∧ Below w.heap.size w w' := by
  obtain ⟨a0, k0, rfl, h⟩ := h
  obtain ⟨d0, e0, rfl, h'⟩ := h'
  show Calls Try.prog 108 #[.agg #[.int .i64 U.ix, .slice a0 U.fr.length k0], .agg #[.int .i64 U.ix, .slice d0 U.fr.length e0]] w _
  have HL := hide h
  have HR := hide h'
  clear h h'
  go_enter Try.func108, Try.ntmps108
  go_wp2_with fail
  generalize hWa : (World.alloc (w.alloc _) _) = Wa
  have HB : Hid (Below w.heap.size w Wa) := by unfold Hid; rw [← hWa]; exact (one_al w _).alloc (by simp) _
  have FX : Hid (Box Wa w.heap.size #[.int .i64 U.ix, .slice a0 U.fr.length k0]) := by unfold Hid; rw [← hWa]; exact (Box.new _ _ _ _ rfl).on (one_al _ _)
  have FY : Hid (Box Wa (w.heap.size + 1) #[.int .i64 U.ix, .slice d0 U.fr.length e0]) := by unfold Hid; rw [← hWa]; exact Box.new _ _ _ _ (by simp)
  clear hWa
  refine (eqRis_same lo lo' _ _ U.fr _ ((HL.out.below HB.out).l0) ((HR.out.below HB.out).l0)).mono ?_
  rintro e w0 ⟨rfl, hb⟩
  replace HB := hide (bt HB.out hb)
  replace FX := hide (FX.out.on hb)
  replace FY := hide (FY.out.on hb)
  clear hb
  have g0 := FX.out.cell
  have g1 := FY.out.cell
  go_wp2
  go_ret
  exact ⟨rfl, HB.out⟩

set_option maxRecDepth 20000 in
set_option maxHeartbeats 16000000 in
theorem toRa_c (lo : Nat) (cs : List Value) (U : Ra) (w : World) (h : RaC lo w cs U) (hn : RaSmall U) :
    Calls Try.prog 112 #[.agg cs.toArray] w
      fun e w' => ∃ cs', e = .returned (.agg cs'.toArray) ∧ Below w.heap.size w w' ∧ RaC w.heap.size w' cs' U := by
  obtain ⟨a0, k0, rfl, h⟩ := h
  show Calls Try.prog 112 #[.agg #[.int .i64 U.ix, .slice a0 U.fr.length k0]] w _
  have HL := hide h
  have hn0 := hn
  clear h
  go_enter Try.func112, Try.ntmps112
  go_wp2_with fail
  obtain ⟨wz, hwz, FX, FR, FO, HB⟩ : ∃ wz, wz = ((w.alloc (.cells #[.int .i64 U.ix, .slice a0 U.fr.length k0] 147)).alloc (.cells #[.int .i64 0, .slice none 0 0] 128)).alloc (.cells #[.int .i64 U.ix, .slice none 0 0] 128) ∧
      Hid (Box wz w.heap.size #[.int .i64 U.ix, .slice a0 U.fr.length k0]) ∧ Hid (Box wz (w.heap.size + 1) #[.int .i64 0, .slice none 0 0]) ∧ Hid (Box wz (w.heap.size + 1 + 1) #[.int .i64 U.ix, .slice none 0 0]) ∧ Hid (Below w.heap.size w wz) :=
    ⟨_, rfl, ((Box.new w _ _ _ rfl).on (one_al _ _)).on (one_al _ _), (Box.new _ _ _ _ (by simp)).on (one_al _ _), Box.new _ _ _ _ (by simp), ((one_al _ _).trans ((one_al _ _).mono (by simp))).trans ((one_al _ _).mono (by simp; omega))⟩
  rw [← hwz]
  clear hwz
  generalize wz = v0 at *
  have hz0 : w.heap.size + 3 ≤ v0.heap.size := by have := FO.out.lt; omega
  refine (toRis_any lo _ U.fr _ ((HL.out.below HB.out).l0) hn0).mono ?_
  rintro e x0 ⟨u, rfl, hb, hs⟩
  obtain ⟨b0, m0, rfl⟩ := hs.form
  have N0 := hide (hs.mono hz0)
  replace FX := hide (FX.out.on hb)
  replace FR := hide (FR.out.on hb)
  replace FO := hide (FO.out.on hb)
  replace HB := hide (bt HB.out hb)
  clear hb hs hz0
  have g0 := FO.out.cell
  have g1 := FO.out.free
  have g2 := FR.out.cell
  have g3 := FR.out.free
  have g4 := FX.out.cell
  go_wp2
  refine bodyPost_ret (v := .agg #[.int .i64 U.ix, .slice b0 U.fr.length m0]) (by simp [results, Try.results112, go_sem, g2]) rfl ⟨raL U b0 m0, rfl, ?_, b0, m0, rfl, ⟨?_⟩⟩
  · repeat (refine Below.setCell ?_ (by simp only []; omega) _)
    exact HB.out
  · refine RisAt.mono (lo := w.heap.size + 3) ?_ (by omega)
    repeat (refine RisAt.set ?_ (by simp only []; omega) _)
    exact N0.out
end Go.Proofs.Ytoklnkojacdciaa
namespace Go.Proofs.Ytoklnkojacdciaa
open Go.ChangeShapes Go.WideShapes Go.ChangeAt Go.RowKit Go.Deep
theorem Try.own : ownKnob Try.prog.godebug = none := by kernel_rfl
theorem Try.laidOut : laidOutB Try.prog = true := by kernel_rfl
theorem Try.cells9 : Try.prog.cellsOf 9 = 1 := by kernel_rfl
theorem Try.cells3 : Try.prog.cellsOf 3 = 1 := by kernel_rfl
theorem Try.cells4 : Try.prog.cellsOf 4 = 1 := by kernel_rfl
theorem choose_list {α : Type} {p : Nat → α → Prop} (n : Nat) : (∀ i, i < n → ∃ x, p i x) → ∃ L : List α, L.length = n ∧ ∀ i (h : i < L.length), p i L[i] := by
  induction n with
  | zero => intro _; exact ⟨[], rfl, fun i h => absurd h (by simp)⟩
  | succ n ih =>
    intro h
    obtain ⟨L, hl, hL⟩ := ih (fun i hi => h i (by omega))
    obtain ⟨x, hx⟩ := h n (by omega)
    refine ⟨L ++ [x], by simp [hl], fun i hi => ?_⟩
    by_cases e : i < L.length
    · rw [List.getElem_append_left e]; exact hL i e
    · have e2 : i = n := by simp at hi; omega
      subst e2
      have : (L ++ [x])[i] = x := by rw [List.getElem_append_right (by omega)]; simp [hl]
      rw [this]; exact hx
theorem Try.cells145 : Try.prog.cellsOf 145 = 2 := by kernel_rfl
theorem lstRs {l : List Value} (h : l.length = 2) : ∃ c0 c1, l = [c0, c1] := by
  match l, h with
  | [c0, c1], _ => exact ⟨c0, c1, rfl⟩
section
variable {H : Type} {enc : TypeId × Value → H} {W : World}
set_option maxRecDepth 100000 in
theorem open_Rs {fuel : Nat} {cs : List Value} {x : DataW H × List MemPlace} (h : DataW.trod enc Try.prog W 0 (fun _ => true) true fuel 145 cs = some x) :
    ∃ (x : Rs), cs = [.int .i64 x.ba, .string x.tx] ∧ RsSize x := by
  obtain ⟨xs, n, _, _, hl, hlen, hfld⟩ := DataW.trod_struct Try.underlying145 h
  obtain ⟨c0, c1, rfl⟩ := lstRs (hl.trans Try.cells145)
  simp only [Array.size, List.length_cons, List.length_nil] at hlen
  have g0 : DataW.trod enc Try.prog W 0 (fun _ => true) true n 3 ((([c0, c1] : List Value).drop 0).take (Try.prog.cellsOf 3)) = xs[0]? := hfld 0 _ rfl
  have g1 : DataW.trod enc Try.prog W 0 (fun _ => true) true n 9 ((([c0, c1] : List Value).drop 1).take (Try.prog.cellsOf 9)) = xs[1]? := hfld 1 _ rfl
  simp only [Try.cells3, Try.cells9, List.drop_succ_cons, List.drop_zero, List.take_succ_cons, List.take_zero] at g0 g1
  rw [List.getElem?_eq_getElem (by omega)] at g0 g1
  obtain ⟨q0, e0, _, _⟩ := DataW.trod_int Try.underlying3 g0
  obtain ⟨q1, e1, _, s1⟩ := DataW.trod_string Try.underlying9 g1
  simp only [List.cons.injEq, and_true] at e0 e1
  subst e0 e1
  exact ⟨⟨q0, q1⟩, rfl, ⟨s1⟩⟩
set_option maxRecDepth 100000 in
theorem open_Rss {fuel : Nat} {c : Value} {x : DataW H × List MemPlace} (h : DataW.trod enc Try.prog W 0 (fun _ => true) true fuel 92 [c] = some x) : ∃ Xl, RssAt 0 W c Xl := by
  rcases open_slice Try.underlying92 h with ⟨hcs, _⟩ | ⟨a, len, cap, m, n, D, Pl, hcs, _, hl, hm, hmm, _, hx⟩
  · simp only [List.cons.injEq, and_true] at hcs
    exact ⟨[], Or.inl ⟨_, _, hcs, rfl⟩⟩
  · simp only [List.cons.injEq, and_true] at hcs
    simp only [if_true] at hmm
    subst hmm
    rw [Try.cells145] at hx
    by_cases h0 : len = 0
    · subst h0
      exact ⟨[], Or.inl ⟨_, _, hcs, rfl⟩⟩
    · obtain ⟨Xl, hF, hall⟩ := choose_list (p := fun i (x : Rs) => RsSize x ∧ W.cells? 0 (a.add (i * 2)) 2 = some [.int .i64 x.ba, .string x.tx]) len (fun i hi => by
        obtain ⟨cs', h1, h2⟩ := hx i (by omega)
        obtain ⟨md, e, hz⟩ := open_Rs h2
        rw [e] at h1
        exact ⟨md, hz, h1⟩)
      obtain ⟨b, off, spot⟩ := a
      have hspot : spot = none := by
        obtain ⟨_, h1⟩ := hall 0 (by omega)
        have := (World.cells?_some h1).2.2 0 (by omega)
        rw [Nat.zero_mul] at this
        have e0 : ((⟨b, off, spot⟩ : Addr).add 0).add 0 = ⟨b, off, spot⟩ := by simp [Addr.add]
        rw [e0] at this
        simpa using World.cell?_spot (by simpa using this)
      subst hspot
      have hcell : ∀ i (hi : i < Xl.length), W.cells? 0 ((⟨b, off, none⟩ : Addr).add (i * 2)) 2 = some [.int .i64 Xl[i].ba, .string Xl[i].tx] → RsCells W b (off + i * 2) Xl[i] := fun i hi h1 => by
        obtain ⟨_, _, hc⟩ := World.cells?_some h1
        rw [add_plain] at hc
        have q := fun j (hj : j < 2) => (add_plain b (off + i * 2) j) ▸ hc j hj
        exact ⟨by simpa using q 0 (by omega), by simpa using q 1 (by omega)⟩
      have hbw : b < W.heap.size := by
        obtain ⟨_, h1⟩ := hall 0 (by omega)
        exact World.block_lt_of_cell? W _ (hcell 0 (by omega) h1).c0
      refine ⟨Xl, Or.inr ⟨b, off, m, by rw [hcs, hF], ?_, by omega, hbw, Nat.zero_le _, by omega, fun i hi => ?_⟩⟩
      · intro e; rw [e] at hF; simp at hF; omega
      · obtain ⟨hz, h1⟩ := hall i hi
        exact ⟨hz, hcell i hi h1⟩
end
end Go.Proofs.Ytoklnkojacdciaa
