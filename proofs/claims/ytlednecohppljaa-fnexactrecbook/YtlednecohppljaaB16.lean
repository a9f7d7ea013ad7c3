import Derived.Test.YtlednecohppljaaB10
import Derived.Test.YtlednecohppljaaB12
import Derived.Test.YtlednecohppljaaB15
namespace Go.Proofs.Ytlednecohppljaa
open Go.RowKit Go.Deep

theorem RssOwn.wide {lo hi lo' hi' : Nat} {w : World} {v : Value} {Xl : List Rs} (h : RssOwn lo hi w v Xl) (h1 : lo' ≤ lo) (h2 : hi ≤ hi') : RssOwn lo' hi' w v Xl := by
  rcases h with h | ⟨b, off, cap, c, X, e1, e2, e3, e4, e5, e6⟩
  · exact Or.inl h
  · exact Or.inr ⟨b, off, cap, c, X, e1, e2, e3, e4, e5, ⟨e6.lt, Nat.le_trans h1 e6.low, e6.bc, Nat.lt_of_lt_of_le e6.bh h2, e6.mono, Nat.le_trans e6.top h2, e6.frz, e6.row⟩⟩
theorem RmsOwn.wide {lo hi lo' hi' : Nat} {w : World} {v : Value} {Xl : List Rm} (h : RmsOwn lo hi w v Xl) (h1 : lo' ≤ lo) (h2 : hi ≤ hi') : RmsOwn lo' hi' w v Xl := by
  rcases h with h | ⟨b, off, cap, c, X, e1, e2, e3, e4, e5, e6⟩
  · exact Or.inl h
  · exact Or.inr ⟨b, off, cap, c, X, e1, e2, e3, e4, e5, ⟨e6.lt, Nat.le_trans h1 e6.low, Nat.lt_of_lt_of_le e6.bh h2, fun i hi' => ⟨Nat.le_trans h1 (e6.seg i hi').1, Nat.le_trans (e6.seg i hi').2.1 h2, (e6.seg i hi').2.2⟩, e6.ap, e6.frz, e6.row⟩⟩
theorem RasOwn.wide {lo hi lo' hi' : Nat} {w : World} {v : Value} {Xl : List Ra} (h : RasOwn lo hi w v Xl) (h1 : lo' ≤ lo) (h2 : hi ≤ hi') : RasOwn lo' hi' w v Xl := by
  rcases h with h | ⟨b, off, cap, c, X, e1, e2, e3, e4, e5, e6⟩
  · exact Or.inl h
  · exact Or.inr ⟨b, off, cap, c, X, e1, e2, e3, e4, e5, ⟨e6.lt, Nat.le_trans h1 e6.low, Nat.lt_of_lt_of_le e6.bh h2, fun i hi' => ⟨Nat.le_trans h1 (e6.seg i hi').1, Nat.le_trans (e6.seg i hi').2.1 h2, (e6.seg i hi').2.2⟩, e6.ap, e6.frz, e6.row⟩⟩
theorem RssOwn.set {lo hi : Nat} {w : World} {v : Value} {Xl : List Rs} (h : RssOwn lo hi w v Xl) {p : Addr} (hp : p.block < lo) (u : Value) : RssOwn lo hi (w.setCell p u) v Xl := h.touch (Touch.setCell p.block (p.block + 1) w p u ⟨Nat.le_refl _, Nat.lt_succ_self _⟩) (Or.inr hp)
theorem RmsOwn.set {lo hi : Nat} {w : World} {v : Value} {Xl : List Rm} (h : RmsOwn lo hi w v Xl) {p : Addr} (hp : p.block < lo) (u : Value) : RmsOwn lo hi (w.setCell p u) v Xl := h.touch (Touch.setCell p.block (p.block + 1) w p u ⟨Nat.le_refl _, Nat.lt_succ_self _⟩) (Or.inr hp)
theorem RasOwn.set {lo hi : Nat} {w : World} {v : Value} {Xl : List Ra} (h : RasOwn lo hi w v Xl) {p : Addr} (hp : p.block < lo) (u : Value) : RasOwn lo hi (w.setCell p u) v Xl := h.touch (Touch.setCell p.block (p.block + 1) w p u ⟨Nat.le_refl _, Nat.lt_succ_self _⟩) (Or.inr hp)
theorem RtsOwn.set {lo hi : Nat} {w : World} {v : Value} {Xl : List ByteArray} (h : RtsOwn lo hi w v Xl) {p : Addr} (hp : p.block < lo) (u : Value) : RtsOwn lo hi (w.setCell p u) v Xl := h.touch (Touch.setCell p.block (p.block + 1) w p u ⟨Nat.le_refl _, Nat.lt_succ_self _⟩) (Or.inr hp)
theorem RisOwn.set {lo hi : Nat} {w : World} {v : Value} {Xl : List Int} (h : RisOwn lo hi w v Xl) {p : Addr} (hp : p.block < lo) (u : Value) : RisOwn lo hi (w.setCell p u) v Xl := h.touch (Touch.setCell p.block (p.block + 1) w p u ⟨Nat.le_refl _, Nat.lt_succ_self _⟩) (Or.inr hp)
end Go.Proofs.Ytlednecohppljaa
namespace Go.Proofs.Ytlednecohppljaa
open Go.RowKit Go.Deep

set_option maxRecDepth 20000 in
set_option maxHeartbeats 16000000 in
theorem toRdO_any (lo : Nat) (cs : List Value) (U : Rd) (w : World) (h : RdC lo w cs U) (hn : RdSmall U) :
    Calls Try.prog 35 #[.agg cs.toArray] w
      fun e w' => ∃ b0 m0, e = .returned (.agg (rdL U b0 m0).toArray) ∧ Below w.heap.size w w' ∧ RssOwn w.heap.size w'.heap.size w' (.slice b0 U.sl.length m0) U.sl := by
  obtain ⟨a0, k0, rfl, h⟩ := h
  show Calls Try.prog 35 #[.agg #[.int .i64 U.pr, .int .i64 U.kn, .slice a0 U.sl.length k0]] w _
  have HL := hide h
  have hn0 := hn
  clear h
  go_enter Try.func35, Try.ntmps35
  go_wp2_with fail
  obtain ⟨wz, hwz, FX, FR, FO, HB⟩ : ∃ wz, wz = ((w.alloc (.cells #[.int .i64 U.pr, .int .i64 U.kn, .slice a0 U.sl.length k0] 31)).alloc (.cells #[.int .i64 0, .int .i64 0, .slice none 0 0] 41)).alloc (.cells #[.int .i64 U.pr, .int .i64 U.kn, .slice none 0 0] 41) ∧
      Hid (Box wz w.heap.size #[.int .i64 U.pr, .int .i64 U.kn, .slice a0 U.sl.length k0]) ∧ Hid (Box wz (w.heap.size + 1) #[.int .i64 0, .int .i64 0, .slice none 0 0]) ∧ Hid (Box wz (w.heap.size + 1 + 1) #[.int .i64 U.pr, .int .i64 U.kn, .slice none 0 0]) ∧ Hid (Below w.heap.size w wz) :=
    ⟨_, rfl, ((Box.new w _ _ _ rfl).on (one_al _ _)).on (one_al _ _), (Box.new _ _ _ _ (by simp)).on (one_al _ _), Box.new _ _ _ _ (by simp), ((one_al _ _).trans ((one_al _ _).mono (by simp))).trans ((one_al _ _).mono (by simp; omega))⟩
  rw [← hwz]
  clear hwz
  generalize wz = v0 at *
  have hz0 : w.heap.size + 3 ≤ v0.heap.size := by have := FO.out.lt; omega
  refine (toRssO_any lo _ U.sl _ ((HL.out.below HB.out).l0) hn0).mono ?_
  rintro e x0 ⟨u, rfl, hb, hs⟩
  obtain ⟨b0, m0, rfl⟩ := hs.form
  have N0 := hide (hs.wide hz0 (Nat.le_refl _))
  replace FX := hide (FX.out.on hb)
  replace FR := hide (FR.out.on hb)
  replace FO := hide (FO.out.on hb)
  replace HB := hide (bt HB.out hb)
  clear hb hs hz0
  have g0 := FO.out.cell
  have g1 := FO.out.free
  have g2 := FR.out.cell
  have g3 := FR.out.free
  have g4 := FX.out.cell
  go_wp2
  refine bodyPost_ret (v := .agg #[.int .i64 U.pr, .int .i64 U.kn, .slice b0 U.sl.length m0]) (by simp [results, Try.results35, go_sem, g2]) rfl ⟨b0, m0, rfl, ?_, ?_⟩
  · repeat (refine Below.setCell ?_ (by simp only []; omega) _)
    exact HB.out
  · refine RssOwn.wide (lo := w.heap.size + 3) (hi := x0.heap.size) ?_ (by omega) (by simp [World.setCell])
    repeat (refine RssOwn.set ?_ (by simp only []; omega) _)
    exact N0.out
end Go.Proofs.Ytlednecohppljaa
