import Derived.Test.YtmaagbnjpdijnaaYLA
import Derived.Test.YtmaagbnjpdijnaaYNN
import Derived.Test.YtmaagbnjpdijnaaYK25
import Derived.Test.YtmaagbnjpdijnaaYOXm
import Derived.Test.YtmaagbnjpdijnaaYOXt
import Derived.Test.YtmaagbnjpdijnaaYM2
import Derived.Test.YtmaagbnjpdijnaaYB1
import Derived.Test.YtmaagbnjpdijnaaYP1
import Derived.Test.YtmaagbnjpdijnaaYTA
import Derived.Test.YtmaagbnjpdijnaaYOWX
namespace Go.Proofs.Ytmaagbnjpdijnaa
open Go.RowKit Go.Deep

theorem Kept.set' (lo hi : Nat) (w : World) (p : Addr) (u : Value) (h : lo ≤ p.block ∧ p.block < hi) : Kept lo hi w (w.setCell p u) := by
  by_cases hc : (w.cell? p).isSome = true
  · exact Kept.setCell lo hi w p u h hc
  · refine ⟨Touch.setCell lo hi w p u h, fun q _ hq => ?_, fun q _ => by rw [World.frozen?_setCell]⟩
    have hne : q ≠ p := fun e => hc (e ▸ hq)
    rw [show (w.setCell p u).cell? q = w.cell? q from by apply World.cell?_setCell_other; first | exact hne | exact hne.symm]
    exact hq
theorem ShsW.far {lo hi lo' hi' : Nat} {w w' : World} {v : Value} {n : Nat} (h : ShsW lo hi w v n) (k : Kept lo' hi' w w') (ho : hi' ≤ lo ∨ hi ≤ lo') : ShsW lo hi w' v n := by
  rcases h with h | ⟨b, off, cap, m, h1, h2, h3, h4, h5, h6, h7, h8, h9⟩
  · exact Or.inl h
  · refine Or.inr ⟨b, off, cap, m, h1, h2, h3, h4, h5, h6, h7, h8, fun i hi hj => ?_⟩
    obtain ⟨fv, nf, hs, hf, hn⟩ := h9 i hi hj
    have g1 := h7 0 i (Nat.zero_le _)
    have g2 := h7 (i + 1) n (by omega)
    refine ⟨fv, nf, ⟨Nat.lt_of_lt_of_le hs.lt k.touch.size, k.there _ hs.lt hs.c0, (k.touch.cell (p := ⟨b, off + i * 2 + 1, none⟩) hs.lt (by simp only []; omega)).trans hs.one, fun i => (k.frz _ hs.lt).trans (hs.fr i)⟩, hf.kept k (by omega), hn⟩
def ShsB (lo hi : Nat) (w : World) (v : Value) (Ss : List Sh) : Prop := ShsAt lo w v Ss ∧ ShsW lo hi w v Ss.length
def MdsB (lo hi : Nat) (w : World) (v : Value) (Ms : List Md) : Prop := MdsAt lo w v Ms ∧ MdsW lo hi w v Ms.length
theorem ShsB.below {lo hi : Nat} {w w' : World} {v : Value} {Ss : List Sh} (h : ShsB lo hi w v Ss) (hb : Below w.heap.size w w') : ShsB lo hi w' v Ss := ⟨h.1.below hb, h.2.below hb⟩
theorem MdsB.below {lo hi : Nat} {w w' : World} {v : Value} {Ms : List Md} (h : MdsB lo hi w v Ms) (hb : Below w.heap.size w w') : MdsB lo hi w' v Ms := ⟨h.1.below hb, h.2.below hb⟩
theorem ShsB.setLow {lo hi : Nat} {w : World} {v : Value} {Ss : List Sh} (h : ShsB lo hi w v Ss) {p : Addr} (hp : p.block < lo) (u : Value) : ShsB lo hi (w.setCell p u) v Ss := ⟨h.1.set' hp u, h.2.far (Kept.set' p.block (p.block + 1) w p u ⟨Nat.le_refl _, Nat.lt_succ_self _⟩) (Or.inl hp)⟩
theorem MdsB.setLow {lo hi : Nat} {w : World} {v : Value} {Ms : List Md} (h : MdsB lo hi w v Ms) {p : Addr} (hp : p.block < lo) (u : Value) : MdsB lo hi (w.setCell p u) v Ms := ⟨h.1.setCell hp u, h.2.kept (Kept.set' p.block (p.block + 1) w p u ⟨Nat.le_refl _, Nat.lt_succ_self _⟩)⟩
theorem ShsB.form {lo hi : Nat} {w : World} {v : Value} {Ss : List Sh} (h : ShsB lo hi w v Ss) : ∃ a cap, v = .slice a Ss.length cap := h.1.form
theorem MdsB.form {lo hi : Nat} {w : World} {v : Value} {Ms : List Md} (h : MdsB lo hi w v Ms) : ∃ a cap, v = .slice a Ms.length cap := h.1.form
theorem TmsOwn.setLow {lo hi : Nat} {w : World} {v : Value} {Xl : List Tm} (h : TmsOwn lo hi w v Xl) {p : Addr} (hp : p.block < lo) (u : Value) : TmsOwn lo hi (w.setCell p u) v Xl := h.touch (Touch.setCell p.block (p.block + 1) w p u ⟨Nat.le_refl _, Nat.lt_succ_self _⟩) (Or.inr hp)
/-- a law of one's own -/
def LawOwn (lo hi : Nat) (w : World) (sv mv tv : Value) (Ss : List Sh) (Ms : List Md) (Ts : List Tm) : Prop :=
  ∃ s0 s1 m0 m1 t0 t1 : Nat, (lo ≤ s0 ∧ s1 ≤ hi) ∧ (lo ≤ m0 ∧ m1 ≤ hi) ∧ (lo ≤ t0 ∧ t1 ≤ hi) ∧ s1 ≤ t0 ∧ m1 ≤ t0 ∧ ShsB s0 s1 w sv Ss ∧ MdsB m0 m1 w mv Ms ∧ TmsOwn t0 t1 w tv Ts
theorem LawOwn.at {lo hi : Nat} {w : World} {sv mv tv : Value} {Ss : List Sh} {Ms : List Md} {Ts : List Tm} (h : LawOwn lo hi w sv mv tv Ss Ms Ts) : LawAt lo w sv mv tv Ss Ms Ts := by
  obtain ⟨s0, s1, m0, m1, t0, t1, g1, g2, g3, -, -, h1, h2, h3⟩ := h
  exact ⟨h1.1.mono g1.1, h2.1.mono g2.1, h3.at.mono g3.1⟩
theorem LawOwn.below {lo hi : Nat} {w w' : World} {sv mv tv : Value} {Ss : List Sh} {Ms : List Md} {Ts : List Tm} (h : LawOwn lo hi w sv mv tv Ss Ms Ts) (hb : Below w.heap.size w w') : LawOwn lo hi w' sv mv tv Ss Ms Ts := by
  obtain ⟨s0, s1, m0, m1, t0, t1, g1, g2, g3, g4, g5, h1, h2, h3⟩ := h
  exact ⟨s0, s1, m0, m1, t0, t1, g1, g2, g3, g4, g5, h1.below hb, h2.below hb, h3.below hb⟩

section
variable (lo hi : Nat) (sv mv tv : Value) (Ss : List Sh) (Ms : List Md) (Ts : List Tm) (w : World)

end
end Go.Proofs.Ytmaagbnjpdijnaa

