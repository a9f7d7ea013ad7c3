import Derived.Test.YtfbfgljkiikabaaGreatV07
import Derived.Test.YtfbfgljkiikabaaGreatV08
namespace Go.Proofs.YtfbfgljkiikabaaGreat
open Go.RowKit Go.Deep

def RaSize (x : Ra) : Prop := x = x
structure RaCells (w : World) (b o : Nat) (x : Ra) (vv0 : Value) : Prop where
  c0 : w.cell? ⟨b, o, none⟩ = some (.int .i64 x.ix)
  c1 : w.cell? ⟨b, o + 1, none⟩ = some vv0
theorem RaCells.below {w w' : World} {b o : Nat} {x : Ra} {vv0 : Value} (h : RaCells w b o x vv0) {m : Nat} (hb : Below m w w') (hlt : b < m) : RaCells w' b o x vv0 := by
  have e : ∀ o, w'.cell? ⟨b, o, none⟩ = w.cell? ⟨b, o, none⟩ := fun o => hb.cell (p := ⟨b, o, none⟩) hlt
  exact ⟨by rw [e]; exact h.c0, by rw [e]; exact h.c1⟩
theorem RaCells.rng {w : World} {b o : Nat} {x : Ra} {a : Option Addr} {k : Nat} (h : RaCells w b o x (.slice a x.fr.length k)) : w.rangeAt b o (raL x a k) := fun j v hv => by
  match j, hv with
  | 0, hv => cases hv; exact h.c0
  | 1, hv => cases hv; exact h.c1
def RaOne (b o c0 c1 : Nat) (w : World) (x : Ra) : Prop := RaSize x ∧ ∃ (vv0 : Value), c0 ≤ c1 ∧ RaCells w b o x vv0 ∧ RisOwn c0 c1 w vv0 x.fr
theorem RaOne.near {b o c0 c1 o1 d0 d1 : Nat} {w w' : World} {x : Ra} (h : RaOne b o c0 c1 w x) (hn : Near b o1 2 d0 d1 w w') (ho : o + 2 ≤ o1 ∨ o1 + 2 ≤ o) (hi : c1 ≤ d0 ∨ d1 ≤ c0) (hb : b < c0 ∨ c1 ≤ b) : RaOne b o c0 c1 w' x := by
  obtain ⟨hs, vv0, q0, hc, l0⟩ := h
  obtain ⟨h0, h1⟩ := hc
  have e : ∀ t, t < 2 → w'.cell? ⟨b, o + t, none⟩ = w.cell? ⟨b, o + t, none⟩ := fun t ht => hn.cell _ (by omega)
  have e0 : w'.cell? ⟨b, o, none⟩ = w.cell? ⟨b, o, none⟩ := hn.cell _ (by omega)
  exact ⟨hs, vv0, q0, ⟨e0.trans h0, (e 1 (by omega)).trans h1⟩, l0.near hn (by omega) (by omega)⟩
theorem RaOne.touch {b o c0 c1 : Nat} {lo hi : Nat} {w w' : World} {x : Ra} (h : RaOne b o c0 c1 w x) (ht : Touch lo hi w w') (hlt : b < w.heap.size) (hb : b < lo ∨ hi ≤ b) (hi' : c1 ≤ lo ∨ hi ≤ c0) : RaOne b o c0 c1 w' x := by
  obtain ⟨hs, vv0, q0, hc, l0⟩ := h
  obtain ⟨h0, h1⟩ := hc
  exact ⟨hs, vv0, q0, ⟨(ht.cell (p := ⟨b, o, none⟩) hlt hb).trans h0, (ht.cell (p := ⟨b, o + 1, none⟩) hlt hb).trans h1⟩, l0.touch ht (by omega)⟩
theorem RaOne.below {b o c0 c1 : Nat}  {w w' : World} {x : Ra} (h : RaOne b o c0 c1 w x) (ht : Below w.heap.size w w') (hlt : b < w.heap.size) : RaOne b o c0 c1 w' x := by
  obtain ⟨hs, vv0, q0, hc, l0⟩ := h
  obtain ⟨h0, h1⟩ := hc
  exact ⟨hs, vv0, q0, ⟨(ht.cell (p := ⟨b, o, none⟩) hlt).trans h0, (ht.cell (p := ⟨b, o + 1, none⟩) hlt).trans h1⟩, l0.below ht⟩
structure RaRow (lo hi : Nat) (w : World) (b off n : Nat) (c : Nat → Nat × Nat) (X : Nat → Ra) : Prop where
  lt : b < w.heap.size
  low : lo ≤ b
  bh : b < hi
  seg : ∀ i, i < n → lo ≤ (c i).1 ∧ (c i).2 ≤ hi ∧ (b < (c i).1 ∨ (c i).2 ≤ b)
  ap : ∀ i j, i < n → j < n → i ≠ j → (c i).2 ≤ (c j).1 ∨ (c j).2 ≤ (c i).1
  frz : ∀ i, w.frozen? ⟨b, i, none⟩ = false
  row : ∀ i, i < n → RaOne b (off + i * 2) (c i).1 (c i).2 w (X i)
theorem RaRow.near {lo hi : Nat} {w w' : World} {b off n : Nat} {c : Nat → Nat × Nat} {X : Nat → Ra} (h : RaRow lo hi w b off n c X) {j : Nat} (hj : j < n) (hn : Near b (off + j * 2) 2 (c j).1 (c j).2 w w') {x : Ra} (hx : RaOne b (off + j * 2) (c j).1 (c j).2 w' x) : RaRow lo hi w' b off n c (fun i => if i = j then x else X i) := by
  refine ⟨Nat.lt_of_lt_of_le h.lt hn.size, h.low, h.bh, h.seg, h.ap, fun i => (hn.frz i).trans (h.frz i), fun i hi' => ?_⟩
  by_cases e : i = j
  · subst e; rw [if_pos rfl]; exact hx
  · rw [if_neg e]
    refine (h.row i hi').near hn (by omega) ?_ (h.seg i hi').2.2
    exact h.ap i j hi' hj e
theorem RaRow.touch {lo hi lo' hi' : Nat} {w w' : World} {b off n : Nat} {c : Nat → Nat × Nat} {X : Nat → Ra} (h : RaRow lo hi w b off n c X) (ht : Touch lo' hi' w w') (ho : hi ≤ lo' ∨ hi' ≤ lo) : RaRow lo hi w' b off n c X := by
  have h1 := h.low
  have h2 := h.bh
  refine ⟨Nat.lt_of_lt_of_le h.lt ht.size, h.low, h.bh, h.seg, h.ap, fun i => (ht.frozen (p := ⟨b, i, none⟩) h.lt (by simp only []; omega)).trans (h.frz i), fun i hi' => ?_⟩
  have h5 := h.seg i hi'
  exact (h.row i hi').touch ht h.lt (by omega) (by omega)
theorem RaRow.below {lo hi : Nat} {w w' : World} {b off n : Nat} {c : Nat → Nat × Nat} {X : Nat → Ra} (h : RaRow lo hi w b off n c X) (ht : Below w.heap.size w w') : RaRow lo hi w' b off n c X :=
  ⟨Nat.lt_of_lt_of_le h.lt ht.size, h.low, h.bh, h.seg, h.ap, fun i => (ht.frozen (p := ⟨b, i, none⟩) h.lt).trans (h.frz i), fun i hi' => (h.row i hi').below ht h.lt⟩
theorem RaRow.to {lo hi : Nat} {w : World} {b off n : Nat} {c : Nat → Nat × Nat} {X Y : Nat → Ra} (h : RaRow lo hi w b off n c X) (e : ∀ i, i < n → X i = Y i) : RaRow lo hi w b off n c Y :=
  ⟨h.lt, h.low, h.bh, h.seg, h.ap, h.frz, fun i hi' => e i hi' ▸ h.row i hi'⟩
/-- a list of one's own -/
def RasOwn (lo hi : Nat) (w : World) (v : Value) (Xl : List Ra) : Prop :=
  (∃ (a : Option Addr) (cap : Nat), v = .slice a 0 cap ∧ Xl = []) ∨
  ∃ (b off cap : Nat) (c : Nat → Nat × Nat) (X : Nat → Ra), v = .slice (some ⟨b, off, none⟩) Xl.length cap ∧ Xl ≠ [] ∧ Xl.length ≤ maxLen ∧ Xl.length ≤ cap ∧ (∀ i (h : i < Xl.length), X i = Xl[i]) ∧ RaRow lo hi w b off Xl.length c X
theorem RasOwn.touch {lo hi lo' hi' : Nat} {w w' : World} {v : Value} {Xl : List Ra} (h : RasOwn lo hi w v Xl) (ht : Touch lo' hi' w w') (ho : hi ≤ lo' ∨ hi' ≤ lo) : RasOwn lo hi w' v Xl := by
  rcases h with h | ⟨b, off, cap, c, X, h1, h2, h3, h4, h5, h6⟩
  · exact Or.inl h
  · exact Or.inr ⟨b, off, cap, c, X, h1, h2, h3, h4, h5, h6.touch ht ho⟩
theorem RasOwn.below {lo hi : Nat} {w w' : World} {v : Value} {Xl : List Ra} (h : RasOwn lo hi w v Xl) (ht : Below w.heap.size w w') : RasOwn lo hi w' v Xl := by
  rcases h with h | ⟨b, off, cap, c, X, h1, h2, h3, h4, h5, h6⟩
  · exact Or.inl h
  · exact Or.inr ⟨b, off, cap, c, X, h1, h2, h3, h4, h5, h6.below ht⟩
theorem RasOwn.form {lo hi : Nat} {w : World} {v : Value} {Xl : List Ra} (h : RasOwn lo hi w v Xl) : ∃ a cap, v = .slice a Xl.length cap := by
  rcases h with ⟨a, cap, h, rfl⟩ | ⟨b, off, cap, c, X, h1, _⟩
  · exact ⟨a, cap, h⟩
  · exact ⟨_, cap, h1⟩
theorem RasOwn.at {lo hi : Nat} {w : World} {v : Value} {Xl : List Ra} (h : RasOwn lo hi w v Xl) : RasAt lo w v Xl := by
  rcases h with h | ⟨b, off, cap, c, X, h1, h2, h3, h4, h5, h6⟩
  · exact Or.inl h
  · refine Or.inr ⟨b, off, cap, h1, h2, h3, h6.lt, h6.low, h4, fun i hi' => ?_⟩
    have hr := h6.row i hi'
    have g0 := h6.seg i hi'
    rw [h5 i hi'] at hr
    obtain ⟨hs, vv0, q0, hc, l0⟩ := hr
    obtain ⟨a0, k0, rfl⟩ := l0.form
    exact ⟨_, hc.rng, a0, k0, rfl, ⟨l0.at.mono (by omega)⟩⟩
/-- marks from k on -/
def mkRa (k : Int) (x : Ra) : Ra := ⟨k, imarks (k + 1) x.fr.length⟩
def wdRa (x : Ra) : Nat := 1 + x.fr.length
def posRa (Xl : List Ra) (i : Nat) : Nat := ((Xl.take i).map wdRa).sum
def mkRas (k : Int) (Xl : List Ra) : List Ra := Xl.mapIdx (fun i x => mkRa (k + (posRa Xl i : Int)) x)
theorem mkRas_len (k : Int) (Xl : List Ra) : (mkRas k Xl).length = Xl.length := by unfold mkRas; simp
theorem mkRas_get (k : Int) (Xl : List Ra) (i : Nat) (h : i < (mkRas k Xl).length) (h' : i < Xl.length) : (mkRas k Xl)[i] = mkRa (k + (posRa Xl i : Int)) Xl[i] := List.getElem_mapIdx (f := fun i x => mkRa (k + (posRa Xl i : Int)) x) (h := h)
theorem posRa_succ {Xl : List Ra} {i : Nat} (h : i < Xl.length) : posRa Xl (i + 1) = posRa Xl i + wdRa Xl[i] := by
  unfold posRa
  rw [List.take_succ_eq_append_getElem h, List.map_append, List.sum_append]
  simp
theorem posRa_le {Xl : List Ra} (hn : RasSmall Xl) : ∀ {i : Nat}, i ≤ Xl.length → posRa Xl i ≤ i * 3000000 := by
  intro i
  induction i with
  | zero => intro _; simp [posRa]
  | succ i ih =>
    intro hi'
    have h1 := ih (by omega)
    rw [posRa_succ (by omega)]
    have h2 : wdRa Xl[i] ≤ 3000000 := by
      have hsm := hn.2 i (by omega)
      unfold RaSmall RisSmall at hsm
      unfold wdRa
      omega
    omega
theorem posRa_all {Xl : List Ra} {i : Nat} (h : Xl.length ≤ i) : posRa Xl i = posRa Xl Xl.length := by
  unfold posRa
  rw [List.take_of_length_le h, List.take_of_length_le (Nat.le_refl _)]
structure RaSt (wr : World) (b o c0 c1 : Nat) (vv0 : Value) (v : World) (y : Ra) : Prop where
  near : Near b o 2 c0 c1 wr v
  bc : b < c0 ∨ c1 ≤ b
  q0 : c0 ≤ c1
  cells : RaCells v b o y vv0
  l0 : RisOwn c0 c1 v vv0 y.fr
  frz : ∀ i, v.frozen? ⟨b, i, none⟩ = false
  lt : b < v.heap.size
theorem RaSt.below {wr : World} {b o c0 c1 : Nat} {vv0 : Value} {v v' : World} {y : Ra} (h : RaSt wr b o c0 c1 vv0 v y) (hb : Below v.heap.size v v') : RaSt wr b o c0 c1 vv0 v' y :=
  ⟨h.near.trans (Near.below hb h.lt), h.bc, h.q0, h.cells.below hb h.lt, h.l0.below hb, fun i => (hb.frozen (p := ⟨b, i, none⟩) h.lt).trans (h.frz i), Nat.lt_of_lt_of_le h.lt hb.size⟩
theorem RaSt.s0 {wr : World} {b o c0 c1 : Nat} {vv0 : Value} {v : World} {y : Ra} (h : RaSt wr b o c0 c1 vv0 v y) (u : Int) : RaSt wr b o c0 c1 vv0 (v.setCell ⟨b, o, none⟩ (.int .i64 u)) { y with ix := u } := by
  obtain ⟨h0, h1⟩ := h.cells
  have ht : Touch b (b + 1) v (v.setCell ⟨b, o, none⟩ (.int .i64 u)) := Touch.setCell _ _ _ _ _ ⟨Nat.le_refl _, by simp only []; omega⟩
  have hbc := h.bc
  have hq0 := h.q0
  exact ⟨h.near.trans (Near.set _ _ _ _ _ _ _ _ (by omega) (by omega)), h.bc, h.q0, ⟨World.cell?_setCell_same' _ _ _ (by rw [h0]; rfl), (cne (by omega)).trans h1⟩, h.l0.touch ht (by omega), fun i => by rw [World.frozen?_setCell]; exact h.frz i, by simpa [World.setCell] using h.lt⟩
theorem RaSt.m0' {wr : World} {b o c0 c1 : Nat} {vv0 : Value} {v v' : World} {y : Ra} (h : RaSt wr b o c0 c1 vv0 v y) (ht : Touch c0 c1 v v') {L : List Int} (hl : RisOwn c0 c1 v' vv0 L) : RaSt wr b o c0 c1 vv0 v' { y with fr := L } := by
  obtain ⟨h0, h1⟩ := h.cells
  have hbc := h.bc
  have hq0 := h.q0
  have hlt := h.lt
  have e : ∀ i, v'.cell? ⟨b, i, none⟩ = v.cell? ⟨b, i, none⟩ := fun i => ht.cell (p := ⟨b, i, none⟩) h.lt (by simp only []; omega)
  exact ⟨h.near.trans (Near.touch ht h.lt (by omega) (by omega) (by omega)), h.bc, h.q0, ⟨(e _).trans h0, (e _).trans h1⟩, hl, fun i => (ht.frozen (p := ⟨b, i, none⟩) h.lt (by simp only []; omega)).trans (h.frz i), Nat.lt_of_lt_of_le h.lt ht.size⟩
end Go.Proofs.YtfbfgljkiikabaaGreat
namespace Go.Proofs.YtfbfgljkiikabaaGreat
open Go.RowKit Go.Deep

theorem RtsFill.own {wr : World} {B : Nat} {Xl : List ByteArray} {k : Nat} (h : RtsFill wr B Xl k) (hk : Xl.length ≤ k) (hne : Xl ≠ []) (hm : Xl.length ≤ maxLen) : RtsOwn B wr.heap.size wr (.slice (some ⟨B, 0, none⟩) Xl.length Xl.length) Xl := by
  obtain ⟨f, hr, hall⟩ := h
  refine Or.inr ⟨B, 0, Xl.length, rfl, hne, hm, Nat.le_refl _, hr.lt, fun i hi => by
    obtain ⟨hz, h0⟩ := hall i hi (by omega)
    exact ⟨hz, by rw [Nat.zero_add, hr.cell hi, h0]⟩, Nat.le_refl _, hr.lt, fun i => hr.frozen _⟩

set_option maxHeartbeats 1000000 in
theorem toRtsO_any (lo : Nat) (v : Value) (Xl : List ByteArray) (w : World) (hv : RtsAt lo w v Xl) (hn : RtsSmall Xl) :
    Calls Tryz.prog 37 #[v] w fun e w' => ∃ v', e = .returned v' ∧ Below w.heap.size w w' ∧ RtsOwn w.heap.size w'.heap.size w' v' Xl := by
  unfold RtsSmall at hn
  by_cases hL : Xl = []
  · subst hL
    obtain ⟨a, cap, rfl⟩ := hv.form
    clear hv
    have hmk : ∀ u : World, (Instr.makeSlice 26 (.int .i64 0) (.int .i64 0)).run Tryz.prog u = .ok (.slice (some ⟨u.heap.size, 0, none⟩) 0 0) (u.alloc (.cells (madeCells #[.string ⟨#[]⟩] 0) 9)) :=
      fun u => run_make_row' 26 9 (.string ⟨#[]⟩) 16 Tryz.underlying26 Tryz.infoRts rfl .i64 .i64 0 (by omega) (by omega) u
    go_enter Tryz.func37, Tryz.ntmps37
    go_wp2
    go_loop [4] (fun i => i = .int .i64 0) (fun _ => 0)
    case atStart => rfl
    case round =>
      subst hrel
      go_wp2
      go_ret
      exact ⟨_, rfl, (Below.refl _ _).alloc (Nat.le_refl _) _, Or.inl ⟨_, _, rfl, rfl⟩⟩
  · obtain ⟨b, off, cap, rfl, hm, hbw, _, hc⟩ := hv.full hL
    clear hv
    have HM : Hid (Xl.length ≤ maxLen) := hm
    unfold maxLen at hm
    have hmk : ∀ u : World, (Instr.makeSlice 26 (.int .i64 (Xl.length : Int)) (.int .i64 (Xl.length : Int))).run Tryz.prog u = .ok (.slice (some ⟨u.heap.size, 0, none⟩) Xl.length Xl.length) (u.alloc (.cells (madeCells #[.string ⟨#[]⟩] Xl.length) 9)) :=
      fun u => run_make_row' 26 9 (.string ⟨#[]⟩) 16 Tryz.underlying26 Tryz.infoRts rfl .i64 .i64 Xl.length (by omega) (by omega) u
    go_enter Tryz.func37, Tryz.ntmps37
    go_wp2
    clear hmk
    go_loopw [4] (fun i wr => ∃ k : Nat, i = .int .i64 k ∧ k ≤ Xl.length ∧ Below w.heap.size w wr ∧ RtsFill wr w.heap.size Xl k) (fun i _ => Xl.length - (intOf i).toNat)
    case atStart => exact ⟨0, rfl, by omega, (Below.refl _ _).alloc (Nat.le_refl _) _, ⟨_, World.rowIs_made w (.string ⟨#[]⟩) Xl.length 9, fun i _ h => by omega⟩⟩
    case round =>
      obtain ⟨k, rfl, hk, hb, hf⟩ := hrel
      by_cases hlt : k < Xl.length
      · obtain ⟨hz, hck⟩ := hc k hlt
        rw [← hb.cell (p := ⟨b, off + k, none⟩) hbw] at hck
        obtain ⟨v0, hold⟩ := hf.there k hlt
        have hfz := hf.free k
        have HZ := hide hz
        have HF := hide hf
        have HB := hide hb
        clear hz hf hb
        go_wp2
        go_roundw
        case rel => exact ⟨k + 1, by go_num, by omega, HB.out.setCell (Nat.le_refl _) _, HF.out.step hlt HZ.out⟩
        case measure => simp [intOf]; omega
      · go_wp2
        go_ret
        exact ⟨_, rfl, hb, hf.own (by omega) hL HM.out⟩
end Go.Proofs.YtfbfgljkiikabaaGreat
namespace Go.Proofs.YtfbfgljkiikabaaGreat
open Go.RowKit Go.Deep

/-! rows that grow and may be nil; rows whose things have lists of their own inside -/
def NRow {X : Type} (f : X → List Value) (n : Nat) (w : World) (lo hi : Nat) (v : Value) (L : List X) : Prop := (v = .slice none 0 0 ∧ L = []) ∨ FRow f n w lo hi v L
theorem NRow.below {X : Type} {f : X → List Value} {n : Nat} {w w' : World} {lo hi : Nat} {v : Value} {L : List X} (h : NRow f n w lo hi v L) (hb : Below w.heap.size w w') : NRow f n w' lo hi v L := h.imp id fun h => h.below hb
theorem NRow.touch {X : Type} {f : X → List Value} {n : Nat} {w w' : World} {lo hi lo' hi' : Nat} {v : Value} {L : List X} (h : NRow f n w lo hi v L) (ht : Touch lo' hi' w w') (ho : hi ≤ lo' ∨ hi' ≤ lo) : NRow f n w' lo hi v L := h.imp id fun h => h.touch ht ho
theorem NRow.wide {X : Type} {f : X → List Value} {n : Nat} {w : World} {lo hi lo' hi' : Nat} {v : Value} {L : List X} (h : NRow f n w lo hi v L) (h1 : lo' ≤ lo) (h2 : hi ≤ hi') : NRow f n w lo' hi' v L := h.imp id fun h => h.wide h1 h2
theorem NRow.set {X : Type} {f : X → List Value} {n : Nat} {w : World} {lo hi : Nat} {v : Value} {L : List X} (h : NRow f n w lo hi v L) {p : Addr} (hp : p.block < lo) (u : Value) : NRow f n (w.setCell p u) lo hi v L :=
  h.touch (Touch.setCell p.block (p.block + 1) w p u ⟨Nat.le_refl _, Nat.lt_succ_self _⟩) (Or.inr hp)
theorem NRow.form {X : Type} {f : X → List Value} {n : Nat} {w : World} {lo hi : Nat} {v : Value} {L : List X} (h : NRow f n w lo hi v L) : ∃ a c, v = .slice a L.length c := by
  rcases h with ⟨h, rfl⟩ | ⟨g, cap, h, _⟩
  · exact ⟨none, 0, h⟩
  · exact ⟨_, _, h⟩
theorem NRow.nil {X : Type} (f : X → List Value) (n : Nat) (w : World) (lo hi : Nat) : NRow f n w lo hi (.slice none 0 0) [] := Or.inl ⟨rfl, rfl⟩
theorem run_nilapp {P : Program} (w : World) (t ty e : TypeId) (i : TypeInfo) (z : Value) (size bytes : Nat) (ht : P.underlying t = some (.slice e)) (hi : P.info? e = some i) (hz : i.zero = some z)
    (hsize : i.size = size) (hby : i.bytes = bytes) (hzs : z.cells.size = size) (a : Addr) (m c : Nat) (news : List Value) (hl : news.length = m * size) (hnews : ∀ j u, news[j]? = some u → w.cell? (a.add j) = some u)
    (h0 : 0 < m) (h63 : m ≤ maxLen) (hbytes : m * bytes ≤ 140737488355328) :
    ∃ v' w', (Builtin.append_ #[t, t] ty #[.slice none 0 0, .slice (some a) m c]).run P w = .ok v' w' ∧ w'.ownsRow w.heap.size e size v' m news ∧ Below w.heap.size w w' := by
  subst hsize
  subst hby
  have hsmall : m ≤ 9223372036854775807 := by simp only [maxLen] at h63; omega
  have hge := grownCap_ge w m 0 e
  have hcm : grownCap w m 0 e ≤ maxLen := grownCap_le_maxLen w m 0 e h63
  have hr := run_append_nil (P := P) w t ty e i z ht hi hz a m c news hl hnews h0 (by omega) (by omega)
  refine ⟨_, _, hr, ⟨hl, .inr ⟨w.heap.size, _, _, rfl, Nat.le_refl _, heap_alloc_new w.drew _, hge, hcm, ?_, ?_⟩⟩, ⟨rfl, rfl, rfl, by simp, fun k hk => heap_alloc_old w.drew _ hk⟩⟩
  · simp only [Array.size_append, List.size_toArray, size_zeroCells, hzs, hl, ← Nat.add_mul]
    congr 1
    omega
  · simp only [Array.toList_append]
    rw [← hl]
    exact List.take_left
/-- append to a row that grows or is nil: where it moves or is new, it lies behind all that is there -/
theorem run_nr {X : Type} {f : X → List Value} {n bytes : Nat} (hf : ∀ x, (f x).length = n) (hn : 0 < n) {t e : TypeId} {z : Value} (ht : Tryz.prog.underlying t = some (.slice e)) (hi : (Tryz.prog.info? e).map (fun i => (i.zero, i.size, i.bytes)) = some (some z, n, bytes)) (hzs : z.cells.size = n)
    {w : World} {lo hi' : Nat} {v : Value} {L M : List X} (ty : TypeId) (h : NRow f n w lo hi' v L) (ao : Option Addr) (m c : Nat) (hM : m = M.length) (hm : ao = none → m = 0)
    (hsrc : ∀ ad, ao = some ad → ∀ j u, (flatV f M)[j]? = some u → w.cell? (ad.add j) = some u) (h1 : ∀ u ∈ flatV f M, u.oneCell' = true) (hb : L.length + M.length ≤ 10000000) (hby : bytes ≤ 1000000) :
    ∃ v' w', (Builtin.append_ #[t, t] ty #[v, .slice ao m c]).run Tryz.prog w = .ok v' w' ∧ Touch lo hi' w w' ∧ (NRow f n w' lo hi' v' (L ++ M) ∨ NRow f n w' w.heap.size w'.heap.size v' (L ++ M)) := by
  rcases h with ⟨rfl, rfl⟩ | h
  · have hex : ∃ i, Tryz.prog.info? e = some i ∧ i.zero = some z ∧ i.size = n ∧ i.bytes = bytes := by
      cases hh : Tryz.prog.info? e with
      | none => rw [hh] at hi; simp at hi
      | some i =>
        rw [hh] at hi
        simp only [Option.map_some, Option.some.injEq, Prod.mk.injEq] at hi
        exact ⟨i, rfl, hi.1, hi.2.1, hi.2.2⟩
    obtain ⟨i0, hi0, hz0, hz1, hz2⟩ := hex
    have hlm : (flatV f M).length = M.length * n := flatV_len hf M
    subst hM
    simp only [List.length_nil, Nat.zero_add] at hb
    by_cases h0 : M.length = 0
    · obtain rfl : M = [] := List.eq_nil_of_length_eq_zero h0
      refine ⟨.slice none 0 0, w, ?_, Touch.refl _ _ _, Or.inl (Or.inl ⟨rfl, rfl⟩)⟩
      cases ao with
      | none => simp [Builtin.append_, run_underlying ht, sizeOf, typeInfo, hi0, Builtin.lenOf, Builtin.firstCells]
      | some ad => simp [Builtin.append_, run_underlying ht, sizeOf, typeInfo, hi0, Builtin.lenOf, Builtin.firstCells, loadCells, loadCellsFrom]
    · cases ao with
      | none => exact absurd (hm rfl) h0
      | some ad =>
        obtain ⟨v', w', h2, h3, h4⟩ := run_nilapp (P := Tryz.prog) w t ty e i0 z n bytes ht hi0 hz0 hz1 hz2 hzs ad M.length c (flatV f M) hlm (hsrc ad rfl) (by omega) (by unfold maxLen; omega) (by
            have := Nat.mul_le_mul hb hby
            omega)
        exact ⟨v', w', h2, Touch.below h4, Or.inr (Or.inr (owns_fr hf h3 rfl (by omega)))⟩
  · obtain ⟨v', w', h2, h3, h4⟩ := run_fr hf hn ht hi hzs ty h ao m c hM hm hsrc h1 hb hby
    exact ⟨v', w', h2, h3, h4.imp Or.inr Or.inr⟩
theorem wpList_nr {X : Type} {f : X → List Value} {n bytes : Nat} (hf : ∀ x, (f x).length = n) (hn : 0 < n) {t e : TypeId} {z : Value} (ht : Tryz.prog.underlying t = some (.slice e)) (hi : (Tryz.prog.info? e).map (fun i => (i.zero, i.size, i.bytes)) = some (some z, n, bytes)) (hzs : z.cells.size = n)
    {w : World} {lo hi' : Nat} {v : Value} {L : List X} (M : List X) {ops : Array Oper} {rest : List Oper} {o : Oper} {a : Act} {Q : Exit → Act → World → Prop} (hgd : o.guard = none) (s x : Operand)
    (ho : o.op = .call { callee := .builtin .append, args := #[s, x], argTypes := #[t, t] }) (hs : a.eval s = v) (h : NRow f n w lo hi' v L) (ao : Option Addr) (m c : Nat) (hx : a.eval x = .slice ao m c) (hM : m = M.length) (hm : ao = none → m = 0)
    (hsrc : ∀ ad, ao = some ad → ∀ j u, (flatV f M)[j]? = some u → w.cell? (ad.add j) = some u) (h1 : ∀ u ∈ flatV f M, u.oneCell' = true) (hb : L.length + M.length ≤ 10000000) (hby : bytes ≤ 1000000)
    (K : ∀ v' w', Touch lo hi' w w' → (NRow f n w' lo hi' v' (L ++ M) ∨ NRow f n w' w.heap.size w'.heap.size v' (L ++ M)) → wpList Tryz.prog ops Q rest (a.put o.dst v') w') : wpList Tryz.prog ops Q (o :: rest) a w := by
  obtain ⟨v', w', h2, h3, h4⟩ := run_nr hf hn ht hi hzs o.type h ao m c hM hm hsrc h1 hb hby
  exact wpList_append_run hgd s x _ ho hs hx h2 (K v' w' h3 h4)
theorem NRow.rss {w : World} {lo hi : Nat} {v : Value} {L : List Rs} (h : NRow rsL 2 w lo hi v L) (hz : ∀ i (h : i < L.length), RsSize L[i]) : RssOwn lo hi w v L := by
  rcases h with ⟨h, rfl⟩ | ⟨g, cap, h1, h2⟩
  · exact Or.inl ⟨_, _, h, rfl⟩
  by_cases hL : L = []
  · subst hL; exact Or.inl ⟨_, _, h1, rfl⟩
  · have h0 : 0 < L.length := List.length_pos_iff.2 hL
    refine Or.inr ⟨g, 0, cap, fun _ => g + 1, fun i => if h : i < L.length then L[i] else L[0], h1, hL, Nat.le_trans h2.le h2.mx, h2.le, fun i hi => by simp [hi], h2.lt, h2.bs, Nat.lt_succ_self _, h2.up, fun _ _ => Nat.le_refl _, h2.up, h2.fz, fun i hi => ?_⟩
    simp only [hi, dif_pos]
    have e0 := h2.get rsL_len hi (t := 0) (by omega) (v := .int .i64 L[i].ba) rfl
    have e1 := h2.get rsL_len hi (t := 1) (by omega) (v := .string L[i].tx) rfl
    exact ⟨hz i hi, ⟨by rw [Nat.zero_add]; exact e0, by rw [Nat.zero_add]; exact e1⟩⟩
end Go.Proofs.YtfbfgljkiikabaaGreat
