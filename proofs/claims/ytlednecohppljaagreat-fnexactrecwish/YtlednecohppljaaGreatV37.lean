import Derived.Test.YtlednecohppljaaGreatV33
import Derived.Test.YtlednecohppljaaGreatV36
import Derived.ProofKit
import Derived.Deep.Strs
import Derived.Deep.RegionHeld
import Derived.ChangeSlices
import Derived.OrdersHeld
import Derived.Deep.RegionHeld3
namespace Go.Proofs.YtlednecohppljaaGreat
open Go.ChangeShapes Go.WideShapes Go.ChangeAt Go.RowKit Go.Deep
theorem Tryz.own : ownKnob Tryz.prog.godebug = none := by kernel_rfl
theorem Tryz.laidOut : laidOutB Tryz.prog = true := by kernel_rfl
theorem Tryz.cells9 : Tryz.prog.cellsOf 9 = 1 := by kernel_rfl
theorem Tryz.cells3 : Tryz.prog.cellsOf 3 = 1 := by kernel_rfl
theorem Tryz.cells4 : Tryz.prog.cellsOf 4 = 1 := by kernel_rfl
theorem choose_list {α : Type} {p : Nat → α → Prop} (n : Nat) : (∀ i, i < n → ∃ x, p i x) → ∃ L : List α, L.length = n ∧ ∀ i (h : i < L.length), p i L[i] := by
  induction n with
  | zero => intro _; exact ⟨[], rfl, fun i h => absurd h (by simp)⟩
  | succ n ih =>
    intro h
    obtain ⟨L, hl, hL⟩ := ih (fun i hi => h i (by omega))
    obtain ⟨x, hx⟩ := h n (by omega)
    refine ⟨L ++ [x], by simp [hl], fun i hi => ?_⟩
    by_cases e : i < L.length
    · rw [List.getElem_append_left e]; exact hL i e
    · have e2 : i = n := by simp at hi; omega
      subst e2
      have : (L ++ [x])[i] = x := by rw [List.getElem_append_right (by omega)]; simp [hl]
      rw [this]; exact hx
theorem Tryz.cells89 : Tryz.prog.cellsOf 89 = 2 := by kernel_rfl
theorem lstRs {l : List Value} (h : l.length = 2) : ∃ c0 c1, l = [c0, c1] := by
  match l, h with
  | [c0, c1], _ => exact ⟨c0, c1, rfl⟩
section
variable {H : Type} {enc : TypeId × Value → H} {W : World}
set_option maxRecDepth 100000 in
theorem open_Rs {fuel : Nat} {cs : List Value} {x : DataW H × List MemPlace} (h : DataW.trod enc Tryz.prog W 0 (fun _ => true) true fuel 89 cs = some x) :
    ∃ (x : Rs), cs = [.int .i64 x.ba, .string x.tx] ∧ RsSize x := by
  obtain ⟨xs, n, _, _, hl, hlen, hfld⟩ := DataW.trod_struct Tryz.underlying89 h
  obtain ⟨c0, c1, rfl⟩ := lstRs (hl.trans Tryz.cells89)
  simp only [Array.size, List.length_cons, List.length_nil] at hlen
  have g0 : DataW.trod enc Tryz.prog W 0 (fun _ => true) true n 3 ((([c0, c1] : List Value).drop 0).take (Tryz.prog.cellsOf 3)) = xs[0]? := hfld 0 _ rfl
  have g1 : DataW.trod enc Tryz.prog W 0 (fun _ => true) true n 9 ((([c0, c1] : List Value).drop 1).take (Tryz.prog.cellsOf 9)) = xs[1]? := hfld 1 _ rfl
  simp only [Tryz.cells3, Tryz.cells9, List.drop_succ_cons, List.drop_zero, List.take_succ_cons, List.take_zero] at g0 g1
  rw [List.getElem?_eq_getElem (by omega)] at g0 g1
  obtain ⟨q0, e0, _, _⟩ := DataW.trod_int Tryz.underlying3 g0
  obtain ⟨q1, e1, _, s1⟩ := DataW.trod_string Tryz.underlying9 g1
  simp only [List.cons.injEq, and_true] at e0 e1
  subst e0 e1
  exact ⟨⟨q0, q1⟩, rfl, ⟨s1⟩⟩
set_option maxRecDepth 100000 in
theorem open_Rss {fuel : Nat} {c : Value} {x : DataW H × List MemPlace} (h : DataW.trod enc Tryz.prog W 0 (fun _ => true) true fuel 22 [c] = some x) : ∃ Xl, RssAt 0 W c Xl := by
  rcases open_slice Tryz.underlying22 h with ⟨hcs, _⟩ | ⟨a, len, cap, m, n, D, Pl, hcs, _, hl, hm, hmm, _, hx⟩
  · simp only [List.cons.injEq, and_true] at hcs
    exact ⟨[], Or.inl ⟨_, _, hcs, rfl⟩⟩
  · simp only [List.cons.injEq, and_true] at hcs
    simp only [if_true] at hmm
    subst hmm
    rw [Tryz.cells89] at hx
    by_cases h0 : len = 0
    · subst h0
      exact ⟨[], Or.inl ⟨_, _, hcs, rfl⟩⟩
    · obtain ⟨Xl, hF, hall⟩ := choose_list (p := fun i (x : Rs) => RsSize x ∧ W.cells? 0 (a.add (i * 2)) 2 = some [.int .i64 x.ba, .string x.tx]) len (fun i hi => by
        obtain ⟨cs', h1, h2⟩ := hx i (by omega)
        obtain ⟨md, e, hz⟩ := open_Rs h2
        rw [e] at h1
        exact ⟨md, hz, h1⟩)
      obtain ⟨b, off, spot⟩ := a
      have hspot : spot = none := by
        obtain ⟨_, h1⟩ := hall 0 (by omega)
        have := (World.cells?_some h1).2.2 0 (by omega)
        rw [Nat.zero_mul] at this
        have e0 : ((⟨b, off, spot⟩ : Addr).add 0).add 0 = ⟨b, off, spot⟩ := by simp [Addr.add]
        rw [e0] at this
        simpa using World.cell?_spot (by simpa using this)
      subst hspot
      have hcell : ∀ i (hi : i < Xl.length), W.cells? 0 ((⟨b, off, none⟩ : Addr).add (i * 2)) 2 = some [.int .i64 Xl[i].ba, .string Xl[i].tx] → RsCells W b (off + i * 2) Xl[i] := fun i hi h1 => by
        obtain ⟨_, _, hc⟩ := World.cells?_some h1
        rw [add_plain] at hc
        have q := fun j (hj : j < 2) => (add_plain b (off + i * 2) j) ▸ hc j hj
        exact ⟨by simpa using q 0 (by omega), by simpa using q 1 (by omega)⟩
      have hbw : b < W.heap.size := by
        obtain ⟨_, h1⟩ := hall 0 (by omega)
        exact World.block_lt_of_cell? W _ (hcell 0 (by omega) h1).c0
      refine ⟨Xl, Or.inr ⟨b, off, m, by rw [hcs, hF], ?_, by omega, hbw, Nat.zero_le _, by omega, fun i hi => ?_⟩⟩
      · intro e; rw [e] at hF; simp at hF; omega
      · obtain ⟨hz, h1⟩ := hall i hi
        exact ⟨hz, hcell i hi h1⟩
end
end Go.Proofs.YtlednecohppljaaGreat
namespace Go.Proofs.YtlednecohppljaaGreat
open Go.RowKit Go.Deep

/-- sizes of what a recorder holds -/
structure RrZ (U : Rr) : Prop where
  z0 : ∀ i (h : i < U.sf.sl.length), RsSize U.sf.sl[i]
  z1 : ∀ i (h : i < U.dk.sl.length), RsSize U.dk.sl[i]
  z2 : ∀ i (h : i < U.he.length), (∀ j (hj : j < U.he[i].sl.length), RsSize U.he[i].sl[j]) ∧ U.he[i].tx.size ≤ maxLen
  z3 : ∀ i (h : i < U.wi.length), U.wi[i].size ≤ maxLen
  z5 : ∀ i (h : i < U.be.length), RsSize U.be[i]
theorem RrC.sizes {lo : Nat} {w : World} {cs : List Value} {U : Rr} (h : RrC lo w cs U) : RrZ U := by
  obtain ⟨_, _, _, _, _, _, _, _, _, _, _, _, _, _, -, h⟩ := h
  exact ⟨h.l0.sizes, h.l1.sizes, h.l2.sizes, h.l3.sizes, h.l5.sizes⟩
theorem Cpy.at {w : World} {lo : Nat} {c : Nat → Nat × Nat} {v0 v1 v2 v3 v4 v5 v6 : Value} {U : Rr} (h : Cpy w lo c v0 v1 v2 v3 v4 v5 v6 U) (hz : RrZ U) : RrAt lo w v0 v1 v2 v3 v4 v5 v6 U := by
  obtain ⟨g2, L2, hm, hL2⟩ := h.o2
  obtain ⟨g6, L6, ha, hL6⟩ := h.o6
  exact ⟨(h.o0.rss hz.z0).at.mono (h.seg 0 (by decide)).1, (h.o1.rss hz.z1).at.mono (h.seg 1 (by decide)).1, (hm.rms hL2 hz.z2).mono (h.seg 2 (by decide)).1, (h.o3.rts hz.z3).at.mono (h.seg 3 (by decide)).1, h.o4.ris.at.mono (h.seg 4 (by decide)).1, (h.o5.rss hz.z5).at.mono (h.seg 5 (by decide)).1, (ha.ras hL6).mono (h.seg 6 (by decide)).1⟩
theorem Cpy.below {w w' : World} {lo : Nat} {c : Nat → Nat × Nat} {v0 v1 v2 v3 v4 v5 v6 : Value} {U : Rr} (h : Cpy w lo c v0 v1 v2 v3 v4 v5 v6 U) (hb : Below w.heap.size w w') : Cpy w' lo c v0 v1 v2 v3 v4 v5 v6 U := by
  obtain ⟨g2, L2, hm, hL2⟩ := h.o2
  obtain ⟨g6, L6, ha, hL6⟩ := h.o6
  exact ⟨fun i hi => ⟨(h.seg i hi).1, Nat.le_trans (h.seg i hi).2 hb.size⟩, h.ap, h.o0.below hb, h.o1.below hb, ⟨g2, L2, hm.below hb, hL2⟩, h.o3.below hb, h.o4.below hb, h.o5.below hb, ⟨g6, L6, ha.below hb, hL6⟩⟩
/-- a text among slots that were taken -/
def hasSl (L : List Rs) (tx : ByteArray) : Bool := L.any (fun x => decide (0 < x.ba) && (x.tx.toList == tx.toList))
theorem any_yes {X : Type} {L : List X} {f : X → Bool} {k : Nat} (hk : k < L.length) (h : f L[k] = true) : L.any f = true := by
  rw [List.any_eq_true]
  exact ⟨L[k], List.getElem_mem hk, h⟩
theorem any_no {X : Type} {L : List X} {f : X → Bool} (h : ∀ i (h : i < L.length), f L[i] = false) : L.any f = false := by
  rw [List.any_eq_false]
  intro x hx
  obtain ⟨i, hi, rfl⟩ := List.getElem_of_mem hx
  rw [h i hi]; simp

set_option maxRecDepth 20000 in
set_option maxHeartbeats 4000000 in
theorem hasF_any (lo : Nat) (v : Value) (L : List Rs) (tx : ByteArray) (w : World) (hv : RssAt lo w v L) :
    Calls Tryz.prog 101 #[v, .string tx] w fun e w' => e = .returned (.bool (hasSl L tx)) ∧ w' = w := by
  have HV := hide hv
  have hm := hv.max
  unfold maxLen at hm
  obtain ⟨a, cap, rfl⟩ := hv.form
  clear hv
  have HE : Hid (hasSl L tx = L.any (fun x => decide (0 < x.ba) && (x.tx.toList == tx.toList))) := rfl
  go_enter Tryz.func101, Tryz.ntmps101
  go_wp2
  go_loop [5] (fun i => ∃ k : Nat, i = .int .i64 k ∧ k ≤ L.length ∧ ∀ j (hj : j < L.length), j < k → (decide (0 < L[j].ba) && (L[j].tx.toList == tx.toList)) = false) (fun i => L.length - (intOf i).toNat)
  case atStart => exact ⟨0, rfl, by omega, fun j _ h => by omega⟩
  case round =>
    obtain ⟨k, rfl, hk, hall⟩ := hrel
    have HAL := hide hall
    clear hall
    by_cases hlt : k < L.length
    · obtain ⟨b, off, rfl, hbw, -, hc⟩ := HV.out.full' (by omega)
      obtain ⟨hsz, hcc⟩ := hc k hlt
      obtain ⟨x, hx⟩ : ∃ x, x = L[k] := ⟨_, rfl⟩
      rw [← hx] at hsz hcc
      have HX := hide hx
      obtain ⟨e0, e1⟩ := hcc
      have i0 : (0 : Int) ≤ (k : Int) := by omega
      have i1 : (k : Int) < (L.length : Int) := by omega
      clear hc hsz hx
      have step : (decide (0 < x.ba) && (x.tx.toList == tx.toList)) = false → ∀ j (hj : j < L.length), j < k + 1 → (decide (0 < L[j].ba) && (L[j].tx.toList == tx.toList)) = false := by
        intro hp j hj hjk
        by_cases e : j = k
        · subst e; rw [← HX.out, hp]
        · exact HAL.out j hj (by omega)
      have HST := hide step
      clear step
      cases q1 : decide (0 < x.ba) with
      | false =>
        have HQ : Hid ((decide (0 < x.ba) && (x.tx.toList == tx.toList)) = false) := by unfold Hid; rw [q1]; rfl
        go_wp2
        go_round
        case rel => exact ⟨k + 1, by go_num, by omega, HST.out HQ.out⟩
        case measure => simp [intOf]; omega
      | true =>
        cases q2 : (x.tx.toList == tx.toList) with
        | false =>
          have HQ : Hid ((decide (0 < x.ba) && (x.tx.toList == tx.toList)) = false) := by unfold Hid; rw [q1, q2]; rfl
          go_wp2
          go_round
          case rel => exact ⟨k + 1, by go_num, by omega, HST.out HQ.out⟩
          case measure => simp [intOf]; omega
        | true =>
          have HT : Hid (hasSl L tx = true) := by unfold Hid; rw [HE.out]; exact any_yes hlt (by rw [← HX.out, q1, q2]; rfl)
          go_wp2
          go_ret
          exact ⟨ret_bool HT.out.symm, rfl⟩
    · have HT : Hid (hasSl L tx = false) := by unfold Hid; rw [HE.out]; exact any_no (fun i hi => HAL.out i hi (by omega))
      go_wp2
      go_ret
      exact ⟨ret_bool HT.out.symm, rfl⟩
end Go.Proofs.YtlednecohppljaaGreat
namespace Go.Proofs.YtlednecohppljaaGreat
open Go.RowKit Go.Deep

/-- a recorder that can be changed: each list in a row that grows or is nil, in a part of memory of its own -/
structure Cpn (w : World) (lo : Nat) (c : Nat → Nat × Nat) (v0 v1 v2 v3 v4 v5 v6 : Value) (U : Rr) : Prop where
  seg : ∀ i, i < 7 → lo ≤ (c i).1 ∧ (c i).2 ≤ w.heap.size
  ap : ∀ i j, i < 7 → j < 7 → i ≠ j → (c i).2 ≤ (c j).1 ∨ (c j).2 ≤ (c i).1
  o0 : NRow rsL 2 w (c 0).1 (c 0).2 v0 U.sf.sl
  o1 : NRow rsL 2 w (c 1).1 (c 1).2 v1 U.dk.sl
  o2 : ∃ L, NGRow PM mxL 8 w (c 2).1 (c 2).2 v2 L ∧ L.map (·.1) = U.he
  o3 : NRow tyL 1 w (c 3).1 (c 3).2 v3 U.wi
  o4 : NRow inL 1 w (c 4).1 (c 4).2 v4 U.ye
  o5 : NRow rsL 2 w (c 5).1 (c 5).2 v5 U.be
  o6 : ∃ L, NGRow PA axL 2 w (c 6).1 (c 6).2 v6 L ∧ L.map (·.1) = U.ac
theorem Cpn.below {w w' : World} {lo : Nat} {c : Nat → Nat × Nat} {v0 v1 v2 v3 v4 v5 v6 : Value} {U : Rr} (h : Cpn w lo c v0 v1 v2 v3 v4 v5 v6 U) (hb : Below w.heap.size w w') : Cpn w' lo c v0 v1 v2 v3 v4 v5 v6 U := by
  obtain ⟨L2, h2, e2⟩ := h.o2
  obtain ⟨L6, h6, e6⟩ := h.o6
  exact ⟨fun i hi => ⟨(h.seg i hi).1, Nat.le_trans (h.seg i hi).2 hb.size⟩, h.ap, h.o0.below hb, h.o1.below hb, ⟨L2, h2.below cloM hb, e2⟩, h.o3.below hb, h.o4.below hb, h.o5.below hb, ⟨L6, h6.below cloA hb, e6⟩⟩
/-- what is touched lies apart from all parts -/
theorem Cpn.touch {w w' : World} {lo lo' hi' : Nat} {c : Nat → Nat × Nat} {v0 v1 v2 v3 v4 v5 v6 : Value} {U : Rr} (h : Cpn w lo c v0 v1 v2 v3 v4 v5 v6 U) (ht : Touch lo' hi' w w') (ho : ∀ i, i < 7 → (c i).2 ≤ lo' ∨ hi' ≤ (c i).1) : Cpn w' lo c v0 v1 v2 v3 v4 v5 v6 U := by
  obtain ⟨L2, h2, e2⟩ := h.o2
  obtain ⟨L6, h6, e6⟩ := h.o6
  exact ⟨fun i hi => ⟨(h.seg i hi).1, Nat.le_trans (h.seg i hi).2 ht.size⟩, h.ap, h.o0.touch ht (ho 0 (by decide)), h.o1.touch ht (ho 1 (by decide)), ⟨L2, h2.touch cloM ht (ho 2 (by decide)), e2⟩, h.o3.touch ht (ho 3 (by decide)), h.o4.touch ht (ho 4 (by decide)), h.o5.touch ht (ho 5 (by decide)), ⟨L6, h6.touch cloA ht (ho 6 (by decide)), e6⟩⟩
theorem Cpn.low {w : World} {lo lo' : Nat} {c : Nat → Nat × Nat} {v0 v1 v2 v3 v4 v5 v6 : Value} {U : Rr} (h : Cpn w lo c v0 v1 v2 v3 v4 v5 v6 U) (hl : lo' ≤ lo) : Cpn w lo' c v0 v1 v2 v3 v4 v5 v6 U :=
  ⟨fun i hi => ⟨Nat.le_trans hl (h.seg i hi).1, (h.seg i hi).2⟩, h.ap, h.o0, h.o1, h.o2, h.o3, h.o4, h.o5, h.o6⟩
theorem Cpn.own {w : World} {lo : Nat} {c : Nat → Nat × Nat} {v0 v1 v2 v3 v4 v5 v6 : Value} {U : Rr} (h : Cpn w lo c v0 v1 v2 v3 v4 v5 v6 U) (hz : RrZ U) : RrO lo w.heap.size w c v0 v1 v2 v3 v4 v5 v6 U := by
  obtain ⟨L2, h2, e2⟩ := h.o2
  obtain ⟨L6, h6, e6⟩ := h.o6
  exact ⟨h.seg, h.ap, h.o0.rss hz.z0, h.o1.rss hz.z1, h2.rms e2 hz.z2, h.o3.rts hz.z3, h.o4.ris, h.o5.rss hz.z5, h6.ras e6⟩
end Go.Proofs.YtlednecohppljaaGreat
namespace Go.Proofs.YtlednecohppljaaGreat
open Go.RowKit Go.Deep

/-! a region that draws, with operations B that break what the loads read (S): whatever is taken first is waited for by all of B -/
section
variable {P : Program} {ops : Array Oper} {Q : Exit → Act → World → Prop} {md : Region.Mode} {S : World → Prop} {B : List Nat}

/-- whatever order is picked, and S holds behind every operation but those of B -/
def wpAnyB (P : Program) (md : Region.Mode) (ops : Array Oper) (Q : Exit → Act → World → Prop) (S : World → Prop) (B : List Nat) : Nat → Array Bool → Act → World → Prop
  | 0, listed, a, w => Region.ready md ops listed = [] ∧ Q .normal a w
  | fuel + 1, listed, a, w =>
    (Region.ready md ops listed = [] → Q .normal a w) ∧
    ∀ i ∈ Region.ready md ops listed, wpOp P ops Q i (fun a' w' => (i ∉ B → S w') ∧ wpAnyB P md ops Q S B fuel (listed.setIfInBounds i true) a' w') a w
theorem wpAny_of_B : ∀ (fuel : Nat) (listed : Array Bool) (a : Act) (w : World), wpAnyB P md ops Q S B fuel listed a w → wpAny P md ops Q fuel listed a w
  | 0, _, _, _, h => h
  | fuel + 1, _, _, _, h => ⟨h.1, fun i hi => wpOp_mono (fun a' w' h' => wpAny_of_B fuel _ a' w' h'.2) (h.2 i hi)⟩
/-- each of D waits for i, or for one of D -/
def waitsB (md : Region.Mode) (ops : Array Oper) (i : Nat) (D : List Nat) : Bool := D.all fun j => match ops[j]? with
  | some oj => oj.after.any fun e => Region.binds md e && ((e.on == i) || D.contains e.on)
  | none => false
theorem waitsB_no {listed : Array Bool} {i : Nat} {D : List Nat} (hD : waitsB md ops i D = true) (hi : listed.getD i true = false) (hun : ∀ j ∈ D, listed.getD j true = false) {j : Nat} (hj : j ∈ Region.ready md ops listed) : j ∉ D := by
  intro hjD
  unfold waitsB at hD
  rw [List.all_eq_true] at hD
  have h1 := hD j hjD
  obtain ⟨-, oj, hoj, hall⟩ := mem_ready.1 hj
  rw [hoj] at h1
  simp only [Array.any_eq_true] at h1
  obtain ⟨k, hk, he⟩ := h1
  rw [Bool.and_eq_true, Bool.or_eq_true, beq_iff_eq] at he
  have h2 := hall _ (Array.getElem_mem hk) he.1
  have h3 : listed.getD (oj.after[k]).on true = false := by
    rcases he.2 with h | h
    · rw [h]; exact hi
    · exact hun _ (by simpa using h)
  rcases Nat.lt_or_ge (oj.after[k]).on listed.size with h' | h'
  · simp [h'] at h2 h3; rw [h3] at h2; cases h2
  · simp [Array.getElem?_eq_none h'] at h2
theorem wpAnyB_first {i : Nat} {oi : Oper} {v : Value} {D : List Nat} (hi : ops[i]? = some oi) (hsel : ∀ (j : Nat) (o : Oper) cs b, ops[j]? = some o → o.op ≠ .select cs b)
    (hQ : ∀ c a w, Q (.panic c) (a.put oi.dst v) w → Q (.panic c) a w) (hD : waitsB md ops i D = true) (hl : ∀ b ∈ B, b ∈ D) (hil : i ∉ B) (hiD : i ∉ D) :
    ∀ (fuel : Nat) (listed : Array Bool) (a : Act) (w : World),
      (∀ j oj, ops[j]? = some oj → j ≠ i → listed.getD j true = false → (∀ e ∈ oj.after, Region.binds md e = true → e.on ≠ i) → oi.apart ops oj = true) →
      (∀ j ∈ D, listed.getD j true = false) →
      i ∈ Region.ready md ops listed → YieldsIf P ops S oi v a → S w →
      wpAnyB P md ops Q S B fuel (listed.setIfInBounds i true) (a.put oi.dst v) w → wpAnyB P md ops Q S B (fuel + 1) listed a w := by
  intro fuel
  induction fuel with
  | zero =>
    intro listed a w _ _ hr hy hS H
    refine ⟨fun h => (by rw [h] at hr; cases hr), fun j hj => ?_⟩
    by_cases hji : j = i
    · subst hji; exact hy.wpOp hi hS ⟨fun _ => hS, H⟩
    · have := ready_mono hj hji
      rw [H.1] at this
      cases this
  | succ fuel ih =>
    intro listed a w hfree hun hr hy hS H
    refine ⟨fun h => (by rw [h] at hr; cases hr), fun j hj => ?_⟩
    by_cases hji : j = i
    · subst hji; exact hy.wpOp hi hS ⟨fun _ => hS, H⟩
    · have hjD : j ∉ D := waitsB_no hD (mem_ready.1 hr).1 hun hj
      have hjl : j ∉ B := fun e => hjD (hl j e)
      have h1 := H.2 j (ready_mono hj hji)
      obtain ⟨hjun, oj, hoj, hall⟩ := mem_ready.1 hj
      have hnot : ∀ e ∈ oj.after, Region.binds md e = true → e.on ≠ i := fun e he hb heq => by
        have h1 := hall e he hb
        have h0 := (mem_ready.1 hr).1
        rw [heq] at h1
        rcases Nat.lt_or_ge i listed.size with h' | h'
        · simp [h'] at h0 h1; rw [h0] at h1; cases h1
        · simp [Array.getElem?_eq_none h'] at h1
      have h2 := wpOp_putIf hoj (hfree j oj hoj hji hjun hnot) (fun cs b => hsel i oi cs b hi) (fun cs b => hsel j oj cs b hoj) hQ hy h1
      have hfree' : ∀ k ok, ops[k]? = some ok → k ≠ i → (listed.setIfInBounds j true).getD k true = false →
          (∀ e ∈ ok.after, Region.binds md e = true → e.on ≠ i) → oi.apart ops ok = true := fun k ok hk hki hun hno => by
        refine hfree k ok hk hki ?_ hno
        by_cases hjk : j = k
        · subst hjk; exact hjun
        · rw [getD_set_ne true hjk] at hun; exact hun
      have hun' : ∀ k ∈ D, (listed.setIfInBounds j true).getD k true = false := fun k hk => by
        rw [getD_set_ne true (fun e => hjD (by rw [e]; exact hk))]
        exact hun k hk
      refine wpOp_mono (fun a' w' h3 => ⟨h3.2.1, ih (listed.setIfInBounds j true) a' w' hfree' hun' (ready_mono hr (Ne.symm hji)) h3.1 (h3.2.1 hjl) ?_⟩) h2
      rw [Array.setIfInBounds_comm _ _ hji]
      exact h3.2.2
theorem wpAnyB_take (D : List Nat) {i : Nat} {oi : Oper} {v : Value} {fuel : Nat} {listed : Array Bool} {a : Act} {w : World} (hi : ops[i]? = some oi)
    (hs : Region.noSelect ops = true) (hf : Region.free md ops listed i = true) (hr : (Region.ready md ops listed).contains i = true)
    (hD : (waitsB md ops i D && (B.all fun b => D.contains b) && !(B.contains i) && !D.contains i && D.all fun j => !listed.getD j true) = true)
    (hQ : ∀ c a w, Q (.panic c) (a.put oi.dst v) w → Q (.panic c) a w) (hy : YieldsIf P ops S oi v a) (hS : S w)
    (h : wpAnyB P md ops Q S B fuel (listed.setIfInBounds i true) (a.put oi.dst v) w) : wpAnyB P md ops Q S B (fuel + 1) listed a w := by
  simp only [Bool.and_eq_true, Bool.not_eq_true', List.all_eq_true] at hD
  obtain ⟨⟨⟨⟨h1, h2⟩, h3⟩, h4⟩, h5⟩ := hD
  exact wpAnyB_first hi (Region.noSelect_spec hs) hQ h1 (fun b hb => by simpa using h2 b hb) (by simpa using h3) (by simpa using h4) fuel listed a w (Region.free_spec hi hf) h5 (by simpa using hr) hy hS h
/-- one operation comes up -/
theorem wpAnyB_one {i : Nat} {o : Oper} {fuel : Nat} {listed : Array Bool} {a : Act} {w : World} (hr : Region.ready md ops listed = [i]) (ho : ops[i]? = some o)
    (h : ∀ K' : Act → World → Prop, Shut (∀ a w, (i ∉ B → S w) → ((i ∉ B → S w) → wpAnyB P md ops Q S B fuel (listed.setIfInBounds i true) a w) → K' a w) → if Region.wanted o (yielded ops a.tmps) = true then Oper.wp P o a w K' Q else K' (a.put o.dst undef) w) : wpAnyB P md ops Q S B (fuel + 1) listed a w := by
  refine ⟨fun h0 => (by rw [hr] at h0; cases h0), fun j hj => ?_⟩
  rw [hr] at hj
  have := List.mem_singleton.1 hj
  subst this
  exact wpOp_step ho fun K' hK => h K' fun a w hS hW => hK a w ⟨hS, hW hS⟩
theorem wpAnyB_done {listed : Array Bool} {a : Act} {w : World} (hr : Region.ready md ops listed = []) (h : Q .normal a w) : ∀ fuel, wpAnyB P md ops Q S B fuel listed a w
  | 0 => ⟨hr, h⟩
  | _ + 1 => ⟨fun _ => h, by rw [hr]; simp⟩
theorem wp_region_B (B : List Nat) {id : Nat} {a : Act} {w : World} (hm : P.follows .mixedOrders = true) (hS : S w.drew)
    (h : S w.drew → wpAnyB P .any ops Q S B ops.size (Array.replicate ops.size false) a w.drew) : (Code.region id ops true).wp P Q a w :=
  wp_region_any hm (wpAny_of_B _ _ _ _ (h hS))
end
end Go.Proofs.YtlednecohppljaaGreat
