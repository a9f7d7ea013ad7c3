import Derived.Test.YtfbfgljkiikabaaGreatV09
namespace Go.Proofs.YtfbfgljkiikabaaGreat
open Go.RowKit Go.Deep

theorem RssOwn.wide {lo hi lo' hi' : Nat} {w : World} {v : Value} {Xl : List Rs} (h : RssOwn lo hi w v Xl) (h1 : lo' ≤ lo) (h2 : hi ≤ hi') : RssOwn lo' hi' w v Xl := by
  rcases h with h | ⟨b, off, cap, c, X, e1, e2, e3, e4, e5, e6⟩
  · exact Or.inl h
  · exact Or.inr ⟨b, off, cap, c, X, e1, e2, e3, e4, e5, ⟨e6.lt, Nat.le_trans h1 e6.low, e6.bc, Nat.lt_of_lt_of_le e6.bh h2, e6.mono, Nat.le_trans e6.top h2, e6.frz, e6.row⟩⟩
theorem RmsOwn.wide {lo hi lo' hi' : Nat} {w : World} {v : Value} {Xl : List Rm} (h : RmsOwn lo hi w v Xl) (h1 : lo' ≤ lo) (h2 : hi ≤ hi') : RmsOwn lo' hi' w v Xl := by
  rcases h with h | ⟨b, off, cap, c, X, e1, e2, e3, e4, e5, e6⟩
  · exact Or.inl h
  · exact Or.inr ⟨b, off, cap, c, X, e1, e2, e3, e4, e5, ⟨e6.lt, Nat.le_trans h1 e6.low, Nat.lt_of_lt_of_le e6.bh h2, fun i hi' => ⟨Nat.le_trans h1 (e6.seg i hi').1, Nat.le_trans (e6.seg i hi').2.1 h2, (e6.seg i hi').2.2⟩, e6.ap, e6.frz, e6.row⟩⟩
theorem RasOwn.wide {lo hi lo' hi' : Nat} {w : World} {v : Value} {Xl : List Ra} (h : RasOwn lo hi w v Xl) (h1 : lo' ≤ lo) (h2 : hi ≤ hi') : RasOwn lo' hi' w v Xl := by
  rcases h with h | ⟨b, off, cap, c, X, e1, e2, e3, e4, e5, e6⟩
  · exact Or.inl h
  · exact Or.inr ⟨b, off, cap, c, X, e1, e2, e3, e4, e5, ⟨e6.lt, Nat.le_trans h1 e6.low, Nat.lt_of_lt_of_le e6.bh h2, fun i hi' => ⟨Nat.le_trans h1 (e6.seg i hi').1, Nat.le_trans (e6.seg i hi').2.1 h2, (e6.seg i hi').2.2⟩, e6.ap, e6.frz, e6.row⟩⟩
theorem RssOwn.set {lo hi : Nat} {w : World} {v : Value} {Xl : List Rs} (h : RssOwn lo hi w v Xl) {p : Addr} (hp : p.block < lo) (u : Value) : RssOwn lo hi (w.setCell p u) v Xl := h.touch (Touch.setCell p.block (p.block + 1) w p u ⟨Nat.le_refl _, Nat.lt_succ_self _⟩) (Or.inr hp)
theorem RmsOwn.set {lo hi : Nat} {w : World} {v : Value} {Xl : List Rm} (h : RmsOwn lo hi w v Xl) {p : Addr} (hp : p.block < lo) (u : Value) : RmsOwn lo hi (w.setCell p u) v Xl := h.touch (Touch.setCell p.block (p.block + 1) w p u ⟨Nat.le_refl _, Nat.lt_succ_self _⟩) (Or.inr hp)
theorem RasOwn.set {lo hi : Nat} {w : World} {v : Value} {Xl : List Ra} (h : RasOwn lo hi w v Xl) {p : Addr} (hp : p.block < lo) (u : Value) : RasOwn lo hi (w.setCell p u) v Xl := h.touch (Touch.setCell p.block (p.block + 1) w p u ⟨Nat.le_refl _, Nat.lt_succ_self _⟩) (Or.inr hp)
theorem RtsOwn.set {lo hi : Nat} {w : World} {v : Value} {Xl : List ByteArray} (h : RtsOwn lo hi w v Xl) {p : Addr} (hp : p.block < lo) (u : Value) : RtsOwn lo hi (w.setCell p u) v Xl := h.touch (Touch.setCell p.block (p.block + 1) w p u ⟨Nat.le_refl _, Nat.lt_succ_self _⟩) (Or.inr hp)
theorem RisOwn.set {lo hi : Nat} {w : World} {v : Value} {Xl : List Int} (h : RisOwn lo hi w v Xl) {p : Addr} (hp : p.block < lo) (u : Value) : RisOwn lo hi (w.setCell p u) v Xl := h.touch (Touch.setCell p.block (p.block + 1) w p u ⟨Nat.le_refl _, Nat.lt_succ_self _⟩) (Or.inr hp)
end Go.Proofs.YtfbfgljkiikabaaGreat
namespace Go.Proofs.YtfbfgljkiikabaaGreat
open Go.RowKit Go.Deep

def RssFillO (wr : World) (B : Nat) (Xl : List Rs) (k : Nat) (c : Nat → Nat) : Prop :=
  B < c 0 ∧ (∀ i, i < k → c i ≤ c (i + 1)) ∧ c k ≤ wr.heap.size ∧ ∃ f, wr.rowIs B 115 (Xl.length * 2) f ∧ ∀ i (h : i < Xl.length), i < k → RsSize Xl[i] ∧ f (i * 2) = .int .i64 Xl[i].ba ∧ f (i * 2 + 1) = .string Xl[i].tx
theorem RssFillO.le {wr : World} {B : Nat} {Xl : List Rs} {k : Nat} {c : Nat → Nat} (h : RssFillO wr B Xl k c) {i : Nat} : ∀ {j : Nat}, i ≤ j → j ≤ k → c i ≤ c j := by
  intro j
  induction j with
  | zero => intro hij _; have : i = 0 := by omega
            subst this; exact Nat.le_refl _
  | succ j ih =>
    intro hij hjn
    by_cases e : i = j + 1
    · subst e; exact Nat.le_refl _
    · exact Nat.le_trans (ih (by omega) (by omega)) (h.2.1 j (by omega))
theorem RssFillO.below {wr w1 : World} {B : Nat} {Xl : List Rs} {k : Nat} {c : Nat → Nat} (h : RssFillO wr B Xl k c) (hb : Below wr.heap.size wr w1) : RssFillO w1 B Xl k c := by
  obtain ⟨g1, g2, g3, f, hr, hall⟩ := h
  refine ⟨g1, g2, Nat.le_trans g3 hb.size, f, hr.of_block (hb.block B hr.lt), fun i hi hik => ?_⟩
  obtain ⟨hz, h0, h1⟩ := hall i hi hik
  exact ⟨hz, h0, h1⟩
theorem RssFillO.free {wr : World} {B : Nat} {Xl : List Rs} {k : Nat} {c : Nat → Nat} (h : RssFillO wr B Xl k c) (i : Nat) : wr.frozen? ⟨B, i, none⟩ = false := by
  obtain ⟨_, _, _, f, hr, _⟩ := h
  exact hr.frozen i
theorem RssFillO.there {wr : World} {B : Nat} {Xl : List Rs} {k : Nat} {c : Nat → Nat} (h : RssFillO wr B Xl k c) (i : Nat) (hi : i < Xl.length * 2) : ∃ v, wr.cell? ⟨B, i, none⟩ = some v := by
  obtain ⟨_, _, _, f, hr, _⟩ := h
  exact ⟨_, hr.cell hi⟩
theorem RssFillO.lt {wr : World} {B : Nat} {Xl : List Rs} {k : Nat} {c : Nat → Nat} (h : RssFillO wr B Xl k c) : B < wr.heap.size := by
  obtain ⟨_, _, _, f, hr, _⟩ := h
  exact hr.lt
theorem RssFillO.step {w1 : World} {B : Nat} {Xl : List Rs} {k : Nat} {c : Nat → Nat} (h : RssFillO w1 B Xl k c) (hk : k < Xl.length) (hz : RsSize Xl[k]) (d : Nat) (hd0 : c k ≤ d) (hd : d ≤ w1.heap.size) :
    RssFillO ((w1.setCell ⟨B, k * 2, none⟩ (.int .i64 Xl[k].ba)).setCell ⟨B, k * 2 + 1, none⟩ (.string Xl[k].tx)) B Xl (k + 1) (fun j => if j ≤ k then c j else d) := by
  have hle := fun i (hi : i ≤ k) => h.le (i := 0) (j := i) (Nat.zero_le _) hi
  have hle2 := fun i (hi : i < k) => h.le (i := i + 1) (j := k) (by omega) (Nat.le_refl _)
  obtain ⟨g1, g2, g3, f, hr, hall⟩ := h
  have hts : Touch B (B + 1) w1 ((w1.setCell ⟨B, k * 2, none⟩ (.int .i64 Xl[k].ba)).setCell ⟨B, k * 2 + 1, none⟩ (.string Xl[k].tx)) := (Touch.setB B _ _ _).trans (Touch.setB B _ _ _)
  refine ⟨by simpa using g1, fun i hi => ?_, ?_, _, ((hr.set _ _).set _ _), fun i hi hik => ?_⟩
  · dsimp only
    by_cases e : i = k
    · subst e; rw [if_pos (Nat.le_refl _), if_neg (by omega)]; exact hd0
    · rw [if_pos (by omega), if_pos (by omega)]; exact g2 i (by omega)
  · dsimp only; rw [if_neg (by omega)]; exact Nat.le_trans hd hts.size
  by_cases e : i = k
  · subst e
    have hb0 := hle i (Nat.le_refl _)
    exact ⟨hz, by simp, by simp⟩
  · have hb0 := hle i (by omega)
    obtain ⟨hz, h0, h1⟩ := hall i hi (by omega)
    refine ⟨hz, ?_, ?_⟩
    · rw [if_neg (by omega), if_neg (by omega)]; exact h0
    · rw [if_neg (by omega), if_neg (by omega)]; exact h1
theorem RssFillO.own {wr : World} {B : Nat} {Xl : List Rs} {k : Nat} {c : Nat → Nat} (h : RssFillO wr B Xl k c) (hk : k = Xl.length) (hne : Xl ≠ []) (hm : Xl.length ≤ maxLen) : RssOwn B wr.heap.size wr (.slice (some ⟨B, 0, none⟩) Xl.length Xl.length) Xl := by
  subst hk
  obtain ⟨g1, g2, g3, f, hr, hall⟩ := h
  have h0 : 0 < Xl.length := List.length_pos_iff.2 hne
  refine Or.inr ⟨B, 0, Xl.length, c, fun i => if h : i < Xl.length then Xl[i] else Xl[0], rfl, hne, hm, Nat.le_refl _, fun i hi => by simp [hi], hr.lt, Nat.le_refl _, g1, hr.lt, g2, g3, fun i => hr.frozen i, fun i hi => ?_⟩
  obtain ⟨hz, h0, h1⟩ := hall i hi hi
  simp only [hi, dif_pos]
  rw [Nat.zero_add]
  exact ⟨hz, ⟨by rw [hr.cell (by omega), h0], by rw [hr.cell (by omega), h1]⟩⟩
theorem RssFillO.new (w : World) (Xl : List Rs) (z : Array Value) : RssFillO (w.alloc (.cells (madeCells z (Xl.length * 2)) 115)) w.heap.size Xl 0 (fun _ => w.heap.size + 1) := by
  refine ⟨Nat.lt_succ_self _, fun i hi => by omega, by simp, fun i => (madeCells z (Xl.length * 2)).getD i default, ?_, fun i _ h => by omega⟩
  have := World.rowIs_alloc w (madeCells z (Xl.length * 2)) 115 (fun i => (madeCells z (Xl.length * 2)).getD i default) (fun i hi => by simp [Array.getD, hi])
  rwa [size_madeCells] at this
set_option maxHeartbeats 4000000 in
theorem toRssO_any (lo : Nat) (v : Value) (Xl : List Rs) (w : World) (hv : RssAt lo w v Xl) (hn : RssSmall Xl) :
    Calls Tryz.prog 39 #[v] w fun e w' => ∃ v', e = .returned v' ∧ Below w.heap.size w w' ∧ RssOwn w.heap.size w'.heap.size w' v' Xl := by
  obtain ⟨i0, hi, hz0, hz1, hz2⟩ := info_parts Tryz.info115
  have HSM := hide hn.2
  have hn1 := hn.1
  clear hn
  by_cases hL : Xl = []
  · subst hL
    obtain ⟨a, cap, rfl⟩ := hv.form
    clear hv
    have hmk : ∀ u : World, (Instr.makeSlice 35 (.int .i64 0) (.int .i64 0)).run Tryz.prog u = .ok (.slice (some ⟨u.heap.size, 0, none⟩) 0 0) (u.alloc (.cells (madeCells (Value.cells (.agg #[.int .i64 0, .string ⟨#[]⟩])) 0) 115)) := fun u => by
      have h := run_make (P := Tryz.prog) u 35 115 i0 _ Tryz.underlying35 hi hz0 .i64 .i64 0 0 (by omega) (by omega) (by omega) (by omega)
      simpa [hz1] using h
    go_enter Tryz.func39, Tryz.ntmps39
    go_wp2
    go_loop [4] (fun i => i = .int .i64 0) (fun _ => 0)
    case atStart => rfl
    case round =>
      subst hrel
      go_wp2
      go_ret
      exact ⟨_, rfl, (Below.refl _ _).alloc (Nat.le_refl _) _, Or.inl ⟨_, _, rfl, rfl⟩⟩
  · obtain ⟨b, off, cap, rfl, hm, hbw, _, hc⟩ := hv.full hL
    clear hv
    have HM : Hid (Xl.length ≤ maxLen) := hm
    unfold maxLen at hm
    have hmk : ∀ u : World, (Instr.makeSlice 35 (.int .i64 (Xl.length : Int)) (.int .i64 (Xl.length : Int))).run Tryz.prog u = .ok (.slice (some ⟨u.heap.size, 0, none⟩) Xl.length Xl.length) (u.alloc (.cells (madeCells (Value.cells (.agg #[.int .i64 0, .string ⟨#[]⟩])) (Xl.length * 2)) 115)) := fun u => by
      have h := run_make (P := Tryz.prog) u 35 115 i0 _ Tryz.underlying35 hi hz0 .i64 .i64 Xl.length Xl.length (by omega) (by omega) (by rw [hz2]; omega) (by omega)
      rw [hz1] at h
      simpa using h
    clear hi hz0 hz1 hz2
    go_enter Tryz.func39, Tryz.ntmps39
    go_wp2
    clear hmk
    go_loopw [4] (fun i wr => ∃ (k : Nat) (c : Nat → Nat), i = .int .i64 k ∧ k ≤ Xl.length ∧ Below w.heap.size w wr ∧ RssFillO wr w.heap.size Xl k c) (fun i _ => Xl.length - (intOf i).toNat)
    case atStart => exact ⟨0, _, rfl, by omega, (Below.refl _ _).alloc (Nat.le_refl _) _, RssFillO.new w Xl _⟩
    case round =>
      obtain ⟨k, c, rfl, hk, hb, hf⟩ := hrel
      by_cases hlt : k < Xl.length
      · obtain ⟨hs, hc⟩ := hc k hlt
        have HB := hide hb
        have HF := hide hf
        have HSZ := hide hs
        obtain ⟨c0, c1⟩ := hc.below hb hbw
        clear hc hb hf hs
        go_wp2_with fail
        refine (toRs_any _ _).mono ?_
        rintro e w1 ⟨rfl, hb1⟩
        have hf1 := HF.out.below hb1
        have hB : Hid (Below w.heap.size w w1) := HB.out.trans (hb1.mono HB.out.size)
        have HST := hide (hf1.step hlt HSZ.out w1.heap.size (Nat.le_trans HF.out.2.2.1 hb1.size) (Nat.le_refl _))
        have hfr := hf1.free
        obtain ⟨o0, ho0⟩ := hf1.there (k * 2) (by omega)
        obtain ⟨o1, ho1⟩ := hf1.there (k * 2 + 1) (by omega)
        clear hf1 hb1 HF HB c0 c1
        go_wp2
        go_roundw
        case rel =>
          exact ⟨k + 1, _, by go_num, by omega, ((hB.out.setCell (Nat.le_refl _) _).setCell (Nat.le_refl _) _), HST.out⟩
        case measure => simp [intOf]; omega
      · have e : k = Xl.length := by omega
        go_wp2
        go_ret
        exact ⟨_, rfl, hb, hf.own e hL HM.out⟩
end Go.Proofs.YtfbfgljkiikabaaGreat
namespace Go.Proofs.YtfbfgljkiikabaaGreat
open Go.RowKit Go.Deep

theorem RasOwn.fullO {lo hi : Nat} {w : World} {a : Option Addr} {n cap : Nat} {Xl : List Ra} (h : RasOwn lo hi w (.slice a n cap) Xl) (hL : 0 < Xl.length) :
    ∃ b off, a = some ⟨b, off, none⟩ ∧ b < w.heap.size ∧ ∀ i (h : i < Xl.length), ∃ vv0, RaCells w b (off + i * 2) Xl[i] vv0 ∧ RisAt lo w vv0 Xl[i].fr := by
  rcases h with ⟨a', cap', h, rfl⟩ | ⟨b, off, cap', c, X, h1, h2, h3, h4, h5, h6⟩
  · simp at hL
  · injection h1 with e1 e2 e3
    refine ⟨b, off, e1, h6.lt, fun i hi' => ?_⟩
    have hr := h6.row i hi'
    rw [h5 i hi'] at hr
    obtain ⟨hs, vv0, q0, hc, l0⟩ := hr
    exact ⟨vv0, hc, l0.at.mono (h6.seg i hi').1⟩
set_option maxRecDepth 20000 in
set_option maxHeartbeats 8000000 in
theorem heldRas_any (lo hi : Nat) (v : Value) (Xl : List Ra) (k : Int) (w : World) (hv : RasOwn lo hi w v (mkRas k Xl)) (hn : RasSmall Xl) (h0 : 0 ≤ k) (hk : k ≤ 2000000000000000000) :
    Calls Tryz.prog 59 #[v, .int .i64 k] w fun e w' => e = .returned (.int .i64 (k + (posRa Xl Xl.length : Int))) ∧ Below w.heap.size w w' := by
  have HA := hide hv
  have HN := hide hn
  have hlen := hn.1
  obtain ⟨a, cap, hv'⟩ := hv.form
  rw [mkRas_len] at hv'
  subst hv'
  clear hv hn
  go_enter Tryz.func59, Tryz.ntmps59
  go_wp2
  go_loopw [5, 1] (fun i q wr => ∃ j : Nat, i = .int .i64 j ∧ q = .int .i64 (k + (posRa Xl j : Int)) ∧ j ≤ Xl.length ∧ Below w.heap.size w wr) (fun i _ _ => Xl.length - (intOf i).toNat)
  case atStart => exact ⟨0, rfl, by simp [posRa], by omega, Below.refl _ _⟩
  case round =>
    obtain ⟨j, rfl, rfl, hj, hb⟩ := hrel
    have HB0 := hide hb
    clear hb
    by_cases hlt : j < Xl.length
    · obtain ⟨b, off, rfl, hbw, hc⟩ := HA.out.fullO (by rw [mkRas_len]; omega)
      have hcj := hc j (by rw [mkRas_len]; omega)
      rw [mkRas_get _ _ _ _ hlt] at hcj
      have hpos := posRa_le HN.out (i := j) (by omega)
      have HP := hide (posRa_succ hlt)
      obtain ⟨x, hx⟩ : ∃ x, x = Xl[j] := ⟨_, rfl⟩
      rw [← hx] at hcj
      have hs0 : x.fr.length ≤ 1048576 := by have := HN.out.2 j hlt; rw [hx]; unfold RaSmall RisSmall at this; omega
      have HXX := hide hx
      obtain ⟨K, hK⟩ : ∃ K, K = k + (posRa Xl j : Int) := ⟨_, rfl⟩
      rw [← hK] at hcj
      rw [← hK]
      have hK0 : 0 ≤ K := by omega
      have hK1 : K ≤ 2500000000000000000 := by omega
      have HK := hide hK
      obtain ⟨vv0, hcl, g0⟩ := hcj
      have HC := hide hcl
      have HL0 : Hid (RisAt lo w vv0 (imarks (K + 1) x.fr.length)) := g0
      obtain ⟨va0, vc0, rfl⟩ := HL0.out.form
      rw [imarks_len] at HC HL0
      clear hc hcl hx hK hpos
      have d0 : wr.cell? ⟨b, off + j * 2, none⟩ = some (.int .i64 (K)) := (HC.out.below HB0.out hbw).c0
      have d1 : wr.cell? ⟨b, off + j * 2 + 1, none⟩ = some (.slice va0 x.fr.length vc0) := (HC.out.below HB0.out hbw).c1
      go_wp2_with fail
      clear d0 d1
      refine (heldRis_any lo _ x.fr.length _ _ (HL0.out.below HB0.out) (by omega) (by omega)).mono ?_
      rintro e w1 ⟨rfl, hb⟩
      have HB1 : Hid (Below w.heap.size w w1) := HB0.out.trans (hb.mono HB0.out.size)
      clear hb HB0
      have hg1 : decide (K + 1 + (x.fr.length : Int) < 0) = false := by simp; omega
      have d0 : w1.cell? ⟨b, off + j * 2, none⟩ = some (.int .i64 (K)) := (HC.out.below HB1.out hbw).c0
      have d1 : w1.cell? ⟨b, off + j * 2 + 1, none⟩ = some (.slice va0 x.fr.length vc0) := (HC.out.below HB1.out hbw).c1
      go_wp2
      clear d0 d1
      have HW : Hid (wdRa Xl[j] = 1 + x.fr.length) := by unfold Hid; rw [← HXX.out]; rfl
      have HQ : Hid ((K + 1 + (x.fr.length : Int) : Int) = k + (posRa Xl (j + 1) : Int)) := by
        have h1 := HP.out
        have h2 := HW.out
        have h3 := HK.out
        unfold Hid
        omega
      go_roundw
      case rel => exact ⟨j + 1, by go_num, congrArg (Value.int .i64) HQ.out, by omega, HB1.out⟩
      case measure => simp [intOf]; omega
    · have e : j = Xl.length := by omega
      subst e
      go_wp2
      go_ret
      exact ⟨rfl, HB0.out⟩
end Go.Proofs.YtfbfgljkiikabaaGreat
namespace Go.Proofs.YtfbfgljkiikabaaGreat
open Go.RowKit Go.Deep

structure Be where
  nm : ByteArray
  dr : Bool
structure BeSize (x : Be) : Prop where
  s0 : x.nm.size ≤ maxLen
def BeSmall (x : Be) : Prop := x = x
structure BeCells (w : World) (b o : Nat) (x : Be) : Prop where
  c0 : w.cell? ⟨b, o, none⟩ = some (.string x.nm)
  c1 : w.cell? ⟨b, o + 1, none⟩ = some (.bool x.dr)
theorem BeCells.below {w w' : World} {b o : Nat} {x : Be} (h : BeCells w b o x ) {m : Nat} (hb : Below m w w') (hlt : b < m) : BeCells w' b o x  := by
  have e : ∀ o, w'.cell? ⟨b, o, none⟩ = w.cell? ⟨b, o, none⟩ := fun o => hb.cell (p := ⟨b, o, none⟩) hlt
  exact ⟨by rw [e]; exact h.c0, by rw [e]; exact h.c1⟩
theorem BeCells.set {w : World} {b o : Nat} {x : Be} (h : BeCells w b o x ) {p : Addr} (hp : b ≠ p.block) (u : Value) : BeCells (w.setCell p u) b o x  := by
  have e : ∀ o, (w.setCell p u).cell? ⟨b, o, none⟩ = w.cell? ⟨b, o, none⟩ := fun o => cell_setCell_ne _ _ _ _ hp
  exact ⟨by rw [e]; exact h.c0, by rw [e]; exact h.c1⟩
def BesAt (lo : Nat) (w : World) (v : Value) (Xl : List Be) : Prop :=
  (∃ (a : Option Addr) (cap : Nat), v = .slice a 0 cap ∧ Xl = []) ∨
  ∃ (b off cap : Nat), v = .slice (some ⟨b, off, none⟩) Xl.length cap ∧ Xl ≠ [] ∧ Xl.length ≤ maxLen ∧ b < w.heap.size ∧ lo ≤ b ∧ Xl.length ≤ cap ∧
    ∀ i (h : i < Xl.length), BeSize Xl[i] ∧ BeCells w b (off + i * 2) Xl[i]
theorem BesAt.below {lo : Nat} {w w' : World} {v : Value} {Xl : List Be} (h : BesAt lo w v Xl) (hb : Below w.heap.size w w') : BesAt lo w' v Xl := by
  rcases h with h | ⟨b, off, cap, h1, h2, h3, h4, h5, h6, h7⟩
  · exact Or.inl h
  · refine Or.inr ⟨b, off, cap, h1, h2, h3, Nat.lt_of_lt_of_le h4 hb.size, h5, h6, fun i hi => ?_⟩
    obtain ⟨hs, hc⟩ := h7 i hi
    exact ⟨hs, hc.below hb h4⟩
theorem BesAt.mono {lo lo' : Nat} {w : World} {v : Value} {Xl : List Be} (h : BesAt lo w v Xl) (hl : lo' ≤ lo) : BesAt lo' w v Xl := by
  rcases h with h | ⟨b, off, cap, h1, h2, h3, h4, h5, h6, h7⟩
  · exact Or.inl h
  · refine Or.inr ⟨b, off, cap, h1, h2, h3, h4, Nat.le_trans hl h5, h6, fun i hi => ?_⟩
    obtain ⟨hs, hc⟩ := h7 i hi
    exact ⟨hs, hc⟩
theorem BesAt.set {lo : Nat} {w : World} {v : Value} {Xl : List Be} (h : BesAt lo w v Xl) {p : Addr} (hp : p.block < lo) (u : Value) : BesAt lo (w.setCell p u) v Xl := by
  rcases h with h | ⟨b, off, cap, h1, h2, h3, h4, h5, h6, h7⟩
  · exact Or.inl h
  · refine Or.inr ⟨b, off, cap, h1, h2, h3, by simpa [World.setCell] using h4, h5, h6, fun i hi => ?_⟩
    obtain ⟨hs, hc⟩ := h7 i hi
    exact ⟨hs, hc.set (by omega) u⟩
theorem BesAt.form {lo : Nat} {w : World} {v : Value} {Xl : List Be} (h : BesAt lo w v Xl) : ∃ a cap, v = .slice a Xl.length cap := by
  rcases h with ⟨a, cap, h, rfl⟩ | ⟨b, off, cap, h, _⟩
  · exact ⟨a, cap, h⟩
  · exact ⟨_, cap, h⟩
theorem BesAt.max {lo : Nat} {w : World} {v : Value} {Xl : List Be} (h : BesAt lo w v Xl) : Xl.length ≤ maxLen := by
  rcases h with ⟨a, cap, h, rfl⟩ | ⟨b, off, cap, h, _, h3, _⟩
  · exact Nat.zero_le _
  · exact h3
theorem BesAt.full {lo : Nat} {w : World} {v : Value} {Xl : List Be} (h : BesAt lo w v Xl) (hne : Xl ≠ []) : ∃ (b off cap : Nat), v = .slice (some ⟨b, off, none⟩) Xl.length cap ∧ Xl.length ≤ maxLen ∧ b < w.heap.size ∧ Xl.length ≤ cap ∧
    ∀ i (h : i < Xl.length), BeSize Xl[i] ∧ BeCells w b (off + i * 2) Xl[i] := by
  rcases h with ⟨_, _, _, h⟩ | ⟨b, off, cap, h1, _, h3, h4, _, h6, h7⟩
  · exact absurd h hne
  · exact ⟨b, off, cap, h1, h3, h4, h6, h7⟩
theorem BesAt.full' {lo : Nat} {w : World} {a : Option Addr} {n cap : Nat} {Xl : List Be} (h : BesAt lo w (.slice a n cap) Xl) (hL : 0 < Xl.length) :
    ∃ b off, a = some ⟨b, off, none⟩ ∧ b < w.heap.size ∧ lo ≤ b ∧ ∀ i (h : i < Xl.length), BeSize Xl[i] ∧ BeCells w b (off + i * 2) Xl[i] := by
  rcases h with ⟨a', cap', h, rfl⟩ | ⟨b', off', cap', h1, h2, h3, h4, h5, h6, h7⟩
  · simp at hL
  · injection h1 with e1 e2 e3
    exact ⟨b', off', e1, h4, h5, h7⟩
def BesSmall (Xl : List Be) : Prop := Xl.length ≤ 1048576 ∧ ∀ i (h : i < Xl.length), BeSmall Xl[i]
def SzBes (Xl : List Be) (left r : Int) : Prop := -1 ≤ r ∧ r ≤ left ∧ (0 ≤ r → BesSmall Xl)

end Go.Proofs.YtfbfgljkiikabaaGreat
namespace Go.Proofs.YtfbfgljkiikabaaGreat
open Go.RowKit Go.Deep

/-- a stewards' book -/
structure Sb where
  now : Int
  ss : List Sv
  cs : List Cp
  bs : List Be
/-- a book in memory, all of it above lo -/
structure SbAt (lo : Nat) (w : World) (sv cv bv : Value) (B : Sb) : Prop where
  svs : SvsAt lo w sv B.ss
  cps : CpsAt lo w cv B.cs
  bes : BesAt lo w bv B.bs
theorem SbAt.below {lo : Nat} {w w' : World} {sv cv bv : Value} {B : Sb} (h : SbAt lo w sv cv bv B) (hb : Below w.heap.size w w') : SbAt lo w' sv cv bv B :=
  ⟨h.svs.below hb, h.cps.below hb, h.bes.below hb⟩
theorem SbAt.mono {lo lo' : Nat} {w : World} {sv cv bv : Value} {B : Sb} (h : SbAt lo w sv cv bv B) (hl : lo' ≤ lo) : SbAt lo' w sv cv bv B :=
  ⟨h.svs.mono hl, h.cps.mono hl, h.bes.mono hl⟩
theorem SbAt.set {lo : Nat} {w : World} {sv cv bv : Value} {B : Sb} (h : SbAt lo w sv cv bv B) {p : Addr} (hp : p.block < lo) (u : Value) : SbAt lo (w.setCell p u) sv cv bv B :=
  ⟨h.svs.set hp u, h.cps.set hp u, h.bes.set hp u⟩
def SbSmall (B : Sb) : Prop := SvsSmall B.ss ∧ CpsSmall B.cs ∧ BesSmall B.bs

section
variable (lo : Nat) (sv cv bv : Value) (B : Sb) (w : World)

end
end Go.Proofs.YtfbfgljkiikabaaGreat
namespace Go.Proofs.YtfbfgljkiikabaaGreat
open Go.RowKit Go.Deep

/-! what is asked of a stewards' book -/
theorem inB_lo {lo hi n : Int} (h : inB lo hi n = true) : lo ≤ n := by unfold inB at h; simp at h; exact h.1
theorem inB_hi {lo hi n : Int} (h : inB lo hi n = true) : n ≤ hi := by unfold inB at h; simp at h; exact h.2
def nmB (s : ByteArray) : Bool := inB 1 20 s.size && allB nameByte s
def perB (x : Sv) : Bool := if x.pr == 0 then (x.ls == 0) && ((x.ms == 0) && ((x.ld == 0) && (x.cl == 0))) else inB 0 1000000 x.pr && (inB 0 1000000 x.ld && (inB 0 10 x.ls && (inB x.ls 10 x.ms && inB 0 3 x.cl)))
def svB (now : Int) (x : Sv) : Bool := (nmB x.nm && (inB 1 now x.ve && (inB 1 1000000 x.im && (inB 1 1000000 x.nx && (inB 0 10 x.wa && (inB 0 10 x.dn && (inB 0 10 x.ov && (!(x.dn + x.ov == 0) && perB x))))))))
/-- the place of the first that is so -/
def pls {X : Type} (p : X → Bool) (L : List X) : Int := match L.findIdx? p with | some i => i | none => -1
def svP (L : List Sv) (s : ByteArray) : Int := pls (fun x => x.nm.toList == s.toList) L
def beP (L : List Be) (s : ByteArray) : Int := pls (fun x => x.nm.toList == s.toList) L
end Go.Proofs.YtfbfgljkiikabaaGreat
