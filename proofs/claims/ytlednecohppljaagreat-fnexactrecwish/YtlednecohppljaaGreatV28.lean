import Derived.Test.YtlednecohppljaaGreatV20
import Derived.Test.YtlednecohppljaaGreatV26
import Derived.Test.YtlednecohppljaaGreatV27
namespace Go.Proofs.YtlednecohppljaaGreat
open Go.RowKit Go.Deep

theorem heldRss_two (lo hi : Nat) (v : Value) (Xl : List Rs) (k : Int) (w : World) (hv : RssOwn lo hi w v (mkRss k Xl)) (hn : RssSmall Xl) (h0 : 0 ≤ k) (hk : k ≤ 2000000000000000000) :
    Calls Tryz.prog 55 #[v, .int .i64 k] w fun e w' => e = .returned (.int .i64 (k + 2 * (Xl.length : Int))) ∧ Below w.heap.size w w' := by
  have := heldRss_any lo hi v Xl k w hv hn h0 hk
  rw [posRs_all2] at this
  simpa using this

theorem RmsOwn.fullO {lo hi : Nat} {w : World} {a : Option Addr} {n cap : Nat} {Xl : List Rm} (h : RmsOwn lo hi w (.slice a n cap) Xl) (hL : 0 < Xl.length) :
    ∃ b off, a = some ⟨b, off, none⟩ ∧ b < w.heap.size ∧ ∀ i (h : i < Xl.length), ∃ l0 u0 vv0, RmCells w b (off + i * 8) Xl[i] vv0 ∧ RssOwn l0 u0 w vv0 Xl[i].sl := by
  rcases h with ⟨a', cap', h, rfl⟩ | ⟨b, off, cap', c, X, h1, h2, h3, h4, h5, h6⟩
  · simp at hL
  · injection h1 with e1 e2 e3
    refine ⟨b, off, e1, h6.lt, fun i hi' => ?_⟩
    have hr := h6.row i hi'
    rw [h5 i hi'] at hr
    obtain ⟨hs, vv0, q0, hc, l0⟩ := hr
    exact ⟨_, _, vv0, hc, l0⟩
set_option maxRecDepth 20000 in
set_option maxHeartbeats 8000000 in
theorem heldRms_any (lo hi : Nat) (v : Value) (Xl : List Rm) (k : Int) (w : World) (hv : RmsOwn lo hi w v (mkRms k Xl)) (hn : RmsSmall Xl) (h0 : 0 ≤ k) (hk : k ≤ 1900000000000000000) :
    Calls Tryz.prog 52 #[v, .int .i64 k] w fun e w' => e = .returned (.int .i64 (k + (posRm Xl Xl.length : Int))) ∧ Below w.heap.size w w' := by
  have HA := hide hv
  have HN := hide hn
  have hlen := hn.1
  obtain ⟨a, cap, hv'⟩ := hv.form
  rw [mkRms_len] at hv'
  subst hv'
  clear hv hn
  go_enter Tryz.func52, Tryz.ntmps52
  go_wp2
  go_loopw [5, 1] (fun i q wr => ∃ j : Nat, i = .int .i64 j ∧ q = .int .i64 (k + (posRm Xl j : Int)) ∧ j ≤ Xl.length ∧ Below w.heap.size w wr) (fun i _ _ => Xl.length - (intOf i).toNat)
  case atStart => exact ⟨0, rfl, by simp [posRm], by omega, Below.refl _ _⟩
  case round =>
    obtain ⟨j, rfl, rfl, hj, hb⟩ := hrel
    have HB0 := hide hb
    clear hb
    by_cases hlt : j < Xl.length
    · obtain ⟨b, off, rfl, hbw, hc⟩ := HA.out.fullO (by rw [mkRms_len]; omega)
      have hcj := hc j (by rw [mkRms_len]; omega)
      rw [mkRms_get _ _ _ _ hlt] at hcj
      have hpos := posRm_le HN.out (i := j) (by omega)
      have HP := hide (posRm_succ hlt)
      obtain ⟨x, hx⟩ : ∃ x, x = Xl[j] := ⟨_, rfl⟩
      rw [← hx] at hcj
      have hs0 : RssSmall x.sl := by rw [hx]; exact HN.out.2 j hlt
      have hs0n := hs0.1
      have HXX := hide hx
      obtain ⟨K, hK⟩ : ∃ K, K = k + (posRm Xl j : Int) := ⟨_, rfl⟩
      rw [← hK] at hcj
      rw [← hK]
      have hK0 : 0 ≤ K := by omega
      have hK1 : K ≤ 1950000000000000000 := by omega
      have HK := hide hK
      obtain ⟨l0, u0, vv0, hcl, g0⟩ := hcj
      have HC := hide hcl
      have HL0 : Hid (RssOwn l0 u0 w vv0 (mkRss (K + 1 + 1 + 1 + 1 + 1 + 1 + 1) x.sl)) := g0
      obtain ⟨va0, vc0, rfl⟩ := HL0.out.form
      rw [mkRss_len] at HC HL0
      clear hc hcl hx hK hpos
      have d0 : wr.cell? ⟨b, off + j * 8, none⟩ = some (.int .i64 (K)) := (HC.out.below HB0.out hbw).c0
      have d1 : wr.cell? ⟨b, off + j * 8 + 1, none⟩ = some (.int .i64 (K + 1)) := (HC.out.below HB0.out hbw).c1
      have d2 : wr.cell? ⟨b, off + j * 8 + 2, none⟩ = some (.int .i64 (K + 1 + 1)) := (HC.out.below HB0.out hbw).c2
      have d3 : wr.cell? ⟨b, off + j * 8 + 3, none⟩ = some (.int .i64 (K + 1 + 1 + 1)) := (HC.out.below HB0.out hbw).c3
      have d4 : wr.cell? ⟨b, off + j * 8 + 4, none⟩ = some (.int .i64 (K + 1 + 1 + 1 + 1)) := (HC.out.below HB0.out hbw).c4
      have d5 : wr.cell? ⟨b, off + j * 8 + 5, none⟩ = some (.int .i64 (K + 1 + 1 + 1 + 1 + 1)) := (HC.out.below HB0.out hbw).c5
      have d6 : wr.cell? ⟨b, off + j * 8 + 6, none⟩ = some (.string (mtB (K + 1 + 1 + 1 + 1 + 1 + 1))) := (HC.out.below HB0.out hbw).c6
      have d7 : wr.cell? ⟨b, off + j * 8 + 7, none⟩ = some (.slice va0 x.sl.length vc0) := (HC.out.below HB0.out hbw).c7
      have x0 : ∀ X : In (Up wr), X.w.cell? ⟨b, off + j * 8 + 6, none⟩ = some (.string (mtB (K + 1 + 1 + 1 + 1 + 1 + 1))) := fun X => Up.cell X d6
      have xn : Nonempty (In (Up wr)) := ⟨⟨wr, Below.refl _ _⟩⟩
      have xs := fun (X : In (Up wr)) => in_self X
      go_wp2
      clear d0 d1 d2 d3 d4 d5 d6 d7
      refine wp_region_class (Up wr) (by kernel_rfl) (by kernel_rfl) ((Below.refl _ _).drew) ?_
      repeat (go_big_quiet_step (first | (go_at_call 100; rename_i X; exact (markText_any _ _ (by omega)).mono fun _ _ h => ⟨h.1, Up.next X h.2⟩)))
      refine wpQuiet_nil ?_
      intro w1 hw
      obtain ⟨Y, hY⟩ := hw
      have HB1 : Hid (Below w.heap.size w w1) := HB0.out.trans (Below.mono (show Below wr.heap.size wr w1 by rw [hY]; exact Y.h) HB0.out.size)
      clear hY Y x0 xs xn HB0
      have d0 : w1.cell? ⟨b, off + j * 8, none⟩ = some (.int .i64 (K)) := (HC.out.below HB1.out hbw).c0
      have d1 : w1.cell? ⟨b, off + j * 8 + 1, none⟩ = some (.int .i64 (K + 1)) := (HC.out.below HB1.out hbw).c1
      have d2 : w1.cell? ⟨b, off + j * 8 + 2, none⟩ = some (.int .i64 (K + 1 + 1)) := (HC.out.below HB1.out hbw).c2
      have d3 : w1.cell? ⟨b, off + j * 8 + 3, none⟩ = some (.int .i64 (K + 1 + 1 + 1)) := (HC.out.below HB1.out hbw).c3
      have d4 : w1.cell? ⟨b, off + j * 8 + 4, none⟩ = some (.int .i64 (K + 1 + 1 + 1 + 1)) := (HC.out.below HB1.out hbw).c4
      have d5 : w1.cell? ⟨b, off + j * 8 + 5, none⟩ = some (.int .i64 (K + 1 + 1 + 1 + 1 + 1)) := (HC.out.below HB1.out hbw).c5
      have d6 : w1.cell? ⟨b, off + j * 8 + 6, none⟩ = some (.string (mtB (K + 1 + 1 + 1 + 1 + 1 + 1))) := (HC.out.below HB1.out hbw).c6
      have d7 : w1.cell? ⟨b, off + j * 8 + 7, none⟩ = some (.slice va0 x.sl.length vc0) := (HC.out.below HB1.out hbw).c7
      go_wp2_with fail
      clear d0 d1 d2 d3 d4 d5 d6 d7
      refine (heldRss_two _ _ _ x.sl _ _ (HL0.out.below HB1.out) hs0 (by omega) (by omega)).mono ?_
      rintro e w2 ⟨rfl, hb⟩
      have HB2 : Hid (Below w.heap.size w w2) := HB1.out.trans (hb.mono HB1.out.size)
      clear hb HB1
      have hg7 : decide (K + 1 + 1 + 1 + 1 + 1 + 1 + 1 + 2 * (x.sl.length : Int) < 0) = false := by simp; omega
      have d0 : w2.cell? ⟨b, off + j * 8, none⟩ = some (.int .i64 (K)) := (HC.out.below HB2.out hbw).c0
      have d1 : w2.cell? ⟨b, off + j * 8 + 1, none⟩ = some (.int .i64 (K + 1)) := (HC.out.below HB2.out hbw).c1
      have d2 : w2.cell? ⟨b, off + j * 8 + 2, none⟩ = some (.int .i64 (K + 1 + 1)) := (HC.out.below HB2.out hbw).c2
      have d3 : w2.cell? ⟨b, off + j * 8 + 3, none⟩ = some (.int .i64 (K + 1 + 1 + 1)) := (HC.out.below HB2.out hbw).c3
      have d4 : w2.cell? ⟨b, off + j * 8 + 4, none⟩ = some (.int .i64 (K + 1 + 1 + 1 + 1)) := (HC.out.below HB2.out hbw).c4
      have d5 : w2.cell? ⟨b, off + j * 8 + 5, none⟩ = some (.int .i64 (K + 1 + 1 + 1 + 1 + 1)) := (HC.out.below HB2.out hbw).c5
      have d6 : w2.cell? ⟨b, off + j * 8 + 6, none⟩ = some (.string (mtB (K + 1 + 1 + 1 + 1 + 1 + 1))) := (HC.out.below HB2.out hbw).c6
      have d7 : w2.cell? ⟨b, off + j * 8 + 7, none⟩ = some (.slice va0 x.sl.length vc0) := (HC.out.below HB2.out hbw).c7
      go_wp2
      clear d0 d1 d2 d3 d4 d5 d6 d7
      have HW : Hid (wdRm Xl[j] = 7 + 2 * x.sl.length) := by unfold Hid; rw [← HXX.out]; rfl
      have HQ : Hid ((K + 1 + 1 + 1 + 1 + 1 + 1 + 1 + 2 * (x.sl.length : Int) : Int) = k + (posRm Xl (j + 1) : Int)) := by
        have h1 := HP.out
        have h2 := HW.out
        have h3 := HK.out
        unfold Hid
        omega
      go_roundw
      case rel => exact ⟨j + 1, by go_num, congrArg (Value.int .i64) HQ.out, by omega, HB2.out⟩
      case measure => simp [intOf]; omega
    · have e : j = Xl.length := by omega
      subst e
      go_wp2
      go_ret
      exact ⟨rfl, HB0.out⟩
end Go.Proofs.YtlednecohppljaaGreat
namespace Go.Proofs.YtlednecohppljaaGreat
open Go.RowKit Go.Deep

theorem Box.tch {w w' : World} {β lo hi : Nat} {cs : Array Value} (h : Box w β cs) (ht : Touch lo hi w w') (ho : hi ≤ β) : Box w' β cs :=
  ⟨Nat.lt_of_lt_of_le h.lt ht.size, fun i => (ht.cell (p := ⟨β, i, none⟩) h.lt (Or.inr ho)).trans (h.cell i), fun i => (ht.frozen (p := ⟨β, i, none⟩) h.lt (Or.inr ho)).trans (h.free i)⟩
theorem Box.tch2 {w w' : World} {β lo hi : Nat} {cs : Array Value} (h : Box w β cs) (ht : Touch lo hi w w') (ho : β < lo ∨ hi ≤ β) : Box w' β cs :=
  ⟨Nat.lt_of_lt_of_le h.lt ht.size, fun i => (ht.cell (p := ⟨β, i, none⟩) h.lt ho).trans (h.cell i), fun i => (ht.frozen (p := ⟨β, i, none⟩) h.lt ho).trans (h.free i)⟩
structure RrO (lo hi : Nat) (w : World) (c : Nat → Nat × Nat) (v0 v1 v2 v3 v4 v5 v6 : Value) (U : Rr) : Prop where
  seg : ∀ i, i < 7 → lo ≤ (c i).1 ∧ (c i).2 ≤ hi
  ap : ∀ i j, i < 7 → j < 7 → i ≠ j → (c i).2 ≤ (c j).1 ∨ (c j).2 ≤ (c i).1
  o0 : RssOwn (c 0).1 (c 0).2 w v0 U.sf.sl
  o1 : RssOwn (c 1).1 (c 1).2 w v1 U.dk.sl
  o2 : RmsOwn (c 2).1 (c 2).2 w v2 U.he
  o3 : RtsOwn (c 3).1 (c 3).2 w v3 U.wi
  o4 : RisOwn (c 4).1 (c 4).2 w v4 U.ye
  o5 : RssOwn (c 5).1 (c 5).2 w v5 U.be
  o6 : RasOwn (c 6).1 (c 6).2 w v6 U.ac
theorem RrO.below {lo hi : Nat} {w w' : World} {c : Nat → Nat × Nat} {v0 v1 v2 v3 v4 v5 v6 : Value} {U : Rr} (h : RrO lo hi w c v0 v1 v2 v3 v4 v5 v6 U) (hb : Below w.heap.size w w') : RrO lo hi w' c v0 v1 v2 v3 v4 v5 v6 U := ⟨h.seg, h.ap, h.o0.below hb, h.o1.below hb, h.o2.below hb, h.o3.below hb, h.o4.below hb, h.o5.below hb, h.o6.below hb⟩
theorem RrO.touch {lo hi lo' hi' : Nat} {w w' : World} {c : Nat → Nat × Nat} {v0 v1 v2 v3 v4 v5 v6 : Value} {U : Rr} (h : RrO lo hi w c v0 v1 v2 v3 v4 v5 v6 U) (ht : Touch lo' hi' w w') (ho : hi ≤ lo' ∨ hi' ≤ lo) : RrO lo hi w' c v0 v1 v2 v3 v4 v5 v6 U := by
  have s0 := h.seg 0 (by omega)
  have s1 := h.seg 1 (by omega)
  have s2 := h.seg 2 (by omega)
  have s3 := h.seg 3 (by omega)
  have s4 := h.seg 4 (by omega)
  have s5 := h.seg 5 (by omega)
  have s6 := h.seg 6 (by omega)
  exact ⟨h.seg, h.ap, h.o0.touch ht (by omega), h.o1.touch ht (by omega), h.o2.touch ht (by omega), h.o3.touch ht (by omega), h.o4.touch ht (by omega), h.o5.touch ht (by omega), h.o6.touch ht (by omega)⟩
/-- a recorder of one's own -/
def RrOwn (lo hi : Nat) (w : World) (cs : List Value) (U : Rr) : Prop := ∃ a0 k0 a1 k1 a2 k2 a3 k3 a4 k4 a5 k5 a6 k6 c, cs = rrL U a0 k0 a1 k1 a2 k2 a3 k3 a4 k4 a5 k5 a6 k6 ∧ RrO lo hi w c (.slice a0 U.sf.sl.length k0) (.slice a1 U.dk.sl.length k1) (.slice a2 U.he.length k2) (.slice a3 U.wi.length k3) (.slice a4 U.ye.length k4) (.slice a5 U.be.length k5) (.slice a6 U.ac.length k6) U
theorem RrOwn.below {lo hi : Nat} {w w' : World} {cs : List Value} {U : Rr} (h : RrOwn lo hi w cs U) (hb : Below w.heap.size w w') : RrOwn lo hi w' cs U := by
  obtain ⟨a0, k0, a1, k1, a2, k2, a3, k3, a4, k4, a5, k5, a6, k6, c, h1, h2⟩ := h
  exact ⟨a0, k0, a1, k1, a2, k2, a3, k3, a4, k4, a5, k5, a6, k6, c, h1, h2.below hb⟩
theorem RrOwn.touch {lo hi lo' hi' : Nat} {w w' : World} {cs : List Value} {U : Rr} (h : RrOwn lo hi w cs U) (ht : Touch lo' hi' w w') (ho : hi ≤ lo' ∨ hi' ≤ lo) : RrOwn lo hi w' cs U := by
  obtain ⟨a0, k0, a1, k1, a2, k2, a3, k3, a4, k4, a5, k5, a6, k6, c, h1, h2⟩ := h
  exact ⟨a0, k0, a1, k1, a2, k2, a3, k3, a4, k4, a5, k5, a6, k6, c, h1, h2.touch ht ho⟩
theorem RrOwn.at {lo hi : Nat} {w : World} {cs : List Value} {U : Rr} (h : RrOwn lo hi w cs U) : RrC lo w cs U := by
  obtain ⟨a0, k0, a1, k1, a2, k2, a3, k3, a4, k4, a5, k5, a6, k6, c, h1, h2⟩ := h
  exact ⟨a0, k0, a1, k1, a2, k2, a3, k3, a4, k4, a5, k5, a6, k6, h1, ⟨h2.o0.at.mono (h2.seg 0 (by omega)).1, h2.o1.at.mono (h2.seg 1 (by omega)).1, h2.o2.at.mono (h2.seg 2 (by omega)).1, h2.o3.at.mono (h2.seg 3 (by omega)).1, h2.o4.at.mono (h2.seg 4 (by omega)).1, h2.o5.at.mono (h2.seg 5 (by omega)).1, h2.o6.at.mono (h2.seg 6 (by omega)).1⟩⟩
def kR0 (k : Int) (_U : Rr) : Int := k
def kR1 (k : Int) (U : Rr) : Int := kR0 k U + (posRs U.sf.sl U.sf.sl.length : Int)
def kR2 (k : Int) (U : Rr) : Int := kR1 k U + (posRs U.dk.sl U.dk.sl.length : Int)
def kR3 (k : Int) (U : Rr) : Int := kR2 k U + (posRm U.he U.he.length : Int)
def kR4 (k : Int) (U : Rr) : Int := kR3 k U + (U.wi.length : Int)
def kR5 (k : Int) (U : Rr) : Int := kR4 k U + (U.ye.length : Int)
def kR6 (k : Int) (U : Rr) : Int := kR5 k U + (posRs U.be U.be.length : Int)
def kR7 (k : Int) (U : Rr) : Int := kR6 k U + (posRa U.ac U.ac.length : Int)
def mkRr (k : Int) (U : Rr) : Rr := { U with sf := { U.sf with sl := mkRss (kR0 k U) U.sf.sl }, dk := { U.dk with sl := mkRss (kR1 k U) U.dk.sl }, he := mkRms (kR2 k U) U.he, wi := tmarks (kR3 k U) U.wi.length, ye := imarks (kR4 k U) U.ye.length, be := mkRss (kR5 k U) U.be, ac := mkRas (kR6 k U) U.ac }
theorem mkRr_L (k : Int) (U : Rr) (a0 : Option Addr) (k0 : Nat) ( a1 : Option Addr) (k1 : Nat) ( a2 : Option Addr) (k2 : Nat) ( a3 : Option Addr) (k3 : Nat) ( a4 : Option Addr) (k4 : Nat) ( a5 : Option Addr) (k5 : Nat) (a6 : Option Addr) (k6 : Nat) : rrL (mkRr k U) a0 k0 a1 k1 a2 k2 a3 k3 a4 k4 a5 k5 a6 k6 = rrL U a0 k0 a1 k1 a2 k2 a3 k3 a4 k4 a5 k5 a6 k6 := by
  simp [rrL, mkRr, mkRss_len, mkRms_len, tmarks_len, imarks_len, mkRas_len]
theorem kR_bd {k : Int} {U : Rr} (hn : RrSmall U) (h0 : 0 ≤ k) (hk : k ≤ 1000000000000000) : (0 ≤ kR1 k U ∧ kR1 k U ≤ 10000000000000000) ∧ (0 ≤ kR2 k U ∧ kR2 k U ≤ 20000000000000000) ∧ (0 ≤ kR3 k U ∧ kR3 k U ≤ 30000000000000000) ∧ (0 ≤ kR4 k U ∧ kR4 k U ≤ 40000000000000000) ∧ (0 ≤ kR5 k U ∧ kR5 k U ≤ 50000000000000000) ∧ (0 ≤ kR6 k U ∧ kR6 k U ≤ 60000000000000000) ∧ (0 ≤ kR7 k U ∧ kR7 k U ≤ 70000000000000000) := by
  obtain ⟨n0, n1, n2, n3, n4, n5, n6⟩ := hn
  unfold RdSmall at n0 n1
  have p0 := posRs_le n0 (Nat.le_refl _)
  have p1 := posRs_le n1 (Nat.le_refl _)
  have p2 := posRm_le n2 (Nat.le_refl _)
  have p5 := posRs_le n5 (Nat.le_refl _)
  have p6 := posRa_le n6 (Nat.le_refl _)
  have q0 := n0.1
  have q1 := n1.1
  have q2 := n2.1
  have q5 := n5.1
  have q6 := n6.1
  unfold RtsSmall at n3
  unfold RisSmall at n4
  unfold kR7 kR6 kR5 kR4 kR3 kR2 kR1 kR0
  omega
end Go.Proofs.YtlednecohppljaaGreat
