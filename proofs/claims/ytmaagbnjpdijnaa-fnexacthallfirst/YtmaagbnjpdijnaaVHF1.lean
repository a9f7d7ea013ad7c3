import Derived.Test.YtmaagbnjpdijnaaVDA
import Derived.Test.YtmaagbnjpdijnaaVBW
import Derived.Test.YtmaagbnjpdijnaaVBBL
import Derived.Test.YtmaagbnjpdijnaaVM2
import Derived.Test.YtmaagbnjpdijnaaVA1
import Derived.Test.YtmaagbnjpdijnaaVOWX
namespace Go.Proofs.Ytmaagbnjpdijnaa
open Go.RowKit Go.Deep

theorem eqStewServiceS_nil (w : World) : Calls Try.prog 89 #[.slice none 0 0, .slice none 0 0] w fun e w' => e = .returned (.bool true) ∧ w' = w := by
  go_enter Try.func89, Try.ntmps89
  go_wp2
  go_loop [5] (fun i => i = .int .i64 0) (fun _ => 0)
  case atStart => rfl
  case round =>
    obtain rfl := hrel
    go_wp2
    go_ret
    exact ⟨rfl, rfl⟩
theorem markStewServiceS_nil (k : Int) (w : World) : Calls Try.prog 95 #[.slice none 0 0, .int .i64 k] w fun e w' => e = .returned (.int .i64 k) ∧ w' = w := by
  go_enter Try.func95, Try.ntmps95
  go_wp2
  go_loop [5, 1] (fun i q => i = .int .i64 0 ∧ q = .int .i64 k) (fun _ _ => 0)
  case atStart => exact ⟨rfl, rfl⟩
  case round =>
    obtain ⟨rfl, rfl⟩ := hrel
    go_wp2
    go_ret
    exact ⟨rfl, rfl⟩
theorem heldStewServiceS_nil (k : Int) (w : World) : Calls Try.prog 102 #[.slice none 0 0, .int .i64 k] w fun e w' => e = .returned (.int .i64 k) ∧ w' = w := by
  go_enter Try.func102, Try.ntmps102
  go_wp2
  go_loop [5, 1] (fun i q => i = .int .i64 0 ∧ q = .int .i64 k) (fun _ _ => 0)
  case atStart => exact ⟨rfl, rfl⟩
  case round =>
    obtain ⟨rfl, rfl⟩ := hrel
    go_wp2
    go_ret
    exact ⟨rfl, rfl⟩
theorem eqStewCopyS_nil (w : World) : Calls Try.prog 90 #[.slice none 0 0, .slice none 0 0] w fun e w' => e = .returned (.bool true) ∧ w' = w := by
  go_enter Try.func90, Try.ntmps90
  go_wp2
  go_loop [5] (fun i => i = .int .i64 0) (fun _ => 0)
  case atStart => rfl
  case round =>
    obtain rfl := hrel
    go_wp2
    go_ret
    exact ⟨rfl, rfl⟩
theorem markStewCopyS_nil (k : Int) (w : World) : Calls Try.prog 96 #[.slice none 0 0, .int .i64 k] w fun e w' => e = .returned (.int .i64 k) ∧ w' = w := by
  go_enter Try.func96, Try.ntmps96
  go_wp2
  go_loop [5, 1] (fun i q => i = .int .i64 0 ∧ q = .int .i64 k) (fun _ _ => 0)
  case atStart => exact ⟨rfl, rfl⟩
  case round =>
    obtain ⟨rfl, rfl⟩ := hrel
    go_wp2
    go_ret
    exact ⟨rfl, rfl⟩
theorem heldStewCopyS_nil (k : Int) (w : World) : Calls Try.prog 103 #[.slice none 0 0, .int .i64 k] w fun e w' => e = .returned (.int .i64 k) ∧ w' = w := by
  go_enter Try.func103, Try.ntmps103
  go_wp2
  go_loop [5, 1] (fun i q => i = .int .i64 0 ∧ q = .int .i64 k) (fun _ _ => 0)
  case atStart => exact ⟨rfl, rfl⟩
  case round =>
    obtain ⟨rfl, rfl⟩ := hrel
    go_wp2
    go_ret
    exact ⟨rfl, rfl⟩
theorem eqStewBerthS_nil (w : World) : Calls Try.prog 91 #[.slice none 0 0, .slice none 0 0] w fun e w' => e = .returned (.bool true) ∧ w' = w := by
  go_enter Try.func91, Try.ntmps91
  go_wp2
  go_loop [5] (fun i => i = .int .i64 0) (fun _ => 0)
  case atStart => rfl
  case round =>
    obtain rfl := hrel
    go_wp2
    go_ret
    exact ⟨rfl, rfl⟩
theorem markStewBerthS_nil (k : Int) (w : World) : Calls Try.prog 97 #[.slice none 0 0, .int .i64 k] w fun e w' => e = .returned (.int .i64 k) ∧ w' = w := by
  go_enter Try.func97, Try.ntmps97
  go_wp2
  go_loop [5, 1] (fun i q => i = .int .i64 0 ∧ q = .int .i64 k) (fun _ _ => 0)
  case atStart => exact ⟨rfl, rfl⟩
  case round =>
    obtain ⟨rfl, rfl⟩ := hrel
    go_wp2
    go_ret
    exact ⟨rfl, rfl⟩
theorem heldStewBerthS_nil (k : Int) (w : World) : Calls Try.prog 104 #[.slice none 0 0, .int .i64 k] w fun e w' => e = .returned (.int .i64 k) ∧ w' = w := by
  go_enter Try.func104, Try.ntmps104
  go_wp2
  go_loop [5, 1] (fun i q => i = .int .i64 0 ∧ q = .int .i64 k) (fun _ _ => 0)
  case atStart => exact ⟨rfl, rfl⟩
  case round =>
    obtain ⟨rfl, rfl⟩ := hrel
    go_wp2
    go_ret
    exact ⟨rfl, rfl⟩
set_option maxHeartbeats 2000000 in
theorem eqStew_nil (w : World) : Calls Try.prog 53 #[.agg #[.int .i64 0, .slice none 0 0, .slice none 0 0, .slice none 0 0], .agg #[.int .i64 0, .slice none 0 0, .slice none 0 0, .slice none 0 0]] w fun e w' => e = .returned (.bool true) ∧ Below w.heap.size w w' := by
  go_enter Try.func53, Try.ntmps53
  go_wp2_with (first | (go_at_call 89; refine (eqStewServiceS_nil _).mono ?_; rintro e w' ⟨rfl, rfl⟩) | (go_at_call 90; refine (eqStewCopyS_nil _).mono ?_; rintro e w' ⟨rfl, rfl⟩) | (go_at_call 91; refine (eqStewBerthS_nil _).mono ?_; rintro e w' ⟨rfl, rfl⟩))
  go_ret
  exact ⟨rfl, (one_al w _).alloc (by simp) _⟩
set_option maxHeartbeats 2000000 in
theorem markStew_nil (k : Int) (w : World) : Calls Try.prog 55 #[.agg #[.int .i64 0, .slice none 0 0, .slice none 0 0, .slice none 0 0], .int .i64 k] w fun e w' => e = .returned (.int .i64 k) ∧ Below w.heap.size w w' := by
  go_enter Try.func55, Try.ntmps55
  go_wp2_with (first | (go_at_call 95; refine (markStewServiceS_nil _ _).mono ?_; rintro e w' ⟨rfl, rfl⟩) | (go_at_call 96; refine (markStewCopyS_nil _ _).mono ?_; rintro e w' ⟨rfl, rfl⟩) | (go_at_call 97; refine (markStewBerthS_nil _ _).mono ?_; rintro e w' ⟨rfl, rfl⟩))
  go_ret
  exact ⟨rfl, one_al w _⟩
set_option maxHeartbeats 2000000 in
theorem heldStew_nil (k : Int) (h0 : 0 ≤ k) (w : World) : Calls Try.prog 57 #[.agg #[.int .i64 0, .slice none 0 0, .slice none 0 0, .slice none 0 0], .int .i64 k] w fun e w' => e = .returned (.int .i64 k) ∧ Below w.heap.size w w' := by
  have hg : decide (k < 0) = false := by simp; omega
  go_enter Try.func57, Try.ntmps57
  go_wp2_with (first | (go_at_call 102; refine (heldStewServiceS_nil _ _).mono ?_; rintro e w' ⟨rfl, rfl⟩) | (go_at_call 103; refine (heldStewCopyS_nil _ _).mono ?_; rintro e w' ⟨rfl, rfl⟩) | (go_at_call 104; refine (heldStewBerthS_nil _ _).mono ?_; rintro e w' ⟨rfl, rfl⟩))
  go_ret
  exact ⟨rfl, one_al w _⟩
/-- the cells of a hall's book whose stewards' part is nothing -/
def hbL (B : Bk) (a0 : Option Addr) (k0 : Nat) (a1 : Option Addr) (k1 : Nat) (a2 : Option Addr) (k2 : Nat) (a3 : Option Addr) (k3 : Nat) : List Value := [.int .i64 B.now, .int .i64 B.tick, .int .i64 B.given, .slice a0 B.os.length k0, .slice a1 B.gs.length k1, .slice a2 B.ls.length k2, .slice a3 B.ps.length k3, .int .i64 0, .slice none 0 0, .slice none 0 0, .slice none 0 0]
def HbC (lo : Nat) (w : World) (cs : List Value) (B : Bk) : Prop := ∃ a0 k0 a1 k1 a2 k2 a3 k3, cs = hbL B a0 k0 a1 k1 a2 k2 a3 k3 ∧ BookAt lo w (.slice a0 B.os.length k0) (.slice a1 B.gs.length k1) (.slice a2 B.ls.length k2) (.slice a3 B.ps.length k3) B
def HbOwn (lo hi : Nat) (w : World) (cs : List Value) (B : Bk) : Prop := ∃ a0 k0 a1 k1 a2 k2 a3 k3, cs = hbL B a0 k0 a1 k1 a2 k2 a3 k3 ∧ BookOwn lo hi w (.slice a0 B.os.length k0) (.slice a1 B.gs.length k1) (.slice a2 B.ls.length k2) (.slice a3 B.ps.length k3) B
theorem HbC.below {lo : Nat} {w w' : World} {cs : List Value} {B : Bk} (h : HbC lo w cs B) (hb : Below w.heap.size w w') : HbC lo w' cs B := by
  obtain ⟨a0, k0, a1, k1, a2, k2, a3, k3, h1, h2⟩ := h
  exact ⟨a0, k0, a1, k1, a2, k2, a3, k3, h1, h2.below hb⟩
theorem HbC.mono {lo lo' : Nat} {w : World} {cs : List Value} {B : Bk} (h : HbC lo w cs B) (hl : lo' ≤ lo) : HbC lo' w cs B := by
  obtain ⟨a0, k0, a1, k1, a2, k2, a3, k3, h1, h2⟩ := h
  exact ⟨a0, k0, a1, k1, a2, k2, a3, k3, h1, h2.mono hl⟩
theorem HbC.len {lo : Nat} {w : World} {cs : List Value} {B : Bk} (h : HbC lo w cs B) : cs.length = 11 := by
  obtain ⟨a0, k0, a1, k1, a2, k2, a3, k3, h1, h2⟩ := h
  rw [h1]; rfl
theorem HbC.one {lo : Nat} {w : World} {cs : List Value} {B : Bk} (h : HbC lo w cs B) : Array.all cs.toArray (·.oneCell') = true := by
  obtain ⟨a0, k0, a1, k1, a2, k2, a3, k3, h1, h2⟩ := h
  rw [h1]
  unfold hbL
  simp [Value.oneCell']
theorem HbOwn.at {lo hi : Nat} {w : World} {cs : List Value} {B : Bk} (h : HbOwn lo hi w cs B) : HbC lo w cs B := by
  obtain ⟨a0, k0, a1, k1, a2, k2, a3, k3, h1, h2⟩ := h
  exact ⟨a0, k0, a1, k1, a2, k2, a3, k3, h1, h2.at⟩
theorem HbOwn.below {lo hi : Nat} {w w' : World} {cs : List Value} {B : Bk} (h : HbOwn lo hi w cs B) (hb : Below w.heap.size w w') : HbOwn lo hi w' cs B := by
  obtain ⟨a0, k0, a1, k1, a2, k2, a3, k3, h1, h2⟩ := h
  exact ⟨a0, k0, a1, k1, a2, k2, a3, k3, h1, h2.below hb⟩
theorem HbOwn.touch {lo hi lo' hi' : Nat} {w w' : World} {cs : List Value} {B : Bk} (h : HbOwn lo hi w cs B) (ht : Touch lo' hi' w w') (ho : hi ≤ lo' ∨ hi' ≤ lo) : HbOwn lo hi w' cs B := by
  obtain ⟨a0, k0, a1, k1, a2, k2, a3, k3, h1, h2⟩ := h
  exact ⟨a0, k0, a1, k1, a2, k2, a3, k3, h1, h2.touch ht ho⟩

set_option maxRecDepth 20000 in
set_option maxHeartbeats 8000000 in
theorem eqHb_c (lo lo' : Nat) (cs cs' : List Value) (B : Bk) (w : World) (h : HbC lo w cs B) (h' : HbC lo' w cs' B) :
    Calls Try.prog 19 #[.agg cs.toArray, .agg cs'.toArray] w fun e w' => e = .returned (.bool true) ∧ Below w.heap.size w w' := by
  obtain ⟨a0, k0, a1, k1, a2, k2, a3, k3, rfl, h⟩ := h
  obtain ⟨d0, e0, d1, e1, d2, e2, d3, e3, rfl, h'⟩ := h'
  show Calls Try.prog 19 #[.agg #[.int .i64 B.now, .int .i64 B.tick, .int .i64 B.given, .slice a0 B.os.length k0, .slice a1 B.gs.length k1, .slice a2 B.ls.length k2, .slice a3 B.ps.length k3, .int .i64 0, .slice none 0 0, .slice none 0 0, .slice none 0 0], .agg #[.int .i64 B.now, .int .i64 B.tick, .int .i64 B.given, .slice d0 B.os.length e0, .slice d1 B.gs.length e1, .slice d2 B.ls.length e2, .slice d3 B.ps.length e3, .int .i64 0, .slice none 0 0, .slice none 0 0, .slice none 0 0]] w _
  have HL := hide h
  have HR := hide h'
  clear h h'
  go_enter Try.func19, Try.ntmps19
  go_wp2_with fail
  generalize hWa : (World.alloc (w.alloc _) _) = Wa
  have HB : Hid (Below w.heap.size w Wa) := by unfold Hid; rw [← hWa]; exact (one_al w _).alloc (by simp) _
  have FX : Hid (Box Wa w.heap.size #[.int .i64 B.now, .int .i64 B.tick, .int .i64 B.given, .slice a0 B.os.length k0, .slice a1 B.gs.length k1, .slice a2 B.ls.length k2, .slice a3 B.ps.length k3, .int .i64 0, .slice none 0 0, .slice none 0 0, .slice none 0 0]) := by unfold Hid; rw [← hWa]; exact (Box.new _ _ _ _ rfl).on (one_al _ _)
  have FY : Hid (Box Wa (w.heap.size + 1) #[.int .i64 B.now, .int .i64 B.tick, .int .i64 B.given, .slice d0 B.os.length e0, .slice d1 B.gs.length e1, .slice d2 B.ls.length e2, .slice d3 B.ps.length e3, .int .i64 0, .slice none 0 0, .slice none 0 0, .slice none 0 0]) := by unfold Hid; rw [← hWa]; exact Box.new _ _ _ _ (by simp)
  clear hWa
  refine (eqBook_same lo _ _ _ _ B _ lo' _ _ _ _ (HL.out.below HB.out) (HR.out.below HB.out)).mono ?_
  rintro e w1 ⟨rfl, hb⟩
  replace HB := hide (bt HB.out hb)
  replace FX := hide (FX.out.on hb)
  replace FY := hide (FY.out.on hb)
  clear hb
  have g0 := FX.out.cell
  have g1 := FY.out.cell
  go_wp2_with fail
  clear g0 g1
  refine (eqStew_nil _).mono ?_
  rintro e w2 ⟨rfl, hb⟩
  replace HB := hide (bt HB.out hb)
  go_wp2
  go_ret
  exact ⟨rfl, HB.out⟩

set_option maxRecDepth 20000 in
set_option maxHeartbeats 8000000 in
theorem markHb_any (lo hi : Nat) (cs : List Value) (B : Bk) (k : Int) (w : World) (h : HbOwn lo hi w cs B) (hn : BookSmall B) (h0 : 0 ≤ k) (hk : k ≤ 1900000000000000000) (hhi : hi ≤ w.heap.size) :
    Calls Try.prog 20 #[.agg cs.toArray, .int .i64 k] w fun e w' => e = .returned (.int .i64 (endBk k B)) ∧ Touch lo hi w w' ∧ HbOwn lo hi w' cs (mkBk k B) := by
  obtain ⟨a0, k0, a1, k1, a2, k2, a3, k3, rfl, h⟩ := h
  have HE : Hid (hbL B a0 k0 a1 k1 a2 k2 a3 k3 = hbL (mkBk k B) a0 k0 a1 k1 a2 k2 a3 k3) := by
    unfold Hid hbL mkBk
    simp only [mkObs_len, mkGrs_len, mkLes_len, mkPus_len]
  show Calls Try.prog 20 #[.agg #[.int .i64 B.now, .int .i64 B.tick, .int .i64 B.given, .slice a0 B.os.length k0, .slice a1 B.gs.length k1, .slice a2 B.ls.length k2, .slice a3 B.ps.length k3, .int .i64 0, .slice none 0 0, .slice none 0 0, .slice none 0 0], .int .i64 k] w _
  have HL := hide h
  have HN := hide hn
  clear h
  go_enter Try.func20, Try.ntmps20
  go_wp2_with fail
  generalize hWa : w.alloc _ = Wa
  have HB : Hid (Below w.heap.size w Wa) := by unfold Hid; rw [← hWa]; exact one_al w _
  have FX : Hid (Box Wa w.heap.size #[.int .i64 B.now, .int .i64 B.tick, .int .i64 B.given, .slice a0 B.os.length k0, .slice a1 B.gs.length k1, .slice a2 B.ls.length k2, .slice a3 B.ps.length k3, .int .i64 0, .slice none 0 0, .slice none 0 0, .slice none 0 0]) := by unfold Hid; rw [← hWa]; exact Box.new _ _ _ _ rfl
  have hz : hi ≤ Wa.heap.size := by have := HB.out.size; omega
  clear hWa
  refine (markBook_any lo hi _ _ _ _ B _ k (HL.out.below HB.out) HN.out h0 hk hz).mono ?_
  rintro e w1 ⟨rfl, ht, ho⟩
  have HT : Hid (Touch lo hi w w1) := (Touch.below HB.out).trans ht
  replace FX := hide (FX.out.touch ht (by omega))
  have HO := hide ho
  clear ht ho hz
  generalize hqe : endBk k B = q
  have HQE := hide hqe
  clear hqe
  have g0 := FX.out.cell
  go_wp2_with fail
  clear g0
  refine (markStew_nil _ _).mono ?_
  rintro e w2 ⟨rfl, hb⟩
  replace HT : Hid (Touch lo hi w w2) := HT.out.trans (Touch.below hb)
  replace HO := hide (HO.out.below hb)
  go_wp2
  go_ret
  refine ⟨by rw [HQE.out]; rfl, HT.out, a0, k0, a1, k1, a2, k2, a3, k3, HE.out, ?_⟩
  have := HO.out
  simp only [mkBk, mkObs_len, mkGrs_len, mkLes_len, mkPus_len] at this ⊢
  exact this

set_option maxRecDepth 20000 in
set_option maxHeartbeats 8000000 in
theorem heldHb_any (lo hi : Nat) (cs : List Value) (B : Bk) (k : Int) (w : World) (h : HbOwn lo hi w cs (mkBk k B)) (hn : BookSmall B) (h0 : 0 ≤ k) (hk : k ≤ 1900000000000000000) :
    Calls Try.prog 21 #[.agg cs.toArray, .int .i64 k] w fun e w' => e = .returned (.int .i64 (endBk k B)) ∧ Below w.heap.size w w' := by
  obtain ⟨a0, k0, a1, k1, a2, k2, a3, k3, hc, h⟩ := h
  have hc : cs = hbL B a0 k0 a1 k1 a2 k2 a3 k3 := by
    rw [hc]
    unfold hbL mkBk
    simp only [mkObs_len, mkGrs_len, mkLes_len, mkPus_len]
  subst hc
  show Calls Try.prog 21 #[.agg #[.int .i64 B.now, .int .i64 B.tick, .int .i64 B.given, .slice a0 B.os.length k0, .slice a1 B.gs.length k1, .slice a2 B.ls.length k2, .slice a3 B.ps.length k3, .int .i64 0, .slice none 0 0, .slice none 0 0, .slice none 0 0], .int .i64 k] w _
  have h : BookOwn lo hi w (.slice a0 B.os.length k0) (.slice a1 B.gs.length k1) (.slice a2 B.ls.length k2) (.slice a3 B.ps.length k3) (mkBk k B) := by
    simp only [mkBk, mkObs_len, mkGrs_len, mkLes_len, mkPus_len] at h ⊢
    exact h
  have HL := hide h
  have HN := hide hn
  have hq : 0 ≤ endBk k B := by unfold endBk; omega
  clear h
  go_enter Try.func21, Try.ntmps21
  go_wp2_with fail
  generalize hWa : w.alloc _ = Wa
  have HB : Hid (Below w.heap.size w Wa) := by unfold Hid; rw [← hWa]; exact one_al w _
  have FX : Hid (Box Wa w.heap.size #[.int .i64 B.now, .int .i64 B.tick, .int .i64 B.given, .slice a0 B.os.length k0, .slice a1 B.gs.length k1, .slice a2 B.ls.length k2, .slice a3 B.ps.length k3, .int .i64 0, .slice none 0 0, .slice none 0 0, .slice none 0 0]) := by unfold Hid; rw [← hWa]; exact Box.new _ _ _ _ rfl
  clear hWa
  refine (heldBook_any lo hi _ _ _ _ B _ k (HL.out.below HB.out) HN.out h0 hk).mono ?_
  rintro e w1 ⟨rfl, hb⟩
  replace HB := hide (bt HB.out hb)
  replace FX := hide (FX.out.on hb)
  clear hb
  generalize hqe : endBk k B = q at *
  have HQE := hide hqe
  clear hqe
  have hg : decide (q < 0) = false := by simp; omega
  have g0 := FX.out.cell
  go_wp2_with fail
  clear g0
  refine (heldStew_nil _ hq _).mono ?_
  rintro e w2 ⟨rfl, hb⟩
  replace HB := hide (bt HB.out hb)
  go_wp2
  go_ret
  exact ⟨by rw [HQE.out]; rfl, HB.out⟩
end Go.Proofs.Ytmaagbnjpdijnaa

