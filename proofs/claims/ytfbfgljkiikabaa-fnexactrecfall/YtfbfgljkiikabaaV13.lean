import Derived.Test.YtfbfgljkiikabaaV11
import Derived.Test.YtfbfgljkiikabaaV12
namespace Go.Proofs.Ytfbfgljkiikabaa
open Go.RowKit Go.Deep

def tyL (s : ByteArray) : List Value := [.string s]
def inL (x : Int) : List Value := [.int .i64 x]
abbrev MX := Rm × Option Addr × Nat
abbrev AX := Ra × Option Addr × Nat
def mxL (x : MX) : List Value := rmL x.1 x.2.1 x.2.2
def axL (x : AX) : List Value := raL x.1 x.2.1 x.2.2
theorem tyL_len (s : ByteArray) : (tyL s).length = 1 := rfl
theorem inL_len (s : Int) : (inL s).length = 1 := rfl
theorem mxL_len (s : MX) : (mxL s).length = 8 := rfl
theorem axL_len (s : AX) : (axL s).length = 2 := rfl
theorem tyL_one (L : List ByteArray) : ∀ u ∈ flatV tyL L, u.oneCell' = true := fun u hu => by
  obtain ⟨x, -, hx⟩ := flatV_mem hu
  simp only [tyL, List.mem_cons, List.not_mem_nil, or_false] at hx
  rw [hx]; rfl
theorem inL_one (L : List Int) : ∀ u ∈ flatV inL L, u.oneCell' = true := fun u hu => by
  obtain ⟨x, -, hx⟩ := flatV_mem hu
  simp only [inL, List.mem_cons, List.not_mem_nil, or_false] at hx
  rw [hx]; rfl
theorem mxL_one (L : List MX) : ∀ u ∈ flatV mxL L, u.oneCell' = true := fun u hu => by
  obtain ⟨x, -, hx⟩ := flatV_mem hu
  simp only [mxL, rmL, List.mem_cons, List.not_mem_nil, or_false] at hx
  rcases hx with rfl | rfl | rfl | rfl | rfl | rfl | rfl | rfl <;> rfl
theorem axL_one (L : List AX) : ∀ u ∈ flatV axL L, u.oneCell' = true := fun u hu => by
  obtain ⟨x, -, hx⟩ := flatV_mem hu
  simp only [axL, raL, List.mem_cons, List.not_mem_nil, or_false] at hx
  rcases hx with rfl | rfl <;> rfl
theorem infoTx : (Try.prog.info? 9).map (fun i => (i.zero, i.size, i.bytes)) = some (some (.string ⟨#[]⟩), 1, 16) := by kernel_rfl
theorem infoIn : (Try.prog.info? 3).map (fun i => (i.zero, i.size, i.bytes)) = some (some (.int .i64 0), 1, 8) := by kernel_rfl
/-- what rows that grow say of memory -/
theorem FRow.rts {w : World} {lo hi : Nat} {v : Value} {L : List ByteArray} (h : FRow tyL 1 w lo hi v L) (hz : ∀ i (h : i < L.length), L[i].size ≤ maxLen) : RtsOwn lo hi w v L := by
  obtain ⟨g, cap, h1, h2⟩ := h
  by_cases hL : L = []
  · subst hL; exact Or.inl ⟨_, _, h1, rfl⟩
  · refine Or.inr ⟨g, 0, cap, h1, hL, Nat.le_trans h2.le h2.mx, h2.le, h2.lt, fun i hi => ⟨hz i hi, ?_⟩, h2.bs, h2.up, fun i => h2.fz _⟩
    have := h2.get tyL_len hi (t := 0) (by omega) (v := .string L[i]) rfl
    rwa [show i * 1 + 0 = 0 + i by omega] at this
theorem FRow.ris {w : World} {lo hi : Nat} {v : Value} {L : List Int} (h : FRow inL 1 w lo hi v L) : RisOwn lo hi w v L := by
  obtain ⟨g, cap, h1, h2⟩ := h
  by_cases hL : L = []
  · subst hL; exact Or.inl ⟨_, _, h1, rfl⟩
  · refine Or.inr ⟨g, 0, cap, h1, hL, Nat.le_trans h2.le h2.mx, h2.le, h2.lt, fun i hi => ?_, h2.bs, h2.up, fun i => h2.fz _⟩
    have := h2.get inL_len hi (t := 0) (by omega) (v := .int .i64 L[i]) rfl
    rwa [show i * 1 + 0 = 0 + i by omega] at this
theorem FRow.rss {w : World} {lo hi : Nat} {v : Value} {L : List Rs} (h : FRow rsL 2 w lo hi v L) (hz : ∀ i (h : i < L.length), RsSize L[i]) : RssOwn lo hi w v L := by
  obtain ⟨g, cap, h1, h2⟩ := h
  by_cases hL : L = []
  · subst hL; exact Or.inl ⟨_, _, h1, rfl⟩
  · have h0 : 0 < L.length := List.length_pos_iff.2 hL
    refine Or.inr ⟨g, 0, cap, fun _ => g + 1, fun i => if h : i < L.length then L[i] else L[0], h1, hL, Nat.le_trans h2.le h2.mx, h2.le, fun i hi => by simp [hi], h2.lt, h2.bs, Nat.lt_succ_self _, h2.up, fun _ _ => Nat.le_refl _, h2.up, h2.fz, fun i hi => ?_⟩
    simp only [hi, dif_pos]
    have e0 := h2.get rsL_len hi (t := 0) (by omega) (v := .int .i64 L[i].ba) rfl
    have e1 := h2.get rsL_len hi (t := 1) (by omega) (v := .string L[i].tx) rfl
    exact ⟨hz i hi, ⟨by rw [Nat.zero_add]; exact e0, by rw [Nat.zero_add]; exact e1⟩⟩
theorem FRow.rms {w : World} {lo hi lo' : Nat} {v : Value} {L : List MX} (h : FRow mxL 8 w lo hi v L) (hlo : lo' ≤ lo) (hz : ∀ i (h : i < L.length), RssAt lo' w (.slice L[i].2.1 L[i].1.sl.length L[i].2.2) L[i].1.sl ∧ L[i].1.tx.size ≤ maxLen) : RmsAt lo' w v (L.map (·.1)) := by
  obtain ⟨g, cap, h1, h2⟩ := h
  by_cases hL : L = []
  · subst hL; exact Or.inl ⟨_, _, h1, rfl⟩
  · refine Or.inr ⟨g, 0, cap, by rw [List.length_map]; exact h1, by simpa using hL, by rw [List.length_map]; exact Nat.le_trans h2.le h2.mx, h2.lt, Nat.le_trans hlo h2.bs, by rw [List.length_map]; exact h2.le, fun i hi => ?_⟩
    rw [List.length_map] at hi
    obtain ⟨z1, z2⟩ := hz i hi
    refine ⟨mxL L[i], fun j u hu => ?_, L[i].2.1, L[i].2.2, by simp [mxL], by simp only [List.getElem_map]; exact ⟨z1, z2⟩⟩
    have hj : j < 8 := by have := (List.getElem?_eq_some_iff.1 hu).1; rwa [mxL_len] at this
    have := h2.get mxL_len hi hj hu
    rwa [show 0 + i * 8 + j = i * 8 + j by omega]
theorem FRow.ras {w : World} {lo hi lo' : Nat} {v : Value} {L : List AX} (h : FRow axL 2 w lo hi v L) (hlo : lo' ≤ lo) (hz : ∀ i (h : i < L.length), RisAt lo' w (.slice L[i].2.1 L[i].1.fr.length L[i].2.2) L[i].1.fr) : RasAt lo' w v (L.map (·.1)) := by
  obtain ⟨g, cap, h1, h2⟩ := h
  by_cases hL : L = []
  · subst hL; exact Or.inl ⟨_, _, h1, rfl⟩
  · refine Or.inr ⟨g, 0, cap, by rw [List.length_map]; exact h1, by simpa using hL, by rw [List.length_map]; exact Nat.le_trans h2.le h2.mx, h2.lt, Nat.le_trans hlo h2.bs, by rw [List.length_map]; exact h2.le, fun i hi => ?_⟩
    rw [List.length_map] at hi
    refine ⟨axL L[i], fun j u hu => ?_, L[i].2.1, L[i].2.2, by simp [axL], by simp only [List.getElem_map]; exact ⟨hz i hi⟩⟩
    have hj : j < 2 := by have := (List.getElem?_eq_some_iff.1 hu).1; rwa [axL_len] at this
    have := h2.get axL_len hi hj hu
    rwa [show 0 + i * 2 + j = i * 2 + j by omega]
/-- sources of an append -/
theorem RtsAt.src {lo : Nat} {w : World} {ao : Option Addr} {n cap : Nat} {L : List ByteArray} (h : RtsAt lo w (.slice ao n cap) L) : ∀ ad, ao = some ad → ∀ j u, (flatV tyL L)[j]? = some u → w.cell? (ad.add j) = some u := by
  rintro ad rfl j u hu
  have hj := (List.getElem?_eq_some_iff.1 hu).1
  rw [flatV_len tyL_len] at hj
  obtain ⟨b, off, e, -, -, hc⟩ := h.full' (by omega)
  injection e with e
  subst e
  have := flatV_get tyL_len L j 0 (by omega) (by omega)
  rw [show j * 1 + 0 = j by omega, hu] at this
  have hu' : u = .string (L[j]'(by omega)) := by simpa [tyL] using this
  rw [hu', Addr.add_lit]
  exact (hc j (by omega)).2
theorem RisAt.src {lo : Nat} {w : World} {ao : Option Addr} {n cap : Nat} {L : List Int} (h : RisAt lo w (.slice ao n cap) L) : ∀ ad, ao = some ad → ∀ j u, (flatV inL L)[j]? = some u → w.cell? (ad.add j) = some u := by
  rintro ad rfl j u hu
  have hj := (List.getElem?_eq_some_iff.1 hu).1
  rw [flatV_len inL_len] at hj
  obtain ⟨b, off, e, -, -, hc⟩ := h.full' (by omega)
  injection e with e
  subst e
  have := flatV_get inL_len L j 0 (by omega) (by omega)
  rw [show j * 1 + 0 = j by omega, hu] at this
  have hu' : u = .int .i64 (L[j]'(by omega)) := by simpa [inL] using this
  rw [hu', Addr.add_lit]
  exact (hc j (by omega)).2
theorem RtsAt.nilN {lo : Nat} {w : World} {ao : Option Addr} {n cap : Nat} {L : List ByteArray} (h : RtsAt lo w (.slice ao n cap) L) : ao = none → L.length = 0 := by
  rintro rfl
  rcases h with ⟨_, _, _, rfl⟩ | ⟨_, _, _, h1, _⟩
  · rfl
  · injection h1 with e; cases e
theorem RisAt.nilN {lo : Nat} {w : World} {ao : Option Addr} {n cap : Nat} {L : List Int} (h : RisAt lo w (.slice ao n cap) L) : ao = none → L.length = 0 := by
  rintro rfl
  rcases h with ⟨_, _, _, rfl⟩ | ⟨_, _, _, h1, _⟩
  · rfl
  · injection h1 with e; cases e
theorem RtsAt.sizes {lo : Nat} {w : World} {v : Value} {L : List ByteArray} (h : RtsAt lo w v L) : ∀ i (hi : i < L.length), L[i].size ≤ maxLen := by
  intro i hi
  obtain ⟨_, _, _, _, _, _, _, hc⟩ := h.full (fun e => by rw [e] at hi; simp at hi)
  exact (hc i hi).1
/-- a row that was new at w and is of one's own now -/
theorem FRow.fresh {X : Type} {f : X → List Value} {n : Nat} {w w' : World} {v : Value} {L : List X} (h : FRow f n w' w.heap.size (w.heap.size + 1) v L ∨ FRow f n w' (w.heap.size + 1) w'.heap.size v L) (hs : w.heap.size + 1 ≤ w'.heap.size) : FRow f n w' w.heap.size w'.heap.size v L := by
  rcases h with h | h
  · exact h.wide (Nat.le_refl _) hs
  · exact h.wide (by omega) (Nat.le_refl _)

set_option maxRecDepth 20000 in
set_option maxHeartbeats 4000000 in
theorem slotsF_any (lo : Nat) (v : Value) (L : List Rs) (w : World) (hv : RssAt lo w v L) (hn : L.length ≤ 1048576) :
    Calls Try.prog 68 #[v] w fun e w' => ∃ v', e = .returned v' ∧ Below w.heap.size w w' ∧ FRow rsL 2 w' w.heap.size w'.heap.size v' L := by
  have HV := hide hv
  obtain ⟨a, cap, rfl⟩ := hv.form
  clear hv
  have HO : ∀ o, Hid (Below w.heap.size w (w.alloc o)) := fun o => one_al w o
  go_enter Try.func68, Try.ntmps68
  go_wp2_with (at_builtin; refine wpList_fr rsL_len (by decide) Try.underlying34 infoRs rfl (w := w.alloc _) (lo := w.heap.size) (hi' := w.heap.size + 1) (L := []) L rfl (.tmp 3) (.tmp 4) rfl rfl ⟨w.heap.size, 0, rfl, fr_new rsL 2 w _ _ 0 rfl (Nat.zero_le _)⟩ a L.length cap rfl rfl (fun e => HV.out.nilN e) ((HV.out.below (HO _).out).src) (rsL_one L) (by simp; omega) (by decide) ?_; intro v' w' h1 h2; have H1 := hide h1; have H2 := hide h2; clear h1 h2)
  go_ret
  have hsz : w.heap.size + 1 ≤ w'.heap.size := by have := H1.out.size; simp at this; omega
  refine ⟨v', rfl, (HO _).out.trans (H1.out.under (by simp)), ?_⟩
  have h2 := H2.out
  rw [List.nil_append] at h2
  exact FRow.fresh (by simpa using h2) hsz
end Go.Proofs.Ytfbfgljkiikabaa
namespace Go.Proofs.Ytfbfgljkiikabaa
open Go.RowKit Go.Deep

theorem RmsAt.full {lo : Nat} {w : World} {v : Value} {Xl : List Rm} (h : RmsAt lo w v Xl) (hne : Xl ≠ []) : ∃ (b off cap : Nat), v = .slice (some ⟨b, off, none⟩) Xl.length cap ∧ Xl.length ≤ maxLen ∧ b < w.heap.size ∧ Xl.length ≤ cap ∧
    ∀ i (h : i < Xl.length), RmSize Xl[i] ∧ ∃ vv0, RmCells w b (off + i * 8) Xl[i] vv0 ∧ RssAt lo w vv0 Xl[i].sl := by
  rcases h with ⟨_, _, _, h⟩ | ⟨b, off, cap, h1, _, h3, h4, _, h6, h7⟩
  · exact absurd h hne
  · refine ⟨b, off, cap, h1, h3, h4, h6, fun i hi => ?_⟩
    obtain ⟨cs, hr, a0, k0, rfl, hf⟩ := h7 i hi
    exact ⟨⟨hf.s0⟩, .slice a0 Xl[i].sl.length k0, ⟨hr 0 _ rfl, hr 1 _ rfl, hr 2 _ rfl, hr 3 _ rfl, hr 4 _ rfl, hr 5 _ rfl, hr 6 _ rfl, hr 7 _ rfl⟩, hf.l0⟩
def RmsFillO (wr : World) (B : Nat) (Xl : List Rm) (k : Nat) (c : Nat → Nat) : Prop :=
  B < c 0 ∧ (∀ i, i < k → c i ≤ c (i + 1)) ∧ c k ≤ wr.heap.size ∧ ∃ f, wr.rowIs B 92 (Xl.length * 8) f ∧ ∀ i (h : i < Xl.length), i < k → RmSize Xl[i] ∧ ∃ (vv0 : Value), (c i) ≤ (c (i + 1)) ∧ f (i * 8) = .int .i64 Xl[i].kd ∧ f (i * 8 + 1) = .int .i64 Xl[i].fr ∧ f (i * 8 + 2) = .int .i64 Xl[i].tt ∧ f (i * 8 + 3) = .int .i64 Xl[i].ba ∧ f (i * 8 + 4) = .int .i64 Xl[i].ix ∧ f (i * 8 + 5) = .int .i64 Xl[i].kn ∧ f (i * 8 + 6) = .string Xl[i].tx ∧ f (i * 8 + 7) = vv0 ∧ RssOwn (c i) (c (i + 1)) wr vv0 Xl[i].sl
theorem RmsFillO.le {wr : World} {B : Nat} {Xl : List Rm} {k : Nat} {c : Nat → Nat} (h : RmsFillO wr B Xl k c) {i : Nat} : ∀ {j : Nat}, i ≤ j → j ≤ k → c i ≤ c j := by
  intro j
  induction j with
  | zero => intro hij _; have : i = 0 := by omega
            subst this; exact Nat.le_refl _
  | succ j ih =>
    intro hij hjn
    by_cases e : i = j + 1
    · subst e; exact Nat.le_refl _
    · exact Nat.le_trans (ih (by omega) (by omega)) (h.2.1 j (by omega))
theorem RmsFillO.below {wr w1 : World} {B : Nat} {Xl : List Rm} {k : Nat} {c : Nat → Nat} (h : RmsFillO wr B Xl k c) (hb : Below wr.heap.size wr w1) : RmsFillO w1 B Xl k c := by
  obtain ⟨g1, g2, g3, f, hr, hall⟩ := h
  refine ⟨g1, g2, Nat.le_trans g3 hb.size, f, hr.of_block (hb.block B hr.lt), fun i hi hik => ?_⟩
  obtain ⟨hz, vv0, q0, h0, h1, h2, h3, h4, h5, h6, h7, l0⟩ := hall i hi hik
  exact ⟨hz, vv0, q0, h0, h1, h2, h3, h4, h5, h6, h7, l0.below hb⟩
theorem RmsFillO.free {wr : World} {B : Nat} {Xl : List Rm} {k : Nat} {c : Nat → Nat} (h : RmsFillO wr B Xl k c) (i : Nat) : wr.frozen? ⟨B, i, none⟩ = false := by
  obtain ⟨_, _, _, f, hr, _⟩ := h
  exact hr.frozen i
theorem RmsFillO.there {wr : World} {B : Nat} {Xl : List Rm} {k : Nat} {c : Nat → Nat} (h : RmsFillO wr B Xl k c) (i : Nat) (hi : i < Xl.length * 8) : ∃ v, wr.cell? ⟨B, i, none⟩ = some v := by
  obtain ⟨_, _, _, f, hr, _⟩ := h
  exact ⟨_, hr.cell hi⟩
theorem RmsFillO.lt {wr : World} {B : Nat} {Xl : List Rm} {k : Nat} {c : Nat → Nat} (h : RmsFillO wr B Xl k c) : B < wr.heap.size := by
  obtain ⟨_, _, _, f, hr, _⟩ := h
  exact hr.lt
theorem RmsFillO.step {w1 : World} {B : Nat} {Xl : List Rm} {k : Nat} {c : Nat → Nat} {vv0 : Value} (h : RmsFillO w1 B Xl k c) (hk : k < Xl.length) (hz : RmSize Xl[k]) (d : Nat) (hd0 : c k ≤ d) (hd : d ≤ w1.heap.size) (r0 : (c k) ≤ d) (e0 : RssOwn (c k) d w1 vv0 Xl[k].sl) :
    RmsFillO ((((((((w1.setCell ⟨B, k * 8, none⟩ (.int .i64 Xl[k].kd)).setCell ⟨B, k * 8 + 1, none⟩ (.int .i64 Xl[k].fr)).setCell ⟨B, k * 8 + 2, none⟩ (.int .i64 Xl[k].tt)).setCell ⟨B, k * 8 + 3, none⟩ (.int .i64 Xl[k].ba)).setCell ⟨B, k * 8 + 4, none⟩ (.int .i64 Xl[k].ix)).setCell ⟨B, k * 8 + 5, none⟩ (.int .i64 Xl[k].kn)).setCell ⟨B, k * 8 + 6, none⟩ (.string Xl[k].tx)).setCell ⟨B, k * 8 + 7, none⟩ (vv0)) B Xl (k + 1) (fun j => if j ≤ k then c j else d) := by
  have hle := fun i (hi : i ≤ k) => h.le (i := 0) (j := i) (Nat.zero_le _) hi
  have hle2 := fun i (hi : i < k) => h.le (i := i + 1) (j := k) (by omega) (Nat.le_refl _)
  obtain ⟨g1, g2, g3, f, hr, hall⟩ := h
  have hts : Touch B (B + 1) w1 ((((((((w1.setCell ⟨B, k * 8, none⟩ (.int .i64 Xl[k].kd)).setCell ⟨B, k * 8 + 1, none⟩ (.int .i64 Xl[k].fr)).setCell ⟨B, k * 8 + 2, none⟩ (.int .i64 Xl[k].tt)).setCell ⟨B, k * 8 + 3, none⟩ (.int .i64 Xl[k].ba)).setCell ⟨B, k * 8 + 4, none⟩ (.int .i64 Xl[k].ix)).setCell ⟨B, k * 8 + 5, none⟩ (.int .i64 Xl[k].kn)).setCell ⟨B, k * 8 + 6, none⟩ (.string Xl[k].tx)).setCell ⟨B, k * 8 + 7, none⟩ (vv0)) := (((((((Touch.setB B _ _ _).trans (Touch.setB B _ _ _)).trans (Touch.setB B _ _ _)).trans (Touch.setB B _ _ _)).trans (Touch.setB B _ _ _)).trans (Touch.setB B _ _ _)).trans (Touch.setB B _ _ _)).trans (Touch.setB B _ _ _)
  refine ⟨by simpa using g1, fun i hi => ?_, ?_, _, ((((((((hr.set _ _).set _ _).set _ _).set _ _).set _ _).set _ _).set _ _).set _ _), fun i hi hik => ?_⟩
  · dsimp only
    by_cases e : i = k
    · subst e; rw [if_pos (Nat.le_refl _), if_neg (by omega)]; exact hd0
    · rw [if_pos (by omega), if_pos (by omega)]; exact g2 i (by omega)
  · dsimp only; rw [if_neg (by omega)]; exact Nat.le_trans hd hts.size
  by_cases e : i = k
  · subst e
    dsimp only
    rw [if_pos (Nat.le_refl _), if_neg (by omega)]
    have hb0 := hle i (Nat.le_refl _)
    exact ⟨hz, vv0, r0, by simp, by simp, by simp, by simp, by simp, by simp, by simp, by simp, e0.touch hts (by omega)⟩
  · dsimp only
    rw [if_pos (by omega), if_pos (by omega)]
    have hb0 := hle i (by omega)
    obtain ⟨hz, vv0, q0, h0, h1, h2, h3, h4, h5, h6, h7, l0⟩ := hall i hi (by omega)
    refine ⟨hz, vv0, q0, ?_, ?_, ?_, ?_, ?_, ?_, ?_, ?_, l0.touch hts (by omega)⟩
    · rw [if_neg (by omega), if_neg (by omega), if_neg (by omega), if_neg (by omega), if_neg (by omega), if_neg (by omega), if_neg (by omega), if_neg (by omega)]; exact h0
    · rw [if_neg (by omega), if_neg (by omega), if_neg (by omega), if_neg (by omega), if_neg (by omega), if_neg (by omega), if_neg (by omega), if_neg (by omega)]; exact h1
    · rw [if_neg (by omega), if_neg (by omega), if_neg (by omega), if_neg (by omega), if_neg (by omega), if_neg (by omega), if_neg (by omega), if_neg (by omega)]; exact h2
    · rw [if_neg (by omega), if_neg (by omega), if_neg (by omega), if_neg (by omega), if_neg (by omega), if_neg (by omega), if_neg (by omega), if_neg (by omega)]; exact h3
    · rw [if_neg (by omega), if_neg (by omega), if_neg (by omega), if_neg (by omega), if_neg (by omega), if_neg (by omega), if_neg (by omega), if_neg (by omega)]; exact h4
    · rw [if_neg (by omega), if_neg (by omega), if_neg (by omega), if_neg (by omega), if_neg (by omega), if_neg (by omega), if_neg (by omega), if_neg (by omega)]; exact h5
    · rw [if_neg (by omega), if_neg (by omega), if_neg (by omega), if_neg (by omega), if_neg (by omega), if_neg (by omega), if_neg (by omega), if_neg (by omega)]; exact h6
    · rw [if_neg (by omega), if_neg (by omega), if_neg (by omega), if_neg (by omega), if_neg (by omega), if_neg (by omega), if_neg (by omega), if_neg (by omega)]; exact h7
theorem RmsFillO.own {wr : World} {B : Nat} {Xl : List Rm} {k : Nat} {c : Nat → Nat} (h : RmsFillO wr B Xl k c) (hk : k = Xl.length) (hne : Xl ≠ []) (hm : Xl.length ≤ maxLen) : RmsOwn B wr.heap.size wr (.slice (some ⟨B, 0, none⟩) Xl.length Xl.length) Xl := by
  subst hk
  have hle := fun i (hi : i ≤ Xl.length) => h.le (i := 0) (j := i) (Nat.zero_le _) hi
  have hle2 := fun i (hi : i < Xl.length) => h.le (i := i + 1) (j := Xl.length) (by omega) (Nat.le_refl _)
  have hle3 := fun i j (hi : i < j) (hj : j < Xl.length) => h.le (i := i + 1) (j := j) (by omega) (by omega)
  obtain ⟨g1, g2, g3, f, hr, hall⟩ := h
  have h0 : 0 < Xl.length := List.length_pos_iff.2 hne
  refine Or.inr ⟨B, 0, Xl.length, fun i => (c i, c (i + 1)), fun i => if h : i < Xl.length then Xl[i] else Xl[0], rfl, hne, hm, Nat.le_refl _, fun i hi => by simp [hi], hr.lt, Nat.le_refl _, hr.lt, fun i hi => ⟨by have := hle i (by omega); simp only []; omega, by have := hle2 i hi; simp only []; omega, Or.inl (by have := hle i (by omega); simp only []; omega)⟩, fun i j hi hj hne => by
    rcases Nat.lt_or_ge i j with h | h
    · exact Or.inl (hle3 i j h hj)
    · exact Or.inr (hle3 j i (by omega) hi), fun i => hr.frozen i, fun i hi => ?_⟩
  obtain ⟨hz, vv0, q0, h0, h1, h2, h3, h4, h5, h6, h7, l0⟩ := hall i hi hi
  simp only [hi, dif_pos]
  rw [Nat.zero_add]
  exact ⟨hz, vv0, q0, ⟨by rw [hr.cell (by omega), h0], by rw [hr.cell (by omega), h1], by rw [hr.cell (by omega), h2], by rw [hr.cell (by omega), h3], by rw [hr.cell (by omega), h4], by rw [hr.cell (by omega), h5], by rw [hr.cell (by omega), h6], by rw [hr.cell (by omega), h7]⟩, l0⟩
theorem RmsFillO.new (w : World) (Xl : List Rm) (z : Array Value) : RmsFillO (w.alloc (.cells (madeCells z (Xl.length * 8)) 92)) w.heap.size Xl 0 (fun _ => w.heap.size + 1) := by
  refine ⟨Nat.lt_succ_self _, fun i hi => by omega, by simp, fun i => (madeCells z (Xl.length * 8)).getD i default, ?_, fun i _ h => by omega⟩
  have := World.rowIs_alloc w (madeCells z (Xl.length * 8)) 92 (fun i => (madeCells z (Xl.length * 8)).getD i default) (fun i hi => by simp [Array.getD, hi])
  rwa [size_madeCells] at this
set_option maxHeartbeats 4000000 in
theorem toRmsO_any (lo : Nat) (v : Value) (Xl : List Rm) (w : World) (hv : RmsAt lo w v Xl) (hn : RmsSmall Xl) :
    Calls Try.prog 29 #[v] w fun e w' => ∃ v', e = .returned v' ∧ Below w.heap.size w w' ∧ RmsOwn w.heap.size w'.heap.size w' v' Xl := by
  obtain ⟨i0, hi, hz0, hz1, hz2⟩ := info_parts Rm_info
  have HSM := hide hn.2
  have hn1 := hn.1
  clear hn
  by_cases hL : Xl = []
  · subst hL
    obtain ⟨a, cap, rfl⟩ := hv.form
    clear hv
    have hmk : ∀ u : World, (Instr.makeSlice 37 (.int .i64 0) (.int .i64 0)).run Try.prog u = .ok (.slice (some ⟨u.heap.size, 0, none⟩) 0 0) (u.alloc (.cells (madeCells (Value.cells (.agg #[.int .i64 0, .int .i64 0, .int .i64 0, .int .i64 0, .int .i64 0, .int .i64 0, .string ⟨#[]⟩, .slice none 0 0])) 0) 92)) := fun u => by
      have h := run_make (P := Try.prog) u 37 92 i0 _ Try.underlying37 hi hz0 .i64 .i64 0 0 (by omega) (by omega) (by omega) (by omega)
      simpa [hz1] using h
    go_enter Try.func29, Try.ntmps29
    go_wp2
    go_loop [4] (fun i => i = .int .i64 0) (fun _ => 0)
    case atStart => rfl
    case round =>
      subst hrel
      go_wp2
      go_ret
      exact ⟨_, rfl, (Below.refl _ _).alloc (Nat.le_refl _) _, Or.inl ⟨_, _, rfl, rfl⟩⟩
  · obtain ⟨b, off, cap, rfl, hm, hbw, _, hc⟩ := hv.full hL
    clear hv
    have HM : Hid (Xl.length ≤ maxLen) := hm
    unfold maxLen at hm
    have hmk : ∀ u : World, (Instr.makeSlice 37 (.int .i64 (Xl.length : Int)) (.int .i64 (Xl.length : Int))).run Try.prog u = .ok (.slice (some ⟨u.heap.size, 0, none⟩) Xl.length Xl.length) (u.alloc (.cells (madeCells (Value.cells (.agg #[.int .i64 0, .int .i64 0, .int .i64 0, .int .i64 0, .int .i64 0, .int .i64 0, .string ⟨#[]⟩, .slice none 0 0])) (Xl.length * 8)) 92)) := fun u => by
      have h := run_make (P := Try.prog) u 37 92 i0 _ Try.underlying37 hi hz0 .i64 .i64 Xl.length Xl.length (by omega) (by omega) (by rw [hz2]; omega) (by omega)
      rw [hz1] at h
      simpa using h
    clear hi hz0 hz1 hz2
    go_enter Try.func29, Try.ntmps29
    go_wp2
    clear hmk
    go_loopw [4] (fun i wr => ∃ (k : Nat) (c : Nat → Nat), i = .int .i64 k ∧ k ≤ Xl.length ∧ Below w.heap.size w wr ∧ RmsFillO wr w.heap.size Xl k c) (fun i _ => Xl.length - (intOf i).toNat)
    case atStart => exact ⟨0, _, rfl, by omega, (Below.refl _ _).alloc (Nat.le_refl _) _, RmsFillO.new w Xl _⟩
    case round =>
      obtain ⟨k, c, rfl, hk, hb, hf⟩ := hrel
      by_cases hlt : k < Xl.length
      · obtain ⟨hs, vv0, hc, hv0⟩ := hc k hlt
        have HB := hide hb
        have HF := hide hf
        have HSZ := hide hs
        obtain ⟨x0, y0, rfl⟩ := hv0.form
        obtain ⟨c0, c1, c2, c3, c4, c5, c6, c7⟩ := hc.below hb hbw
        have HV0 := hide (hv0.below hb)
        clear hv0
        clear hc hb hf hs
        go_wp2_with fail
        refine (toRmO_any 0 _ Xl[k] _ ⟨_, _, rfl, ⟨HV0.out.mono (Nat.zero_le _), HSZ.out.s0⟩⟩ (HSM.out k hlt)).mono ?_
        rintro e w1 ⟨s0, t0, rfl, hb1, hO0⟩
        rw [show (rmL Xl[k] s0 t0).toArray = #[.int .i64 Xl[k].kd, .int .i64 Xl[k].fr, .int .i64 Xl[k].tt, .int .i64 Xl[k].ba, .int .i64 Xl[k].ix, .int .i64 Xl[k].kn, .string Xl[k].tx, .slice s0 Xl[k].sl.length t0] from rfl]
        have hf1 := HF.out.below hb1
        have hB : Hid (Below w.heap.size w w1) := HB.out.trans (hb1.mono HB.out.size)
        have HST := hide (hf1.step hlt HSZ.out w1.heap.size (Nat.le_trans HF.out.2.2.1 hb1.size) (Nat.le_refl _) (Nat.le_trans HF.out.2.2.1 hb1.size) (hO0.wide HF.out.2.2.1 (Nat.le_refl _)))
        have hfr := hf1.free
        obtain ⟨o0, ho0⟩ := hf1.there (k * 8) (by omega)
        obtain ⟨o1, ho1⟩ := hf1.there (k * 8 + 1) (by omega)
        obtain ⟨o2, ho2⟩ := hf1.there (k * 8 + 2) (by omega)
        obtain ⟨o3, ho3⟩ := hf1.there (k * 8 + 3) (by omega)
        obtain ⟨o4, ho4⟩ := hf1.there (k * 8 + 4) (by omega)
        obtain ⟨o5, ho5⟩ := hf1.there (k * 8 + 5) (by omega)
        obtain ⟨o6, ho6⟩ := hf1.there (k * 8 + 6) (by omega)
        obtain ⟨o7, ho7⟩ := hf1.there (k * 8 + 7) (by omega)
        clear hf1 hb1 HF HB c0 c1 c2 c3 c4 c5 c6 c7
        go_wp2
        go_roundw
        case rel =>
          exact ⟨k + 1, _, by go_num, by omega, ((((((((hB.out.setCell (Nat.le_refl _) _).setCell (Nat.le_refl _) _).setCell (Nat.le_refl _) _).setCell (Nat.le_refl _) _).setCell (Nat.le_refl _) _).setCell (Nat.le_refl _) _).setCell (Nat.le_refl _) _).setCell (Nat.le_refl _) _), HST.out⟩
        case measure => simp [intOf]; omega
      · have e : k = Xl.length := by omega
        go_wp2
        go_ret
        exact ⟨_, rfl, hb, hf.own e hL HM.out⟩
end Go.Proofs.Ytfbfgljkiikabaa
namespace Go.Proofs.Ytfbfgljkiikabaa
open Go.RowKit Go.Deep

set_option maxRecDepth 20000 in
set_option maxHeartbeats 16000000 in
theorem toRdO_any (lo : Nat) (cs : List Value) (U : Rd) (w : World) (h : RdC lo w cs U) (hn : RdSmall U) :
    Calls Try.prog 28 #[.agg cs.toArray] w
      fun e w' => ∃ b0 m0, e = .returned (.agg (rdL U b0 m0).toArray) ∧ Below w.heap.size w w' ∧ RssOwn w.heap.size w'.heap.size w' (.slice b0 U.sl.length m0) U.sl := by
  obtain ⟨a0, k0, rfl, h⟩ := h
  show Calls Try.prog 28 #[.agg #[.int .i64 U.pr, .int .i64 U.kn, .slice a0 U.sl.length k0]] w _
  have HL := hide h
  have hn0 := hn
  clear h
  go_enter Try.func28, Try.ntmps28
  go_wp2_with fail
  obtain ⟨wz, hwz, FX, FR, FO, HB⟩ : ∃ wz, wz = ((w.alloc (.cells #[.int .i64 U.pr, .int .i64 U.kn, .slice a0 U.sl.length k0] 26)).alloc (.cells #[.int .i64 0, .int .i64 0, .slice none 0 0] 36)).alloc (.cells #[.int .i64 U.pr, .int .i64 U.kn, .slice none 0 0] 36) ∧
      Hid (Box wz w.heap.size #[.int .i64 U.pr, .int .i64 U.kn, .slice a0 U.sl.length k0]) ∧ Hid (Box wz (w.heap.size + 1) #[.int .i64 0, .int .i64 0, .slice none 0 0]) ∧ Hid (Box wz (w.heap.size + 1 + 1) #[.int .i64 U.pr, .int .i64 U.kn, .slice none 0 0]) ∧ Hid (Below w.heap.size w wz) :=
    ⟨_, rfl, ((Box.new w _ _ _ rfl).on (one_al _ _)).on (one_al _ _), (Box.new _ _ _ _ (by simp)).on (one_al _ _), Box.new _ _ _ _ (by simp), ((one_al _ _).trans ((one_al _ _).mono (by simp))).trans ((one_al _ _).mono (by simp; omega))⟩
  rw [← hwz]
  clear hwz
  generalize wz = v0 at *
  have hz0 : w.heap.size + 3 ≤ v0.heap.size := by have := FO.out.lt; omega
  refine (toRssO_any lo _ U.sl _ ((HL.out.below HB.out).l0) hn0).mono ?_
  rintro e x0 ⟨u, rfl, hb, hs⟩
  obtain ⟨b0, m0, rfl⟩ := hs.form
  have N0 := hide (hs.wide hz0 (Nat.le_refl _))
  replace FX := hide (FX.out.on hb)
  replace FR := hide (FR.out.on hb)
  replace FO := hide (FO.out.on hb)
  replace HB := hide (bt HB.out hb)
  clear hb hs hz0
  have g0 := FO.out.cell
  have g1 := FO.out.free
  have g2 := FR.out.cell
  have g3 := FR.out.free
  have g4 := FX.out.cell
  go_wp2
  refine bodyPost_ret (v := .agg #[.int .i64 U.pr, .int .i64 U.kn, .slice b0 U.sl.length m0]) (by simp [results, Try.results28, go_sem, g2]) rfl ⟨b0, m0, rfl, ?_, ?_⟩
  · repeat (refine Below.setCell ?_ (by simp only []; omega) _)
    exact HB.out
  · refine RssOwn.wide (lo := w.heap.size + 3) (hi := x0.heap.size) ?_ (by omega) (by simp [World.setCell])
    repeat (refine RssOwn.set ?_ (by simp only []; omega) _)
    exact N0.out
end Go.Proofs.Ytfbfgljkiikabaa
