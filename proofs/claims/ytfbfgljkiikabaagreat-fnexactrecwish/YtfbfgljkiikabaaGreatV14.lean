import Derived.Test.YtfbfgljkiikabaaGreatV10
import Derived.Test.YtfbfgljkiikabaaGreatV11
import Derived.Test.YtfbfgljkiikabaaGreatV13
import Derived.Deep.DeepCutAuto
namespace Go.Proofs.YtfbfgljkiikabaaGreat
open Go.RowKit Go.Deep

set_option maxRecDepth 20000 in
set_option maxHeartbeats 16000000 in
theorem toRaO_any (lo : Nat) (cs : List Value) (U : Ra) (w : World) (h : RaC lo w cs U) (hn : RaSmall U) :
    Calls Tryz.prog 89 #[.agg cs.toArray] w
      fun e w' => ∃ b0 m0, e = .returned (.agg (raL U b0 m0).toArray) ∧ Below w.heap.size w w' ∧ RisOwn w.heap.size w'.heap.size w' (.slice b0 U.fr.length m0) U.fr := by
  obtain ⟨a0, k0, rfl, h⟩ := h
  show Calls Tryz.prog 89 #[.agg #[.int .i64 U.ix, .slice a0 U.fr.length k0]] w _
  have HL := hide h
  have hn0 := hn
  clear h
  go_enter Tryz.func89, Tryz.ntmps89
  go_wp2_with fail
  obtain ⟨wz, hwz, FX, FR, FO, HB⟩ : ∃ wz, wz = ((w.alloc (.cells #[.int .i64 U.ix, .slice a0 U.fr.length k0] 104)).alloc (.cells #[.int .i64 0, .slice none 0 0] 112)).alloc (.cells #[.int .i64 U.ix, .slice none 0 0] 112) ∧
      Hid (Box wz w.heap.size #[.int .i64 U.ix, .slice a0 U.fr.length k0]) ∧ Hid (Box wz (w.heap.size + 1) #[.int .i64 0, .slice none 0 0]) ∧ Hid (Box wz (w.heap.size + 1 + 1) #[.int .i64 U.ix, .slice none 0 0]) ∧ Hid (Below w.heap.size w wz) :=
    ⟨_, rfl, ((Box.new w _ _ _ rfl).on (one_al _ _)).on (one_al _ _), (Box.new _ _ _ _ (by simp)).on (one_al _ _), Box.new _ _ _ _ (by simp), ((one_al _ _).trans ((one_al _ _).mono (by simp))).trans ((one_al _ _).mono (by simp; omega))⟩
  rw [← hwz]
  clear hwz
  generalize wz = v0 at *
  have hz0 : w.heap.size + 3 ≤ v0.heap.size := by have := FO.out.lt; omega
  refine (toRisO_any lo _ U.fr _ ((HL.out.below HB.out).l0) hn0).mono ?_
  rintro e x0 ⟨u, rfl, hb, hs⟩
  obtain ⟨b0, m0, rfl⟩ := hs.form
  have N0 := hide (hs.wide hz0 (Nat.le_refl _))
  replace FX := hide (FX.out.on hb)
  replace FR := hide (FR.out.on hb)
  replace FO := hide (FO.out.on hb)
  replace HB := hide (bt HB.out hb)
  clear hb hs hz0
  have g0 := FO.out.cell
  have g1 := FO.out.free
  have g2 := FR.out.cell
  have g3 := FR.out.free
  have g4 := FX.out.cell
  go_wp2
  refine bodyPost_ret (v := .agg #[.int .i64 U.ix, .slice b0 U.fr.length m0]) (by simp [results, Tryz.results89, go_sem, g2]) rfl ⟨b0, m0, rfl, ?_, ?_⟩
  · repeat (refine Below.setCell ?_ (by simp only []; omega) _)
    exact HB.out
  · refine RisOwn.wide (lo := w.heap.size + 3) (hi := x0.heap.size) ?_ (by omega) (by simp [World.setCell])
    repeat (refine RisOwn.set ?_ (by simp only []; omega) _)
    exact N0.out
end Go.Proofs.YtfbfgljkiikabaaGreat
namespace Go.Proofs.YtfbfgljkiikabaaGreat
open Go.RowKit Go.Deep

def tyL (s : ByteArray) : List Value := [.string s]
def inL (x : Int) : List Value := [.int .i64 x]
abbrev MX := Rm × Option Addr × Nat
abbrev AX := Ra × Option Addr × Nat
def mxL (x : MX) : List Value := rmL x.1 x.2.1 x.2.2
def axL (x : AX) : List Value := raL x.1 x.2.1 x.2.2
theorem tyL_len (s : ByteArray) : (tyL s).length = 1 := rfl
theorem inL_len (s : Int) : (inL s).length = 1 := rfl
theorem mxL_len (s : MX) : (mxL s).length = 8 := rfl
theorem axL_len (s : AX) : (axL s).length = 2 := rfl
theorem tyL_one (L : List ByteArray) : ∀ u ∈ flatV tyL L, u.oneCell' = true := fun u hu => by
  obtain ⟨x, -, hx⟩ := flatV_mem hu
  simp only [tyL, List.mem_cons, List.not_mem_nil, or_false] at hx
  rw [hx]; rfl
theorem inL_one (L : List Int) : ∀ u ∈ flatV inL L, u.oneCell' = true := fun u hu => by
  obtain ⟨x, -, hx⟩ := flatV_mem hu
  simp only [inL, List.mem_cons, List.not_mem_nil, or_false] at hx
  rw [hx]; rfl
theorem mxL_one (L : List MX) : ∀ u ∈ flatV mxL L, u.oneCell' = true := fun u hu => by
  obtain ⟨x, -, hx⟩ := flatV_mem hu
  simp only [mxL, rmL, List.mem_cons, List.not_mem_nil, or_false] at hx
  rcases hx with rfl | rfl | rfl | rfl | rfl | rfl | rfl | rfl <;> rfl
theorem axL_one (L : List AX) : ∀ u ∈ flatV axL L, u.oneCell' = true := fun u hu => by
  obtain ⟨x, -, hx⟩ := flatV_mem hu
  simp only [axL, raL, List.mem_cons, List.not_mem_nil, or_false] at hx
  rcases hx with rfl | rfl <;> rfl
theorem infoTx : (Tryz.prog.info? 9).map (fun i => (i.zero, i.size, i.bytes)) = some (some (.string ⟨#[]⟩), 1, 16) := by kernel_rfl
theorem infoIn : (Tryz.prog.info? 3).map (fun i => (i.zero, i.size, i.bytes)) = some (some (.int .i64 0), 1, 8) := by kernel_rfl
/-- what rows that grow say of memory -/
theorem FRow.rts {w : World} {lo hi : Nat} {v : Value} {L : List ByteArray} (h : FRow tyL 1 w lo hi v L) (hz : ∀ i (h : i < L.length), L[i].size ≤ maxLen) : RtsOwn lo hi w v L := by
  obtain ⟨g, cap, h1, h2⟩ := h
  by_cases hL : L = []
  · subst hL; exact Or.inl ⟨_, _, h1, rfl⟩
  · refine Or.inr ⟨g, 0, cap, h1, hL, Nat.le_trans h2.le h2.mx, h2.le, h2.lt, fun i hi => ⟨hz i hi, ?_⟩, h2.bs, h2.up, fun i => h2.fz _⟩
    have := h2.get tyL_len hi (t := 0) (by omega) (v := .string L[i]) rfl
    rwa [show i * 1 + 0 = 0 + i by omega] at this
theorem FRow.ris {w : World} {lo hi : Nat} {v : Value} {L : List Int} (h : FRow inL 1 w lo hi v L) : RisOwn lo hi w v L := by
  obtain ⟨g, cap, h1, h2⟩ := h
  by_cases hL : L = []
  · subst hL; exact Or.inl ⟨_, _, h1, rfl⟩
  · refine Or.inr ⟨g, 0, cap, h1, hL, Nat.le_trans h2.le h2.mx, h2.le, h2.lt, fun i hi => ?_, h2.bs, h2.up, fun i => h2.fz _⟩
    have := h2.get inL_len hi (t := 0) (by omega) (v := .int .i64 L[i]) rfl
    rwa [show i * 1 + 0 = 0 + i by omega] at this
theorem FRow.rss {w : World} {lo hi : Nat} {v : Value} {L : List Rs} (h : FRow rsL 2 w lo hi v L) (hz : ∀ i (h : i < L.length), RsSize L[i]) : RssOwn lo hi w v L := by
  obtain ⟨g, cap, h1, h2⟩ := h
  by_cases hL : L = []
  · subst hL; exact Or.inl ⟨_, _, h1, rfl⟩
  · have h0 : 0 < L.length := List.length_pos_iff.2 hL
    refine Or.inr ⟨g, 0, cap, fun _ => g + 1, fun i => if h : i < L.length then L[i] else L[0], h1, hL, Nat.le_trans h2.le h2.mx, h2.le, fun i hi => by simp [hi], h2.lt, h2.bs, Nat.lt_succ_self _, h2.up, fun _ _ => Nat.le_refl _, h2.up, h2.fz, fun i hi => ?_⟩
    simp only [hi, dif_pos]
    have e0 := h2.get rsL_len hi (t := 0) (by omega) (v := .int .i64 L[i].ba) rfl
    have e1 := h2.get rsL_len hi (t := 1) (by omega) (v := .string L[i].tx) rfl
    exact ⟨hz i hi, ⟨by rw [Nat.zero_add]; exact e0, by rw [Nat.zero_add]; exact e1⟩⟩
theorem FRow.rms {w : World} {lo hi lo' : Nat} {v : Value} {L : List MX} (h : FRow mxL 8 w lo hi v L) (hlo : lo' ≤ lo) (hz : ∀ i (h : i < L.length), RssAt lo' w (.slice L[i].2.1 L[i].1.sl.length L[i].2.2) L[i].1.sl ∧ L[i].1.tx.size ≤ maxLen) : RmsAt lo' w v (L.map (·.1)) := by
  obtain ⟨g, cap, h1, h2⟩ := h
  by_cases hL : L = []
  · subst hL; exact Or.inl ⟨_, _, h1, rfl⟩
  · refine Or.inr ⟨g, 0, cap, by rw [List.length_map]; exact h1, by simpa using hL, by rw [List.length_map]; exact Nat.le_trans h2.le h2.mx, h2.lt, Nat.le_trans hlo h2.bs, by rw [List.length_map]; exact h2.le, fun i hi => ?_⟩
    rw [List.length_map] at hi
    obtain ⟨z1, z2⟩ := hz i hi
    refine ⟨mxL L[i], fun j u hu => ?_, L[i].2.1, L[i].2.2, by simp [mxL], by simp only [List.getElem_map]; exact ⟨z1, z2⟩⟩
    have hj : j < 8 := by have := (List.getElem?_eq_some_iff.1 hu).1; rwa [mxL_len] at this
    have := h2.get mxL_len hi hj hu
    rwa [show 0 + i * 8 + j = i * 8 + j by omega]
theorem FRow.ras {w : World} {lo hi lo' : Nat} {v : Value} {L : List AX} (h : FRow axL 2 w lo hi v L) (hlo : lo' ≤ lo) (hz : ∀ i (h : i < L.length), RisAt lo' w (.slice L[i].2.1 L[i].1.fr.length L[i].2.2) L[i].1.fr) : RasAt lo' w v (L.map (·.1)) := by
  obtain ⟨g, cap, h1, h2⟩ := h
  by_cases hL : L = []
  · subst hL; exact Or.inl ⟨_, _, h1, rfl⟩
  · refine Or.inr ⟨g, 0, cap, by rw [List.length_map]; exact h1, by simpa using hL, by rw [List.length_map]; exact Nat.le_trans h2.le h2.mx, h2.lt, Nat.le_trans hlo h2.bs, by rw [List.length_map]; exact h2.le, fun i hi => ?_⟩
    rw [List.length_map] at hi
    refine ⟨axL L[i], fun j u hu => ?_, L[i].2.1, L[i].2.2, by simp [axL], by simp only [List.getElem_map]; exact ⟨hz i hi⟩⟩
    have hj : j < 2 := by have := (List.getElem?_eq_some_iff.1 hu).1; rwa [axL_len] at this
    have := h2.get axL_len hi hj hu
    rwa [show 0 + i * 2 + j = i * 2 + j by omega]
/-- sources of an append -/
theorem RtsAt.src {lo : Nat} {w : World} {ao : Option Addr} {n cap : Nat} {L : List ByteArray} (h : RtsAt lo w (.slice ao n cap) L) : ∀ ad, ao = some ad → ∀ j u, (flatV tyL L)[j]? = some u → w.cell? (ad.add j) = some u := by
  rintro ad rfl j u hu
  have hj := (List.getElem?_eq_some_iff.1 hu).1
  rw [flatV_len tyL_len] at hj
  obtain ⟨b, off, e, -, -, hc⟩ := h.full' (by omega)
  injection e with e
  subst e
  have := flatV_get tyL_len L j 0 (by omega) (by omega)
  rw [show j * 1 + 0 = j by omega, hu] at this
  have hu' : u = .string (L[j]'(by omega)) := by simpa [tyL] using this
  rw [hu', Addr.add_lit]
  exact (hc j (by omega)).2
theorem RisAt.src {lo : Nat} {w : World} {ao : Option Addr} {n cap : Nat} {L : List Int} (h : RisAt lo w (.slice ao n cap) L) : ∀ ad, ao = some ad → ∀ j u, (flatV inL L)[j]? = some u → w.cell? (ad.add j) = some u := by
  rintro ad rfl j u hu
  have hj := (List.getElem?_eq_some_iff.1 hu).1
  rw [flatV_len inL_len] at hj
  obtain ⟨b, off, e, -, -, hc⟩ := h.full' (by omega)
  injection e with e
  subst e
  have := flatV_get inL_len L j 0 (by omega) (by omega)
  rw [show j * 1 + 0 = j by omega, hu] at this
  have hu' : u = .int .i64 (L[j]'(by omega)) := by simpa [inL] using this
  rw [hu', Addr.add_lit]
  exact (hc j (by omega)).2
theorem RtsAt.nilN {lo : Nat} {w : World} {ao : Option Addr} {n cap : Nat} {L : List ByteArray} (h : RtsAt lo w (.slice ao n cap) L) : ao = none → L.length = 0 := by
  rintro rfl
  rcases h with ⟨_, _, _, rfl⟩ | ⟨_, _, _, h1, _⟩
  · rfl
  · injection h1 with e; cases e
theorem RisAt.nilN {lo : Nat} {w : World} {ao : Option Addr} {n cap : Nat} {L : List Int} (h : RisAt lo w (.slice ao n cap) L) : ao = none → L.length = 0 := by
  rintro rfl
  rcases h with ⟨_, _, _, rfl⟩ | ⟨_, _, _, h1, _⟩
  · rfl
  · injection h1 with e; cases e
theorem RtsAt.sizes {lo : Nat} {w : World} {v : Value} {L : List ByteArray} (h : RtsAt lo w v L) : ∀ i (hi : i < L.length), L[i].size ≤ maxLen := by
  intro i hi
  obtain ⟨_, _, _, _, _, _, _, hc⟩ := h.full (fun e => by rw [e] at hi; simp at hi)
  exact (hc i hi).1
/-- a row that was new at w and is of one's own now -/
theorem FRow.fresh {X : Type} {f : X → List Value} {n : Nat} {w w' : World} {v : Value} {L : List X} (h : FRow f n w' w.heap.size (w.heap.size + 1) v L ∨ FRow f n w' (w.heap.size + 1) w'.heap.size v L) (hs : w.heap.size + 1 ≤ w'.heap.size) : FRow f n w' w.heap.size w'.heap.size v L := by
  rcases h with h | h
  · exact h.wide (Nat.le_refl _) hs
  · exact h.wide (by omega) (Nat.le_refl _)

set_option maxRecDepth 20000 in
set_option maxHeartbeats 4000000 in
theorem slotsF_any (lo : Nat) (v : Value) (L : List Rs) (w : World) (hv : RssAt lo w v L) (hn : L.length ≤ 1048576) :
    Calls Tryz.prog 83 #[v] w fun e w' => ∃ v', e = .returned v' ∧ Below w.heap.size w w' ∧ FRow rsL 2 w' w.heap.size w'.heap.size v' L := by
  have HV := hide hv
  obtain ⟨a, cap, rfl⟩ := hv.form
  clear hv
  have HO : ∀ o, Hid (Below w.heap.size w (w.alloc o)) := fun o => one_al w o
  go_enter Tryz.func83, Tryz.ntmps83
  go_wp2_with (at_builtin; refine wpList_fr rsL_len (by decide) Tryz.underlying35 infoRs rfl (w := w.alloc _) (lo := w.heap.size) (hi' := w.heap.size + 1) (L := []) L rfl (.tmp 3) (.tmp 4) rfl rfl ⟨w.heap.size, 0, rfl, fr_new rsL 2 w _ _ 0 rfl (Nat.zero_le _)⟩ a L.length cap rfl rfl (fun e => HV.out.nilN e) ((HV.out.below (HO _).out).src) (rsL_one L) (by simp; omega) (by decide) ?_; intro v' w' h1 h2; have H1 := hide h1; have H2 := hide h2; clear h1 h2)
  go_ret
  have hsz : w.heap.size + 1 ≤ w'.heap.size := by have := H1.out.size; simp at this; omega
  refine ⟨v', rfl, (HO _).out.trans (H1.out.under (by simp)), ?_⟩
  have h2 := H2.out
  rw [List.nil_append] at h2
  exact FRow.fresh (by simpa using h2) hsz
end Go.Proofs.YtfbfgljkiikabaaGreat
namespace Go.Proofs.YtfbfgljkiikabaaGreat
open Go.RowKit Go.Deep

theorem FRow.set {X : Type} {f : X → List Value} {n : Nat} {w : World} {lo hi : Nat} {v : Value} {L : List X} (h : FRow f n w lo hi v L) {p : Addr} (hp : p.block < lo) (u : Value) : FRow f n (w.setCell p u) lo hi v L :=
  h.touch (Touch.setCell p.block (p.block + 1) w p u ⟨Nat.le_refl _, Nat.lt_succ_self _⟩) (Or.inr hp)

set_option maxRecDepth 20000 in
set_option maxHeartbeats 4000000 in
theorem diskF_any (lo : Nat) (D : Rd) (a : Option Addr) (c : Nat) (w : World) (hv : RssAt lo w (.slice a D.sl.length c) D.sl) (hn : D.sl.length ≤ 1048576) :
    Calls Tryz.prog 63 #[.agg #[.int .i64 D.pr, .int .i64 D.kn, .slice a D.sl.length c]] w fun e w' => ∃ b m, e = .returned (.agg #[.int .i64 D.pr, .int .i64 D.kn, .slice b D.sl.length m]) ∧ Below w.heap.size w w' ∧ FRow rsL 2 w' w.heap.size w'.heap.size (.slice b D.sl.length m) D.sl := by
  have HV := hide hv
  clear hv
  go_enter Tryz.func63, Tryz.ntmps63
  go_wp2_with fail
  obtain ⟨wz, hwz, FX, FR, HB⟩ : ∃ wz, wz = (w.alloc (.cells #[.int .i64 D.pr, .int .i64 D.kn, .slice a D.sl.length c] 37)).alloc (.cells #[.int .i64 0, .int .i64 0, .slice none 0 0] 37) ∧
      Hid (Box wz w.heap.size #[.int .i64 D.pr, .int .i64 D.kn, .slice a D.sl.length c]) ∧ Hid (Box wz (w.heap.size + 1) #[.int .i64 0, .int .i64 0, .slice none 0 0]) ∧ Hid (Below w.heap.size w wz) :=
    ⟨_, rfl, (Box.new w _ _ _ rfl).on (one_al _ _), Box.new _ _ _ _ (by simp), (one_al _ _).trans ((one_al _ _).mono (by simp))⟩
  rw [← hwz]
  clear hwz
  have hz0 : w.heap.size + 2 ≤ wz.heap.size := by have := FR.out.lt; omega
  refine (slotsF_any lo _ D.sl _ (HV.out.below HB.out) hn).mono ?_
  rintro e x0 ⟨u, rfl, hb, hs⟩
  obtain ⟨g, m0, rfl, hr⟩ := hs
  have hx0 : wz.heap.size ≤ x0.heap.size := hb.size
  have N0 : Hid (FRow rsL 2 x0 wz.heap.size x0.heap.size (.slice (some ⟨g, 0, none⟩) D.sl.length m0) D.sl) := ⟨g, m0, rfl, hr⟩
  replace FX := hide (FX.out.on hb)
  replace FR := hide (FR.out.on hb)
  replace HB := hide (bt HB.out hb)
  clear hb hr
  have g0 := FX.out.cell
  have g1 := FX.out.free
  have g2 := FR.out.cell
  have g3 := FR.out.free
  go_wp2
  refine bodyPost_ret (v := .agg #[.int .i64 D.pr, .int .i64 D.kn, .slice (some ⟨g, 0, none⟩) D.sl.length m0]) (by simp [results, Tryz.results63, go_sem, g2]) rfl ⟨some ⟨g, 0, none⟩, m0, rfl, ?_, ?_⟩
  · repeat (refine Below.setCell ?_ (by simp only []; omega) _)
    exact HB.out
  · refine FRow.wide (lo := wz.heap.size) (hi := x0.heap.size) ?_ (by omega) (by simp [World.setCell])
    repeat (refine FRow.set ?_ (by simp only []; omega) _)
    exact N0.out

set_option maxRecDepth 20000 in
set_option maxHeartbeats 8000000 in
theorem msgF_any (lo : Nat) (M : Rm) (a : Option Addr) (c : Nat) (w : World) (hv : RssAt lo w (.slice a M.sl.length c) M.sl) (hn : M.sl.length ≤ 1048576) :
    Calls Tryz.prog 34 #[.agg (rmL M a c).toArray] w fun e w' => ∃ b m, e = .returned (.agg (rmL M b m).toArray) ∧ Below w.heap.size w w' ∧ FRow rsL 2 w' w.heap.size w'.heap.size (.slice b M.sl.length m) M.sl := by
  have HV := hide hv
  clear hv
  show Calls Tryz.prog 34 #[.agg #[.int .i64 M.kd, .int .i64 M.fr, .int .i64 M.tt, .int .i64 M.ba, .int .i64 M.ix, .int .i64 M.kn, .string M.tx, .slice a M.sl.length c]] w _
  go_enter Tryz.func34, Tryz.ntmps34
  go_wp2_with fail
  obtain ⟨wz, hwz, FX, FR, HB⟩ : ∃ wz, wz = (w.alloc (.cells #[.int .i64 M.kd, .int .i64 M.fr, .int .i64 M.tt, .int .i64 M.ba, .int .i64 M.ix, .int .i64 M.kn, .string M.tx, .slice a M.sl.length c] 45)).alloc (.cells #[.int .i64 0, .int .i64 0, .int .i64 0, .int .i64 0, .int .i64 0, .int .i64 0, .string ⟨#[]⟩, .slice none 0 0] 45) ∧
      Hid (Box wz w.heap.size #[.int .i64 M.kd, .int .i64 M.fr, .int .i64 M.tt, .int .i64 M.ba, .int .i64 M.ix, .int .i64 M.kn, .string M.tx, .slice a M.sl.length c]) ∧ Hid (Box wz (w.heap.size + 1) #[.int .i64 0, .int .i64 0, .int .i64 0, .int .i64 0, .int .i64 0, .int .i64 0, .string ⟨#[]⟩, .slice none 0 0]) ∧ Hid (Below w.heap.size w wz) :=
    ⟨_, rfl, (Box.new w _ _ _ rfl).on (one_al _ _), Box.new _ _ _ _ (by simp), (one_al _ _).trans ((one_al _ _).mono (by simp))⟩
  rw [← hwz]
  clear hwz
  have hz0 : w.heap.size + 2 ≤ wz.heap.size := by have := FR.out.lt; omega
  refine (slotsF_any lo _ M.sl _ (HV.out.below HB.out) hn).mono ?_
  rintro e x0 ⟨u, rfl, hb, hs⟩
  obtain ⟨g, m0, rfl, hr⟩ := hs
  have hx0 : wz.heap.size ≤ x0.heap.size := hb.size
  have N0 : Hid (FRow rsL 2 x0 wz.heap.size x0.heap.size (.slice (some ⟨g, 0, none⟩) M.sl.length m0) M.sl) := ⟨g, m0, rfl, hr⟩
  replace FX := hide (FX.out.on hb)
  replace FR := hide (FR.out.on hb)
  replace HB := hide (bt HB.out hb)
  clear hb hr
  have g0 := FX.out.cell
  have g1 := FX.out.free
  have g2 := FR.out.cell
  have g3 := FR.out.free
  go_wp2
  refine bodyPost_ret (v := .agg (rmL M (some ⟨g, 0, none⟩) m0).toArray) (by simp [results, Tryz.results34, go_sem, g2, rmL]) rfl ⟨some ⟨g, 0, none⟩, m0, rfl, ?_, ?_⟩
  · repeat (refine Below.setCell ?_ (by simp only []; omega) _)
    exact HB.out
  · refine FRow.wide (lo := wz.heap.size) (hi := x0.heap.size) ?_ (by omega) (by simp [World.setCell])
    repeat (refine FRow.set ?_ (by simp only []; omega) _)
    exact N0.out
end Go.Proofs.YtfbfgljkiikabaaGreat
