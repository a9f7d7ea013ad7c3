import Derived.Test.YtoklnkojacdciaaG46
namespace Go.Proofs.Ytoklnkojacdciaa
open Go.RowKit Go.Deep

/-! a list of slots that grows in a block of the call's own, whatever that block is typed -/
def rsL (x : Rs) : List Value := [.int .i64 x.ba, .string x.tx]
theorem rsL_len (x : Rs) : (rsL x).length = 2 := rfl
theorem rsL_one (L : List Rs) : ∀ u ∈ flatV rsL L, u.oneCell' = true := fun u hu => by
  obtain ⟨x, -, hx⟩ := flatV_mem hu
  simp only [rsL, List.mem_cons, List.not_mem_nil, or_false] at hx
  rcases hx with rfl | rfl <;> rfl
structure LR (w : World) (base g cap : Nat) (L : List Rs) : Prop where
  bs : base ≤ g
  lt : g < w.heap.size
  le : L.length ≤ cap
  mx : cap ≤ maxLen
  th : ∀ j, j < cap * 2 → (w.cell? ⟨g, j, none⟩).isSome = true
  fz : ∀ j, w.frozen? ⟨g, j, none⟩ = false
  rg : w.rangeAt g 0 (flatV rsL L)
  sz : ∀ i (h : i < L.length), RsSize L[i]
theorem LR.below {w w' : World} {base g cap : Nat} {L : List Rs} (h : LR w base g cap L) (hb : Below w.heap.size w w') : LR w' base g cap L :=
  ⟨h.bs, Nat.lt_of_lt_of_le h.lt hb.size, h.le, h.mx, fun j hj => by rw [hb.cell (p := ⟨g, j, none⟩) h.lt]; exact h.th j hj, fun j => by rw [hb.frozen (p := ⟨g, j, none⟩) h.lt]; exact h.fz j, rng_below h.rg hb h.lt, h.sz⟩
def LRow (w : World) (base : Nat) (v : Value) (L : List Rs) : Prop := ∃ g cap, v = .slice (some ⟨g, 0, none⟩) L.length cap ∧ LR w base g cap L
theorem LRow.below {w w' : World} {base : Nat} {v : Value} {L : List Rs} (h : LRow w base v L) (hb : Below w.heap.size w w') : LRow w' base v L := by
  obtain ⟨g, cap, h1, h2⟩ := h
  exact ⟨g, cap, h1, h2.below hb⟩
theorem LR.cells {w : World} {base g cap : Nat} {L : List Rs} (h : LR w base g cap L) {i : Nat} (hi : i < L.length) : RsCells w g (0 + i * 2) L[i] := by
  have e0 := flatV_get rsL_len L i 0 hi (by omega)
  have e1 := flatV_get rsL_len L i 1 hi (by omega)
  have r0 := h.rg (i * 2) (.int .i64 L[i].ba) (by simpa [rsL] using e0)
  have r1 := h.rg (i * 2 + 1) (.string L[i].tx) (by simpa [rsL] using e1)
  exact ⟨r0, r1⟩
theorem LRow.at {w : World} {base : Nat} {v : Value} {L : List Rs} (h : LRow w base v L) : RssAt base w v L := by
  obtain ⟨g, cap, h1, h2⟩ := h
  by_cases hL : L = []
  · subst hL
    exact Or.inl ⟨_, _, h1, rfl⟩
  · exact Or.inr ⟨g, 0, cap, h1, hL, Nat.le_trans h2.le h2.mx, h2.lt, h2.bs, h2.le, fun i hi => ⟨h2.sz i hi, h2.cells hi⟩⟩
theorem LRow.own {w : World} {base : Nat} {v : Value} {L : List Rs} (h : LRow w base v L) : RssOwn base w.heap.size w v L := by
  obtain ⟨g, cap, h1, h2⟩ := h
  by_cases hL : L = []
  · subst hL
    exact Or.inl ⟨_, _, h1, rfl⟩
  · have h0 : 0 < L.length := List.length_pos_iff.2 hL
    refine Or.inr ⟨g, 0, cap, fun _ => g + 1, fun i => if h : i < L.length then L[i] else L[0], h1, hL, Nat.le_trans h2.le h2.mx, h2.le, fun i hi => by simp [hi], h2.lt, h2.bs, Nat.lt_succ_self _, h2.lt, fun _ _ => Nat.le_refl _, h2.lt, h2.fz, fun i hi => ?_⟩
    simp only [hi, dif_pos]
    exact ⟨h2.sz i hi, h2.cells hi⟩
theorem owns_lr {w : World} {base : Nat} {e : TypeId} {v : Value} {n : Nat} {L : List Rs} (h : w.ownsRow base e 2 v n (flatV rsL L)) (hn : n = L.length) (h0 : 0 < n) (hz : ∀ i (h : i < L.length), RsSize L[i]) : LRow w base v L := by
  subst hn
  rcases h.2 with ⟨_, h'⟩ | ⟨g, cap, cur, hv, hb, hg, hnc, hcm, hcs, htk⟩
  · omega
  · refine ⟨g, cap, hv, hb, (Array.getElem?_eq_some_iff.1 hg).1, hnc, hcm, fun j hj => by rw [cell_heap hg, Array.getElem?_eq_getElem (by omega)]; rfl, fun j => frozen_none hg j, fun j u hu => ?_, hz⟩
    rw [Nat.zero_add, cell_heap hg]
    have hj : j < L.length * 2 := by
      have := (List.getElem?_eq_some_iff.1 hu).1
      rwa [flatV_len rsL_len] at this
    rw [← htk, List.getElem?_take_of_lt hj] at hu
    simpa using hu
theorem LR.put {w : World} {base g cap : Nat} {L M : List Rs} (h : LR w base g cap L) (hc : L.length + M.length ≤ cap) (hz : ∀ i (h : i < M.length), RsSize M[i]) :
    LR (w.setCells g (0 + L.length * 2) (flatV rsL M)) base g cap (L ++ M) := by
  have hlm : (flatV rsL M).length = M.length * 2 := flatV_len rsL_len M
  have hll : (flatV rsL L).length = L.length * 2 := flatV_len rsL_len L
  refine ⟨h.bs, by rw [size_sets]; exact h.lt, by rw [List.length_append]; exact hc, h.mx, fun j hj => World.isSome_setCells _ _ _ _ _ (h.th j hj), fun j => by rw [World.frozen?_setCells]; exact h.fz j, ?_, ?_⟩
  · rw [flatV_app]
    intro j u hu
    by_cases hj : j < L.length * 2
    · rw [List.getElem?_append_left (by omega)] at hu
      exact World.rangeAt_setCells_apart h.rg g (0 + L.length * 2) (flatV rsL M) (Or.inr (Or.inl (by omega))) j u hu
    · rw [List.getElem?_append_right (by omega), hll] at hu
      have := World.rangeAt_setCells_same w g (0 + L.length * 2) (flatV rsL M) (fun j hj' => ⟨h.th _ (by omega), h.fz _⟩) (j - L.length * 2) u hu
      rwa [show 0 + L.length * 2 + (j - L.length * 2) = 0 + j by omega] at this
  · intro i hi
    rw [List.getElem_append]
    split
    · exact h.sz i (by assumption)
    · exact hz _ _
theorem infoRs : (Try.prog.info? 114).map (fun i => (i.zero, i.size, i.bytes)) = some (some (.agg #[.int .i64 0, .string ⟨#[]⟩]), 2, 24) := by kernel_rfl
theorem info_parts {P : Program} {t : TypeId} {z : Value} {s b : Nat} (h : (P.info? t).map (fun i => (i.zero, i.size, i.bytes)) = some (some z, s, b)) : ∃ i, P.info? t = some i ∧ i.zero = some z ∧ i.size = s ∧ i.bytes = b := by
  cases hi : P.info? t with
  | none => rw [hi] at h; simp at h
  | some i =>
    rw [hi] at h
    simp only [Option.map_some, Option.some.injEq, Prod.mk.injEq] at h
    exact ⟨i, rfl, h.1, h.2.1, h.2.2⟩
/-- append to such a list, whatever is put behind it -/
theorem run_lrow {w : World} {base : Nat} {v : Value} {L M : List Rs} (ty : TypeId) (h : LRow w base v L) (ao : Option Addr) (m c : Nat) (hM : m = M.length) (hm : ao = none → m = 0)
    (hsrc : ∀ ad, ao = some ad → ∀ j u, (flatV rsL M)[j]? = some u → w.cell? (ad.add j) = some u) (hz : ∀ i (h : i < M.length), RsSize M[i]) (hb : L.length + M.length ≤ 10000000) (hbase : base ≤ w.heap.size) :
    ∃ v' w', (Builtin.append_ #[44, 44] ty #[v, .slice ao m c]).run Try.prog w = .ok v' w' ∧ LRow w' base v' (L ++ M) ∧ Below base w w' := by
  obtain ⟨i0, hi, hz0, hz1, hz2⟩ := info_parts infoRs
  obtain ⟨g, cap, rfl, hr⟩ := h
  subst hM
  have hlm : (flatV rsL M).length = M.length * 2 := flatV_len rsL_len M
  cases ao with
  | none =>
    have h0 := hm rfl
    obtain rfl : M = [] := List.eq_nil_of_length_eq_zero h0
    refine ⟨.slice (some ⟨g, 0, none⟩) L.length cap, w, ?_, ⟨g, cap, by simp, by simpa using hr⟩, Below.refl _ _⟩
    simp [Builtin.append_, run_underlying Try.underlying44, sizeOf, typeInfo, hi, Builtin.lenOf, Builtin.firstCells, storeCells, hr.le]
  | some ad =>
    by_cases hc : L.length + M.length ≤ cap
    · refine ⟨.slice (some ⟨g, 0, none⟩) (L.length + M.length) cap, w.setCells g (0 + L.length * 2) (flatV rsL M), ?_, ⟨g, cap, ?_, hr.put hc hz⟩, Below.sets hr.bs _ _ (Below.refl _ _)⟩
      · have := run_append_room_cells (P := Try.prog) w 44 ty 114 i0 Try.underlying44 hi g 0 L.length cap ad M.length c (flatV rsL M) (by rw [hz1]; exact hlm) (hsrc ad rfl) (rsL_one M) hc
          (fun j hj => hr.th _ (by rw [hz1]; omega)) (fun j hj => hr.fz _)
        rw [hz1] at this
        exact this
      · rw [List.length_append]
    · obtain ⟨v', w', h1, h2, h3⟩ := run_append_arg_grows (P := Try.prog) w 44 ty 114 i0 (.agg #[.int .i64 0, .string ⟨#[]⟩]) 2 24 Try.underlying44 hi hz0 hz1 hz2 rfl (by omega) ⟨g, 0, none⟩ L.length cap (flatV rsL L) (flatV_len rsL_len L)
        (fun j u hj => by rw [Addr.add_lit]; exact hr.rg j u hj) ad M.length c (flatV rsL M) hlm (hsrc ad rfl) (by omega) (by unfold maxLen; omega) (by omega)
      have hzz : ∀ i (h : i < (L ++ M).length), RsSize (L ++ M)[i] := by
        intro i hi
        rw [List.getElem_append]
        split
        · exact hr.sz i (by assumption)
        · exact hz _ _
      have hp : 0 < L.length + M.length := by omega
      have h4 : LRow w' w.heap.size v' (L ++ M) := owns_lr (by rw [flatV_app]; exact h2) (by rw [List.length_append]) hp hzz
      obtain ⟨g', cap', e1, e2⟩ := h4
      exact ⟨v', w', h1, ⟨g', cap', e1, ⟨Nat.le_trans hbase e2.bs, e2.lt, e2.le, e2.mx, e2.th, e2.fz, e2.rg, e2.sz⟩⟩, ⟨h3.os, h3.tape, h3.output, h3.size, fun k hk => h3.block k (by omega) (by simp)⟩⟩
/-- what stands in memory, as a source of an append -/
theorem RssAt.src {lo : Nat} {w : World} {ao : Option Addr} {n cap : Nat} {L : List Rs} (h : RssAt lo w (.slice ao n cap) L) : ∀ ad, ao = some ad → ∀ j u, (flatV rsL L)[j]? = some u → w.cell? (ad.add j) = some u := by
  rintro ad rfl j u hu
  have hj := (List.getElem?_eq_some_iff.1 hu).1
  rw [flatV_len rsL_len] at hj
  obtain ⟨b, off, e, -, -, hc⟩ := h.full' (by omega)
  injection e with e
  subst e
  have hi : j / 2 < L.length := by omega
  obtain ⟨-, hcc⟩ := hc (j / 2) hi
  rw [Addr.add_lit]
  by_cases hm : j % 2 = 0
  · have ej : j = j / 2 * 2 + 0 := by omega
    have := flatV_get rsL_len L (j / 2) 0 hi (by omega)
    rw [← ej, hu] at this
    have hu' : u = .int .i64 L[j / 2].ba := by simpa [rsL] using this
    rw [hu', ← hcc.c0]
    congr 2
    omega
  · have ej : j = j / 2 * 2 + 1 := by omega
    have := flatV_get rsL_len L (j / 2) 1 hi (by omega)
    rw [← ej, hu] at this
    have hu' : u = .string L[j / 2].tx := by simpa [rsL] using this
    rw [hu', ← hcc.c1]
    congr 2
    omega
theorem RssAt.sizes {lo : Nat} {w : World} {v : Value} {L : List Rs} (h : RssAt lo w v L) : ∀ i (hi : i < L.length), RsSize L[i] := by
  intro i hi
  obtain ⟨_, _, _, _, _, _, _, hc⟩ := h.full (fun e => by rw [e] at hi; simp at hi)
  exact (hc i hi).1
theorem RssAt.nilN {lo : Nat} {w : World} {ao : Option Addr} {n cap : Nat} {L : List Rs} (h : RssAt lo w (.slice ao n cap) L) : ao = none → L.length = 0 := by
  rintro rfl
  rcases h with ⟨_, _, _, rfl⟩ | ⟨_, _, _, h1, _⟩
  · rfl
  · injection h1 with e; cases e
end Go.Proofs.Ytoklnkojacdciaa
namespace Go.Proofs.Ytoklnkojacdciaa
open Go.RowKit Go.Deep

def tyL (s : ByteArray) : List Value := [.string s]
def inL (x : Int) : List Value := [.int .i64 x]
abbrev MX := Rm × Option Addr × Nat
abbrev AX := Ra × Option Addr × Nat
def mxL (x : MX) : List Value := rmL x.1 x.2.1 x.2.2
def axL (x : AX) : List Value := raL x.1 x.2.1 x.2.2
theorem tyL_len (s : ByteArray) : (tyL s).length = 1 := rfl
theorem inL_len (s : Int) : (inL s).length = 1 := rfl
theorem mxL_len (s : MX) : (mxL s).length = 8 := rfl
theorem axL_len (s : AX) : (axL s).length = 2 := rfl
theorem tyL_one (L : List ByteArray) : ∀ u ∈ flatV tyL L, u.oneCell' = true := fun u hu => by
  obtain ⟨x, -, hx⟩ := flatV_mem hu
  simp only [tyL, List.mem_cons, List.not_mem_nil, or_false] at hx
  rw [hx]; rfl
theorem inL_one (L : List Int) : ∀ u ∈ flatV inL L, u.oneCell' = true := fun u hu => by
  obtain ⟨x, -, hx⟩ := flatV_mem hu
  simp only [inL, List.mem_cons, List.not_mem_nil, or_false] at hx
  rw [hx]; rfl
theorem mxL_one (L : List MX) : ∀ u ∈ flatV mxL L, u.oneCell' = true := fun u hu => by
  obtain ⟨x, -, hx⟩ := flatV_mem hu
  simp only [mxL, rmL, List.mem_cons, List.not_mem_nil, or_false] at hx
  rcases hx with rfl | rfl | rfl | rfl | rfl | rfl | rfl | rfl <;> rfl
theorem axL_one (L : List AX) : ∀ u ∈ flatV axL L, u.oneCell' = true := fun u hu => by
  obtain ⟨x, -, hx⟩ := flatV_mem hu
  simp only [axL, raL, List.mem_cons, List.not_mem_nil, or_false] at hx
  rcases hx with rfl | rfl <;> rfl
theorem infoTx : (Try.prog.info? 9).map (fun i => (i.zero, i.size, i.bytes)) = some (some (.string ⟨#[]⟩), 1, 16) := by kernel_rfl
theorem infoIn : (Try.prog.info? 3).map (fun i => (i.zero, i.size, i.bytes)) = some (some (.int .i64 0), 1, 8) := by kernel_rfl
/-- what rows that grow say of memory -/
theorem FRow.rts {w : World} {lo hi : Nat} {v : Value} {L : List ByteArray} (h : FRow tyL 1 w lo hi v L) (hz : ∀ i (h : i < L.length), L[i].size ≤ maxLen) : RtsOwn lo hi w v L := by
  obtain ⟨g, cap, h1, h2⟩ := h
  by_cases hL : L = []
  · subst hL; exact Or.inl ⟨_, _, h1, rfl⟩
  · refine Or.inr ⟨g, 0, cap, h1, hL, Nat.le_trans h2.le h2.mx, h2.le, h2.lt, fun i hi => ⟨hz i hi, ?_⟩, h2.bs, h2.up, fun i => h2.fz _⟩
    have := h2.get tyL_len hi (t := 0) (by omega) (v := .string L[i]) rfl
    rwa [show i * 1 + 0 = 0 + i by omega] at this
theorem FRow.ris {w : World} {lo hi : Nat} {v : Value} {L : List Int} (h : FRow inL 1 w lo hi v L) : RisOwn lo hi w v L := by
  obtain ⟨g, cap, h1, h2⟩ := h
  by_cases hL : L = []
  · subst hL; exact Or.inl ⟨_, _, h1, rfl⟩
  · refine Or.inr ⟨g, 0, cap, h1, hL, Nat.le_trans h2.le h2.mx, h2.le, h2.lt, fun i hi => ?_, h2.bs, h2.up, fun i => h2.fz _⟩
    have := h2.get inL_len hi (t := 0) (by omega) (v := .int .i64 L[i]) rfl
    rwa [show i * 1 + 0 = 0 + i by omega] at this
theorem FRow.rss {w : World} {lo hi : Nat} {v : Value} {L : List Rs} (h : FRow rsL 2 w lo hi v L) (hz : ∀ i (h : i < L.length), RsSize L[i]) : RssOwn lo hi w v L := by
  obtain ⟨g, cap, h1, h2⟩ := h
  by_cases hL : L = []
  · subst hL; exact Or.inl ⟨_, _, h1, rfl⟩
  · have h0 : 0 < L.length := List.length_pos_iff.2 hL
    refine Or.inr ⟨g, 0, cap, fun _ => g + 1, fun i => if h : i < L.length then L[i] else L[0], h1, hL, Nat.le_trans h2.le h2.mx, h2.le, fun i hi => by simp [hi], h2.lt, h2.bs, Nat.lt_succ_self _, h2.up, fun _ _ => Nat.le_refl _, h2.up, h2.fz, fun i hi => ?_⟩
    simp only [hi, dif_pos]
    have e0 := h2.get rsL_len hi (t := 0) (by omega) (v := .int .i64 L[i].ba) rfl
    have e1 := h2.get rsL_len hi (t := 1) (by omega) (v := .string L[i].tx) rfl
    exact ⟨hz i hi, ⟨by rw [Nat.zero_add]; exact e0, by rw [Nat.zero_add]; exact e1⟩⟩
theorem FRow.rms {w : World} {lo hi lo' : Nat} {v : Value} {L : List MX} (h : FRow mxL 8 w lo hi v L) (hlo : lo' ≤ lo) (hz : ∀ i (h : i < L.length), RssAt lo' w (.slice L[i].2.1 L[i].1.sl.length L[i].2.2) L[i].1.sl ∧ L[i].1.tx.size ≤ maxLen) : RmsAt lo' w v (L.map (·.1)) := by
  obtain ⟨g, cap, h1, h2⟩ := h
  by_cases hL : L = []
  · subst hL; exact Or.inl ⟨_, _, h1, rfl⟩
  · refine Or.inr ⟨g, 0, cap, by rw [List.length_map]; exact h1, by simpa using hL, by rw [List.length_map]; exact Nat.le_trans h2.le h2.mx, h2.lt, Nat.le_trans hlo h2.bs, by rw [List.length_map]; exact h2.le, fun i hi => ?_⟩
    rw [List.length_map] at hi
    obtain ⟨z1, z2⟩ := hz i hi
    refine ⟨mxL L[i], fun j u hu => ?_, L[i].2.1, L[i].2.2, by simp [mxL], by simp only [List.getElem_map]; exact ⟨z1, z2⟩⟩
    have hj : j < 8 := by have := (List.getElem?_eq_some_iff.1 hu).1; rwa [mxL_len] at this
    have := h2.get mxL_len hi hj hu
    rwa [show 0 + i * 8 + j = i * 8 + j by omega]
theorem FRow.ras {w : World} {lo hi lo' : Nat} {v : Value} {L : List AX} (h : FRow axL 2 w lo hi v L) (hlo : lo' ≤ lo) (hz : ∀ i (h : i < L.length), RisAt lo' w (.slice L[i].2.1 L[i].1.fr.length L[i].2.2) L[i].1.fr) : RasAt lo' w v (L.map (·.1)) := by
  obtain ⟨g, cap, h1, h2⟩ := h
  by_cases hL : L = []
  · subst hL; exact Or.inl ⟨_, _, h1, rfl⟩
  · refine Or.inr ⟨g, 0, cap, by rw [List.length_map]; exact h1, by simpa using hL, by rw [List.length_map]; exact Nat.le_trans h2.le h2.mx, h2.lt, Nat.le_trans hlo h2.bs, by rw [List.length_map]; exact h2.le, fun i hi => ?_⟩
    rw [List.length_map] at hi
    refine ⟨axL L[i], fun j u hu => ?_, L[i].2.1, L[i].2.2, by simp [axL], by simp only [List.getElem_map]; exact ⟨hz i hi⟩⟩
    have hj : j < 2 := by have := (List.getElem?_eq_some_iff.1 hu).1; rwa [axL_len] at this
    have := h2.get axL_len hi hj hu
    rwa [show 0 + i * 2 + j = i * 2 + j by omega]
/-- sources of an append -/
theorem RtsAt.src {lo : Nat} {w : World} {ao : Option Addr} {n cap : Nat} {L : List ByteArray} (h : RtsAt lo w (.slice ao n cap) L) : ∀ ad, ao = some ad → ∀ j u, (flatV tyL L)[j]? = some u → w.cell? (ad.add j) = some u := by
  rintro ad rfl j u hu
  have hj := (List.getElem?_eq_some_iff.1 hu).1
  rw [flatV_len tyL_len] at hj
  obtain ⟨b, off, e, -, -, hc⟩ := h.full' (by omega)
  injection e with e
  subst e
  have := flatV_get tyL_len L j 0 (by omega) (by omega)
  rw [show j * 1 + 0 = j by omega, hu] at this
  have hu' : u = .string (L[j]'(by omega)) := by simpa [tyL] using this
  rw [hu', Addr.add_lit]
  exact (hc j (by omega)).2
theorem RisAt.src {lo : Nat} {w : World} {ao : Option Addr} {n cap : Nat} {L : List Int} (h : RisAt lo w (.slice ao n cap) L) : ∀ ad, ao = some ad → ∀ j u, (flatV inL L)[j]? = some u → w.cell? (ad.add j) = some u := by
  rintro ad rfl j u hu
  have hj := (List.getElem?_eq_some_iff.1 hu).1
  rw [flatV_len inL_len] at hj
  obtain ⟨b, off, e, -, -, hc⟩ := h.full' (by omega)
  injection e with e
  subst e
  have := flatV_get inL_len L j 0 (by omega) (by omega)
  rw [show j * 1 + 0 = j by omega, hu] at this
  have hu' : u = .int .i64 (L[j]'(by omega)) := by simpa [inL] using this
  rw [hu', Addr.add_lit]
  exact (hc j (by omega)).2
theorem RtsAt.nilN {lo : Nat} {w : World} {ao : Option Addr} {n cap : Nat} {L : List ByteArray} (h : RtsAt lo w (.slice ao n cap) L) : ao = none → L.length = 0 := by
  rintro rfl
  rcases h with ⟨_, _, _, rfl⟩ | ⟨_, _, _, h1, _⟩
  · rfl
  · injection h1 with e; cases e
theorem RisAt.nilN {lo : Nat} {w : World} {ao : Option Addr} {n cap : Nat} {L : List Int} (h : RisAt lo w (.slice ao n cap) L) : ao = none → L.length = 0 := by
  rintro rfl
  rcases h with ⟨_, _, _, rfl⟩ | ⟨_, _, _, h1, _⟩
  · rfl
  · injection h1 with e; cases e
theorem RtsAt.sizes {lo : Nat} {w : World} {v : Value} {L : List ByteArray} (h : RtsAt lo w v L) : ∀ i (hi : i < L.length), L[i].size ≤ maxLen := by
  intro i hi
  obtain ⟨_, _, _, _, _, _, _, hc⟩ := h.full (fun e => by rw [e] at hi; simp at hi)
  exact (hc i hi).1
/-- a row that was new at w and is of one's own now -/
theorem FRow.fresh {X : Type} {f : X → List Value} {n : Nat} {w w' : World} {v : Value} {L : List X} (h : FRow f n w' w.heap.size (w.heap.size + 1) v L ∨ FRow f n w' (w.heap.size + 1) w'.heap.size v L) (hs : w.heap.size + 1 ≤ w'.heap.size) : FRow f n w' w.heap.size w'.heap.size v L := by
  rcases h with h | h
  · exact h.wide (Nat.le_refl _) hs
  · exact h.wide (by omega) (Nat.le_refl _)

end Go.Proofs.Ytoklnkojacdciaa
