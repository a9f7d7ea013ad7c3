import Derived.Test.YtlednecohppljaaB06
import Derived.Test.YtlednecohppljaaB13
import Derived.Test.YtlednecohppljaaB14
namespace Go.Proofs.Ytlednecohppljaa
open Go.RowKit Go.Deep

/-- texts of one's own -/
def RtsOwn (lo hi : Nat) (w : World) (v : Value) (L : List ByteArray) : Prop :=
  (∃ (a : Option Addr) (cap : Nat), v = .slice a 0 cap ∧ L = []) ∨
  ∃ (b off cap : Nat), v = .slice (some ⟨b, off, none⟩) L.length cap ∧ L ≠ [] ∧ L.length ≤ maxLen ∧ L.length ≤ cap ∧ b < w.heap.size ∧
    (∀ i (h : i < L.length), L[i].size ≤ maxLen ∧ w.cell? ⟨b, off + i, none⟩ = some (.string L[i])) ∧ lo ≤ b ∧ b < hi ∧ ∀ i, w.frozen? ⟨b, off + i, none⟩ = false
theorem RtsOwn.below {lo hi : Nat} {w w' : World} {v : Value} {L : List ByteArray} (h : RtsOwn lo hi w v L) (hb : Below w.heap.size w w') : RtsOwn lo hi w' v L := by
  rcases h with h | ⟨g, off, cap, h1, h2, h3, hcp, h4, h5, h7, h8, h9⟩
  · exact Or.inl h
  · exact Or.inr ⟨g, off, cap, h1, h2, h3, hcp, Nat.lt_of_lt_of_le h4 hb.size, fun i hi' => ⟨(h5 i hi').1, (hb.cell (p := ⟨g, off + i, none⟩) h4).trans (h5 i hi').2⟩, h7, h8, fun i => (hb.frozen (p := ⟨g, off + i, none⟩) h4).trans (h9 i)⟩
theorem RtsOwn.touch {lo hi lo' hi' : Nat} {w w' : World} {v : Value} {L : List ByteArray} (h : RtsOwn lo hi w v L) (ht : Touch lo' hi' w w') (ho : hi ≤ lo' ∨ hi' ≤ lo) : RtsOwn lo hi w' v L := by
  rcases h with h | ⟨b, off, cap, h1, h2, h3, hcp, h4, h5, h7, h8, h9⟩
  · exact Or.inl h
  · exact Or.inr ⟨b, off, cap, h1, h2, h3, hcp, Nat.lt_of_lt_of_le h4 ht.size, fun i hi' => ⟨(h5 i hi').1, (ht.cell (p := ⟨b, off + i, none⟩) h4 (by simp only []; omega)).trans (h5 i hi').2⟩, h7, h8, fun i => (ht.frozen (p := ⟨b, off + i, none⟩) h4 (by simp only []; omega)).trans (h9 i)⟩
theorem RtsOwn.at {lo hi : Nat} {w : World} {v : Value} {L : List ByteArray} (h : RtsOwn lo hi w v L) : RtsAt lo w v L := by
  rcases h with h | ⟨g, off, cap, h1, h2, h3, hcp, h4, h5, h7, h8, h9⟩
  · exact Or.inl h
  · exact Or.inr ⟨g, off, cap, h1, h2, h3, h4, h7, hcp, h5⟩
theorem RtsOwn.wide {lo hi lo' hi' : Nat} {w : World} {v : Value} {L : List ByteArray} (h : RtsOwn lo hi w v L) (h1 : lo' ≤ lo) (h2 : hi ≤ hi') : RtsOwn lo' hi' w v L := by
  rcases h with h | ⟨g, off, cap, e1, e2, e3, hcp, e4, e5, e7, e8, e9⟩
  · exact Or.inl h
  · exact Or.inr ⟨g, off, cap, e1, e2, e3, hcp, e4, e5, by omega, by omega, e9⟩
theorem RtsOwn.form {lo hi : Nat} {w : World} {v : Value} {L : List ByteArray} (h : RtsOwn lo hi w v L) : ∃ a cap, v = .slice a L.length cap := by
  rcases h with ⟨a, cap, h, rfl⟩ | ⟨b, off, cap, h, _⟩
  · exact ⟨a, cap, h⟩
  · exact ⟨_, cap, h⟩
def tmarks (k : Int) (n : Nat) : List ByteArray := (List.range n).map fun (i : Nat) => mtB (k + (i : Int))
theorem tmarks_len (k : Int) (n : Nat) : (tmarks k n).length = n := by simp [tmarks]
theorem tmarks_get (k : Int) (n i : Nat) (h : i < (tmarks k n).length) : (tmarks k n)[i] = mtB (k + i) := by simp [tmarks]

set_option maxHeartbeats 2000000 in
theorem markRts_any (lo hi : Nat) (v : Value) (L : List ByteArray) (k : Int) (w : World) (hv : RtsOwn lo hi w v L) (h0 : 0 ≤ k) (hk : k + L.length ≤ 4000000000000000000) :
    Calls Try.prog 19 #[v, .int .i64 k] w fun e w' => e = .returned (.int .i64 (k + L.length)) ∧ Touch lo hi w w' ∧ RtsOwn lo hi w' v (tmarks k L.length) := by
  rcases hv with ⟨a, cap, rfl, rfl⟩ | ⟨b, off, cap, rfl, hne, hm, hcp, hbw, hc, hlo, hhi, hfr⟩
  · go_enter Try.func19, Try.ntmps19
    go_wp2
    go_loop [5, 1] (fun i q => i = .int .i64 0 ∧ q = .int .i64 k) (fun _ _ => 0)
    case atStart => exact ⟨rfl, rfl⟩
    case round =>
      obtain ⟨rfl, rfl⟩ := hrel
      go_wp2
      go_ret
      exact ⟨by simp, Touch.refl _ _ _, Or.inl ⟨_, _, rfl, rfl⟩⟩
  · unfold maxLen at hm
    go_enter Try.func19, Try.ntmps19
    go_wp2
    go_loopw [5, 1] (fun i q wr => ∃ j : Nat, i = .int .i64 j ∧ q = .int .i64 (k + j) ∧ j ≤ L.length ∧ Touch lo hi w wr ∧ (∀ i, i < j → wr.cell? ⟨b, off + i, none⟩ = some (.string (mtB (k + i)))) ∧ (∀ i (h : i < L.length), j ≤ i → wr.cell? ⟨b, off + i, none⟩ = some (.string L[i])) ∧ ∀ i, wr.frozen? ⟨b, off + i, none⟩ = false) (fun i _ _ => L.length - (intOf i).toNat)
    case atStart => exact ⟨0, rfl, by simp, by omega, Touch.refl _ _ _, fun i h => by omega, fun i h _ => (hc i h).2, hfr⟩
    case round =>
      obtain ⟨j, rfl, rfl, hj, ht, hA, hB, hF⟩ := hrel
      have HT := hide ht
      have HA := hide hA
      have HBB := hide hB
      have HF := hide hF
      clear ht hA hB hF
      by_cases hlt : j < L.length
      · go_wp2_with fail
        refine (markText_any _ _ (by omega)).mono ?_
        rintro e w1 ⟨rfl, hb⟩
        have hbl : b < wr.heap.size := Nat.lt_of_lt_of_le hbw HT.out.size
        have HT1 : Hid (Touch lo hi w w1) := HT.out.trans (Touch.below hb)
        have hcj : w1.cell? ⟨b, off + j, none⟩ = some (.string L[j]) := (hb.cell (p := ⟨b, off + j, none⟩) hbl).trans (HBB.out j hlt (Nat.le_refl _))
        have hfj : w1.frozen? ⟨b, off + j, none⟩ = false := (hb.frozen (p := ⟨b, off + j, none⟩) hbl).trans (HF.out j)
        have HA1 : Hid (∀ i, i < j → w1.cell? ⟨b, off + i, none⟩ = some (.string (mtB (k + i)))) := fun i hi' => (hb.cell (p := ⟨b, off + i, none⟩) hbl).trans (HA.out i hi')
        have HB1 : Hid (∀ i (h : i < L.length), j ≤ i → w1.cell? ⟨b, off + i, none⟩ = some (.string L[i])) := fun i h hi' => (hb.cell (p := ⟨b, off + i, none⟩) hbl).trans (HBB.out i h hi')
        have HF1 : Hid (∀ i, w1.frozen? ⟨b, off + i, none⟩ = false) := fun i => (hb.frozen (p := ⟨b, off + i, none⟩) hbl).trans (HF.out i)
        clear hb hbl
        go_wp2
        go_roundw
        case rel =>
          refine ⟨j + 1, by go_num, by go_num, by omega, HT1.out.trans (Touch.setCell _ _ _ _ _ ⟨hlo, hhi⟩), fun i hi' => ?_, fun i h hi' => ?_, fun i => ?_⟩
          · by_cases e : i = j
            · subst e; exact World.cell?_setCell_same' _ _ _ (by rw [hcj]; rfl)
            · rw [show (w1.setCell ⟨b, off + j, none⟩ (.string (mtB (k + j)))).cell? ⟨b, off + i, none⟩ = w1.cell? ⟨b, off + i, none⟩ from by apply World.cell?_setCell_other; simp only [ne_eq, Addr.mk.injEq, not_and]; omega]
              exact HA1.out i (by omega)
          · rw [show (w1.setCell ⟨b, off + j, none⟩ (.string (mtB (k + j)))).cell? ⟨b, off + i, none⟩ = w1.cell? ⟨b, off + i, none⟩ from by apply World.cell?_setCell_other; simp only [ne_eq, Addr.mk.injEq, not_and]; omega]
            exact HB1.out i h (by omega)
          · rw [World.frozen?_setCell]
            exact HF1.out i
        case measure => simp [intOf]; omega
      · have e : j = L.length := by omega
        subst e
        go_wp2
        go_ret
        refine ⟨rfl, HT.out, Or.inr ⟨b, off, cap, by rw [tmarks_len], ?_, by rw [tmarks_len]; unfold maxLen; omega, by rw [tmarks_len]; exact hcp, Nat.lt_of_lt_of_le hbw HT.out.size, fun i h => ?_, hlo, hhi, HF.out⟩⟩
        · intro e; have := congrArg List.length e; rw [tmarks_len] at this; simp at this; exact hne this
        · rw [tmarks_get]
          rw [tmarks_len] at h
          exact ⟨mt_size _ (by omega), HA.out i h⟩

set_option maxRecDepth 20000 in
set_option maxHeartbeats 2000000 in
theorem heldRts_any (lo : Nat) (v : Value) (n : Nat) (k : Int) (w : World) (hv : RtsAt lo w v (tmarks k n)) (h0 : 0 ≤ k) (hk : k + n ≤ 4000000000000000000) :
    Calls Try.prog 20 #[v, .int .i64 k] w fun e w' => e = .returned (.int .i64 (k + n)) ∧ Below w.heap.size w w' := by
  have HV := hide hv
  obtain ⟨a, cap, rfl⟩ := hv.form
  clear hv
  rw [tmarks_len] at HV
  rw [tmarks_len]
  go_enter Try.func20, Try.ntmps20
  go_wp2
  go_loopw [5, 1] (fun i q wr => ∃ j : Nat, i = .int .i64 j ∧ q = .int .i64 (k + j) ∧ j ≤ n ∧ Below w.heap.size w wr) (fun i _ _ => n - (intOf i).toNat)
  case atStart => exact ⟨0, rfl, by simp, by omega, Below.refl _ _⟩
  case round =>
    obtain ⟨j, rfl, rfl, hj, hb⟩ := hrel
    have HB0 := hide hb
    clear hb
    by_cases hlt : j < n
    · obtain ⟨b, off, rfl, hbw, -, hc⟩ := HV.out.full' (by rw [tmarks_len]; omega)
      have hcj : w.cell? ⟨b, off + j, none⟩ = some (.string (mtB (k + j))) := by rw [(hc j (by rw [tmarks_len]; omega)).2, tmarks_get]
      have d1 : wr.cell? ⟨b, off + j, none⟩ = some (.string (mtB (k + j))) := (HB0.out.cell (p := ⟨b, off + j, none⟩) hbw).trans hcj
      have x0 : ∀ X : In (Up wr), X.w.cell? ⟨b, off + j, none⟩ = some (.string (mtB (k + j))) := fun X => Up.cell X d1
      have xn : Nonempty (In (Up wr)) := ⟨⟨wr, Below.refl _ _⟩⟩
      have xs := fun (X : In (Up wr)) => in_self X
      have i0 : (0 : Int) ≤ (j : Int) := by omega
      have i1 : (j : Int) < (n : Int) := by omega
      clear hc hcj
      go_wp2
      clear d1
      refine wp_region_class (Up wr) (by kernel_rfl) (by kernel_rfl) ((Below.refl _ _).drew) ?_
      repeat (go_big_quiet_step (first | (go_at_call 28; rename_i X; exact (markText_any _ _ (by omega)).mono fun _ _ h => ⟨h.1, Up.next X h.2⟩)))
      refine wpQuiet_nil ?_
      intro w1 hw
      obtain ⟨Y, hY⟩ := hw
      have HB1 : Hid (Below w.heap.size w w1) := HB0.out.trans (Below.mono (show Below wr.heap.size wr w1 by rw [hY]; exact Y.h) HB0.out.size)
      clear hY Y x0 xs xn HB0
      go_wp2
      go_roundw
      case rel => exact ⟨j + 1, by go_num, by go_num, by omega, HB1.out⟩
      case measure => simp [intOf]; omega
    · have e : j = n := by omega
      subst e
      go_wp2
      go_ret
      exact ⟨rfl, HB0.out⟩
end Go.Proofs.Ytlednecohppljaa
namespace Go.Proofs.Ytlednecohppljaa
open Go.RowKit Go.Deep

/-! a list of slots that grows in a block of the call's own, whatever that block is typed -/
def rsL (x : Rs) : List Value := [.int .i64 x.ba, .string x.tx]
theorem rsL_len (x : Rs) : (rsL x).length = 2 := rfl
theorem rsL_one (L : List Rs) : ∀ u ∈ flatV rsL L, u.oneCell' = true := fun u hu => by
  obtain ⟨x, -, hx⟩ := flatV_mem hu
  simp only [rsL, List.mem_cons, List.not_mem_nil, or_false] at hx
  rcases hx with rfl | rfl <;> rfl
structure LR (w : World) (base g cap : Nat) (L : List Rs) : Prop where
  bs : base ≤ g
  lt : g < w.heap.size
  le : L.length ≤ cap
  mx : cap ≤ maxLen
  th : ∀ j, j < cap * 2 → (w.cell? ⟨g, j, none⟩).isSome = true
  fz : ∀ j, w.frozen? ⟨g, j, none⟩ = false
  rg : w.rangeAt g 0 (flatV rsL L)
  sz : ∀ i (h : i < L.length), RsSize L[i]
theorem LR.below {w w' : World} {base g cap : Nat} {L : List Rs} (h : LR w base g cap L) (hb : Below w.heap.size w w') : LR w' base g cap L :=
  ⟨h.bs, Nat.lt_of_lt_of_le h.lt hb.size, h.le, h.mx, fun j hj => by rw [hb.cell (p := ⟨g, j, none⟩) h.lt]; exact h.th j hj, fun j => by rw [hb.frozen (p := ⟨g, j, none⟩) h.lt]; exact h.fz j, rng_below h.rg hb h.lt, h.sz⟩
def LRow (w : World) (base : Nat) (v : Value) (L : List Rs) : Prop := ∃ g cap, v = .slice (some ⟨g, 0, none⟩) L.length cap ∧ LR w base g cap L
theorem LRow.below {w w' : World} {base : Nat} {v : Value} {L : List Rs} (h : LRow w base v L) (hb : Below w.heap.size w w') : LRow w' base v L := by
  obtain ⟨g, cap, h1, h2⟩ := h
  exact ⟨g, cap, h1, h2.below hb⟩
theorem LR.cells {w : World} {base g cap : Nat} {L : List Rs} (h : LR w base g cap L) {i : Nat} (hi : i < L.length) : RsCells w g (0 + i * 2) L[i] := by
  have e0 := flatV_get rsL_len L i 0 hi (by omega)
  have e1 := flatV_get rsL_len L i 1 hi (by omega)
  have r0 := h.rg (i * 2) (.int .i64 L[i].ba) (by simpa [rsL] using e0)
  have r1 := h.rg (i * 2 + 1) (.string L[i].tx) (by simpa [rsL] using e1)
  exact ⟨r0, r1⟩
theorem LRow.at {w : World} {base : Nat} {v : Value} {L : List Rs} (h : LRow w base v L) : RssAt base w v L := by
  obtain ⟨g, cap, h1, h2⟩ := h
  by_cases hL : L = []
  · subst hL
    exact Or.inl ⟨_, _, h1, rfl⟩
  · exact Or.inr ⟨g, 0, cap, h1, hL, Nat.le_trans h2.le h2.mx, h2.lt, h2.bs, h2.le, fun i hi => ⟨h2.sz i hi, h2.cells hi⟩⟩
theorem LRow.own {w : World} {base : Nat} {v : Value} {L : List Rs} (h : LRow w base v L) : RssOwn base w.heap.size w v L := by
  obtain ⟨g, cap, h1, h2⟩ := h
  by_cases hL : L = []
  · subst hL
    exact Or.inl ⟨_, _, h1, rfl⟩
  · have h0 : 0 < L.length := List.length_pos_iff.2 hL
    refine Or.inr ⟨g, 0, cap, fun _ => g + 1, fun i => if h : i < L.length then L[i] else L[0], h1, hL, Nat.le_trans h2.le h2.mx, h2.le, fun i hi => by simp [hi], h2.lt, h2.bs, Nat.lt_succ_self _, h2.lt, fun _ _ => Nat.le_refl _, h2.lt, h2.fz, fun i hi => ?_⟩
    simp only [hi, dif_pos]
    exact ⟨h2.sz i hi, h2.cells hi⟩
theorem owns_lr {w : World} {base : Nat} {e : TypeId} {v : Value} {n : Nat} {L : List Rs} (h : w.ownsRow base e 2 v n (flatV rsL L)) (hn : n = L.length) (h0 : 0 < n) (hz : ∀ i (h : i < L.length), RsSize L[i]) : LRow w base v L := by
  subst hn
  rcases h.2 with ⟨_, h'⟩ | ⟨g, cap, cur, hv, hb, hg, hnc, hcm, hcs, htk⟩
  · omega
  · refine ⟨g, cap, hv, hb, (Array.getElem?_eq_some_iff.1 hg).1, hnc, hcm, fun j hj => by rw [cell_heap hg, Array.getElem?_eq_getElem (by omega)]; rfl, fun j => frozen_none hg j, fun j u hu => ?_, hz⟩
    rw [Nat.zero_add, cell_heap hg]
    have hj : j < L.length * 2 := by
      have := (List.getElem?_eq_some_iff.1 hu).1
      rwa [flatV_len rsL_len] at this
    rw [← htk, List.getElem?_take_of_lt hj] at hu
    simpa using hu
theorem LR.put {w : World} {base g cap : Nat} {L M : List Rs} (h : LR w base g cap L) (hc : L.length + M.length ≤ cap) (hz : ∀ i (h : i < M.length), RsSize M[i]) :
    LR (w.setCells g (0 + L.length * 2) (flatV rsL M)) base g cap (L ++ M) := by
  have hlm : (flatV rsL M).length = M.length * 2 := flatV_len rsL_len M
  have hll : (flatV rsL L).length = L.length * 2 := flatV_len rsL_len L
  refine ⟨h.bs, by rw [size_sets]; exact h.lt, by rw [List.length_append]; exact hc, h.mx, fun j hj => World.isSome_setCells _ _ _ _ _ (h.th j hj), fun j => by rw [World.frozen?_setCells]; exact h.fz j, ?_, ?_⟩
  · rw [flatV_app]
    intro j u hu
    by_cases hj : j < L.length * 2
    · rw [List.getElem?_append_left (by omega)] at hu
      exact World.rangeAt_setCells_apart h.rg g (0 + L.length * 2) (flatV rsL M) (Or.inr (Or.inl (by omega))) j u hu
    · rw [List.getElem?_append_right (by omega), hll] at hu
      have := World.rangeAt_setCells_same w g (0 + L.length * 2) (flatV rsL M) (fun j hj' => ⟨h.th _ (by omega), h.fz _⟩) (j - L.length * 2) u hu
      rwa [show 0 + L.length * 2 + (j - L.length * 2) = 0 + j by omega] at this
  · intro i hi
    rw [List.getElem_append]
    split
    · exact h.sz i (by assumption)
    · exact hz _ _
theorem infoRs : (Try.prog.info? 56).map (fun i => (i.zero, i.size, i.bytes)) = some (some (.agg #[.int .i64 0, .string ⟨#[]⟩]), 2, 24) := by kernel_rfl
theorem info_parts {P : Program} {t : TypeId} {z : Value} {s b : Nat} (h : (P.info? t).map (fun i => (i.zero, i.size, i.bytes)) = some (some z, s, b)) : ∃ i, P.info? t = some i ∧ i.zero = some z ∧ i.size = s ∧ i.bytes = b := by
  cases hi : P.info? t with
  | none => rw [hi] at h; simp at h
  | some i =>
    rw [hi] at h
    simp only [Option.map_some, Option.some.injEq, Prod.mk.injEq] at h
    exact ⟨i, rfl, h.1, h.2.1, h.2.2⟩
/-- append to such a list, whatever is put behind it -/
theorem run_lrow {w : World} {base : Nat} {v : Value} {L M : List Rs} (ty : TypeId) (h : LRow w base v L) (ao : Option Addr) (m c : Nat) (hM : m = M.length) (hm : ao = none → m = 0)
    (hsrc : ∀ ad, ao = some ad → ∀ j u, (flatV rsL M)[j]? = some u → w.cell? (ad.add j) = some u) (hz : ∀ i (h : i < M.length), RsSize M[i]) (hb : L.length + M.length ≤ 10000000) (hbase : base ≤ w.heap.size) :
    ∃ v' w', (Builtin.append_ #[24, 24] ty #[v, .slice ao m c]).run Try.prog w = .ok v' w' ∧ LRow w' base v' (L ++ M) ∧ Below base w w' := by
  obtain ⟨i0, hi, hz0, hz1, hz2⟩ := info_parts infoRs
  obtain ⟨g, cap, rfl, hr⟩ := h
  subst hM
  have hlm : (flatV rsL M).length = M.length * 2 := flatV_len rsL_len M
  cases ao with
  | none =>
    have h0 := hm rfl
    obtain rfl : M = [] := List.eq_nil_of_length_eq_zero h0
    refine ⟨.slice (some ⟨g, 0, none⟩) L.length cap, w, ?_, ⟨g, cap, by simp, by simpa using hr⟩, Below.refl _ _⟩
    simp [Builtin.append_, run_underlying Try.underlying24, sizeOf, typeInfo, hi, Builtin.lenOf, Builtin.firstCells, storeCells, hr.le]
  | some ad =>
    by_cases hc : L.length + M.length ≤ cap
    · refine ⟨.slice (some ⟨g, 0, none⟩) (L.length + M.length) cap, w.setCells g (0 + L.length * 2) (flatV rsL M), ?_, ⟨g, cap, ?_, hr.put hc hz⟩, Below.sets hr.bs _ _ (Below.refl _ _)⟩
      · have := run_append_room_cells (P := Try.prog) w 24 ty 56 i0 Try.underlying24 hi g 0 L.length cap ad M.length c (flatV rsL M) (by rw [hz1]; exact hlm) (hsrc ad rfl) (rsL_one M) hc
          (fun j hj => hr.th _ (by rw [hz1]; omega)) (fun j hj => hr.fz _)
        rw [hz1] at this
        exact this
      · rw [List.length_append]
    · obtain ⟨v', w', h1, h2, h3⟩ := run_append_arg_grows (P := Try.prog) w 24 ty 56 i0 (.agg #[.int .i64 0, .string ⟨#[]⟩]) 2 24 Try.underlying24 hi hz0 hz1 hz2 rfl (by omega) ⟨g, 0, none⟩ L.length cap (flatV rsL L) (flatV_len rsL_len L)
        (fun j u hj => by rw [Addr.add_lit]; exact hr.rg j u hj) ad M.length c (flatV rsL M) hlm (hsrc ad rfl) (by omega) (by unfold maxLen; omega) (by omega)
      have hzz : ∀ i (h : i < (L ++ M).length), RsSize (L ++ M)[i] := by
        intro i hi
        rw [List.getElem_append]
        split
        · exact hr.sz i (by assumption)
        · exact hz _ _
      have hp : 0 < L.length + M.length := by omega
      have h4 : LRow w' w.heap.size v' (L ++ M) := owns_lr (by rw [flatV_app]; exact h2) (by rw [List.length_append]) hp hzz
      obtain ⟨g', cap', e1, e2⟩ := h4
      exact ⟨v', w', h1, ⟨g', cap', e1, ⟨Nat.le_trans hbase e2.bs, e2.lt, e2.le, e2.mx, e2.th, e2.fz, e2.rg, e2.sz⟩⟩, ⟨h3.os, h3.tape, h3.output, h3.size, fun k hk => h3.block k (by omega) (by simp)⟩⟩
/-- what stands in memory, as a source of an append -/
theorem RssAt.src {lo : Nat} {w : World} {ao : Option Addr} {n cap : Nat} {L : List Rs} (h : RssAt lo w (.slice ao n cap) L) : ∀ ad, ao = some ad → ∀ j u, (flatV rsL L)[j]? = some u → w.cell? (ad.add j) = some u := by
  rintro ad rfl j u hu
  have hj := (List.getElem?_eq_some_iff.1 hu).1
  rw [flatV_len rsL_len] at hj
  obtain ⟨b, off, e, -, -, hc⟩ := h.full' (by omega)
  injection e with e
  subst e
  have hi : j / 2 < L.length := by omega
  obtain ⟨-, hcc⟩ := hc (j / 2) hi
  rw [Addr.add_lit]
  by_cases hm : j % 2 = 0
  · have ej : j = j / 2 * 2 + 0 := by omega
    have := flatV_get rsL_len L (j / 2) 0 hi (by omega)
    rw [← ej, hu] at this
    have hu' : u = .int .i64 L[j / 2].ba := by simpa [rsL] using this
    rw [hu', ← hcc.c0]
    congr 2
    omega
  · have ej : j = j / 2 * 2 + 1 := by omega
    have := flatV_get rsL_len L (j / 2) 1 hi (by omega)
    rw [← ej, hu] at this
    have hu' : u = .string L[j / 2].tx := by simpa [rsL] using this
    rw [hu', ← hcc.c1]
    congr 2
    omega
theorem RssAt.sizes {lo : Nat} {w : World} {v : Value} {L : List Rs} (h : RssAt lo w v L) : ∀ i (hi : i < L.length), RsSize L[i] := by
  intro i hi
  obtain ⟨_, _, _, _, _, _, _, hc⟩ := h.full (fun e => by rw [e] at hi; simp at hi)
  exact (hc i hi).1
theorem RssAt.nilN {lo : Nat} {w : World} {ao : Option Addr} {n cap : Nat} {L : List Rs} (h : RssAt lo w (.slice ao n cap) L) : ao = none → L.length = 0 := by
  rintro rfl
  rcases h with ⟨_, _, _, rfl⟩ | ⟨_, _, _, h1, _⟩
  · rfl
  · injection h1 with e; cases e
end Go.Proofs.Ytlednecohppljaa
