import Derived.Test.YtckdcejbojhlcaaD1
namespace Go.Proofs.Ytckdcejbojhlcaa
open Go.RowKit Go.Deep

/-- what is not set gets the default -/
def fillV (V : List ByteArray) (Fs : List Fd) : List ByteArray := List.zipWith (fun v (f : Fd) => if v.toList.isEmpty = true then f.df else v) V Fs
theorem fillV_len {V : List ByteArray} {Fs : List Fd} (h : Fs.length = V.length) : (fillV V Fs).length = V.length := by simp [fillV, h]
theorem fillV_get {V : List ByteArray} {Fs : List Fd} {i : Nat} (hv : i < V.length) (hf : i < Fs.length) : (fillV V Fs)[i]? = some (if V[i].toList.isEmpty = true then Fs[i].df else V[i]) := by
  simp [fillV, List.getElem?_zipWith, hv, hf]

/-- the first k are filled -/
def FillTo (V : List ByteArray) (Fs : List Fd) (k : Nat) (L : List ByteArray) : Prop :=
  L.length = V.length ∧ (∀ i, i < k → L[i]? = (fillV V Fs)[i]?) ∧ ∀ i, k ≤ i → L[i]? = V[i]?
theorem FillTo.zero (V : List ByteArray) (Fs : List Fd) : FillTo V Fs 0 V := ⟨rfl, fun i h => by omega, fun _ _ => rfl⟩
theorem FillTo.at {V : List ByteArray} {Fs : List Fd} {k : Nat} {L : List ByteArray} (h : FillTo V Fs k L) (hk : k < V.length) (hk' : k < L.length) : L[k] = V[k] := by
  have := h.2.2 k (Nat.le_refl _)
  rw [List.getElem?_eq_getElem hk', List.getElem?_eq_getElem hk] at this
  exact Option.some.inj this
theorem FillTo.same {V : List ByteArray} {Fs : List Fd} {k : Nat} {L : List ByteArray} (h : FillTo V Fs k L) (hk : k < V.length) (hf : k < Fs.length) (he : V[k].toList.isEmpty = false) : FillTo V Fs (k + 1) L := by
  refine ⟨h.1, fun i hi => ?_, fun i hi => h.2.2 i (by omega)⟩
  by_cases e : i = k
  · subst e; rw [h.2.2 i (Nat.le_refl _), fillV_get hk hf, List.getElem?_eq_getElem hk]; simp [he]
  · exact h.2.1 i (by omega)
theorem FillTo.put {V : List ByteArray} {Fs : List Fd} {k : Nat} {L : List ByteArray} (h : FillTo V Fs k L) (hk : k < V.length) (hf : k < Fs.length) (he : V[k].toList.isEmpty = true) : FillTo V Fs (k + 1) (L.set k Fs[k].df) := by
  refine ⟨by rw [List.length_set]; exact h.1, fun i hi => ?_, fun i hi => ?_⟩
  · by_cases e : i = k
    · subst e; rw [fillV_get hk hf, List.getElem?_set_self (by rw [h.1]; exact hk)]; simp [he]
    · rw [List.getElem?_set_ne (by omega)]; exact h.2.1 i (by omega)
  · rw [List.getElem?_set_ne (by omega)]; exact h.2.2 i (by omega)
theorem FillTo.done {V : List ByteArray} {Fs : List Fd} {k : Nat} {L : List ByteArray} (h : FillTo V Fs k L) (hl : Fs.length = V.length) (hk : Fs.length ≤ k) : L = fillV V Fs := by
  apply List.ext_getElem?
  intro i
  by_cases e : i < k
  · exact h.2.1 i e
  · rw [List.getElem?_eq_none (by rw [h.1]; omega), List.getElem?_eq_none (by rw [fillV_len hl]; omega)]

theorem StrsOwn.put {lo hi : Nat} {w : World} {b off cap n : Nat} {L : List ByteArray} (h : StrsOwn lo hi w (.slice (some ⟨b, off, none⟩) n cap) L) {k : Nat} (hk : k < L.length) {s : ByteArray} (hs : s.size ≤ maxLen) :
    StrsOwn lo hi (w.setCell ⟨b, off + k, none⟩ (.string s)) (.slice (some ⟨b, off, none⟩) n cap) (L.set k s) := by
  rcases h with ⟨a, cap', h, rfl⟩ | ⟨b', off', cap', h1, h2, h3, h4, h5, h6, h7, h8, h9⟩
  · simp at hk
  · injection h1 with e1 e2 e3
    injection e1 with e1
    injection e1 with q1 q2 q3
    subst q1 q2 e2 e3
    refine Or.inr ⟨b, off, cap, by rw [List.length_set], ?_, by rw [List.length_set]; exact h3, by simpa [World.setCell] using h4, fun i hi' => ?_, fun t ht => ?_, h7, h8, fun i => by rw [World.frozen?_setCell]; exact h9 i⟩
    · intro e; have := congrArg List.length e; rw [List.length_set] at this; simp at this; exact h2 this
    · have hi2 : i < L.length := by rw [List.length_set] at hi'; exact hi'
      by_cases e : i = k
      · subst e; rw [cell_set_eq _ _ _ _ (h5 i hi2)]; simp
      · rw [cell_set_ne0 _ _ _ _ _ (by omega), h5 i hi2, List.getElem_set_ne (by omega)]
    · rcases List.mem_or_eq_of_mem_set ht with ht | rfl
      · exact h6 t ht
      · exact hs
/-- where there is something, it lies in a block -/
theorem StrsOwn.full {lo hi : Nat} {w : World} {a : Option Addr} {n cap : Nat} {L : List ByteArray} (h : StrsOwn lo hi w (.slice a n cap) L) (hL : 0 < L.length) :
    ∃ b off, a = some ⟨b, off, none⟩ ∧ n = L.length ∧ b < w.heap.size ∧ lo ≤ b ∧ b < hi ∧ (∀ i (h : i < L.length), w.cell? ⟨b, off + i, none⟩ = some (.string L[i])) ∧ ∀ i, w.frozen? ⟨b, off + i, none⟩ = false := by
  rcases h with ⟨a', cap', h, rfl⟩ | ⟨b', off', cap', h1, h2, h3, h4, h5, h6, h7, h8, h9⟩
  · simp at hL
  · injection h1 with e1 e2 e3
    exact ⟨b', off', e1, e2, h4, h7, h8, h5, h9⟩
theorem FdsAt.full' {lo : Nat} {w : World} {a : Option Addr} {n cap : Nat} {Fs : List Fd} (h : FdsAt lo w (.slice a n cap) Fs) (hL : 0 < Fs.length) :
    ∃ b off, a = some ⟨b, off, none⟩ ∧ b < w.heap.size ∧ ∀ i (h : i < Fs.length), FdSize Fs[i] ∧ ∃ wv, FdCells w b (off + i * 11) Fs[i] wv ∧ StrsIn lo w wv Fs[i].words := by
  rcases h with ⟨a', cap', h, rfl⟩ | ⟨b', off', cap', h1, h2, h3, h4, h5, h6, h7⟩
  · simp at hL
  · injection h1 with e1 e2 e3
    exact ⟨b', off', e1, h4, h7⟩

theorem new_cell (X : World) (cs : Array Value) (t : TypeId) (g i : Nat) (hg : X.heap.size = g) : (X.alloc (.cells cs t)).cell? ⟨g, i, none⟩ = cs[i]? := by subst hg; simp
theorem new_free (X : World) (cs : Array Value) (t : TypeId) (g i : Nat) (hg : X.heap.size = g) : (X.alloc (.cells cs t)).frozen? ⟨g, i, none⟩ = false := by subst hg; simp

section
variable (kd kind nm team : ByteArray) (vv hv fv : Value) (en : Bool) (ver : Int) (V Ho : List ByteArray) (Fs : List Fd) (w : World) (lo : Nat)
set_option maxRecDepth 20000 in
set_option maxHeartbeats 2000000 in
theorem fillObj_any (hV : StrsAt w vv V) (hH : StrsAt w hv Ho) (hF : FdsAt lo w fv Fs) (n1 : V.length ≤ 1048576) (n2 : Ho.length ≤ 1048576) (hl : Fs.length = V.length) :
    Calls Try.prog 43 #[.agg #[.string kd, fv], .agg #[.string kind, .string nm, .string team, vv, .bool en, hv, .int .i64 ver]] w
      fun e w' => ∃ v' h', e = .returned (.agg #[.string kind, .string nm, .string team, v', .bool en, h', .int .i64 ver]) ∧ Below w.heap.size w w' ∧ ObjOwn w.heap.size w' v' h' (fillV V Fs) Ho := by
  have HV := hide hV
  have HH := hide hH
  have HF := hide hF
  obtain ⟨a, n, cap, rfl⟩ := hV.form
  obtain ⟨a', n', cap', rfl⟩ := hH.form
  obtain ⟨a1, cap1, rfl⟩ := hF.form
  have HL := hide hl
  have hfn : Fs.length ≤ 1048576 := by omega
  clear hV hH hF hl
  have HW : ∀ o o' o'', Hid (Below w.heap.size w (((w.alloc o).alloc o').alloc o'')) := fun o o' o'' => (((Below.refl _ _).alloc (Nat.le_refl _) _).alloc (by simp) _).alloc (by simp; omega) _
  go_enter Try.func43, Try.ntmps43
  go_wp2_with fail
  refine (copyObj_any _ _ _ _ _ _ _ V Ho _ (HV.out.below (HW _ _ _).out) (HH.out.below (HW _ _ _).out) n1 n2).mono ?_
  rintro e w1 ⟨v1, h1, rfl, hb, hs⟩
  obtain ⟨mid, hlo, hmid, hs1, hs2⟩ := hs
  obtain ⟨a2, cap2, rfl⟩ := hs1.form
  obtain ⟨a3, cap3, rfl⟩ := hs2.form
  have hz : w.heap.size + 2 < w1.heap.size := by have := hb.size; simp at this; omega
  have hlo' : w.heap.size + 3 ≤ mid := by simpa using hlo
  obtain ⟨hc, hf⟩ := bcell hb
  have HB : Hid (Below w.heap.size w w1) := (HW _ _ _).out.trans (hb.mono (by simp; omega))
  have HS1 : Hid (StrsOwn (w.heap.size + 3) mid w1 (.slice a2 V.length cap2) V) := hs1.wide (by simp) (Nat.le_refl _)
  have HS2 := hide hs2
  have g0 : ∀ i, w1.cell? ⟨w.heap.size, i, none⟩ = (#[.string kd, .slice a1 Fs.length cap1] : Array Value)[i]? := fun i => by
    rw [hc _ _ (by simp; omega), (((Below.refl (w.alloc (.cells #[.string kd, .slice a1 Fs.length cap1] 64)).heap.size _).alloc (Nat.le_refl _) _).alloc (by simp) _).cell (p := ⟨w.heap.size, i, none⟩) (by simp)]; simp
  have g2 : ∀ i, w1.cell? ⟨w.heap.size + 1 + 1, i, none⟩ = (#[.string ⟨#[]⟩, .string ⟨#[]⟩, .string ⟨#[]⟩, .slice none 0 0, .bool false, .slice none 0 0, .int .i64 0] : Array Value)[i]? := fun i => by
    rw [hc _ _ (by simp)]; exact new_cell _ _ _ _ _ (by simp)
  have gf2 : ∀ i, w1.frozen? ⟨w.heap.size + 1 + 1, i, none⟩ = false := fun i => by rw [hf _ _ (by simp)]; exact new_free _ _ _ _ _ (by simp)
  have G2 := hide g2
  have GF2 := hide gf2
  have hz0 : w.heap.size < w1.heap.size := by omega
  clear hb hs1 hs2 hc hf g2 gf2 hlo
  go_wp2
  have hA : Below w1.heap.size w1 (w1.alloc (.cells #[.string kind, .string nm, .string team, .slice a2 V.length cap2, .bool en, .slice a3 Ho.length cap3, .int .i64 ver] 41)) := (Below.refl _ _).alloc (Nat.le_refl _) _
  have hN : ∀ i, (w1.alloc (.cells #[.string kind, .string nm, .string team, .slice a2 V.length cap2, .bool en, .slice a3 Ho.length cap3, .int .i64 ver] 41)).cell? ⟨w1.heap.size, i, none⟩ = (#[.string kind, .string nm, .string team, .slice a2 V.length cap2, .bool en, .slice a3 Ho.length cap3, .int .i64 ver] : Array Value)[i]? := fun i => new_cell _ _ _ _ _ rfl
  have hNs : (w1.alloc (.cells #[.string kind, .string nm, .string team, .slice a2 V.length cap2, .bool en, .slice a3 Ho.length cap3, .int .i64 ver] 41)).heap.size = w1.heap.size + 1 := by simp
  generalize hW1 : w1.alloc (.cells #[.string kind, .string nm, .string team, .slice a2 V.length cap2, .bool en, .slice a3 Ho.length cap3, .int .i64 ver] 41) = W1 at hA hN hNs ⊢
  clear hW1
  have HA := hide hA
  have HN := hide hN
  clear hA hN g0
  go_loopw [13] (fun i wr => ∃ (k : Nat) (L : List ByteArray), i = .int .i64 k ∧ k ≤ Fs.length ∧ FillTo V Fs k L ∧ StrsOwn (w.heap.size + 3) mid wr (.slice a2 V.length cap2) L ∧ Touch (w.heap.size + 3) mid W1 wr) (fun i _ => Fs.length - (intOf i).toNat)
  case atStart => exact ⟨0, V, rfl, by omega, FillTo.zero _ _, HS1.out.below HA.out, Touch.refl _ _ _⟩
  case round =>
    obtain ⟨k, L, rfl, hk, hfill, hso, htc⟩ := hrel
    have HFT := hide hfill
    have HSO := hide hso
    have HT := hide htc
    clear hfill hso htc
    have hszr : w1.heap.size < wr.heap.size := by have := HT.out.size; omega
    have HBr : Hid (Below w.heap.size w wr) := HB.out.trans ((HA.out.mono (by omega)).trans ((HT.out.under (by omega)).mono (by omega)))
    have hO : ∀ i, wr.cell? ⟨w1.heap.size, i, none⟩ = (#[.string kind, .string nm, .string team, .slice a2 V.length cap2, .bool en, .slice a3 Ho.length cap3, .int .i64 ver] : Array Value)[i]? := fun i => by
      rw [HT.out.cell (p := ⟨w1.heap.size, i, none⟩) (by simp only []; omega) (by simp only []; omega)]; exact HN.out i
    by_cases hlt : k < Fs.length
    · have hlv : k < V.length := by have := HL.out; omega
      have hlL : k < L.length := by rw [HFT.out.1]; exact hlv
      obtain ⟨fb, foff, rfl, hfb, hfc⟩ := HF.out.full' (by omega)
      obtain ⟨hsz, wv, hcell, hst⟩ := hfc k hlt
      obtain ⟨c0, c1, c2, c3, c4, c5, c6, c7, c8, c9, c10⟩ := hcell.below HBr.out hfb
      obtain ⟨wa, wn, wcap, rfl⟩ := hst.form
      obtain ⟨vb, voff, rfl, _, hvb, hv1, hv2, hvc, hvf⟩ := HSO.out.full (by omega)
      have hvk := hvc k hlL
      rw [HFT.out.at hlv hlL] at hvk
      have hvfk := hvf k
      clear hcell hst hvc hvf hfc
      cases he : V[k].toList.isEmpty with
      | true =>
        have HFT2 := hide (HFT.out.put hlv hlt he)
        have HP : ∀ o, Hid (StrsOwn (w.heap.size + 3) mid ((wr.setCell ⟨vb, voff + k, none⟩ (.string Fs[k].df)).alloc o) (.slice (some ⟨vb, voff, none⟩) V.length cap2) (L.set k Fs[k].df)) := fun o => (HSO.out.put hlL hsz.s9).below ((Below.refl _ _).alloc (Nat.le_refl _) o)
        have HTT : ∀ o, Hid (Touch (w.heap.size + 3) mid W1 ((wr.setCell ⟨vb, voff + k, none⟩ (.string Fs[k].df)).alloc o)) := fun o => (HT.out.trans (Touch.setCell _ _ _ _ _ ⟨hv1, hv2⟩)).trans (Touch.below ((Below.refl _ _).alloc (Nat.le_refl _) o))
        clear hsz
        go_wp2
        go_roundw
        case rel => exact ⟨k + 1, _, by go_num, by omega, HFT2.out, (HP _).out, (HTT _).out⟩
        case measure => simp [intOf]; omega
      | false =>
        have HFT2 := hide (HFT.out.same hlv hlt he)
        have HP : ∀ o, Hid (StrsOwn (w.heap.size + 3) mid (wr.alloc o) (.slice (some ⟨vb, voff, none⟩) V.length cap2) L) := fun o => (HSO.out.below ((Below.refl _ _).alloc (Nat.le_refl _) o))
        have HTT : ∀ o, Hid (Touch (w.heap.size + 3) mid W1 (wr.alloc o)) := fun o => (HT.out.trans (Touch.below ((Below.refl _ _).alloc (Nat.le_refl _) o)))
        clear hsz
        go_wp2
        go_roundw
        case rel => exact ⟨k + 1, _, by go_num, by omega, HFT2.out, (HP _).out, (HTT _).out⟩
        case measure => simp [intOf]; omega
    · have HE : Hid (L = fillV V Fs) := HFT.out.done HL.out (by omega)
      have hR : ∀ i, wr.cell? ⟨w.heap.size + 1 + 1, i, none⟩ = (#[.string ⟨#[]⟩, .string ⟨#[]⟩, .string ⟨#[]⟩, .slice none 0 0, .bool false, .slice none 0 0, .int .i64 0] : Array Value)[i]? := fun i => by
        rw [HT.out.cell (p := ⟨w.heap.size + 1 + 1, i, none⟩) (by simp only []; omega) (by simp only []; omega), HA.out.cell (p := ⟨w.heap.size + 1 + 1, i, none⟩) (by simp only []; omega)]; exact G2.out i
      have hRf : ∀ i, wr.frozen? ⟨w.heap.size + 1 + 1, i, none⟩ = false := fun i => by
        rw [HT.out.frozen (p := ⟨w.heap.size + 1 + 1, i, none⟩) (by simp only []; omega) (by simp only []; omega), HA.out.frozen (p := ⟨w.heap.size + 1 + 1, i, none⟩) (by simp only []; omega)]; exact GF2.out i
      have HH2 : Hid (StrsOwn mid w1.heap.size wr (.slice a3 Ho.length cap3) Ho) := (HS2.out.below HA.out).touch HT.out (Or.inr (Nat.le_refl _))
      have r0 : wr.cell? ⟨w.heap.size + 1 + 1, 0, none⟩ = some (.string ⟨#[]⟩) := hR 0
      have r1 : wr.cell? ⟨w.heap.size + 1 + 1, 1, none⟩ = some (.string ⟨#[]⟩) := hR 1
      have r2 : wr.cell? ⟨w.heap.size + 1 + 1, 2, none⟩ = some (.string ⟨#[]⟩) := hR 2
      have r3 : wr.cell? ⟨w.heap.size + 1 + 1, 3, none⟩ = some (.slice none 0 0) := hR 3
      have r4 : wr.cell? ⟨w.heap.size + 1 + 1, 4, none⟩ = some (.bool false) := hR 4
      have r5 : wr.cell? ⟨w.heap.size + 1 + 1, 5, none⟩ = some (.slice none 0 0) := hR 5
      have r6 : wr.cell? ⟨w.heap.size + 1 + 1, 6, none⟩ = some (.int .i64 0) := hR 6
      clear hR
      go_wp2
      refine bodyPost_ret (v := .agg #[.string kind, .string nm, .string team, .slice a2 V.length cap2, .bool en, .slice a3 Ho.length cap3, .int .i64 ver]) (by simp [results, Try.results43, go_sem, r0, r1, r2, r3, r4, r5, r6]) rfl ⟨_, _, rfl, ?_, mid, by omega, by simp only [World.setCell, Array.size_modify]; omega, ?_, ?_⟩
      · repeat (refine Below.setCell ?_ (by simp only []; omega) _)
        exact HBr.out
      · rw [← HE.out]
        refine StrsOwn.wide (lo := w.heap.size + 3) (hi := mid) ?_ (by omega) (Nat.le_refl _)
        repeat (refine StrsOwn.setCell ?_ (by simp only []; omega) _)
        exact HSO.out
      · refine StrsOwn.wide (lo := mid) (hi := w1.heap.size) ?_ (Nat.le_refl _) (by simp only [World.setCell, Array.size_modify]; omega)
        repeat (refine StrsOwn.setCell ?_ (by simp only []; omega) _)
        exact HH2.out
end
end Go.Proofs.Ytckdcejbojhlcaa
