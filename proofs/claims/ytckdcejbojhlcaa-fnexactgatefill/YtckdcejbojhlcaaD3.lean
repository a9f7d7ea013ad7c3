import Derived.Test.YtckdcejbojhlcaaD2
import Derived.Deep.RegionWith
namespace Go.Proofs.Ytckdcejbojhlcaa
open Go.RowKit Go.Deep

/-- the values that l2Fill gives -/
def fillS (Ss : List Sh) (kind : ByteArray) (V : List ByteArray) : List ByteArray :=
  match shOf Ss kind with
  | some x => if x.fields.length = V.length then fillV V x.fields else V
  | none => V
theorem fillS_no {Ss : List Sh} {kind : ByteArray} {V : List ByteArray} (h : ∀ x, shOf Ss kind = some x → x.fields.length ≠ V.length) : fillS Ss kind V = V := by
  unfold fillS
  cases hx : shOf Ss kind with
  | none => rfl
  | some x => exact if_neg (h x hx)
theorem fillS_yes {Ss : List Sh} {kind : ByteArray} {V : List ByteArray} {x : Sh} (h : shOf Ss kind = some x) (hl : x.fields.length = V.length) : fillS Ss kind V = fillV V x.fields := by unfold fillS; rw [h]; exact if_pos hl

section
variable (kind nm team : ByteArray) (vv hv sv : Value) (en : Bool) (ver : Int) (V Ho : List ByteArray) (Ss : List Sh) (w : World) (lo : Nat)
set_option maxRecDepth 20000 in
set_option maxHeartbeats 2000000 in
theorem l2Fill_any (hS : ShsAt lo w sv Ss) (hV : StrsAt w vv V) (hH : StrsAt w hv Ho) (n1 : V.length ≤ 1048576) (n2 : Ho.length ≤ 1048576) :
    Calls Try.prog 40 #[sv, .agg #[.string kind, .string nm, .string team, vv, .bool en, hv, .int .i64 ver]] w
      fun e w' => ∃ v' h', e = .returned (.agg #[.string kind, .string nm, .string team, v', .bool en, h', .int .i64 ver]) ∧ Below w.heap.size w w' ∧ ObjOwn w.heap.size w' v' h' (fillS Ss kind V) Ho := by
  have HV := hide hV
  have HH := hide hH
  have HS := hide hS
  obtain ⟨a, cap, rfl⟩ := hV.form'
  obtain ⟨a', cap', rfl⟩ := hH.form'
  obtain ⟨a1, cap1, rfl⟩ := hS.form
  clear hV hH hS
  have HW : ∀ o o', Hid (Below w.heap.size w ((w.alloc o).alloc o')) := fun o o' => ((Below.refl _ _).alloc (Nat.le_refl _) _).alloc (by simp) _
  go_enter Try.func40, Try.ntmps40
  go_wp2_with fail
  refine (l2Copy_any _ _ _ _ _ _ _ V Ho _ (HV.out.below (HW _ _).out) (HH.out.below (HW _ _).out) n1 n2).mono ?_
  rintro e w1 ⟨v1, h1, rfl, hb, mid, hlo, hmid, hs1, hs2⟩
  obtain ⟨a2, cap2, rfl⟩ := hs1.form
  obtain ⟨a3, cap3, rfl⟩ := hs2.form
  have hz : w.heap.size + 1 < w1.heap.size := by have := hb.size; simp at this; omega
  have hz0 : w.heap.size < w1.heap.size := by omega
  have hlo' : w.heap.size + 2 ≤ mid := by simpa using hlo
  obtain ⟨hc, hf⟩ := bcell hb
  have HB : Hid (Below w.heap.size w w1) := (HW _ _).out.trans (hb.mono (by simp; omega))
  have HS1 : Hid (StrsOwn (w.heap.size + 2) mid w1 (.slice a2 V.length cap2) V) := hs1.wide (by simp) (Nat.le_refl _)
  have HS2 := hide hs2
  have g0 : ∀ i, w1.cell? ⟨w.heap.size, i, none⟩ = (#[.string kind, .string nm, .string team, .slice a V.length cap, .bool en, .slice a' Ho.length cap', .int .i64 ver] : Array Value)[i]? := fun i => by
    rw [hc _ _ (by simp; omega), cell_alloc_lt _ _ _ _ (by simp)]; exact new_cell _ _ _ _ _ rfl
  have G1 : Hid (∀ i, w1.cell? ⟨w.heap.size + 1, i, none⟩ = (#[.string ⟨#[]⟩, .string ⟨#[]⟩, .string ⟨#[]⟩, .slice none 0 0, .bool false, .slice none 0 0, .int .i64 0] : Array Value)[i]?) := fun i => by
    rw [hc _ _ (by simp)]; exact new_cell _ _ _ _ _ (by simp)
  have GF1 : Hid (∀ i, w1.frozen? ⟨w.heap.size + 1, i, none⟩ = false) := fun i => by rw [hf _ _ (by simp)]; exact new_free _ _ _ _ _ (by simp)
  clear hb hs1 hs2 hc hf hlo
  go_wp2_with fail
  have HX : ∀ o, Hid (Below w.heap.size w (w1.alloc o)) := fun o => HB.out.alloc (by omega) _
  refine (l2Fields_any _ _ _ _ _ _ _ _ V Ho Ss _ lo w HS.out (HX _).out (HV.out.below (HX _).out) (HH.out.below (HX _).out)).mono ?_
  rintro e w2 ⟨hb2, hl2⟩
  have hz2 : w1.heap.size < w2.heap.size := by have := hb2.size; simp at this; omega
  have HB2 : Hid (Below w.heap.size w w2) := (HX _).out.trans (hb2.mono (HX _).out.size)
  have hO : ∀ i, w2.cell? ⟨w1.heap.size, i, none⟩ = (#[.string kind, .string nm, .string team, .slice a2 V.length cap2, .bool en, .slice a3 Ho.length cap3, .int .i64 ver] : Array Value)[i]? := fun i => by
    rw [hb2.cell (p := ⟨w1.heap.size, i, none⟩) (by simp)]; exact new_cell _ _ _ _ _ rfl
  have G2 : Hid (∀ i, w2.cell? ⟨w.heap.size + 1, i, none⟩ = (#[.string ⟨#[]⟩, .string ⟨#[]⟩, .string ⟨#[]⟩, .slice none 0 0, .bool false, .slice none 0 0, .int .i64 0] : Array Value)[i]?) := fun i => by
    rw [hb2.cell (p := ⟨w.heap.size + 1, i, none⟩) (by simp; omega), cell_alloc_lt _ _ _ _ hz]; exact G1.out i
  have GF2 : Hid (∀ i, w2.frozen? ⟨w.heap.size + 1, i, none⟩ = false) := fun i => by
    rw [hb2.frozen (p := ⟨w.heap.size + 1, i, none⟩) (by simp; omega), free_alloc_lt _ _ _ _ hz]; exact GF1.out i
  have HA : ∀ o, Hid (Below w1.heap.size w1 (w1.alloc o)) := fun o => (Below.refl _ _).alloc (Nat.le_refl _) _
  have HV2 : Hid (StrsOwn (w.heap.size + 2) mid w2 (.slice a2 V.length cap2) V) := (HS1.out.below (HA _).out).below hb2
  have HH2 : Hid (StrsOwn mid w1.heap.size w2 (.slice a3 Ho.length cap3) Ho) := (HS2.out.below (HA _).out).below hb2
  clear hb2 g0 G1 GF1 HS1 HS2
  rcases hl2 with ⟨x, fv, hx, hl, rfl, hfd⟩ | ⟨hno, fa, fcap, rfl⟩
  · obtain ⟨fa, fcap, rfl⟩ := hfd.form
    have HFD := hide hfd
    have HG : Hid (fillS Ss kind V = fillV V x.fields) := fillS_yes hx hl
    have HL := hide hl
    have hfn : x.fields.length ≤ 1048576 := by omega
    have HO := hide hO
    clear hfd hx hl hO
    go_wp2
    go_loopw [8] (fun i wr => ∃ (k : Nat) (L : List ByteArray), i = .int .i64 k ∧ k ≤ x.fields.length ∧ FillTo V x.fields k L ∧ StrsOwn (w.heap.size + 2) mid wr (.slice a2 V.length cap2) L ∧ Touch (w.heap.size + 2) mid w2 wr) (fun i _ => x.fields.length - (intOf i).toNat)
    case atStart => exact ⟨0, V, rfl, by omega, FillTo.zero _ _, HV2.out, Touch.refl _ _ _⟩
    case round =>
      obtain ⟨k, L, rfl, hk, hfill, hso, htc⟩ := hrel
      have HFT := hide hfill
      have HSO := hide hso
      have HT := hide htc
      clear hfill hso htc
      have hszr : w1.heap.size < wr.heap.size := by have := HT.out.size; omega
      have HBr : Hid (Below w.heap.size w wr) := HB2.out.trans ((HT.out.under (by omega)).mono (by omega))
      have hO : ∀ i, wr.cell? ⟨w1.heap.size, i, none⟩ = (#[.string kind, .string nm, .string team, .slice a2 V.length cap2, .bool en, .slice a3 Ho.length cap3, .int .i64 ver] : Array Value)[i]? := fun i => by
        rw [HT.out.cell (p := ⟨w1.heap.size, i, none⟩) (by simp only []; omega) (by simp only []; omega)]; exact HO.out i
      by_cases hlt : k < x.fields.length
      · have hlv : k < V.length := by have := HL.out; omega
        have hlL : k < L.length := by rw [HFT.out.1]; exact hlv
        obtain ⟨fb, foff, rfl, hfb, hfc⟩ := HFD.out.full' (by omega)
        obtain ⟨hsz, wv, hcell, hst⟩ := hfc k hlt
        have c9 := (hcell.below HBr.out hfb).c9
        obtain ⟨vb, voff, rfl, _, hvb, hv1, hv2, hvc, hvf⟩ := HSO.out.full (by omega)
        have hvk := hvc k hlL
        rw [HFT.out.at hlv hlL] at hvk
        have hvfk := hvf k
        clear hcell hst hvc hvf hfc
        cases he : V[k].toList.isEmpty with
        | true =>
          have HFT2 := hide (HFT.out.put hlv hlt he)
          go_wp2
          go_region
          go_wp2
          go_roundw
          case rel => exact ⟨k + 1, _, by go_num, by omega, HFT2.out, (HSO.out.put hlL hsz.s9).below (Below.refl _ _).drew, (HT.out.trans (Touch.setCell _ _ _ _ _ ⟨hv1, hv2⟩)).trans (Touch.below (Below.refl _ _).drew)⟩
          case measure => simp [intOf]; omega
        | false =>
          have HFT2 := hide (HFT.out.same hlv hlt he)
          go_wp2
          go_roundw
          case rel => exact ⟨k + 1, _, by go_num, by omega, HFT2.out, HSO.out, HT.out⟩
          case measure => simp [intOf]; omega
      · have HE : Hid (L = fillV V x.fields) := HFT.out.done HL.out (by omega)
        have hR : ∀ i, wr.cell? ⟨w.heap.size + 1, i, none⟩ = (#[.string ⟨#[]⟩, .string ⟨#[]⟩, .string ⟨#[]⟩, .slice none 0 0, .bool false, .slice none 0 0, .int .i64 0] : Array Value)[i]? := fun i => by
          rw [HT.out.cell (p := ⟨w.heap.size + 1, i, none⟩) (by simp only []; omega) (by simp only []; omega)]; exact G2.out i
        have hRf : ∀ i, wr.frozen? ⟨w.heap.size + 1, i, none⟩ = false := fun i => by
          rw [HT.out.frozen (p := ⟨w.heap.size + 1, i, none⟩) (by simp only []; omega) (by simp only []; omega)]; exact GF2.out i
        have HH3 : Hid (StrsOwn mid w1.heap.size wr (.slice a3 Ho.length cap3) Ho) := HH2.out.touch HT.out (Or.inr (Nat.le_refl _))
        have r0 : wr.cell? ⟨w.heap.size + 1, 0, none⟩ = some (.string ⟨#[]⟩) := hR 0
        have r1 : wr.cell? ⟨w.heap.size + 1, 1, none⟩ = some (.string ⟨#[]⟩) := hR 1
        have r2 : wr.cell? ⟨w.heap.size + 1, 2, none⟩ = some (.string ⟨#[]⟩) := hR 2
        have r3 : wr.cell? ⟨w.heap.size + 1, 3, none⟩ = some (.slice none 0 0) := hR 3
        have r4 : wr.cell? ⟨w.heap.size + 1, 4, none⟩ = some (.bool false) := hR 4
        have r5 : wr.cell? ⟨w.heap.size + 1, 5, none⟩ = some (.slice none 0 0) := hR 5
        have r6 : wr.cell? ⟨w.heap.size + 1, 6, none⟩ = some (.int .i64 0) := hR 6
        clear hR
        go_wp2
        refine bodyPost_ret (v := .agg #[.string kind, .string nm, .string team, .slice a2 V.length cap2, .bool en, .slice a3 Ho.length cap3, .int .i64 ver]) (by simp [results, Try.results40, go_sem, r0, r1, r2, r3, r4, r5, r6]) rfl ⟨_, _, rfl, ?_, mid, by omega, by simp only [World.setCell, Array.size_modify]; omega, ?_, ?_⟩
        · repeat (refine Below.setCell ?_ (by simp only []; omega) _)
          exact HBr.out
        · rw [HG.out, ← HE.out]
          refine StrsOwn.wide (lo := w.heap.size + 2) (hi := mid) ?_ (by omega) (Nat.le_refl _)
          repeat (refine StrsOwn.setCell ?_ (by simp only []; omega) _)
          exact HSO.out
        · refine StrsOwn.wide (lo := mid) (hi := w1.heap.size) ?_ (Nat.le_refl _) (by simp only [World.setCell, Array.size_modify]; omega)
          repeat (refine StrsOwn.setCell ?_ (by simp only []; omega) _)
          exact HH3.out
  · have HG : Hid (fillS Ss kind V = V) := fillS_no hno
    have hR := G2.out
    have hRf := GF2.out
    have r0 : w2.cell? ⟨w.heap.size + 1, 0, none⟩ = some (.string ⟨#[]⟩) := hR 0
    have r1 : w2.cell? ⟨w.heap.size + 1, 1, none⟩ = some (.string ⟨#[]⟩) := hR 1
    have r2 : w2.cell? ⟨w.heap.size + 1, 2, none⟩ = some (.string ⟨#[]⟩) := hR 2
    have r3 : w2.cell? ⟨w.heap.size + 1, 3, none⟩ = some (.slice none 0 0) := hR 3
    have r4 : w2.cell? ⟨w.heap.size + 1, 4, none⟩ = some (.bool false) := hR 4
    have r5 : w2.cell? ⟨w.heap.size + 1, 5, none⟩ = some (.slice none 0 0) := hR 5
    have r6 : w2.cell? ⟨w.heap.size + 1, 6, none⟩ = some (.int .i64 0) := hR 6
    clear hR
    go_wp2
    refine bodyPost_ret (v := .agg #[.string kind, .string nm, .string team, .slice a2 V.length cap2, .bool en, .slice a3 Ho.length cap3, .int .i64 ver]) (by simp [results, Try.results40, go_sem, r0, r1, r2, r3, r4, r5, r6]) rfl ⟨_, _, rfl, ?_, mid, by omega, by simp only [World.setCell, Array.size_modify]; omega, ?_, ?_⟩
    · repeat (refine Below.setCell ?_ (by simp only []; omega) _)
      exact HB2.out
    · rw [HG.out]
      refine StrsOwn.wide (lo := w.heap.size + 2) (hi := mid) ?_ (by omega) (Nat.le_refl _)
      repeat (refine StrsOwn.setCell ?_ (by simp only []; omega) _)
      exact HV2.out
    · refine StrsOwn.wide (lo := mid) (hi := w1.heap.size) ?_ (Nat.le_refl _) (by simp only [World.setCell, Array.size_modify]; omega)
      repeat (refine StrsOwn.setCell ?_ (by simp only []; omega) _)
      exact HH2.out
end
end Go.Proofs.Ytckdcejbojhlcaa
