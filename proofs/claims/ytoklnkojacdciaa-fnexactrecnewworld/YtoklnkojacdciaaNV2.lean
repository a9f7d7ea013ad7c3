
import Derived.Test.YtoklnkojacdciaaNV1
namespace Go.Proofs.Ytoklnkojacdciaa
open Go.RowKit Go.Deep

/-- one of them while it is marked -/
structure NSt (wr : World) (g o : Nat) (v : World) (x : Nr) : Prop where
  tch : Touch g (g + 1) wr v
  oth : ∀ j, j < o ∨ o + 18 ≤ j → v.cell? ⟨g, j, none⟩ = wr.cell? ⟨g, j, none⟩
  rg : v.rangeAt g o (nrL x)
  fz : ∀ j, v.frozen? ⟨g, j, none⟩ = false
theorem NSt.set {wr : World} {g o : Nat} {v : World} {x y : Nr} (h : NSt wr g o v x) {c : Nat} {u : Value} (hc : c < 18) (he : nrL y = (nrL x).set c u) : NSt wr g o (v.setCell ⟨g, o + c, none⟩ u) y := by
  refine ⟨h.tch.trans (Touch.setCell _ _ _ _ _ ⟨Nat.le_refl _, Nat.lt_succ_self _⟩), fun j hj => ?_, fun j w hw => ?_, fun j => by rw [World.frozen?_setCell]; exact h.fz j⟩
  · rw [cell_set_ne0 _ _ _ _ _ (by omega)]
    exact h.oth j hj
  · rw [he] at hw
    by_cases e : j = c
    · subst e
      rw [List.getElem?_set_self (by rw [nrL_len]; exact hc)] at hw
      injection hw with hw
      subst hw
      obtain ⟨w0, hw0⟩ : ∃ w0, (nrL x)[j]? = some w0 := ⟨(nrL x)[j]'(by rw [nrL_len]; exact hc), List.getElem?_eq_getElem _⟩
      exact World.cell?_setCell_same _ _ _ (h.rg j w0 hw0)
    · rw [List.getElem?_set_ne (Ne.symm e)] at hw
      rw [cell_set_ne0 _ _ _ _ _ (by omega)]
      exact h.rg j w hw
theorem FR.turn {wr v : World} {lo hi g cap j : Nat} {L : List Nr} {x : Nr} (h : FR nrL 18 wr lo hi g cap L) (hj : j < L.length) (s : NSt wr g (j * 18) v x) : FR nrL 18 v lo hi g cap (L.set j x) := by
  refine ⟨h.bs, h.up, Nat.lt_of_lt_of_le h.lt s.tch.size, by rw [List.length_set]; exact h.le, h.mx, fun i hi' => ?_, s.fz, fun i u hu => ?_⟩
  · by_cases e : i < j * 18 ∨ j * 18 + 18 ≤ i
    · rw [s.oth i e]; exact h.th i hi'
    · obtain ⟨t, rfl⟩ : ∃ t, i = j * 18 + t := ⟨i - j * 18, by omega⟩
      have := s.rg t _ (List.getElem?_eq_getElem (by rw [nrL_len]; omega))
      rw [this]; rfl
  · have hl : i < (flatV nrL (L.set j x)).length := (List.getElem?_eq_some_iff.1 hu).1
    rw [flatV_len nrL_len, List.length_set] at hl
    obtain ⟨q, t, rfl, ht⟩ : ∃ q t, i = q * 18 + t ∧ t < 18 := ⟨i / 18, i % 18, by omega, by omega⟩
    have hq : q < L.length := by omega
    rw [flatV_get nrL_len _ q t (by rw [List.length_set]; exact hq) ht] at hu
    rw [Nat.zero_add]
    by_cases e : q = j
    · subst e
      rw [List.getElem_set_self] at hu
      exact s.rg t u hu
    · rw [List.getElem_set_ne (Ne.symm e)] at hu
      rw [s.oth _ (by omega)]
      exact h.get nrL_len hq ht hu
def mkNr (K : Int) : Nr := ⟨(K), (K + 1), ((K + 1 + 1) % 3 == 0), (K + 1 + 1 + 1), (K + 1 + 1 + 1 + 1), (K + 1 + 1 + 1 + 1 + 1), (K + 1 + 1 + 1 + 1 + 1 + 1), ((K + 1 + 1 + 1 + 1 + 1 + 1 + 1) % 3 == 0), ((K + 1 + 1 + 1 + 1 + 1 + 1 + 1 + 1) % 3 == 0), (K + 1 + 1 + 1 + 1 + 1 + 1 + 1 + 1 + 1), (K + 1 + 1 + 1 + 1 + 1 + 1 + 1 + 1 + 1 + 1)⟩
def mkP (k : Int) (j : Nat) : List Nr := (List.range j).map fun (i : Nat) => mkNr (k + 11 * (i : Int))
theorem mkP_len (k : Int) (j : Nat) : (mkP k j).length = j := by simp [mkP]
theorem mkP_set (k : Int) (j : Nat) (L : List Nr) (hj : j < L.length) : (mkP k j ++ L.drop j).set j (mkNr (k + 11 * (j : Int))) = mkP k (j + 1) ++ L.drop (j + 1) := by
  rw [List.set_append_right _ _ (by rw [mkP_len]; exact Nat.le_refl _), mkP_len, Nat.sub_self, List.drop_eq_getElem_cons hj, List.set_cons_zero]
  simp [mkP, List.range_succ]
theorem NSt.cells {wr v : World} {g j : Nat} {x : Nr} (h : NSt wr g (j * 18) v x) : v.cell? ⟨g, j * 18, none⟩ = some (.int .i64 x.nu) ∧ v.cell? ⟨g, j * 18 + 1, none⟩ = some (.int .i64 x.of) ∧ v.cell? ⟨g, j * 18 + 2, none⟩ = some (.bool x.up) ∧ v.cell? ⟨g, j * 18 + 3, none⟩ = some (.int .i64 x.sp) ∧ v.cell? ⟨g, j * 18 + 3 + 1, none⟩ = some (.int .i64 x.sk) ∧ v.cell? ⟨g, j * 18 + 3 + 2, none⟩ = some (.slice none 0 0) ∧ v.cell? ⟨g, j * 18 + 6, none⟩ = some (.int .i64 x.dp) ∧ v.cell? ⟨g, j * 18 + 6 + 1, none⟩ = some (.int .i64 x.dk) ∧ v.cell? ⟨g, j * 18 + 6 + 2, none⟩ = some (.slice none 0 0) ∧ v.cell? ⟨g, j * 18 + 9, none⟩ = some (.slice none 0 0) ∧ v.cell? ⟨g, j * 18 + 10, none⟩ = some (.slice none 0 0) ∧ v.cell? ⟨g, j * 18 + 11, none⟩ = some (.bool x.ld) ∧ v.cell? ⟨g, j * 18 + 12, none⟩ = some (.bool x.ty) ∧ v.cell? ⟨g, j * 18 + 13, none⟩ = some (.int .i64 x.ba) ∧ v.cell? ⟨g, j * 18 + 14, none⟩ = some (.slice none 0 0) ∧ v.cell? ⟨g, j * 18 + 15, none⟩ = some (.slice none 0 0) ∧ v.cell? ⟨g, j * 18 + 16, none⟩ = some (.slice none 0 0) ∧ v.cell? ⟨g, j * 18 + 17, none⟩ = some (.int .i64 x.hd) :=
  ⟨h.rg 0 _ rfl, h.rg 1 _ rfl, h.rg 2 _ rfl, h.rg 3 _ rfl, h.rg 4 _ rfl, h.rg 5 _ rfl, h.rg 6 _ rfl, h.rg 7 _ rfl, h.rg 8 _ rfl, h.rg 9 _ rfl, h.rg 10 _ rfl, h.rg 11 _ rfl, h.rg 12 _ rfl, h.rg 13 _ rfl, h.rg 14 _ rfl, h.rg 15 _ rfl, h.rg 16 _ rfl, h.rg 17 _ rfl⟩

set_option maxRecDepth 20000 in
set_option maxHeartbeats 16000000 in
theorem markN_any (lo hi g cap : Nat) (L : List Nr) (k : Int) (w : World) (h : FR nrL 18 w lo hi g cap L) (hn : L.length ≤ 5) (h0 : 0 ≤ k) (hk : k ≤ 1000000) :
    Calls Try.prog 27 #[.slice (some ⟨g, 0, none⟩) L.length cap, .int .i64 k] w fun e w' => e = .returned (.int .i64 (k + 11 * (L.length : Int))) ∧ Touch g (g + 1) w w' ∧ FR nrL 18 w' lo hi g cap (mkP k L.length) := by
  obtain ⟨n, hnn⟩ : ∃ n, n = L.length := ⟨_, rfl⟩
  rw [← hnn] at hn ⊢
  have HNN := hide hnn
  have HF := hide h
  clear hnn h
  go_enter Try.func27, Try.ntmps27
  go_wp2
  go_loopw [5, 1] (fun i q wr => ∃ j : Nat, i = .int .i64 j ∧ q = .int .i64 (k + 11 * (j : Int)) ∧ j ≤ n ∧ Touch g (g + 1) w wr ∧ FR nrL 18 wr lo hi g cap (mkP k j ++ L.drop j)) (fun i _ _ => n - (intOf i).toNat)
  case atStart => exact ⟨0, rfl, by simp, by omega, Touch.refl _ _ _, by simpa [mkP] using HF.out⟩
  case round =>
    obtain ⟨j, rfl, rfl, hj, ht, hr⟩ := hrel
    have HT := hide ht
    have HR := hide hr
    clear ht hr HF
    by_cases hlt : j < n
    · have hjl : j < L.length := by rw [← HNN.out]; exact hlt
      have hjA : j < (mkP k j ++ L.drop j).length := by rw [List.length_append, mkP_len, List.length_drop]; omega
      obtain ⟨x, hx⟩ : ∃ x, x = (mkP k j ++ L.drop j)[j] := ⟨_, rfl⟩
      obtain ⟨K, hK⟩ : ∃ K, K = k + 11 * (j : Int) := ⟨_, rfl⟩
      rw [← hK]
      have hK0 : 0 ≤ K := by omega
      have hK1 : K ≤ 2000000 := by omega
      have HK := hide hK
      have HS : Hid (NSt wr g (j * 18) wr x) := ⟨Touch.refl _ _ _, fun _ _ => rfl, fun t u hu => HR.out.get nrL_len hjA (by have := (List.getElem?_eq_some_iff.1 hu).1; rwa [nrL_len] at this) (by rw [← hx]; exact hu), HR.out.fz⟩
      have i0 : (0 : Int) ≤ (j : Int) := by omega
      have i1 : (j : Int) < (n : Int) := by omega
      clear hx hK
      · skip
        obtain ⟨d0, d1, d2, d3, d4, d5, d6, d7, d8, d9, d10, d11, d12, d13, d14, d15, d16, d17⟩ := HS.out.cells
        have fz := HS.out.fz
        go_upto_region 14 with fail
        clear d0 d1 d2 d3 d4 d5 d6 d7 d8 d9 d10 d11 d12 d13 d14 d15 d16 d17 fz
        obtain ⟨v1, hv, HS1⟩ : ∃ v', v' = (((((wr.setCell ⟨g, j * 18, none⟩ (.int .i64 (K))).setCell ⟨g, j * 18 + 1, none⟩ (.int .i64 (K + 1))).setCell ⟨g, j * 18 + 2, none⟩ (.bool ((K + 1 + 1) % 3 == 0))).setCell ⟨g, j * 18 + 3, none⟩ (.int .i64 (K + 1 + 1 + 1))).setCell ⟨g, j * 18 + 3 + 1, none⟩ (.int .i64 (K + 1 + 1 + 1 + 1))) ∧ Hid (NSt wr g (j * 18) v' ⟨(K), (K + 1), ((K + 1 + 1) % 3 == 0), (K + 1 + 1 + 1), (K + 1 + 1 + 1 + 1), x.dp, x.dk, x.ld, x.ty, x.ba, x.hd⟩) := ⟨_, rfl, (NSt.set (c := 4) (y := ⟨(K), (K + 1), ((K + 1 + 1) % 3 == 0), (K + 1 + 1 + 1), (K + 1 + 1 + 1 + 1), x.dp, x.dk, x.ld, x.ty, x.ba, x.hd⟩) (NSt.set (c := 3) (y := ⟨(K), (K + 1), ((K + 1 + 1) % 3 == 0), (K + 1 + 1 + 1), x.sk, x.dp, x.dk, x.ld, x.ty, x.ba, x.hd⟩) (NSt.set (c := 2) (y := ⟨(K), (K + 1), ((K + 1 + 1) % 3 == 0), x.sp, x.sk, x.dp, x.dk, x.ld, x.ty, x.ba, x.hd⟩) (NSt.set (c := 1) (y := ⟨(K), (K + 1), x.up, x.sp, x.sk, x.dp, x.dk, x.ld, x.ty, x.ba, x.hd⟩) (NSt.set (c := 0) (y := ⟨(K), x.of, x.up, x.sp, x.sk, x.dp, x.dk, x.ld, x.ty, x.ba, x.hd⟩) HS.out (by decide) rfl) (by decide) rfl) (by decide) rfl) (by decide) rfl) (by decide) rfl)⟩
        rw [← hv]
        clear hv HS
        obtain ⟨d0, d1, d2, d3, d4, d5, d6, d7, d8, d9, d10, d11, d12, d13, d14, d15, d16, d17⟩ := HS1.out.cells
        have fz := HS1.out.fz
        go_upto_region 15 with (first | (go_at_call 55; refine (markRecSlotS_nil _ _).mono ?_; rintro e v1 ⟨rfl, rfl⟩))
        clear d0 d1 d2 d3 d4 d5 d6 d7 d8 d9 d10 d11 d12 d13 d14 d15 d16 d17 fz
        obtain ⟨d0, d1, d2, d3, d4, d5, d6, d7, d8, d9, d10, d11, d12, d13, d14, d15, d16, d17⟩ := HS1.out.cells
        have fz := HS1.out.fz
        go_upto_region 19 with fail
        clear d0 d1 d2 d3 d4 d5 d6 d7 d8 d9 d10 d11 d12 d13 d14 d15 d16 d17 fz
        obtain ⟨v2, hv, HS2⟩ : ∃ v', v' = ((v1.setCell ⟨g, j * 18 + 6, none⟩ (.int .i64 (K + 1 + 1 + 1 + 1 + 1))).setCell ⟨g, j * 18 + 6 + 1, none⟩ (.int .i64 (K + 1 + 1 + 1 + 1 + 1 + 1))) ∧ Hid (NSt wr g (j * 18) v' ⟨(K), (K + 1), ((K + 1 + 1) % 3 == 0), (K + 1 + 1 + 1), (K + 1 + 1 + 1 + 1), (K + 1 + 1 + 1 + 1 + 1), (K + 1 + 1 + 1 + 1 + 1 + 1), x.ld, x.ty, x.ba, x.hd⟩) := ⟨_, rfl, (NSt.set (c := 7) (y := ⟨(K), (K + 1), ((K + 1 + 1) % 3 == 0), (K + 1 + 1 + 1), (K + 1 + 1 + 1 + 1), (K + 1 + 1 + 1 + 1 + 1), (K + 1 + 1 + 1 + 1 + 1 + 1), x.ld, x.ty, x.ba, x.hd⟩) (NSt.set (c := 6) (y := ⟨(K), (K + 1), ((K + 1 + 1) % 3 == 0), (K + 1 + 1 + 1), (K + 1 + 1 + 1 + 1), (K + 1 + 1 + 1 + 1 + 1), x.dk, x.ld, x.ty, x.ba, x.hd⟩) HS1.out (by decide) rfl) (by decide) rfl)⟩
        rw [← hv]
        clear hv HS1
        obtain ⟨d0, d1, d2, d3, d4, d5, d6, d7, d8, d9, d10, d11, d12, d13, d14, d15, d16, d17⟩ := HS2.out.cells
        have fz := HS2.out.fz
        go_upto_region 22 with (first | (go_at_call 28; refine (markRecMessageS_nil _ _).mono ?_; rintro e v2 ⟨rfl, rfl⟩) | (go_at_call 55; refine (markRecSlotS_nil _ _).mono ?_; rintro e v2 ⟨rfl, rfl⟩) | (go_at_call 56; refine (markStringS_nil _ _).mono ?_; rintro e v2 ⟨rfl, rfl⟩))
        clear d0 d1 d2 d3 d4 d5 d6 d7 d8 d9 d10 d11 d12 d13 d14 d15 d16 d17 fz
        obtain ⟨d0, d1, d2, d3, d4, d5, d6, d7, d8, d9, d10, d11, d12, d13, d14, d15, d16, d17⟩ := HS2.out.cells
        have fz := HS2.out.fz
        go_upto_region 28 with fail
        clear d0 d1 d2 d3 d4 d5 d6 d7 d8 d9 d10 d11 d12 d13 d14 d15 d16 d17 fz
        obtain ⟨v3, hv, HS3⟩ : ∃ v', v' = (((v2.setCell ⟨g, j * 18 + 11, none⟩ (.bool ((K + 1 + 1 + 1 + 1 + 1 + 1 + 1) % 3 == 0))).setCell ⟨g, j * 18 + 12, none⟩ (.bool ((K + 1 + 1 + 1 + 1 + 1 + 1 + 1 + 1) % 3 == 0))).setCell ⟨g, j * 18 + 13, none⟩ (.int .i64 (K + 1 + 1 + 1 + 1 + 1 + 1 + 1 + 1 + 1))) ∧ Hid (NSt wr g (j * 18) v' ⟨(K), (K + 1), ((K + 1 + 1) % 3 == 0), (K + 1 + 1 + 1), (K + 1 + 1 + 1 + 1), (K + 1 + 1 + 1 + 1 + 1), (K + 1 + 1 + 1 + 1 + 1 + 1), ((K + 1 + 1 + 1 + 1 + 1 + 1 + 1) % 3 == 0), ((K + 1 + 1 + 1 + 1 + 1 + 1 + 1 + 1) % 3 == 0), (K + 1 + 1 + 1 + 1 + 1 + 1 + 1 + 1 + 1), x.hd⟩) := ⟨_, rfl, (NSt.set (c := 13) (y := ⟨(K), (K + 1), ((K + 1 + 1) % 3 == 0), (K + 1 + 1 + 1), (K + 1 + 1 + 1 + 1), (K + 1 + 1 + 1 + 1 + 1), (K + 1 + 1 + 1 + 1 + 1 + 1), ((K + 1 + 1 + 1 + 1 + 1 + 1 + 1) % 3 == 0), ((K + 1 + 1 + 1 + 1 + 1 + 1 + 1 + 1) % 3 == 0), (K + 1 + 1 + 1 + 1 + 1 + 1 + 1 + 1 + 1), x.hd⟩) (NSt.set (c := 12) (y := ⟨(K), (K + 1), ((K + 1 + 1) % 3 == 0), (K + 1 + 1 + 1), (K + 1 + 1 + 1 + 1), (K + 1 + 1 + 1 + 1 + 1), (K + 1 + 1 + 1 + 1 + 1 + 1), ((K + 1 + 1 + 1 + 1 + 1 + 1 + 1) % 3 == 0), ((K + 1 + 1 + 1 + 1 + 1 + 1 + 1 + 1) % 3 == 0), x.ba, x.hd⟩) (NSt.set (c := 11) (y := ⟨(K), (K + 1), ((K + 1 + 1) % 3 == 0), (K + 1 + 1 + 1), (K + 1 + 1 + 1 + 1), (K + 1 + 1 + 1 + 1 + 1), (K + 1 + 1 + 1 + 1 + 1 + 1), ((K + 1 + 1 + 1 + 1 + 1 + 1 + 1) % 3 == 0), x.ty, x.ba, x.hd⟩) HS2.out (by decide) rfl) (by decide) rfl) (by decide) rfl)⟩
        rw [← hv]
        clear hv HS2
        obtain ⟨d0, d1, d2, d3, d4, d5, d6, d7, d8, d9, d10, d11, d12, d13, d14, d15, d16, d17⟩ := HS3.out.cells
        have fz := HS3.out.fz
        go_upto_region 31 with (first | (go_at_call 57; refine (markIntS_nil _ _).mono ?_; rintro e v3 ⟨rfl, rfl⟩) | (go_at_call 58; refine (markRecAckS_nil _ _).mono ?_; rintro e v3 ⟨rfl, rfl⟩) | (go_at_call 55; refine (markRecSlotS_nil _ _).mono ?_; rintro e v3 ⟨rfl, rfl⟩))
        clear d0 d1 d2 d3 d4 d5 d6 d7 d8 d9 d10 d11 d12 d13 d14 d15 d16 d17 fz
        obtain ⟨d0, d1, d2, d3, d4, d5, d6, d7, d8, d9, d10, d11, d12, d13, d14, d15, d16, d17⟩ := HS3.out.cells
        have fz := HS3.out.fz
        go_wp2
        clear d0 d1 d2 d3 d4 d5 d6 d7 d8 d9 d10 d11 d12 d13 d14 d15 d16 d17 fz
        obtain ⟨v4, hv, HS4⟩ : ∃ v', v' = (v3.setCell ⟨g, j * 18 + 17, none⟩ (.int .i64 (K + 1 + 1 + 1 + 1 + 1 + 1 + 1 + 1 + 1 + 1))) ∧ Hid (NSt wr g (j * 18) v' ⟨(K), (K + 1), ((K + 1 + 1) % 3 == 0), (K + 1 + 1 + 1), (K + 1 + 1 + 1 + 1), (K + 1 + 1 + 1 + 1 + 1), (K + 1 + 1 + 1 + 1 + 1 + 1), ((K + 1 + 1 + 1 + 1 + 1 + 1 + 1) % 3 == 0), ((K + 1 + 1 + 1 + 1 + 1 + 1 + 1 + 1) % 3 == 0), (K + 1 + 1 + 1 + 1 + 1 + 1 + 1 + 1 + 1), (K + 1 + 1 + 1 + 1 + 1 + 1 + 1 + 1 + 1 + 1)⟩) := ⟨_, rfl, (NSt.set (c := 17) (y := ⟨(K), (K + 1), ((K + 1 + 1) % 3 == 0), (K + 1 + 1 + 1), (K + 1 + 1 + 1 + 1), (K + 1 + 1 + 1 + 1 + 1), (K + 1 + 1 + 1 + 1 + 1 + 1), ((K + 1 + 1 + 1 + 1 + 1 + 1 + 1) % 3 == 0), ((K + 1 + 1 + 1 + 1 + 1 + 1 + 1 + 1) % 3 == 0), (K + 1 + 1 + 1 + 1 + 1 + 1 + 1 + 1 + 1), (K + 1 + 1 + 1 + 1 + 1 + 1 + 1 + 1 + 1 + 1)⟩) HS3.out (by decide) rfl)⟩
        rw [← hv]
        clear hv HS3
        have HE : Hid (FR nrL 18 v4 lo hi g cap (mkP k (j + 1) ++ L.drop (j + 1))) := by unfold Hid; rw [← mkP_set k j L hjl, ← HK.out]; exact HR.out.turn hjA HS4.out
        have HTN := hide (HT.out.trans HS4.out.tch)
        have HQ : Hid ((K + 1 + 1 + 1 + 1 + 1 + 1 + 1 + 1 + 1 + 1 + 1 : Int) = k + 11 * ((j + 1 : Nat) : Int)) := by unfold Hid; have := HK.out; omega
        go_wp2
        go_roundw
        case rel => exact ⟨j + 1, by go_num, congrArg (Value.int .i64) HQ.out, by omega, HTN.out, HE.out⟩
        case measure => simp [intOf]; omega
    · have e : j = n := by omega
      subst e
      have HE : Hid (mkP k j ++ L.drop j = mkP k j) := by unfold Hid; rw [HNN.out]; simp
      go_wp2
      go_ret
      exact ⟨rfl, HT.out, by have := HR.out; rwa [HE.out] at this⟩
end Go.Proofs.Ytoklnkojacdciaa
