import Derived.Test.YtjkkbkdpoebfaaaGreatV31
import Derived.Test.YtjkkbkdpoebfaaaGreatV34
import Derived.Deep.DeepCutAuto
import Derived.Deep.AppendLies
namespace Go.Proofs.YtjkkbkdpoebfaaaGreat
open Go.RowKit Go.Deep

theorem MdR.cells {base g c : Nat} {M : List Md} {W : World} (h : MdR base (.slice (some ⟨g, 0, none⟩) M.length c) M W) (i : Nat) (hi : i < M.length) : ∀ j, j < 6 → W.cell? ⟨g, i * 6 + j, none⟩ = (mdC M[i])[j]? := fun j hj =>
  ((owns_cell h.own (W' := W) rfl).2.2 (i * 6 + j) (by omega)).trans (flatC_at mdC 6 mdC_len M i j hi hj)
/-- what stays in a round of l3DrawMends -/
structure Dm (w : World) (ρ : Nat) (v : Value) (M : List Md) (σ : Nat) (kd : ByteArray) (fv : Value) (W : World) : Prop where
  md : MdR w.heap.size v M W
  sb : Box W σ #[.string kd, fv]
  tc : Tch ρ w W
  nb : ∀ k, v.ownBlock = some k → k < σ
  lt : ρ < w.heap.size ∧ w.heap.size ≤ σ
section
variable {w W W' : World} {ρ σ : Nat} {v fv : Value} {M : List Md} {kd : ByteArray}
theorem Dm.tch (h : Dm w ρ v M σ kd fv W) (ht : Tch ρ W W') : Dm w ρ v M σ kd fv W' := by
  have h1 := h.lt
  exact ⟨h.md.tch ht h1.1, ht.box h.sb (by omega), h.tc.trans ht, h.nb, h.lt⟩
theorem Dm.below (h : Dm w ρ v M σ kd fv W) (hb : Below W.heap.size W W') : Dm w ρ v M σ kd fv W' := h.tch (Tch.below hb)
theorem Dm.belowB {B : Nat} (h : Dm w ρ v M σ kd fv W) (hb : Below B W W') (hB : σ < B) : Dm w ρ v M σ kd fv W' := by
  have h1 := h.lt
  exact ⟨h.md.kept fun k hk => hb.block k (by have := h.nb k hk; omega), h.sb.below hb hB, h.tc.belowB hb (by omega), h.nb, h.lt⟩
theorem Dm.set {b i : Nat} (h : Dm w ρ v M σ kd fv W) (hb : σ < b) (u : Value) : Dm w ρ v M σ kd fv (W.setCell ⟨b, i, none⟩ u) := by
  have h1 := h.lt
  exact ⟨h.md.kept fun k hk => Below.heap_setCell _ _ _ k (by have := h.nb k hk; show k ≠ b; omega), box_other h.sb (by show σ ≠ b; omega) _, h.tc.other (by omega) _, h.nb, h.lt⟩
theorem Dm.sets {b : Nat} (hb : σ < b) : ∀ (vs : List Value) (o : Nat) {W : World}, Dm w ρ v M σ kd fv W → Dm w ρ v M σ kd fv (W.setCells b o vs)
  | [], _, _, h => h
  | _ :: vs, o, _, h => Dm.sets hb vs (o + 1) (h.set hb _)
end
set_option maxRecDepth 20000 in
set_option maxHeartbeats 16000000 in
theorem l3DrawMends_any (lo ρ p : Nat) (bs : List UInt8) (v : Value) (L : List SX) (w : World) (h : Rd w ρ p bs) (hp : p ≤ 700000000) (hS : ShsG lo v L w) (hl : ρ < lo) (hL : L.length ≤ 10) :
    Calls Tryz.prog 49 #[.pointer (some ⟨ρ, 0, none⟩), v] w fun e w' => ∃ (b c : Nat) (M : List Md), e = .returned (.slice (some ⟨b, 0, none⟩) M.length c) ∧ MdR w.heap.size (.slice (some ⟨b, 0, none⟩) M.length c) M w' ∧ M.length ≤ 6 ∧ (∃ q, p ≤ q ∧ q ≤ p + 1000 ∧ Rd w' ρ q bs) ∧ Tch ρ w w' := by
  obtain ⟨i1, f1, f2, f3, f4⟩ := info_parts mendInfo
  have HI := hide (And.intro f1 (And.intro f2 (And.intro f3 f4)))
  have HR := hide h
  have hlt := h.lt
  have HSG := hide hS
  obtain ⟨va, vc, rfl⟩ := ZRw.form hS
  clear h hS f1 f2 f3 f4
  go_enter Tryz.func49, Tryz.ntmps49
  go_upto_region 2 with fail
  generalize hW1 : w.alloc _ = w1
  have hbA : Below w.heap.size w w1 := by rw [← hW1]; exact one_al _ _
  have HM : Hid (MdR w.heap.size (.slice (some ⟨w.heap.size, 0, none⟩) 0 0) [] w1) := by unfold Hid; rw [← hW1]; exact ⟨World.ownsRow_made (base := w.heap.size) (e := 54) (size := 6) w #[] 0 (Nat.le_refl _) (Nat.zero_le _) (by simp), fun m hm => by cases hm⟩
  replace HR := hide (HR.out.below hbA)
  have HT : Hid (Tch ρ w w1) := Tch.below hbA
  clear hbA hW1
  go_wp2_with fail
  refine (pick_any ρ p bs 7 w1 HR.out (by omega) (by decide) (by decide)).mono ?_
  rintro e w2 ⟨x, rfl, hx0, hx1, hr, ht⟩
  obtain ⟨n, rfl⟩ := Int.eq_ofNat_of_zero_le hx0
  replace HM := hide (HM.out.tch ht hlt)
  replace HR := hide hr
  replace HT := hide (HT.out.trans ht)
  have hn7 : n < 7 := by omega
  clear hr ht hx0 hx1
  go_wp2
  go_loopg [5, 6] n (fun gk v i wr => ∃ (q g c : Nat) (M : List Md), v = .slice (some ⟨g, 0, none⟩) M.length c ∧ i = .int .i64 gk ∧ M.length + gk ≤ 6 ∧ MdR w.heap.size v M wr ∧ Rd wr ρ q bs ∧ p + 1 ≤ q ∧ q + 50 * gk ≤ p + 400 ∧ Tch ρ w wr)
  case atStart => exact ⟨p + 1, _, 0, [], rfl, rfl, by simp; omega, HM.out, HR.out, Nat.le_refl _, by omega, HT.out⟩
  case round =>
    obtain ⟨q, g, c, M, rfl, rfl, hMg, hM, hrd, hq1, hq2, htc⟩ := hrel
    replace HM := hide hM
    replace HR := hide hrd
    replace HT := hide htc
    clear hM hrd htc
    by_cases hg0 : gk = 0
    · subst hg0
      go_wp2
      go_ret
      exact ⟨g, c, M, rfl, HM.out, by omega, ⟨q, by omega, by omega, HR.out⟩, HT.out⟩
    have hg1 : (0 : Int) < (gk : Int) := by omega
    by_cases hL0 : L.length = 0
    · have hL0' : (L.length : Int) = 0 := by omega
      go_wp2
      go_ret
      exact ⟨g, c, M, rfl, HM.out, by omega, ⟨q, by omega, by omega, HR.out⟩, HT.out⟩
    have hL1 : (0 : Int) < (L.length : Int) := by omega
    obtain ⟨sb, rfl⟩ : ∃ sb, va = some ⟨sb, 0, none⟩ := by
      rcases HSG.out.own.2 with ⟨hv, hn⟩ | ⟨g, cap', cur, hv, _⟩
      · omega
      · cases hv; exact ⟨_, rfl⟩
    go_wp2_with fail
    refine (pick_any ρ q bs L.length wr HR.out (by omega) (by omega) (by omega)).mono ?_
    rintro e w3 ⟨x, rfl, hx0, hx1, hr, ht⟩
    obtain ⟨i, rfl⟩ := Int.eq_ofNat_of_zero_le hx0
    have hiL : i < L.length := by omega
    replace HM := hide (HM.out.tch ht hlt)
    replace HR := hide hr
    replace HT := hide (HT.out.trans ht)
    clear hr ht hx0 hx1
    have HS5 := hide (ZRw.tch sh_keeps HSG.out HT.out hl)
    obtain ⟨-, hsb, -, k0⟩ := ZRw.cell HS5.out shC_len hiL (j := 0) (by omega)
    obtain ⟨-, -, -, k1⟩ := ZRw.cell HS5.out shC_len hiL (j := 1) (by omega)
    obtain ⟨KX, hP, hKX⟩ := HSG.out.inn _ (List.getElem_mem hiL)
    obtain ⟨⟨fv, kd, fs⟩, hx⟩ : ∃ x, L[i] = x := ⟨_, rfl⟩
    rw [hx] at k0 k1 hP
    simp only [shC, List.getElem?_cons_zero, List.getElem?_cons_succ, Nat.add_zero] at k0 k1
    have HP := hide hP
    have HKX := hide hKX
    have hfn : fs.length ≤ 10 := hP.n
    have HKD : Hid (kd.size ≤ 1000) := hP.kd
    obtain ⟨fa, fc, rfl⟩ : ∃ a c, fv = .slice a fs.length c := owns_form hP.own
    clear hP hKX hx HS5
    have hix : (i : Int) < (L.length : Int) := by omega
    go_upto_region 6 with fail
    clear k0 k1 hix
    generalize hW4 : w3.alloc _ = w4
    have hba : Below w3.heap.size w3 w4 := by rw [← hW4]; exact one_al _ _
    have DM : Hid (Dm w ρ (.slice (some ⟨g, 0, none⟩) M.length c) M w3.heap.size kd (.slice fa fs.length fc) w4) := by
      have h1 := HT.out.size
      exact ⟨HM.out.below hba, by rw [← hW4]; exact Box.new _ _ _ _ rfl, HT.out.trans (Tch.below hba), fun k hk => (owns_lt HM.out.own hk).1, hlt, h1⟩
    replace HR := hide (HR.out.below hba)
    clear hW4 hba hsb
    clear HM HT
    generalize w3.heap.size = σ at *
    by_cases hf0 : fs.length = 0
    · have b1 : w4.cell? ⟨σ, 1, none⟩ = some (.slice fa fs.length fc) := DM.out.sb.cell 1
      have bl := DM.out.sb.lt
      have hf0' : (fs.length : Int) = 0 := by omega
      go_wp2
      go_roundg (gk - 1)
      case rel => exact ⟨q + 1, g, c, M, rfl, by go_num, by omega, DM.out.md, HR.out, by omega, by omega, DM.out.tc⟩
      case measure => omega
    have hf1 : ¬ ((fs.length : Int) = 0) := by omega
    obtain ⟨fg, rfl⟩ : ∃ fg, fa = some ⟨fg, 0, none⟩ := by
      rcases HP.out.own.2 with ⟨hv, hn⟩ | ⟨g, cap', cur, hv, _⟩
      · have : fs.length = 0 := hn
        omega
      · cases hv; exact ⟨_, rfl⟩
    have hfgK : KX fg := HP.out.blk fg rfl
    have hfg : fg < w.heap.size := (HKX.out fg hfgK).2.1
    have hfl : lo ≤ fg := (HKX.out fg hfgK).1
    have hσ : w.heap.size ≤ σ := DM.out.lt.2
    have b1 : w4.cell? ⟨σ, 1, none⟩ = some (.slice (some ⟨fg, 0, none⟩) fs.length fc) := DM.out.sb.cell 1
    have bl := DM.out.sb.lt
    go_upto_region 7 with fail
    clear b1 bl hf1
    have KP : Hid (∀ W, Dm w ρ (.slice (some ⟨g, 0, none⟩) M.length c) M σ kd (.slice (some ⟨fg, 0, none⟩) fs.length fc) W → W.cell? ⟨σ, 1, none⟩ = some (.slice (some ⟨fg, 0, none⟩) fs.length fc) ∧ FsAt fg fs W) := fun W hW => ⟨hW.sb.cell 1, fsAt_of HP.out hW.tc (by omega)⟩
    go_upto_region 7 with fail
    go_cut [8] (fun pp wc => ∃ (β : Nat) (f : Fd) (wa : Option Addr) (wn wx : Nat), pp = .pointer (some ⟨β, 0, none⟩) ∧ σ < β ∧ FdP KX w (.slice wa wn wx, f) ∧ Box wc β (fdL f (.slice wa wn wx)).toArray ∧ Dm w ρ (.slice (some ⟨g, 0, none⟩) M.length c) M σ kd (.slice (some ⟨fg, 0, none⟩) fs.length fc) wc ∧ Rd wc ρ (q + 2) bs)
    case first =>
      refine wp_region_held_drew (S := fun W => W.cell? ⟨σ, 1, none⟩ = some (.slice (some ⟨fg, 0, none⟩) fs.length fc) ∧ FsAt fg fs W) (by kernel_rfl) (KP.out _ (DM.out.below ((Below.refl _ _).drew))) (fun hHeld => ?_)
      refine wpAnyH_take (i := 0) (v := .pointer (some ⟨σ, 1, none⟩)) rfl (by kernel_rfl) (by kernel_rfl) (by kernel_rfl) (fun _ _ _ h => h) (Or.inl ⟨by rfl, fun W hW => by obtain ⟨hq1, hq2⟩ := hW; go_simp⟩) hHeld ?_
      try simp only [Act.put, List.getElem_toArray, List.getElem_cons_zero, List.setIfInBounds_toArray, List.set_cons_zero, List.set_cons_succ]
      refine wpAnyH_take (i := 1) (v := (.slice (some ⟨fg, 0, none⟩) fs.length fc)) rfl (by kernel_rfl) (by kernel_rfl) (by kernel_rfl) (fun _ _ _ h => h) (Or.inl ⟨by rfl, fun W hW => by obtain ⟨hq1, hq2⟩ := hW; go_simp⟩) hHeld ?_
      try simp only [Act.put, List.getElem_toArray, List.getElem_cons_succ, List.getElem_cons_zero, List.setIfInBounds_toArray, List.set_cons_zero, List.set_cons_succ]
      refine wpAnyH_take (i := 2) (v := .pointer (some ⟨ρ, 0, none⟩)) rfl (by kernel_rfl) (by kernel_rfl) (by kernel_rfl) (fun _ _ _ h => h) (Or.inl ⟨by rfl, fun W hW => by obtain ⟨hq1, hq2⟩ := hW; go_simp⟩) hHeld ?_
      try simp only [Act.put, List.getElem_toArray, List.getElem_cons_succ, List.getElem_cons_zero, List.setIfInBounds_toArray, List.set_cons_zero, List.set_cons_succ]
      refine wpAnyH_take (i := 3) (v := .pointer (some ⟨σ, 1, none⟩)) rfl (by kernel_rfl) (by kernel_rfl) (by kernel_rfl) (fun _ _ _ h => h) (Or.inl ⟨by rfl, fun W hW => by obtain ⟨hq1, hq2⟩ := hW; go_simp⟩) hHeld ?_
      try simp only [Act.put, List.getElem_toArray, List.getElem_cons_succ, List.getElem_cons_zero, List.setIfInBounds_toArray, List.set_cons_zero, List.set_cons_succ]
      refine wpAnyH_take (i := 4) (v := (.slice (some ⟨fg, 0, none⟩) fs.length fc)) rfl (by kernel_rfl) (by kernel_rfl) (by kernel_rfl) (fun _ _ _ h => h) (Or.inl ⟨by rfl, fun W hW => by obtain ⟨hq1, hq2⟩ := hW; go_simp⟩) hHeld ?_
      try simp only [Act.put, List.getElem_toArray, List.getElem_cons_succ, List.getElem_cons_zero, List.setIfInBounds_toArray, List.set_cons_zero, List.set_cons_succ]
      refine wpAnyH_take (i := 5) (v := .int .i64 (fs.length : Int)) rfl (by kernel_rfl) (by kernel_rfl) (by kernel_rfl) (fun _ _ _ h => h) (Or.inl ⟨by rfl, fun W hW => by obtain ⟨hq1, hq2⟩ := hW; go_simp⟩) hHeld ?_
      try simp only [Act.put, List.getElem_toArray, List.getElem_cons_succ, List.getElem_cons_zero, List.setIfInBounds_toArray, List.set_cons_zero, List.set_cons_succ]
      refine wpAnyH_ready (rs := [6, 9]) (by kernel_rfl) (by simp) ?_
      refine AllReadyH.cons rfl (fun KK hK => ?_) (AllReadyH.cons rfl (fun KK hK => ?_) AllReadyH.nil)
      ·
        go_simp
        refine (pick_any ρ _ bs fs.length _ (HR.out.below ((Below.refl _ _).drew)) (by omega) (by omega) (by omega)).mono ?_
        rintro e wy ⟨x, rfl, hx0, hx1, hr, ht⟩
        obtain ⟨j, rfl⟩ := Int.eq_ofNat_of_zero_le hx0
        have hj : j < fs.length := by omega
        have hji : (j : Int) < (fs.length : Int) := by omega
        replace ht : Tch ρ w4 wy := (Tch.below ((Below.refl _ _).drew)).trans ht
        replace HR := hide hr
        replace DM := hide (DM.out.tch ht)
        clear hr ht hx0 hx1
        obtain ⟨⟨wvj, fj⟩, hfj⟩ : ∃ y, fs[j]'hj = y := ⟨_, rfl⟩
        have HFP : Hid (FdP KX w (wvj, fj)) := by unfold Hid; rw [← hfj]; exact HP.out.inn _ (List.getElem_mem _)
        obtain ⟨wa, wn, wx, rfl⟩ := HFP.out.2.form
        have RNG : Hid (∀ W, FsAt fg fs W → W.rangeAt fg (j * 11) (fdL fj (.slice wa wn wx))) := fun W h => by have h1 := h j hj; rw [hfj] at h1; exact h1
        clear hfj
        try go_wp2_with fail
        refine hK.out _ _ (KP.out _ DM.out) (fun hHeld => ?_)
        clear hK KK
        try simp only [Act.put, List.getElem_toArray, List.getElem_cons_succ, List.getElem_cons_zero, List.setIfInBounds_toArray, List.set_cons_zero, List.set_cons_succ]
        refine wpAnyH_take (i := 7) (v := .pointer (some ⟨fg, j * 11, none⟩)) rfl (by kernel_rfl) (by kernel_rfl) (by kernel_rfl) (fun _ _ _ h => h) (Or.inl ⟨by rfl, fun W hW => by obtain ⟨hq1, hq2⟩ := hW; go_simp⟩) hHeld ?_
        try simp only [Act.put, List.getElem_toArray, List.getElem_cons_succ, List.getElem_cons_zero, List.setIfInBounds_toArray, List.set_cons_zero, List.set_cons_succ]
        refine wpAnyH_take (i := 8) rfl (by kernel_rfl) (by kernel_rfl) (by kernel_rfl) (fun _ _ _ h => h) (yieldsIf_load_mid (by rfl) 56 (.tmp 43) rfl fg (j * 11) rfl (fdL fj (.slice wa wn wx)) _ (fun _ h => RNG.out _ h.2) Tryz.underlying56 rfl Fd_sizeI) hHeld ?_
        try simp only [Act.put, List.getElem_toArray, List.getElem_cons_succ, List.getElem_cons_zero, List.setIfInBounds_toArray, List.set_cons_zero, List.set_cons_succ]
        refine wpAnyH_ready (rs := [9]) (by kernel_rfl) (by simp) ?_
        refine AllReadyH.cons rfl (fun KK hK => ?_) AllReadyH.nil
        go_simp
        have hσy := DM.out.sb.lt
        have hba := one_al wy (.cells #[.string ⟨#[]⟩, .int .i64 0, .int .i64 0, .int .i64 0, .slice none 0 0, .string ⟨#[]⟩, .int .i64 0, .bool false, .bool false, .string ⟨#[]⟩, .string ⟨#[]⟩] 56)
        refine hK.out _ _ (KP.out _ (DM.out.below hba)) (fun hHeld => ?_)
        clear hK KK
        try simp only [Act.put, List.getElem_toArray, List.getElem_cons_succ, List.getElem_cons_zero, List.setIfInBounds_toArray, List.set_cons_zero, List.set_cons_succ]
        have BN : Hid (Box (wy.alloc (.cells #[.string ⟨#[]⟩, .int .i64 0, .int .i64 0, .int .i64 0, .slice none 0 0, .string ⟨#[]⟩, .int .i64 0, .bool false, .bool false, .string ⟨#[]⟩, .string ⟨#[]⟩] 56)) wy.heap.size #[.string ⟨#[]⟩, .int .i64 0, .int .i64 0, .int .i64 0, .slice none 0 0, .string ⟨#[]⟩, .int .i64 0, .bool false, .bool false, .string ⟨#[]⟩, .string ⟨#[]⟩]) := Box.new _ _ _ _ rfl
        replace DM := hide (DM.out.below hba)
        replace HR := hide (HR.out.below hba)
        clear hba
        generalize wy.alloc _ = wz at *
        generalize wy.heap.size = γ at *
        have HTH : Hid (wz.there γ 0 11) := box_there BN.out rfl
        have hbl : wz.heap.size = wz.heap.size := rfl
        refine wpAnyH_ready (rs := [10]) (by kernel_rfl) (by simp) ?_
        refine AllReadyH.cons rfl (fun KK hK => ?_) AllReadyH.nil
        rw [if_pos (by rfl)]
        refine wp_store_mid 56 (.tmp 8) (.tmp 44) rfl γ 0 (fdL fj (.slice wa wn wx)).toArray rfl rfl HTH.out (by rw [List.size_toArray]; exact Fd_sizeI) (fdL_one fj _ _ _) ?_
        have hσb : σ < γ := by omega
        refine hK.out _ _ (KP.out _ (Dm.sets hσb _ _ DM.out)) (fun hHeld => ?_)
        clear hK KK
        try simp only [Act.put, List.getElem_toArray, List.getElem_cons_succ, List.getElem_cons_zero]
        refine wpAnyH_done (by kernel_rfl) ?_ _
        try simp only [List.getElem_toArray, List.getElem_cons_succ, List.getElem_cons_zero]
        go_wp2
        go_meet
        exact ⟨γ, fj, wa, wn, wx, rfl, hσb, HFP.out, box_full BN.out rfl, Dm.sets hσb _ _ DM.out, HR.out.others (by omega) _ _⟩
      ·
        go_simp
        have hσy := DM.out.sb.lt
        have hba : Below w4.heap.size w4 (World.drew (World.alloc w4 (.cells #[.string ⟨#[]⟩, .int .i64 0, .int .i64 0, .int .i64 0, .slice none 0 0, .string ⟨#[]⟩, .int .i64 0, .bool false, .bool false, .string ⟨#[]⟩, .string ⟨#[]⟩] 56))) := (one_al _ _).drew
        refine hK.out _ _ (KP.out _ (DM.out.below hba)) (fun hHeld => ?_)
        clear hK KK
        try simp only [Act.put, List.getElem_toArray, List.getElem_cons_succ, List.getElem_cons_zero, List.setIfInBounds_toArray, List.set_cons_zero, List.set_cons_succ]
        have BN : Hid (Box (World.drew (World.alloc w4 (.cells #[.string ⟨#[]⟩, .int .i64 0, .int .i64 0, .int .i64 0, .slice none 0 0, .string ⟨#[]⟩, .int .i64 0, .bool false, .bool false, .string ⟨#[]⟩, .string ⟨#[]⟩] 56))) w4.heap.size #[.string ⟨#[]⟩, .int .i64 0, .int .i64 0, .int .i64 0, .slice none 0 0, .string ⟨#[]⟩, .int .i64 0, .bool false, .bool false, .string ⟨#[]⟩, .string ⟨#[]⟩]) := (Box.new _ _ _ _ rfl).drew
        replace DM := hide (DM.out.below hba)
        replace HR := hide (HR.out.below hba)
        clear hba
        generalize World.drew _ = wz at *
        generalize w4.heap.size = γ at *
        refine wpAnyH_ready (rs := [6]) (by kernel_rfl) (by simp) ?_
        refine AllReadyH.cons rfl (fun KK hK => ?_) AllReadyH.nil
        go_simp
        refine (pick_any ρ _ bs fs.length _ HR.out (by omega) (by omega) (by omega)).mono ?_
        rintro e wy ⟨x, rfl, hx0, hx1, hr, ht⟩
        obtain ⟨j, rfl⟩ := Int.eq_ofNat_of_zero_le hx0
        have hj : j < fs.length := by omega
        have hji : (j : Int) < (fs.length : Int) := by omega
        replace HR := hide hr
        replace DM := hide (DM.out.tch ht)
        replace BN := hide (ht.box BN.out (by omega))
        clear hr ht hx0 hx1
        obtain ⟨⟨wvj, fj⟩, hfj⟩ : ∃ y, fs[j]'hj = y := ⟨_, rfl⟩
        have HFP : Hid (FdP KX w (wvj, fj)) := by unfold Hid; rw [← hfj]; exact HP.out.inn _ (List.getElem_mem _)
        obtain ⟨wa, wn, wx, rfl⟩ := HFP.out.2.form
        have RNG : Hid (∀ W, FsAt fg fs W → W.rangeAt fg (j * 11) (fdL fj (.slice wa wn wx))) := fun W h => by have h1 := h j hj; rw [hfj] at h1; exact h1
        clear hfj
        try go_wp2_with fail
        refine hK.out _ _ (KP.out _ DM.out) (fun hHeld => ?_)
        clear hK KK
        try simp only [Act.put, List.getElem_toArray, List.getElem_cons_succ, List.getElem_cons_zero, List.setIfInBounds_toArray, List.set_cons_zero, List.set_cons_succ]
        refine wpAnyH_take (i := 7) (v := .pointer (some ⟨fg, j * 11, none⟩)) rfl (by kernel_rfl) (by kernel_rfl) (by kernel_rfl) (fun _ _ _ h => h) (Or.inl ⟨by rfl, fun W hW => by obtain ⟨hq1, hq2⟩ := hW; go_simp⟩) hHeld ?_
        try simp only [Act.put, List.getElem_toArray, List.getElem_cons_succ, List.getElem_cons_zero, List.setIfInBounds_toArray, List.set_cons_zero, List.set_cons_succ]
        refine wpAnyH_take (i := 8) rfl (by kernel_rfl) (by kernel_rfl) (by kernel_rfl) (fun _ _ _ h => h) (yieldsIf_load_mid (by rfl) 56 (.tmp 43) rfl fg (j * 11) rfl (fdL fj (.slice wa wn wx)) _ (fun _ h => RNG.out _ h.2) Tryz.underlying56 rfl Fd_sizeI) hHeld ?_
        try simp only [Act.put, List.getElem_toArray, List.getElem_cons_succ, List.getElem_cons_zero, List.setIfInBounds_toArray, List.set_cons_zero, List.set_cons_succ]
        have HTH : Hid (wy.there γ 0 11) := box_there BN.out rfl
        have hbl : wy.heap.size = wy.heap.size := rfl
        refine wpAnyH_ready (rs := [10]) (by kernel_rfl) (by simp) ?_
        refine AllReadyH.cons rfl (fun KK hK => ?_) AllReadyH.nil
        rw [if_pos (by rfl)]
        refine wp_store_mid 56 (.tmp 8) (.tmp 44) rfl γ 0 (fdL fj (.slice wa wn wx)).toArray rfl rfl HTH.out (by rw [List.size_toArray]; exact Fd_sizeI) (fdL_one fj _ _ _) ?_
        have hσb : σ < γ := by omega
        refine hK.out _ _ (KP.out _ (Dm.sets hσb _ _ DM.out)) (fun hHeld => ?_)
        clear hK KK
        try simp only [Act.put, List.getElem_toArray, List.getElem_cons_succ, List.getElem_cons_zero]
        refine wpAnyH_done (by kernel_rfl) ?_ _
        try simp only [List.getElem_toArray, List.getElem_cons_succ, List.getElem_cons_zero]
        go_wp2
        go_meet
        exact ⟨γ, fj, wa, wn, wx, rfl, hσb, HFP.out, box_full BN.out rfl, Dm.sets hσb _ _ DM.out, HR.out.others (by omega) _ _⟩
    case rest =>
    revert wc
    intro wA hcut
    obtain ⟨βA, fA, waA, wnA, wxA, rfl, hσA, hfp, hbx, hdm, hrd⟩ := hcut
    have HFA := hide hfp
    have BA := hide hbx
    replace DM := hide hdm
    replace HR := hide hrd
    clear hfp hbx hdm hrd
    go_upto_region 8 with fail
    go_cut [9] (fun pp wc => ∃ (β : Nat) (f : Fd) (wa : Option Addr) (wn wx : Nat), pp = .pointer (some ⟨β, 0, none⟩) ∧ σ < β ∧ FdP KX w (.slice wa wn wx, f) ∧ Box wc β (fdL f (.slice wa wn wx)).toArray ∧ Dm w ρ (.slice (some ⟨g, 0, none⟩) M.length c) M σ kd (.slice (some ⟨fg, 0, none⟩) fs.length fc) wc ∧ Rd wc ρ (q + 3) bs ∧ Box wc βA (fdL fA (.slice waA wnA wxA)).toArray)
    case first =>
      refine wp_region_held_drew (S := fun W => W.cell? ⟨σ, 1, none⟩ = some (.slice (some ⟨fg, 0, none⟩) fs.length fc) ∧ FsAt fg fs W) (by kernel_rfl) (KP.out _ (DM.out.below ((Below.refl _ _).drew))) (fun hHeld => ?_)
      refine wpAnyH_take (i := 0) (v := .pointer (some ⟨σ, 1, none⟩)) rfl (by kernel_rfl) (by kernel_rfl) (by kernel_rfl) (fun _ _ _ h => h) (Or.inl ⟨by rfl, fun W hW => by obtain ⟨hq1, hq2⟩ := hW; go_simp⟩) hHeld ?_
      try simp only [Act.put, List.getElem_toArray, List.getElem_cons_zero, List.setIfInBounds_toArray, List.set_cons_zero, List.set_cons_succ]
      refine wpAnyH_take (i := 1) (v := (.slice (some ⟨fg, 0, none⟩) fs.length fc)) rfl (by kernel_rfl) (by kernel_rfl) (by kernel_rfl) (fun _ _ _ h => h) (Or.inl ⟨by rfl, fun W hW => by obtain ⟨hq1, hq2⟩ := hW; go_simp⟩) hHeld ?_
      try simp only [Act.put, List.getElem_toArray, List.getElem_cons_succ, List.getElem_cons_zero, List.setIfInBounds_toArray, List.set_cons_zero, List.set_cons_succ]
      refine wpAnyH_take (i := 2) (v := .pointer (some ⟨ρ, 0, none⟩)) rfl (by kernel_rfl) (by kernel_rfl) (by kernel_rfl) (fun _ _ _ h => h) (Or.inl ⟨by rfl, fun W hW => by obtain ⟨hq1, hq2⟩ := hW; go_simp⟩) hHeld ?_
      try simp only [Act.put, List.getElem_toArray, List.getElem_cons_succ, List.getElem_cons_zero, List.setIfInBounds_toArray, List.set_cons_zero, List.set_cons_succ]
      refine wpAnyH_take (i := 3) (v := .pointer (some ⟨σ, 1, none⟩)) rfl (by kernel_rfl) (by kernel_rfl) (by kernel_rfl) (fun _ _ _ h => h) (Or.inl ⟨by rfl, fun W hW => by obtain ⟨hq1, hq2⟩ := hW; go_simp⟩) hHeld ?_
      try simp only [Act.put, List.getElem_toArray, List.getElem_cons_succ, List.getElem_cons_zero, List.setIfInBounds_toArray, List.set_cons_zero, List.set_cons_succ]
      refine wpAnyH_take (i := 4) (v := (.slice (some ⟨fg, 0, none⟩) fs.length fc)) rfl (by kernel_rfl) (by kernel_rfl) (by kernel_rfl) (fun _ _ _ h => h) (Or.inl ⟨by rfl, fun W hW => by obtain ⟨hq1, hq2⟩ := hW; go_simp⟩) hHeld ?_
      try simp only [Act.put, List.getElem_toArray, List.getElem_cons_succ, List.getElem_cons_zero, List.setIfInBounds_toArray, List.set_cons_zero, List.set_cons_succ]
      refine wpAnyH_take (i := 5) (v := .int .i64 (fs.length : Int)) rfl (by kernel_rfl) (by kernel_rfl) (by kernel_rfl) (fun _ _ _ h => h) (Or.inl ⟨by rfl, fun W hW => by obtain ⟨hq1, hq2⟩ := hW; go_simp⟩) hHeld ?_
      try simp only [Act.put, List.getElem_toArray, List.getElem_cons_succ, List.getElem_cons_zero, List.setIfInBounds_toArray, List.set_cons_zero, List.set_cons_succ]
      refine wpAnyH_ready (rs := [6, 9]) (by kernel_rfl) (by simp) ?_
      refine AllReadyH.cons rfl (fun KK hK => ?_) (AllReadyH.cons rfl (fun KK hK => ?_) AllReadyH.nil)
      ·
        go_simp
        refine (pick_any ρ _ bs fs.length _ (HR.out.below ((Below.refl _ _).drew)) (by omega) (by omega) (by omega)).mono ?_
        rintro e wy ⟨x, rfl, hx0, hx1, hr, ht⟩
        obtain ⟨j, rfl⟩ := Int.eq_ofNat_of_zero_le hx0
        have hj : j < fs.length := by omega
        have hji : (j : Int) < (fs.length : Int) := by omega
        replace ht : Tch ρ wA wy := (Tch.below ((Below.refl _ _).drew)).trans ht
        replace HR := hide hr
        replace DM := hide (DM.out.tch ht)
        replace BA := hide ((ht).box BA.out (by omega))
        clear hr ht hx0 hx1
        obtain ⟨⟨wvj, fj⟩, hfj⟩ : ∃ y, fs[j]'hj = y := ⟨_, rfl⟩
        have HFP : Hid (FdP KX w (wvj, fj)) := by unfold Hid; rw [← hfj]; exact HP.out.inn _ (List.getElem_mem _)
        obtain ⟨wa, wn, wx, rfl⟩ := HFP.out.2.form
        have RNG : Hid (∀ W, FsAt fg fs W → W.rangeAt fg (j * 11) (fdL fj (.slice wa wn wx))) := fun W h => by have h1 := h j hj; rw [hfj] at h1; exact h1
        clear hfj
        try go_wp2_with fail
        refine hK.out _ _ (KP.out _ DM.out) (fun hHeld => ?_)
        clear hK KK
        try simp only [Act.put, List.getElem_toArray, List.getElem_cons_succ, List.getElem_cons_zero, List.setIfInBounds_toArray, List.set_cons_zero, List.set_cons_succ]
        refine wpAnyH_take (i := 7) (v := .pointer (some ⟨fg, j * 11, none⟩)) rfl (by kernel_rfl) (by kernel_rfl) (by kernel_rfl) (fun _ _ _ h => h) (Or.inl ⟨by rfl, fun W hW => by obtain ⟨hq1, hq2⟩ := hW; go_simp⟩) hHeld ?_
        try simp only [Act.put, List.getElem_toArray, List.getElem_cons_succ, List.getElem_cons_zero, List.setIfInBounds_toArray, List.set_cons_zero, List.set_cons_succ]
        refine wpAnyH_take (i := 8) rfl (by kernel_rfl) (by kernel_rfl) (by kernel_rfl) (fun _ _ _ h => h) (yieldsIf_load_mid (by rfl) 56 (.tmp 52) rfl fg (j * 11) rfl (fdL fj (.slice wa wn wx)) _ (fun _ h => RNG.out _ h.2) Tryz.underlying56 rfl Fd_sizeI) hHeld ?_
        try simp only [Act.put, List.getElem_toArray, List.getElem_cons_succ, List.getElem_cons_zero, List.setIfInBounds_toArray, List.set_cons_zero, List.set_cons_succ]
        refine wpAnyH_ready (rs := [9]) (by kernel_rfl) (by simp) ?_
        refine AllReadyH.cons rfl (fun KK hK => ?_) AllReadyH.nil
        go_simp
        have hσy := DM.out.sb.lt
        have hba := one_al wy (.cells #[.string ⟨#[]⟩, .int .i64 0, .int .i64 0, .int .i64 0, .slice none 0 0, .string ⟨#[]⟩, .int .i64 0, .bool false, .bool false, .string ⟨#[]⟩, .string ⟨#[]⟩] 56)
        refine hK.out _ _ (KP.out _ (DM.out.below hba)) (fun hHeld => ?_)
        clear hK KK
        try simp only [Act.put, List.getElem_toArray, List.getElem_cons_succ, List.getElem_cons_zero, List.setIfInBounds_toArray, List.set_cons_zero, List.set_cons_succ]
        have BN : Hid (Box (wy.alloc (.cells #[.string ⟨#[]⟩, .int .i64 0, .int .i64 0, .int .i64 0, .slice none 0 0, .string ⟨#[]⟩, .int .i64 0, .bool false, .bool false, .string ⟨#[]⟩, .string ⟨#[]⟩] 56)) wy.heap.size #[.string ⟨#[]⟩, .int .i64 0, .int .i64 0, .int .i64 0, .slice none 0 0, .string ⟨#[]⟩, .int .i64 0, .bool false, .bool false, .string ⟨#[]⟩, .string ⟨#[]⟩]) := Box.new _ _ _ _ rfl
        have hlBA := BA.out.lt
        replace BA := hide (BA.out.on hba)
        replace DM := hide (DM.out.below hba)
        replace HR := hide (HR.out.below hba)
        clear hba
        generalize wy.alloc _ = wz at *
        generalize wy.heap.size = γ at *
        have HTH : Hid (wz.there γ 0 11) := box_there BN.out rfl
        have hbl : wz.heap.size = wz.heap.size := rfl
        refine wpAnyH_ready (rs := [10]) (by kernel_rfl) (by simp) ?_
        refine AllReadyH.cons rfl (fun KK hK => ?_) AllReadyH.nil
        rw [if_pos (by rfl)]
        refine wp_store_mid 56 (.tmp 9) (.tmp 53) rfl γ 0 (fdL fj (.slice wa wn wx)).toArray rfl rfl HTH.out (by rw [List.size_toArray]; exact Fd_sizeI) (fdL_one fj _ _ _) ?_
        have hσb : σ < γ := by omega
        refine hK.out _ _ (KP.out _ (Dm.sets hσb _ _ DM.out)) (fun hHeld => ?_)
        clear hK KK
        try simp only [Act.put, List.getElem_toArray, List.getElem_cons_succ, List.getElem_cons_zero]
        refine wpAnyH_done (by kernel_rfl) ?_ _
        try simp only [List.getElem_toArray, List.getElem_cons_succ, List.getElem_cons_zero]
        go_wp2
        go_meet
        exact ⟨γ, fj, wa, wn, wx, rfl, hσb, HFP.out, box_full BN.out rfl, Dm.sets hσb _ _ DM.out, HR.out.others (by omega) _ _, box_others (by omega) _ _ BA.out⟩
      ·
        go_simp
        have hσy := DM.out.sb.lt
        have hba : Below wA.heap.size wA (World.drew (World.alloc wA (.cells #[.string ⟨#[]⟩, .int .i64 0, .int .i64 0, .int .i64 0, .slice none 0 0, .string ⟨#[]⟩, .int .i64 0, .bool false, .bool false, .string ⟨#[]⟩, .string ⟨#[]⟩] 56))) := (one_al _ _).drew
        refine hK.out _ _ (KP.out _ (DM.out.below hba)) (fun hHeld => ?_)
        clear hK KK
        try simp only [Act.put, List.getElem_toArray, List.getElem_cons_succ, List.getElem_cons_zero, List.setIfInBounds_toArray, List.set_cons_zero, List.set_cons_succ]
        have BN : Hid (Box (World.drew (World.alloc wA (.cells #[.string ⟨#[]⟩, .int .i64 0, .int .i64 0, .int .i64 0, .slice none 0 0, .string ⟨#[]⟩, .int .i64 0, .bool false, .bool false, .string ⟨#[]⟩, .string ⟨#[]⟩] 56))) wA.heap.size #[.string ⟨#[]⟩, .int .i64 0, .int .i64 0, .int .i64 0, .slice none 0 0, .string ⟨#[]⟩, .int .i64 0, .bool false, .bool false, .string ⟨#[]⟩, .string ⟨#[]⟩]) := (Box.new _ _ _ _ rfl).drew
        have hlBA := BA.out.lt
        replace BA := hide (BA.out.on hba)
        replace DM := hide (DM.out.below hba)
        replace HR := hide (HR.out.below hba)
        clear hba
        generalize World.drew _ = wz at *
        generalize wA.heap.size = γ at *
        refine wpAnyH_ready (rs := [6]) (by kernel_rfl) (by simp) ?_
        refine AllReadyH.cons rfl (fun KK hK => ?_) AllReadyH.nil
        go_simp
        refine (pick_any ρ _ bs fs.length _ HR.out (by omega) (by omega) (by omega)).mono ?_
        rintro e wy ⟨x, rfl, hx0, hx1, hr, ht⟩
        obtain ⟨j, rfl⟩ := Int.eq_ofNat_of_zero_le hx0
        have hj : j < fs.length := by omega
        have hji : (j : Int) < (fs.length : Int) := by omega
        replace HR := hide hr
        replace DM := hide (DM.out.tch ht)
        replace BA := hide ((ht).box BA.out (by omega))
        replace BN := hide (ht.box BN.out (by omega))
        clear hr ht hx0 hx1
        obtain ⟨⟨wvj, fj⟩, hfj⟩ : ∃ y, fs[j]'hj = y := ⟨_, rfl⟩
        have HFP : Hid (FdP KX w (wvj, fj)) := by unfold Hid; rw [← hfj]; exact HP.out.inn _ (List.getElem_mem _)
        obtain ⟨wa, wn, wx, rfl⟩ := HFP.out.2.form
        have RNG : Hid (∀ W, FsAt fg fs W → W.rangeAt fg (j * 11) (fdL fj (.slice wa wn wx))) := fun W h => by have h1 := h j hj; rw [hfj] at h1; exact h1
        clear hfj
        try go_wp2_with fail
        refine hK.out _ _ (KP.out _ DM.out) (fun hHeld => ?_)
        clear hK KK
        try simp only [Act.put, List.getElem_toArray, List.getElem_cons_succ, List.getElem_cons_zero, List.setIfInBounds_toArray, List.set_cons_zero, List.set_cons_succ]
        refine wpAnyH_take (i := 7) (v := .pointer (some ⟨fg, j * 11, none⟩)) rfl (by kernel_rfl) (by kernel_rfl) (by kernel_rfl) (fun _ _ _ h => h) (Or.inl ⟨by rfl, fun W hW => by obtain ⟨hq1, hq2⟩ := hW; go_simp⟩) hHeld ?_
        try simp only [Act.put, List.getElem_toArray, List.getElem_cons_succ, List.getElem_cons_zero, List.setIfInBounds_toArray, List.set_cons_zero, List.set_cons_succ]
        refine wpAnyH_take (i := 8) rfl (by kernel_rfl) (by kernel_rfl) (by kernel_rfl) (fun _ _ _ h => h) (yieldsIf_load_mid (by rfl) 56 (.tmp 52) rfl fg (j * 11) rfl (fdL fj (.slice wa wn wx)) _ (fun _ h => RNG.out _ h.2) Tryz.underlying56 rfl Fd_sizeI) hHeld ?_
        try simp only [Act.put, List.getElem_toArray, List.getElem_cons_succ, List.getElem_cons_zero, List.setIfInBounds_toArray, List.set_cons_zero, List.set_cons_succ]
        have HTH : Hid (wy.there γ 0 11) := box_there BN.out rfl
        have hbl : wy.heap.size = wy.heap.size := rfl
        refine wpAnyH_ready (rs := [10]) (by kernel_rfl) (by simp) ?_
        refine AllReadyH.cons rfl (fun KK hK => ?_) AllReadyH.nil
        rw [if_pos (by rfl)]
        refine wp_store_mid 56 (.tmp 9) (.tmp 53) rfl γ 0 (fdL fj (.slice wa wn wx)).toArray rfl rfl HTH.out (by rw [List.size_toArray]; exact Fd_sizeI) (fdL_one fj _ _ _) ?_
        have hσb : σ < γ := by omega
        refine hK.out _ _ (KP.out _ (Dm.sets hσb _ _ DM.out)) (fun hHeld => ?_)
        clear hK KK
        try simp only [Act.put, List.getElem_toArray, List.getElem_cons_succ, List.getElem_cons_zero]
        refine wpAnyH_done (by kernel_rfl) ?_ _
        try simp only [List.getElem_toArray, List.getElem_cons_succ, List.getElem_cons_zero]
        go_wp2
        go_meet
        exact ⟨γ, fj, wa, wn, wx, rfl, hσb, HFP.out, box_full BN.out rfl, Dm.sets hσb _ _ DM.out, HR.out.others (by omega) _ _, box_others (by omega) _ _ BA.out⟩
    case rest =>
    revert wc
    intro wB hcut
    obtain ⟨βB, fB, waB, wnB, wxB, rfl, hσB, hfp, hbx, hdm, hrd, hBA⟩ := hcut
    have HFB := hide hfp
    have BB := hide hbx
    replace DM := hide hdm
    replace HR := hide hrd
    replace BA := hide hBA
    clear hBA
    clear hfp hbx hdm hrd
    have s0 : wB.cell? ⟨σ, 0, none⟩ = some (.string kd) := DM.out.sb.cell 0
    have n0 : wB.cell? ⟨βA, 0, none⟩ = some (.string fA.nm) := BA.out.cell 0
    have sl := DM.out.sb.lt
    have nl := BA.out.lt
    have gl := BB.out.lt
    go_upto_region 10 with fail
    clear s0 n0
    generalize hW5 : wB.alloc _ = w5
    have hba : Below wB.heap.size wB w5 := by rw [← hW5]; exact one_al _ _
    have BM0 : Hid (Box w5 wB.heap.size #[.string kd, .string fA.nm, .string ⟨#[]⟩, .string ⟨#[]⟩, .string ⟨#[]⟩, .string ⟨#[]⟩]) := by unfold Hid; rw [← hW5]; exact Box.new _ _ _ _ rfl
    replace DM := hide (DM.out.below hba)
    replace HR := hide (HR.out.below hba)
    replace BA := hide (BA.out.on hba)
    replace BB := hide (BB.out.on hba)
    clear hba hW5
    generalize wB.heap.size = μ at *
    obtain ⟨m, HFW, BM⟩ : ∃ m : Md, Hid (MdFew m) ∧ Hid (Box w5 μ (mdC m).toArray) := ⟨⟨kd, fA.nm, ⟨#[]⟩, ⟨#[]⟩, ⟨#[]⟩, ⟨#[]⟩⟩, ⟨HKD.out, HFA.out.1.nm, of_decide_eq_true rfl, of_decide_eq_true rfl, of_decide_eq_true rfl, of_decide_eq_true rfl⟩, BM0.out⟩
    clear BM0
    obtain ⟨mk, mf, mw, mi, mp, mr⟩ := m
    go_wp2_with fail
    refine (pick_any ρ (q + 3) bs 3 w5 HR.out (by omega) (by decide) (by decide)).mono ?_
    rintro e w6 ⟨x3, rfl, hx30, hx31, hr, ht⟩
    replace DM := hide (DM.out.tch ht)
    replace HR : Hid (Rd w6 ρ (q + 4) bs) := hr
    replace BA := hide (ht.box BA.out (by omega))
    replace BB := hide (ht.box BB.out (by omega))
    replace BM := hide (ht.box BM.out (by omega))
    clear hr ht
    go_upto_if 61 with fail
    go_cut [] (fun wc => ∃ (m : Md) (q' : Nat), MdFew m ∧ Box wc μ (mdC m).toArray ∧ Dm w ρ (.slice (some ⟨g, 0, none⟩) M.length c) M σ kd (.slice (some ⟨fg, 0, none⟩) fs.length fc) wc ∧ Rd wc ρ q' bs ∧ q + 4 ≤ q' ∧ q' ≤ q + 10 ∧ Box wc βA (fdL fA (.slice waA wnA wxA)).toArray ∧ Box wc βB (fdL fB (.slice waB wnB wxB)).toArray)
    case first =>
      by_cases hx3 : (0 : Int) < x3
      ·
        have n0 : w6.cell? ⟨βB, 0, none⟩ = some (.string fB.nm) := BB.out.cell 0
        have nl2 := BB.out.lt
        have c : ∀ i, w6.cell? ⟨μ, i, none⟩ = #[.string mk, .string mf, .string mw, .string mi, .string mp, .string mr][i]? := BM.out.cell
        have cf := BM.out.free
        have cl := BM.out.lt
        go_upto_region 12 with fail
        clear n0 nl2
        clear c cf cl
        generalize hW : World.setCell w6 ⟨μ, 2, none⟩ _ = w7
        replace BM : Hid (Box w7 μ #[.string mk, .string mf, .string (fB.nm), .string mi, .string mp, .string mr]) := by unfold Hid; rw [← hW]; exact put_cell BM.out 2 (by simp [mdC]) _
        replace DM : Hid (Dm w ρ (.slice (some ⟨g, 0, none⟩) M.length c) M σ kd (.slice (some ⟨fg, 0, none⟩) fs.length fc) w7) := by unfold Hid; rw [← hW]; exact DM.out.set (by omega) _
        replace BA : Hid (Box w7 βA (fdL fA (.slice waA wnA wxA)).toArray) := by unfold Hid; rw [← hW]; exact box_other BA.out (by show βA ≠ μ; omega) _
        replace BB : Hid (Box w7 βB (fdL fB (.slice waB wnB wxB)).toArray) := by unfold Hid; rw [← hW]; exact box_other BB.out (by show βB ≠ μ; omega) _
        replace HR : Hid (Rd w7 ρ (q + 4) bs) := by unfold Hid; rw [← hW]; exact HR.out.other (by omega) _
        clear hW
        go_wp2_with fail
        refine (pick_any ρ (q + 4) bs 4 w7 HR.out (by omega) (by decide) (by decide)).mono ?_
        rintro e w8 ⟨x4, rfl, hx40, hx41, hr, ht⟩
        replace DM := hide (DM.out.tch ht)
        replace HR : Hid (Rd w8 ρ (q + 5) bs) := hr
        replace BA := hide (ht.box BA.out (by omega))
        replace BB := hide (ht.box BB.out (by omega))
        replace BM := hide (ht.box BM.out (by omega))
        clear hr ht
        by_cases hx4 : (0 : Int) < x4
        ·
          have z : ∀ i, w8.cell? ⟨βB, i, none⟩ = #[.string fB.nm, .int .i64 fB.kd, .int .i64 fB.le, .int .i64 fB.mo, .slice waB wnB wxB, .string fB.to, .int .i64 fB.ro, .bool fB.mu, .bool fB.fx, .string fB.df, .string fB.we][i]? := BB.out.cell
          have zl := BB.out.lt
          go_wp2_with fail
          clear z zl
          refine (l1Fit_any lo ρ (q + 5) bs fB (.slice waB wnB wxB) 0 0 0 (.slice none 0 0) (.slice none 0 0) (.slice none 0 0) (.slice none 0 0) [] _ HR.out (by omega) HFB.out.1 ((HFB.out.2.inn fun k hk => ⟨(HKX.out k hk).1, (HKX.out k hk).2.1⟩).tch DM.out.tc hl) hl (Or.inl ⟨_, _, rfl, rfl⟩) (by decide) (fun x hx => by cases hx)).mono ?_
          rintro e w9 ⟨sn, rfl, hsn, ⟨qz, hqz1, hqz2, hr⟩, ht⟩
          have HSN := hide hsn
          clear hsn
          replace DM := hide (DM.out.tch ht)
          replace HR : Hid (Rd w9 ρ qz bs) := hr
          replace BA := hide (ht.box BA.out (by omega))
          replace BB := hide (ht.box BB.out (by omega))
          replace BM := hide (ht.box BM.out (by omega))
          clear hr ht
          have c : ∀ i, w9.cell? ⟨μ, i, none⟩ = #[.string mk, .string mf, .string (fB.nm), .string mi, .string mp, .string mr][i]? := BM.out.cell
          have cf := BM.out.free
          have cl := BM.out.lt
          go_wp2
          clear c cf cl
          generalize hW : World.setCell w9 ⟨μ, 3, none⟩ _ = w10
          replace BM : Hid (Box w10 μ #[.string mk, .string mf, .string (fB.nm), .string sn, .string mp, .string mr]) := by unfold Hid; rw [← hW]; exact put_cell BM.out 3 (by simp) _
          replace DM : Hid (Dm w ρ (.slice (some ⟨g, 0, none⟩) M.length c) M σ kd (.slice (some ⟨fg, 0, none⟩) fs.length fc) w10) := by unfold Hid; rw [← hW]; exact DM.out.set (by omega) _
          replace BA : Hid (Box w10 βA (fdL fA (.slice waA wnA wxA)).toArray) := by unfold Hid; rw [← hW]; exact box_other BA.out (by show βA ≠ μ; omega) _
          replace BB : Hid (Box w10 βB (fdL fB (.slice waB wnB wxB)).toArray) := by unfold Hid; rw [← hW]; exact box_other BB.out (by show βB ≠ μ; omega) _
          replace HR : Hid (Rd w10 ρ qz bs) := by unfold Hid; rw [← hW]; exact HR.out.other (by omega) _
          clear hW
          go_meet
          exact ⟨⟨mk, mf, fB.nm, sn, mp, mr⟩, qz, ⟨HFW.out.s0, HFW.out.s1, HFB.out.1.nm, HSN.out, HFW.out.s4, HFW.out.s5⟩, BM.out, DM.out, HR.out, by omega, by omega, BA.out, BB.out⟩
        ·
          go_wp2
          go_meet
          exact ⟨⟨mk, mf, fB.nm, mi, mp, mr⟩, (q + 5), ⟨HFW.out.s0, HFW.out.s1, HFB.out.1.nm, HFW.out.s3, HFW.out.s4, HFW.out.s5⟩, BM.out, DM.out, HR.out, by omega, by omega, BA.out, BB.out⟩
      ·
        go_wp2
        go_meet
        exact ⟨⟨mk, mf, mw, mi, mp, mr⟩, (q + 4), ⟨HFW.out.s0, HFW.out.s1, HFW.out.s2, HFW.out.s3, HFW.out.s4, HFW.out.s5⟩, BM.out, DM.out, HR.out, by omega, by omega, BA.out, BB.out⟩
    case rest =>
    revert wc
    intro Wq1 hcut
    obtain ⟨m, q1, hfw, hbm, hdm, hrd, hq1a, hq1b, hba, hbb⟩ := hcut
    replace HFW := hide hfw
    replace BM := hide hbm
    replace DM := hide hdm
    replace HR := hide hrd
    replace BA := hide hba
    replace BB := hide hbb
    clear hfw hbm hdm hrd hba hbb
    obtain ⟨mk, mf, mw, mi, mp, mr⟩ := m
    go_wp2_with fail
    refine (pick_any ρ q1 bs 3 Wq1 HR.out (by omega) (by decide) (by decide)).mono ?_
    rintro e w11 ⟨y3, rfl, hy30, hy31, hr, ht⟩
    replace DM := hide (DM.out.tch ht)
    replace HR : Hid (Rd w11 ρ (q1 + 1) bs) := hr
    replace BA := hide (ht.box BA.out (by omega))
    replace BB := hide (ht.box BB.out (by omega))
    replace BM := hide (ht.box BM.out (by omega))
    clear hr ht
    go_upto_if 75 with fail
    go_cut [] (fun wc => ∃ (m : Md) (q' : Nat), MdFew m ∧ Box wc μ (mdC m).toArray ∧ Dm w ρ (.slice (some ⟨g, 0, none⟩) M.length c) M σ kd (.slice (some ⟨fg, 0, none⟩) fs.length fc) wc ∧ Rd wc ρ q' bs ∧ q + 5 ≤ q' ∧ q' ≤ q + 18 ∧ Box wc βA (fdL fA (.slice waA wnA wxA)).toArray ∧ Box wc βB (fdL fB (.slice waB wnB wxB)).toArray)
    case first =>
      by_cases hy3 : y3 = 0
      ·
        subst hy3
        go_upto_region 15 with fail
        refine wp_region_held_drew (S := fun W => W.cell? ⟨σ, 1, none⟩ = some (.slice (some ⟨fg, 0, none⟩) fs.length fc) ∧ FsAt fg fs W) (by kernel_rfl) (KP.out _ (DM.out.below ((Below.refl _ _).drew))) (fun hHeld => ?_)
        refine wpAnyH_take (i := 0) (v := .pointer (some ⟨σ, 1, none⟩)) rfl (by kernel_rfl) (by kernel_rfl) (by kernel_rfl) (fun _ _ _ h => h) (Or.inl ⟨by rfl, fun W hW => by obtain ⟨hq1, hq2⟩ := hW; go_simp⟩) hHeld ?_
        try simp only [Act.put, List.getElem_toArray, List.getElem_cons_zero, List.setIfInBounds_toArray, List.set_cons_zero, List.set_cons_succ]
        refine wpAnyH_take (i := 1) (v := (.slice (some ⟨fg, 0, none⟩) fs.length fc)) rfl (by kernel_rfl) (by kernel_rfl) (by kernel_rfl) (fun _ _ _ h => h) (Or.inl ⟨by rfl, fun W hW => by obtain ⟨hq1, hq2⟩ := hW; go_simp⟩) hHeld ?_
        try simp only [Act.put, List.getElem_toArray, List.getElem_cons_succ, List.getElem_cons_zero, List.setIfInBounds_toArray, List.set_cons_zero, List.set_cons_succ]
        refine wpAnyH_take (i := 2) (v := .pointer (some ⟨ρ, 0, none⟩)) rfl (by kernel_rfl) (by kernel_rfl) (by kernel_rfl) (fun _ _ _ h => h) (Or.inl ⟨by rfl, fun W hW => by obtain ⟨hq1, hq2⟩ := hW; go_simp⟩) hHeld ?_
        try simp only [Act.put, List.getElem_toArray, List.getElem_cons_succ, List.getElem_cons_zero, List.setIfInBounds_toArray, List.set_cons_zero, List.set_cons_succ]
        refine wpAnyH_take (i := 3) (v := .pointer (some ⟨σ, 1, none⟩)) rfl (by kernel_rfl) (by kernel_rfl) (by kernel_rfl) (fun _ _ _ h => h) (Or.inl ⟨by rfl, fun W hW => by obtain ⟨hq1, hq2⟩ := hW; go_simp⟩) hHeld ?_
        try simp only [Act.put, List.getElem_toArray, List.getElem_cons_succ, List.getElem_cons_zero, List.setIfInBounds_toArray, List.set_cons_zero, List.set_cons_succ]
        refine wpAnyH_take (i := 4) (v := (.slice (some ⟨fg, 0, none⟩) fs.length fc)) rfl (by kernel_rfl) (by kernel_rfl) (by kernel_rfl) (fun _ _ _ h => h) (Or.inl ⟨by rfl, fun W hW => by obtain ⟨hq1, hq2⟩ := hW; go_simp⟩) hHeld ?_
        try simp only [Act.put, List.getElem_toArray, List.getElem_cons_succ, List.getElem_cons_zero, List.setIfInBounds_toArray, List.set_cons_zero, List.set_cons_succ]
        refine wpAnyH_take (i := 5) (v := .int .i64 (fs.length : Int)) rfl (by kernel_rfl) (by kernel_rfl) (by kernel_rfl) (fun _ _ _ h => h) (Or.inl ⟨by rfl, fun W hW => by obtain ⟨hq1, hq2⟩ := hW; go_simp⟩) hHeld ?_
        try simp only [Act.put, List.getElem_toArray, List.getElem_cons_succ, List.getElem_cons_zero, List.setIfInBounds_toArray, List.set_cons_zero, List.set_cons_succ]
        refine wpAnyH_ready (rs := [6]) (by kernel_rfl) (by simp) ?_
        refine AllReadyH.cons rfl (fun KK hK => ?_) AllReadyH.nil
        go_simp
        refine (pick_any ρ _ bs fs.length _ (HR.out.below ((Below.refl _ _).drew)) (by omega) (by omega) (by omega)).mono ?_
        rintro e w12 ⟨x, rfl, hx0, hx1, hr, ht⟩
        obtain ⟨j, rfl⟩ := Int.eq_ofNat_of_zero_le hx0
        have hj : j < fs.length := by omega
        have hji : (j : Int) < (fs.length : Int) := by omega
        replace ht : Tch ρ w11 w12 := (Tch.below ((Below.refl _ _).drew)).trans ht
        replace DM := hide (DM.out.tch ht)
        replace HR : Hid (Rd w12 ρ (q1 + 2) bs) := hr
        replace BA := hide (ht.box BA.out (by omega))
        replace BB := hide (ht.box BB.out (by omega))
        replace BM := hide (ht.box BM.out (by omega))
        clear hr ht
        obtain ⟨⟨wvj, fj⟩, hfj⟩ : ∃ y, fs[j]'hj = y := ⟨_, rfl⟩
        have HFP : Hid (FdP KX w (wvj, fj)) := by unfold Hid; rw [← hfj]; exact HP.out.inn _ (List.getElem_mem _)
        have RNG : Hid (∀ W, FsAt fg fs W → W.cell? ⟨fg, j * 11, none⟩ = some (.string fj.nm)) := fun W h => by have h1 := h j hj; rw [hfj] at h1; exact h1 0 _ rfl
        clear hfj hx0 hx1
        try go_wp2_with fail
        refine hK.out _ _ (KP.out _ DM.out) (fun hHeld => ?_)
        clear hK KK
        try simp only [Act.put, List.getElem_toArray, List.getElem_cons_succ, List.getElem_cons_zero, List.setIfInBounds_toArray, List.set_cons_zero, List.set_cons_succ]
        refine wpAnyH_take (i := 7) (v := .pointer (some ⟨fg, j * 11, none⟩)) rfl (by kernel_rfl) (by kernel_rfl) (by kernel_rfl) (fun _ _ _ h => h) (Or.inl ⟨by rfl, fun W hW => by obtain ⟨hq1, hq2⟩ := hW; go_simp⟩) hHeld ?_
        try simp only [Act.put, List.getElem_toArray, List.getElem_cons_succ, List.getElem_cons_zero, List.setIfInBounds_toArray, List.set_cons_zero, List.set_cons_succ]
        refine wpAnyH_take (i := 8) (v := .pointer (some ⟨fg, j * 11, none⟩)) rfl (by kernel_rfl) (by kernel_rfl) (by kernel_rfl) (fun _ _ _ h => h) (Or.inl ⟨by rfl, fun W hW => by obtain ⟨hq1, hq2⟩ := hW; go_simp⟩) hHeld ?_
        try simp only [Act.put, List.getElem_toArray, List.getElem_cons_succ, List.getElem_cons_zero, List.setIfInBounds_toArray, List.set_cons_zero, List.set_cons_succ]
        refine wpAnyH_take (i := 9) (v := .string fj.nm) rfl (by kernel_rfl) (by kernel_rfl) (by kernel_rfl) (fun _ _ _ h => h) (Or.inl ⟨by rfl, fun W hW => by have hq3 := RNG.out _ hW.2; go_simp⟩) hHeld ?_
        try simp only [Act.put, List.getElem_toArray, List.getElem_cons_succ, List.getElem_cons_zero, List.setIfInBounds_toArray, List.set_cons_zero, List.set_cons_succ]
        refine wpAnyH_take (i := 10) (v := .pointer (some ⟨μ, 5, none⟩)) rfl (by kernel_rfl) (by kernel_rfl) (by kernel_rfl) (fun _ _ _ h => h) (Or.inl ⟨by rfl, fun W hW => by obtain ⟨hq1, hq2⟩ := hW; go_simp⟩) hHeld ?_
        try simp only [Act.put, List.getElem_toArray, List.getElem_cons_succ, List.getElem_cons_zero, List.setIfInBounds_toArray, List.set_cons_zero, List.set_cons_succ]
        refine wpAnyH_ready (rs := [11]) (by kernel_rfl) (by simp) ?_
        refine AllReadyH.cons rfl (fun KK hK => ?_) AllReadyH.nil
        have c : ∀ i, w12.cell? ⟨μ, i, none⟩ = #[.string mk, .string mf, .string mw, .string mi, .string mp, .string mr][i]? := BM.out.cell
        have cf := BM.out.free
        have cl := BM.out.lt
        go_simp
        refine hK.out _ _ (KP.out _ (DM.out.set (by omega) _)) (fun hHeld => ?_)
        clear hK KK hHeld
        try simp only [Act.put, List.getElem_toArray, List.getElem_cons_succ, List.getElem_cons_zero, List.setIfInBounds_toArray, List.set_cons_zero, List.set_cons_succ]
        clear c cf cl
        refine wpAnyH_done (by kernel_rfl) ?_ _
        go_wp2
        generalize hW : World.setCell w12 ⟨μ, 5, none⟩ _ = w13
        replace BM : Hid (Box w13 μ #[.string mk, .string mf, .string mw, .string mi, .string mp, .string (fj.nm)]) := by unfold Hid; rw [← hW]; exact put_cell BM.out 5 (by simp [mdC]) _
        replace DM : Hid (Dm w ρ (.slice (some ⟨g, 0, none⟩) M.length c) M σ kd (.slice (some ⟨fg, 0, none⟩) fs.length fc) w13) := by unfold Hid; rw [← hW]; exact DM.out.set (by omega) _
        replace BA : Hid (Box w13 βA (fdL fA (.slice waA wnA wxA)).toArray) := by unfold Hid; rw [← hW]; exact box_other BA.out (by show βA ≠ μ; omega) _
        replace BB : Hid (Box w13 βB (fdL fB (.slice waB wnB wxB)).toArray) := by unfold Hid; rw [← hW]; exact box_other BB.out (by show βB ≠ μ; omega) _
        replace HR : Hid (Rd w13 ρ (q1 + 2) bs) := by unfold Hid; rw [← hW]; exact HR.out.other (by omega) _
        clear hW
        go_meet
        exact ⟨⟨mk, mf, mw, mi, mp, fj.nm⟩, (q1 + 2), ⟨HFW.out.s0, HFW.out.s1, HFW.out.s2, HFW.out.s3, HFW.out.s4, HFP.out.1.nm⟩, BM.out, DM.out, HR.out, by omega, by omega, BA.out, BB.out⟩
      ·
        have hy3b : (y3 == 0) = false := by simpa using hy3
        have z : ∀ i, w11.cell? ⟨βA, i, none⟩ = #[.string fA.nm, .int .i64 fA.kd, .int .i64 fA.le, .int .i64 fA.mo, .slice waA wnA wxA, .string fA.to, .int .i64 fA.ro, .bool fA.mu, .bool fA.fx, .string fA.df, .string fA.we][i]? := BA.out.cell
        have zl := BA.out.lt
        go_wp2_with fail
        clear z zl
        refine (l1Fit_any lo ρ (q1 + 1) bs fA (.slice waA wnA wxA) 0 0 0 (.slice none 0 0) (.slice none 0 0) (.slice none 0 0) (.slice none 0 0) [] _ HR.out (by omega) HFA.out.1 ((HFA.out.2.inn fun k hk => ⟨(HKX.out k hk).1, (HKX.out k hk).2.1⟩).tch DM.out.tc hl) hl (Or.inl ⟨_, _, rfl, rfl⟩) (by decide) (fun x hx => by cases hx)).mono ?_
        rintro e w14 ⟨sn, rfl, hsn, ⟨qz, hqz1, hqz2, hr⟩, ht⟩
        have HSN := hide hsn
        clear hsn
        replace DM := hide (DM.out.tch ht)
        replace HR : Hid (Rd w14 ρ qz bs) := hr
        replace BA := hide (ht.box BA.out (by omega))
        replace BB := hide (ht.box BB.out (by omega))
        replace BM := hide (ht.box BM.out (by omega))
        clear hr ht
        have c : ∀ i, w14.cell? ⟨μ, i, none⟩ = #[.string mk, .string mf, .string mw, .string mi, .string mp, .string mr][i]? := BM.out.cell
        have cf := BM.out.free
        have cl := BM.out.lt
        go_wp2
        clear c cf cl
        generalize hW : World.setCell w14 ⟨μ, 4, none⟩ _ = w15
        replace BM : Hid (Box w15 μ #[.string mk, .string mf, .string mw, .string mi, .string sn, .string mr]) := by unfold Hid; rw [← hW]; exact put_cell BM.out 4 (by simp [mdC]) _
        replace DM : Hid (Dm w ρ (.slice (some ⟨g, 0, none⟩) M.length c) M σ kd (.slice (some ⟨fg, 0, none⟩) fs.length fc) w15) := by unfold Hid; rw [← hW]; exact DM.out.set (by omega) _
        replace BA : Hid (Box w15 βA (fdL fA (.slice waA wnA wxA)).toArray) := by unfold Hid; rw [← hW]; exact box_other BA.out (by show βA ≠ μ; omega) _
        replace BB : Hid (Box w15 βB (fdL fB (.slice waB wnB wxB)).toArray) := by unfold Hid; rw [← hW]; exact box_other BB.out (by show βB ≠ μ; omega) _
        replace HR : Hid (Rd w15 ρ qz bs) := by unfold Hid; rw [← hW]; exact HR.out.other (by omega) _
        clear hW
        go_meet
        exact ⟨⟨mk, mf, mw, mi, sn, mr⟩, qz, ⟨HFW.out.s0, HFW.out.s1, HFW.out.s2, HFW.out.s3, HSN.out, HFW.out.s5⟩, BM.out, DM.out, HR.out, by omega, by omega, BA.out, BB.out⟩
    case rest =>
    revert wc
    intro Wq2 hcut
    obtain ⟨m, q2, hfw, hbm, hdm, hrd, hq2a, hq2b, hba, hbb⟩ := hcut
    replace HFW := hide hfw
    replace BM := hide hbm
    replace DM := hide hdm
    replace HR := hide hrd
    replace BA := hide hba
    replace BB := hide hbb
    clear hfw hbm hdm hrd hba hbb
    obtain ⟨mk, mf, mw, mi, mp, mr⟩ := m
    go_upto_region 17 with fail
    go_cut [99] (fun cc wc => ∃ (bb : Bool) (q' : Nat), cc = .bool bb ∧ (bb = true → 0 < M.length) ∧ Dm w ρ (.slice (some ⟨g, 0, none⟩) M.length c) M σ kd (.slice (some ⟨fg, 0, none⟩) fs.length fc) wc ∧ Rd wc ρ q' bs ∧ q2 ≤ q' ∧ q' ≤ q2 + 1 ∧ Box wc μ #[.string mk, .string mf, .string mw, .string mi, .string mp, .string mr] ∧ Box wc βA (fdL fA (.slice waA wnA wxA)).toArray ∧ Box wc βB (fdL fB (.slice waB wnB wxB)).toArray)
    case first =>
      by_cases hM0 : M.length = 0
      ·
        have hM0' : (M.length : Int) = 0 := by omega
        go_wp2
        go_meet
        exact ⟨false, q2, rfl, (fun h => by cases h), DM.out, HR.out, Nat.le_refl _, by omega, BM.out, BA.out, BB.out⟩
      ·
        have hM1 : (0 : Int) < (M.length : Int) := by omega
        go_wp2_with fail
        refine (pick_any ρ q2 bs 2 Wq2 HR.out (by omega) (by decide) (by decide)).mono ?_
        rintro e w16 ⟨z2, rfl, hz20, hz21, hr, ht⟩
        replace DM := hide (DM.out.tch ht)
        replace HR : Hid (Rd w16 ρ (q2 + 1) bs) := hr
        replace BA := hide (ht.box BA.out (by omega))
        replace BB := hide (ht.box BB.out (by omega))
        replace BM := hide (ht.box BM.out (by omega))
        clear hr ht
        go_wp2
        go_meet
        exact ⟨_, _, rfl, (fun _ => by omega), DM.out, HR.out, by omega, by omega, BM.out, BA.out, BB.out⟩
    case rest =>
    revert wc
    intro W17 hcut
    obtain ⟨bb, q5, rfl, hbM, hdm, hrd, h5a, h5b, hbm, hba, hbb⟩ := hcut
    replace DM := hide hdm
    replace HR := hide hrd
    replace BM := hide hbm
    replace BA := hide hba
    replace BB := hide hbb
    clear hdm hrd hbm hba hbb
    go_upto_if 99 with fail
    go_cut [] (fun wc => ∃ (m : Md) (q' : Nat), MdFew m ∧ Box wc μ (mdC m).toArray ∧ Dm w ρ (.slice (some ⟨g, 0, none⟩) M.length c) M σ kd (.slice (some ⟨fg, 0, none⟩) fs.length fc) wc ∧ Rd wc ρ q' bs ∧ q + 5 ≤ q' ∧ q' ≤ q + 22 ∧ Box wc βA (fdL fA (.slice waA wnA wxA)).toArray ∧ Box wc βB (fdL fB (.slice waB wnB wxB)).toArray)
    case first =>
      cases bb with
      | false =>
        go_wp2
        go_meet
        exact ⟨⟨mk, mf, mw, mi, mp, mr⟩, q5, ⟨HFW.out.s0, HFW.out.s1, HFW.out.s2, HFW.out.s3, HFW.out.s4, HFW.out.s5⟩, BM.out, DM.out, HR.out, by omega, by omega, BA.out, BB.out⟩
      | true =>
        have hMp : 0 < M.length := hbM rfl
        clear hbM
        go_wp2_with fail
        refine (pick_any ρ q5 bs M.length W17 HR.out (by omega) (by omega) (by omega)).mono ?_
        rintro e w17 ⟨z3, rfl, hz30, hz31, hr, ht⟩
        replace DM := hide (DM.out.tch ht)
        replace HR : Hid (Rd w17 ρ (q5 + 1) bs) := hr
        replace BA := hide (ht.box BA.out (by omega))
        replace BB := hide (ht.box BB.out (by omega))
        replace BM := hide (ht.box BM.out (by omega))
        clear hr ht
        obtain ⟨i2, rfl⟩ := Int.eq_ofNat_of_zero_le hz30
        have hi2 : i2 < M.length := by omega
        have HMI : Hid (MdFew M[i2]) := DM.out.md.few _ (List.getElem_mem hi2)
        have cc := DM.out.md.cells i2 hi2
        have d0 := cc 0 (by omega)
        have d1 := cc 1 (by omega)
        have d2 := cc 2 (by omega)
        have d3 := cc 3 (by omega)
        have d4 := cc 4 (by omega)
        have d5 := cc 5 (by omega)
        simp only [mdC, List.getElem?_cons_zero, List.getElem?_cons_succ, Nat.add_zero] at d0 d1 d2 d3 d4 d5
        have hixM : (i2 : Int) < (M.length : Int) := by omega
        have hgl : g < w17.heap.size := (owns_lt DM.out.md.own (g := g) rfl).1
        clear cc
        obtain ⟨⟨xk, xf, xw, xi, xp, xr⟩, hm⟩ : ∃ m, M[i2] = m := ⟨_, rfl⟩
        rw [hm] at d0 d1 d2 d3 d4 d5 HMI
        clear hm
        simp only [] at d0 d1 d2 d3 d4 d5
        go_upto_region 19 with fail
        clear d0 d1 d2 d3 d4 d5 hixM hgl
        generalize hWq : w17.alloc _ = w18
        have hba : Below w17.heap.size w17 w18 := by rw [← hWq]; exact one_al _ _
        have BQ : Hid (Box w18 w17.heap.size #[.string xk, .string xf, .string xw, .string xi, .string xp, .string xr]) := by unfold Hid; rw [← hWq]; exact Box.new _ _ _ _ rfl
        have hμq : μ < w17.heap.size := BM.out.lt
        replace DM := hide (DM.out.below hba)
        replace HR := hide (HR.out.below hba)
        replace BA := hide (BA.out.on hba)
        replace BB := hide (BB.out.on hba)
        replace BM := hide (BM.out.on hba)
        clear hba hWq
        generalize w17.heap.size = κ at *
        have s0 : w18.cell? ⟨σ, 0, none⟩ = some (.string kd) := DM.out.sb.cell 0
        have sl0 := DM.out.sb.lt
        have e0 : ∀ i, w18.cell? ⟨κ, i, none⟩ = #[.string xk, .string xf, .string xw, .string xi, .string xp, .string xr][i]? := BQ.out.cell
        have el := BQ.out.lt
        cases heq : (xk.toList == kd.toList) with
        | false =>
          go_wp2
          go_meet
          exact ⟨⟨mk, mf, mw, mi, mp, mr⟩, (q5 + 1), ⟨HFW.out.s0, HFW.out.s1, HFW.out.s2, HFW.out.s3, HFW.out.s4, HFW.out.s5⟩, BM.out, DM.out, HR.out, by omega, by omega, BA.out, BB.out⟩
        | true =>
          have c : ∀ i, w18.cell? ⟨μ, i, none⟩ = #[.string mk, .string mf, .string mw, .string mi, .string mp, .string mr][i]? := BM.out.cell
          have cf := BM.out.free
          have cl := BM.out.lt
          go_upto_region 21 with fail
          clear s0 sl0 e0 el
          clear c cf cl
          generalize hW : World.setCell w18 ⟨μ, 2, none⟩ _ = w19
          replace BM : Hid (Box w19 μ #[.string mk, .string mf, .string xf, .string mi, .string mp, .string mr]) := by unfold Hid; rw [← hW]; exact put_cell BM.out 2 (by simp) _
          replace DM : Hid (Dm w ρ (.slice (some ⟨g, 0, none⟩) M.length c) M σ kd (.slice (some ⟨fg, 0, none⟩) fs.length fc) w19) := by unfold Hid; rw [← hW]; exact DM.out.set (by omega) _
          replace BA : Hid (Box w19 βA (fdL fA (.slice waA wnA wxA)).toArray) := by unfold Hid; rw [← hW]; exact box_other BA.out (by show βA ≠ μ; omega) _
          replace BB : Hid (Box w19 βB (fdL fB (.slice waB wnB wxB)).toArray) := by unfold Hid; rw [← hW]; exact box_other BB.out (by show βB ≠ μ; omega) _
          replace HR : Hid (Rd w19 ρ (q5 + 1) bs) := by unfold Hid; rw [← hW]; exact HR.out.other (by omega) _
          replace BQ : Hid (Box w19 κ #[.string xk, .string xf, .string xw, .string xi, .string xp, .string xr]) := by unfold Hid; rw [← hW]; exact box_other BQ.out (by show κ ≠ μ; omega) _
          clear hW
          have e0 : ∀ i, w19.cell? ⟨κ, i, none⟩ = #[.string xk, .string xf, .string xw, .string xi, .string xp, .string xr][i]? := BQ.out.cell
          have el := BQ.out.lt
          have c : ∀ i, w19.cell? ⟨μ, i, none⟩ = #[.string mk, .string mf, .string xf, .string mi, .string mp, .string mr][i]? := BM.out.cell
          have cf := BM.out.free
          have cl := BM.out.lt
          go_wp2
          clear e0 el
          clear c cf cl
          generalize hW : World.setCell w19 ⟨μ, 3, none⟩ _ = w20
          replace BM : Hid (Box w20 μ #[.string mk, .string mf, .string xf, .string xp, .string mp, .string mr]) := by unfold Hid; rw [← hW]; exact put_cell BM.out 3 (by simp) _
          replace DM : Hid (Dm w ρ (.slice (some ⟨g, 0, none⟩) M.length c) M σ kd (.slice (some ⟨fg, 0, none⟩) fs.length fc) w20) := by unfold Hid; rw [← hW]; exact DM.out.set (by omega) _
          replace BA : Hid (Box w20 βA (fdL fA (.slice waA wnA wxA)).toArray) := by unfold Hid; rw [← hW]; exact box_other BA.out (by show βA ≠ μ; omega) _
          replace BB : Hid (Box w20 βB (fdL fB (.slice waB wnB wxB)).toArray) := by unfold Hid; rw [← hW]; exact box_other BB.out (by show βB ≠ μ; omega) _
          replace HR : Hid (Rd w20 ρ (q5 + 1) bs) := by unfold Hid; rw [← hW]; exact HR.out.other (by omega) _
          clear hW
          go_meet
          exact ⟨⟨mk, mf, xf, xp, mp, mr⟩, (q5 + 1), ⟨HFW.out.s0, HFW.out.s1, HMI.out.s1, HMI.out.s4, HFW.out.s4, HFW.out.s5⟩, BM.out, DM.out, HR.out, by omega, by omega, BA.out, BB.out⟩
    case rest =>
    revert wc
    intro Wq3 hcut
    obtain ⟨m, q3, hfw, hbm, hdm, hrd, hq3a, hq3b, hba, hbb⟩ := hcut
    replace HFW := hide hfw
    replace BM := hide hbm
    replace DM := hide hdm
    replace HR := hide hrd
    replace BA := hide hba
    replace BB := hide hbb
    clear hfw hbm hdm hrd hba hbb
    obtain ⟨mk, mf, mw, mi, mp, mr⟩ := m
    go_upto_region 22 with fail
    go_cut [12] (fun lv wc => ∃ (g' c' : Nat), lv = .slice (some ⟨g', 0, none⟩) (M.length + 1) c' ∧ MdR w.heap.size lv (M ++ [⟨mk, mf, mw, mi, mp, mr⟩]) wc ∧ MdR w.heap.size (.slice (some ⟨g, 0, none⟩) M.length c) M wc ∧ Tch ρ w wc ∧ Rd wc ρ q3 bs)
    case first =>
      have hσμ : σ < μ := by omega
      have hz0 := BM.out.lt
      refine wp_region_held_drew (S := fun W => ∀ i, W.cell? ⟨μ, i, none⟩ = #[.string mk, .string mf, .string mw, .string mi, .string mp, .string mr][i]?) (by kernel_rfl) (BM.out.drew.cell) (fun hHeld => ?_)
      refine wpAnyH_take (i := 1) (v := (.slice (some ⟨g, 0, none⟩) M.length c)) rfl (by kernel_rfl) (by kernel_rfl) (by kernel_rfl) (fun _ _ _ h => h) (Or.inl ⟨by rfl, fun W hW => by have hq := hW; go_simp⟩) hHeld ?_
      try simp only [Act.put, List.getElem_toArray, List.getElem_cons_succ, List.getElem_cons_zero, List.setIfInBounds_toArray, List.set_cons_zero, List.set_cons_succ]
      refine wpAnyH_take (i := 3) (v := .agg #[.string mk, .string mf, .string mw, .string mi, .string mp, .string mr]) rfl (by kernel_rfl) (by kernel_rfl) (by kernel_rfl) (fun _ _ _ h => h) (Or.inl ⟨by rfl, fun W hW => by have hq := hW; go_simp⟩) hHeld ?_
      try simp only [Act.put, List.getElem_toArray, List.getElem_cons_succ, List.getElem_cons_zero, List.setIfInBounds_toArray, List.set_cons_zero, List.set_cons_succ]
      refine wpAnyH_ready (rs := [0, 4]) (by kernel_rfl) (by simp) ?_
      refine AllReadyH.cons rfl (fun KK hK => ?_) (AllReadyH.cons rfl (fun KK hK => ?_) AllReadyH.nil)
      ·
        go_simp
        refine hK.out _ _ (BM.out.on ((one_al _ _).drew)).cell (fun hHeld => ?_)
        clear hK KK
        try simp only [Act.put, List.getElem_toArray, List.getElem_cons_succ, List.getElem_cons_zero, List.setIfInBounds_toArray, List.set_cons_zero, List.set_cons_succ]
        generalize hV : World.drew _ = v1
        have hba : Below Wq3.heap.size Wq3 v1 := by rw [← hV]; exact (one_al _ _).drew
        replace DM := hide (DM.out.below hba)
        replace HR := hide (HR.out.below hba)
        replace BM := hide (BM.out.on hba)
        have hzzv1 : Wq3.heap.size < v1.heap.size := by rw [← hV]; simp
        have hzmv1 : μ < Wq3.heap.size := by omega
        have RE : Hid (World.ownsRow v1 w.heap.size 54 6 (.slice (some ⟨Wq3.heap.size, 0, none⟩) 0 0) 0 []) := by unfold Hid; rw [← hV]; exact World.ownsRow_made (base := w.heap.size) (e := 54) (size := 6) Wq3 #[] 0 (by show w.heap.size ≤ Wq3.heap.size; omega) (Nat.zero_le _) (by simp)
        clear hV hba
        generalize Wq3.heap.size = ε at *
        refine wpAnyH_ready (rs := [2, 4]) (by kernel_rfl) (by simp) ?_
        refine AllReadyH.cons rfl (fun KK hK => ?_) (AllReadyH.cons rfl (fun KK hK => ?_) AllReadyH.nil)
        ·
          have hεW : ε < v1.heap.size := (owns_lt RE.out (g := ε) rfl).1
          refine step_append_at (by rfl) (.tmp 118) (.tmp 119) 24 (by rfl) w.heap.size 54 i1 (.agg #[.string ⟨#[]⟩, .string ⟨#[]⟩, .string ⟨#[]⟩, .string ⟨#[]⟩, .string ⟨#[]⟩, .string ⟨#[]⟩]) 6 96 Tryz.underlying24 HI.out.1 HI.out.2.1 HI.out.2.2.1 HI.out.2.2.2 (by rfl) (by decide) (.slice (some ⟨ε, 0, none⟩) 0 0) 0 [] (by rfl) RE.out ⟨g, 0, none⟩ M.length c (flatC mdC M) (by rfl) (flatC_len mdC 6 mdC_len M) (owns_news DM.out.md.own rfl) (flatC_one M) (by unfold maxLen; omega) (by omega) (by omega) ?_
          intro v' v2 hown hgrow hat
          rw [Nat.zero_add, List.nil_append] at hown
          have hne : ∀ k, k ≠ ε → some k ≠ (Value.slice (some ⟨ε, 0, none⟩) 0 0).ownBlock := fun k hk e => hk (by simpa [Value.ownBlock] using e)
          have hbg : Below ε v1 v2 := ⟨hgrow.os, hgrow.tape, hgrow.output, hgrow.size, fun k hk => hgrow.block k (by omega) (hne k (by omega))⟩
          have HVB : Hid (∀ k, v'.ownBlock = some k → ε ≤ k) := fun k hk => by
            rcases hat with h | h
            · rw [hk] at h
              have e : ε = k := own_at h.symm
              omega
            · rw [hk] at h; cases h; omega
          have RA := hide hown
          replace DM := hide (DM.out.belowB hbg (by omega))
          replace HR := hide (HR.out.belowB hbg (by omega))
          replace BM := hide (BM.out.below hbg (by omega))
          have hzA := hgrow.size
          refine hK.out _ _ BM.out.cell (fun hHeld => ?_)
          clear hK KK hown hgrow hat hne hbg RE
          try simp only [Act.put, List.getElem_toArray, List.getElem_cons_succ, List.getElem_cons_zero, List.setIfInBounds_toArray, List.set_cons_zero, List.set_cons_succ]
          refine wpAnyH_ready (rs := [4]) (by kernel_rfl) (by simp) ?_
          refine AllReadyH.cons rfl (fun KK hK => ?_) AllReadyH.nil
          go_simp
          refine hK.out _ _ (BM.out.on (one_al _ _)).cell (fun hHeld => ?_)
          clear hK KK
          try simp only [Act.put, List.getElem_toArray, List.getElem_cons_succ, List.getElem_cons_zero, List.setIfInBounds_toArray, List.set_cons_zero, List.set_cons_succ]
          generalize hV : World.alloc _ _ = v3
          have hba : Below v2.heap.size v2 v3 := by rw [← hV]; exact one_al _ _
          replace DM := hide (DM.out.below hba)
          replace HR := hide (HR.out.below hba)
          replace BM := hide (BM.out.on hba)
          replace RA := hide (owns_kept RA.out fun k hk => hba.block k (owns_lt RA.out hk).1)
          have BV : Hid (Box v3 v2.heap.size #[.string mk, .string mf, .string mw, .string mi, .string mp, .string mr]) := by unfold Hid; rw [← hV]; exact Box.new _ _ _ _ rfl
          have hzzv3 : v2.heap.size < v3.heap.size := by rw [← hV]; simp
          clear hV hba
          generalize v2.heap.size = ν at *
          refine wpAnyH_ready (rs := [5]) (by kernel_rfl) (by simp) ?_
          refine AllReadyH.cons rfl (fun KK hK => ?_) AllReadyH.nil
          refine step_append_lies _ (by rfl) (.tmp 120) (.tmp 122) 24 (by rfl) w.heap.size 54 i1 (.agg #[.string ⟨#[]⟩, .string ⟨#[]⟩, .string ⟨#[]⟩, .string ⟨#[]⟩, .string ⟨#[]⟩, .string ⟨#[]⟩]) 6 96 Tryz.underlying24 HI.out.1 HI.out.2.1 HI.out.2.2.1 HI.out.2.2.2 (by rfl) (by decide) v' M.length (flatC mdC M) (by rfl) RA.out ⟨ν, 0, none⟩ 1 1 (mdC ⟨mk, mf, mw, mi, mp, mr⟩) (by rfl) (by rfl) (box_news BV.out rfl) (mdC_one _) (by decide) (by unfold maxLen; omega) (by omega) (by omega) _ rfl ?_
          intro g' cap1 v4 hown hgrow hat hltg
          have hbg : Below w.heap.size v3 v4 := owns_grown RA.out hgrow (by omega)
          have HM2 : Hid (MdR w.heap.size (.slice (some ⟨g, 0, none⟩) M.length c) M v4) := DM.out.md.kept fun k hk => hgrow.block k (owns_lt DM.out.md.own hk).1 (fun e => by have h1 := HVB.out k e.symm; have h2 := DM.out.nb k hk; omega)
          have HML : Hid (MdR w.heap.size (.slice (some ⟨g', 0, none⟩) (M.length + 1) cap1) (M ++ [⟨mk, mf, mw, mi, mp, mr⟩]) v4) := MdR.app (M := [⟨mk, mf, mw, mi, mp, mr⟩]) DM.out.md.few (fun m hm => by rw [List.mem_singleton.1 hm]; exact HFW.out) (by simpa [flatC] using hown)
          have HT2 : Hid (Tch ρ w v4) := DM.out.tc.belowB hbg (Nat.le_refl _)
          have HR2 : Hid (Rd v4 ρ q3 bs) := HR.out.belowB hbg (by omega)
          have BM2 : Hid (Box v4 μ #[.string mk, .string mf, .string mw, .string mi, .string mp, .string mr]) := box_blkE BM.out (hgrow.block μ BM.out.lt (fun e => by have h1 := HVB.out μ e.symm; omega)) hgrow.size
          refine hK.out _ _ BM2.out.cell (fun hHeld => ?_)
          clear hK KK hown hgrow hat hbg
          try simp only [Act.put, List.getElem_toArray, List.getElem_cons_succ, List.getElem_cons_zero, List.setIfInBounds_toArray, List.set_cons_zero, List.set_cons_succ]
          refine wpAnyH_ready (rs := [6]) (by kernel_rfl) (by simp) ?_
          refine AllReadyH.cons rfl (fun KK hK => ?_) AllReadyH.nil
          go_simp
          refine hK.out _ _ BM2.out.cell (fun hHeld => ?_)
          clear hK KK hHeld
          try simp only [Act.put, List.getElem_toArray, List.getElem_cons_succ, List.getElem_cons_zero, List.setIfInBounds_toArray, List.set_cons_zero, List.set_cons_succ]
          refine wpAnyH_done (by kernel_rfl) ?_ _
          go_wp2
          go_meet
          exact ⟨g', cap1, rfl, HML.out, HM2.out, HT2.out, HR2.out⟩
        ·
          go_simp
          refine hK.out _ _ (BM.out.on (one_al _ _)).cell (fun hHeld => ?_)
          clear hK KK
          try simp only [Act.put, List.getElem_toArray, List.getElem_cons_succ, List.getElem_cons_zero, List.setIfInBounds_toArray, List.set_cons_zero, List.set_cons_succ]
          generalize hV : World.alloc _ _ = v5
          have hba : Below v1.heap.size v1 v5 := by rw [← hV]; exact one_al _ _
          replace DM := hide (DM.out.below hba)
          replace HR := hide (HR.out.below hba)
          replace BM := hide (BM.out.on hba)
          have hzzv5 : v1.heap.size < v5.heap.size := by rw [← hV]; simp
          have hzmv5 : μ < v1.heap.size := by omega
          replace RE := hide (owns_kept RE.out fun k hk => hba.block k (owns_lt RE.out hk).1)
          have BV : Hid (Box v5 v1.heap.size #[.string mk, .string mf, .string mw, .string mi, .string mp, .string mr]) := by unfold Hid; rw [← hV]; exact Box.new _ _ _ _ rfl
          clear hV hba
          generalize v1.heap.size = ν at *
          refine wpAnyH_ready (rs := [2]) (by kernel_rfl) (by simp) ?_
          refine AllReadyH.cons rfl (fun KK hK => ?_) AllReadyH.nil
          have hεW : ε < v5.heap.size := (owns_lt RE.out (g := ε) rfl).1
          refine step_append_at (by rfl) (.tmp 118) (.tmp 119) 24 (by rfl) w.heap.size 54 i1 (.agg #[.string ⟨#[]⟩, .string ⟨#[]⟩, .string ⟨#[]⟩, .string ⟨#[]⟩, .string ⟨#[]⟩, .string ⟨#[]⟩]) 6 96 Tryz.underlying24 HI.out.1 HI.out.2.1 HI.out.2.2.1 HI.out.2.2.2 (by rfl) (by decide) (.slice (some ⟨ε, 0, none⟩) 0 0) 0 [] (by rfl) RE.out ⟨g, 0, none⟩ M.length c (flatC mdC M) (by rfl) (flatC_len mdC 6 mdC_len M) (owns_news DM.out.md.own rfl) (flatC_one M) (by unfold maxLen; omega) (by omega) (by omega) ?_
          intro v' v6 hown hgrow hat
          rw [Nat.zero_add, List.nil_append] at hown
          have hne : ∀ k, k ≠ ε → some k ≠ (Value.slice (some ⟨ε, 0, none⟩) 0 0).ownBlock := fun k hk e => hk (by simpa [Value.ownBlock] using e)
          have hbg : Below ε v5 v6 := ⟨hgrow.os, hgrow.tape, hgrow.output, hgrow.size, fun k hk => hgrow.block k (by omega) (hne k (by omega))⟩
          have HVB : Hid (∀ k, v'.ownBlock = some k → ε ≤ k) := fun k hk => by
            rcases hat with h | h
            · rw [hk] at h
              have e : ε = k := own_at h.symm
              omega
            · rw [hk] at h; cases h; omega
          have RA := hide hown
          replace DM := hide (DM.out.belowB hbg (by omega))
          replace HR := hide (HR.out.belowB hbg (by omega))
          replace BM := hide (BM.out.below hbg (by omega))
          replace BV := hide (box_blkE BV.out (hgrow.block ν BV.out.lt (hne ν (by omega))) hgrow.size)
          have hzA := hgrow.size
          refine hK.out _ _ BM.out.cell (fun hHeld => ?_)
          clear hK KK hown hgrow hat hne hbg RE
          try simp only [Act.put, List.getElem_toArray, List.getElem_cons_succ, List.getElem_cons_zero, List.setIfInBounds_toArray, List.set_cons_zero, List.set_cons_succ]
          refine wpAnyH_ready (rs := [5]) (by kernel_rfl) (by simp) ?_
          refine AllReadyH.cons rfl (fun KK hK => ?_) AllReadyH.nil
          refine step_append_lies _ (by rfl) (.tmp 120) (.tmp 122) 24 (by rfl) w.heap.size 54 i1 (.agg #[.string ⟨#[]⟩, .string ⟨#[]⟩, .string ⟨#[]⟩, .string ⟨#[]⟩, .string ⟨#[]⟩, .string ⟨#[]⟩]) 6 96 Tryz.underlying24 HI.out.1 HI.out.2.1 HI.out.2.2.1 HI.out.2.2.2 (by rfl) (by decide) v' M.length (flatC mdC M) (by rfl) RA.out ⟨ν, 0, none⟩ 1 1 (mdC ⟨mk, mf, mw, mi, mp, mr⟩) (by rfl) (by rfl) (box_news BV.out rfl) (mdC_one _) (by decide) (by unfold maxLen; omega) (by omega) (by omega) _ rfl ?_
          intro g' cap1 v7 hown hgrow hat hltg
          have hbg : Below w.heap.size v6 v7 := owns_grown RA.out hgrow (by omega)
          have HM2 : Hid (MdR w.heap.size (.slice (some ⟨g, 0, none⟩) M.length c) M v7) := DM.out.md.kept fun k hk => hgrow.block k (owns_lt DM.out.md.own hk).1 (fun e => by have h1 := HVB.out k e.symm; have h2 := DM.out.nb k hk; omega)
          have HML : Hid (MdR w.heap.size (.slice (some ⟨g', 0, none⟩) (M.length + 1) cap1) (M ++ [⟨mk, mf, mw, mi, mp, mr⟩]) v7) := MdR.app (M := [⟨mk, mf, mw, mi, mp, mr⟩]) DM.out.md.few (fun m hm => by rw [List.mem_singleton.1 hm]; exact HFW.out) (by simpa [flatC] using hown)
          have HT2 : Hid (Tch ρ w v7) := DM.out.tc.belowB hbg (Nat.le_refl _)
          have HR2 : Hid (Rd v7 ρ q3 bs) := HR.out.belowB hbg (by omega)
          have BM2 : Hid (Box v7 μ #[.string mk, .string mf, .string mw, .string mi, .string mp, .string mr]) := box_blkE BM.out (hgrow.block μ BM.out.lt (fun e => by have h1 := HVB.out μ e.symm; omega)) hgrow.size
          refine hK.out _ _ BM2.out.cell (fun hHeld => ?_)
          clear hK KK hown hgrow hat hbg
          try simp only [Act.put, List.getElem_toArray, List.getElem_cons_succ, List.getElem_cons_zero, List.setIfInBounds_toArray, List.set_cons_zero, List.set_cons_succ]
          refine wpAnyH_ready (rs := [6]) (by kernel_rfl) (by simp) ?_
          refine AllReadyH.cons rfl (fun KK hK => ?_) AllReadyH.nil
          go_simp
          refine hK.out _ _ BM2.out.cell (fun hHeld => ?_)
          clear hK KK hHeld
          try simp only [Act.put, List.getElem_toArray, List.getElem_cons_succ, List.getElem_cons_zero, List.setIfInBounds_toArray, List.set_cons_zero, List.set_cons_succ]
          refine wpAnyH_done (by kernel_rfl) ?_ _
          go_wp2
          go_meet
          exact ⟨g', cap1, rfl, HML.out, HM2.out, HT2.out, HR2.out⟩
      ·
        go_simp
        refine hK.out _ _ (BM.out.on ((one_al _ _).drew)).cell (fun hHeld => ?_)
        clear hK KK
        try simp only [Act.put, List.getElem_toArray, List.getElem_cons_succ, List.getElem_cons_zero, List.setIfInBounds_toArray, List.set_cons_zero, List.set_cons_succ]
        generalize hV : World.drew _ = v8
        have hba : Below Wq3.heap.size Wq3 v8 := by rw [← hV]; exact (one_al _ _).drew
        replace DM := hide (DM.out.below hba)
        replace HR := hide (HR.out.below hba)
        replace BM := hide (BM.out.on hba)
        have hzzv8 : Wq3.heap.size < v8.heap.size := by rw [← hV]; simp
        have hzmv8 : μ < Wq3.heap.size := by omega
        have BV : Hid (Box v8 Wq3.heap.size #[.string mk, .string mf, .string mw, .string mi, .string mp, .string mr]) := by unfold Hid; rw [← hV]; exact (Box.new _ _ _ _ rfl).drew
        clear hV hba
        generalize Wq3.heap.size = ν at *
        refine wpAnyH_ready (rs := [0]) (by kernel_rfl) (by simp) ?_
        refine AllReadyH.cons rfl (fun KK hK => ?_) AllReadyH.nil
        go_simp
        refine hK.out _ _ (BM.out.on (one_al _ _)).cell (fun hHeld => ?_)
        clear hK KK
        try simp only [Act.put, List.getElem_toArray, List.getElem_cons_succ, List.getElem_cons_zero, List.setIfInBounds_toArray, List.set_cons_zero, List.set_cons_succ]
        generalize hV : World.alloc _ _ = v9
        have hba : Below v8.heap.size v8 v9 := by rw [← hV]; exact one_al _ _
        replace DM := hide (DM.out.below hba)
        replace HR := hide (HR.out.below hba)
        replace BM := hide (BM.out.on hba)
        have hzzv9 : v8.heap.size < v9.heap.size := by rw [← hV]; simp
        have hzmv9 : μ < v8.heap.size := by omega
        replace BV := hide (BV.out.on hba)
        have RE : Hid (World.ownsRow v9 w.heap.size 54 6 (.slice (some ⟨v8.heap.size, 0, none⟩) 0 0) 0 []) := by unfold Hid; rw [← hV]; exact World.ownsRow_made (base := w.heap.size) (e := 54) (size := 6) v8 #[] 0 (by show w.heap.size ≤ v8.heap.size; omega) (Nat.zero_le _) (by simp)
        clear hV hba
        generalize v8.heap.size = ε at *
        refine wpAnyH_ready (rs := [2]) (by kernel_rfl) (by simp) ?_
        refine AllReadyH.cons rfl (fun KK hK => ?_) AllReadyH.nil
        have hεW : ε < v9.heap.size := (owns_lt RE.out (g := ε) rfl).1
        refine step_append_at (by rfl) (.tmp 118) (.tmp 119) 24 (by rfl) w.heap.size 54 i1 (.agg #[.string ⟨#[]⟩, .string ⟨#[]⟩, .string ⟨#[]⟩, .string ⟨#[]⟩, .string ⟨#[]⟩, .string ⟨#[]⟩]) 6 96 Tryz.underlying24 HI.out.1 HI.out.2.1 HI.out.2.2.1 HI.out.2.2.2 (by rfl) (by decide) (.slice (some ⟨ε, 0, none⟩) 0 0) 0 [] (by rfl) RE.out ⟨g, 0, none⟩ M.length c (flatC mdC M) (by rfl) (flatC_len mdC 6 mdC_len M) (owns_news DM.out.md.own rfl) (flatC_one M) (by unfold maxLen; omega) (by omega) (by omega) ?_
        intro v' v10 hown hgrow hat
        rw [Nat.zero_add, List.nil_append] at hown
        have hne : ∀ k, k ≠ ε → some k ≠ (Value.slice (some ⟨ε, 0, none⟩) 0 0).ownBlock := fun k hk e => hk (by simpa [Value.ownBlock] using e)
        have hbg : Below ε v9 v10 := ⟨hgrow.os, hgrow.tape, hgrow.output, hgrow.size, fun k hk => hgrow.block k (by omega) (hne k (by omega))⟩
        have HVB : Hid (∀ k, v'.ownBlock = some k → ε ≤ k) := fun k hk => by
          rcases hat with h | h
          · rw [hk] at h
            have e : ε = k := own_at h.symm
            omega
          · rw [hk] at h; cases h; omega
        have RA := hide hown
        replace DM := hide (DM.out.belowB hbg (by omega))
        replace HR := hide (HR.out.belowB hbg (by omega))
        replace BM := hide (BM.out.below hbg (by omega))
        replace BV := hide (box_blkE BV.out (hgrow.block ν BV.out.lt (hne ν (by omega))) hgrow.size)
        have hzA := hgrow.size
        refine hK.out _ _ BM.out.cell (fun hHeld => ?_)
        clear hK KK hown hgrow hat hne hbg RE
        try simp only [Act.put, List.getElem_toArray, List.getElem_cons_succ, List.getElem_cons_zero, List.setIfInBounds_toArray, List.set_cons_zero, List.set_cons_succ]
        refine wpAnyH_ready (rs := [5]) (by kernel_rfl) (by simp) ?_
        refine AllReadyH.cons rfl (fun KK hK => ?_) AllReadyH.nil
        refine step_append_lies _ (by rfl) (.tmp 120) (.tmp 122) 24 (by rfl) w.heap.size 54 i1 (.agg #[.string ⟨#[]⟩, .string ⟨#[]⟩, .string ⟨#[]⟩, .string ⟨#[]⟩, .string ⟨#[]⟩, .string ⟨#[]⟩]) 6 96 Tryz.underlying24 HI.out.1 HI.out.2.1 HI.out.2.2.1 HI.out.2.2.2 (by rfl) (by decide) v' M.length (flatC mdC M) (by rfl) RA.out ⟨ν, 0, none⟩ 1 1 (mdC ⟨mk, mf, mw, mi, mp, mr⟩) (by rfl) (by rfl) (box_news BV.out rfl) (mdC_one _) (by decide) (by unfold maxLen; omega) (by omega) (by omega) _ rfl ?_
        intro g' cap1 v11 hown hgrow hat hltg
        have hbg : Below w.heap.size v10 v11 := owns_grown RA.out hgrow (by omega)
        have HM2 : Hid (MdR w.heap.size (.slice (some ⟨g, 0, none⟩) M.length c) M v11) := DM.out.md.kept fun k hk => hgrow.block k (owns_lt DM.out.md.own hk).1 (fun e => by have h1 := HVB.out k e.symm; have h2 := DM.out.nb k hk; omega)
        have HML : Hid (MdR w.heap.size (.slice (some ⟨g', 0, none⟩) (M.length + 1) cap1) (M ++ [⟨mk, mf, mw, mi, mp, mr⟩]) v11) := MdR.app (M := [⟨mk, mf, mw, mi, mp, mr⟩]) DM.out.md.few (fun m hm => by rw [List.mem_singleton.1 hm]; exact HFW.out) (by simpa [flatC] using hown)
        have HT2 : Hid (Tch ρ w v11) := DM.out.tc.belowB hbg (Nat.le_refl _)
        have HR2 : Hid (Rd v11 ρ q3 bs) := HR.out.belowB hbg (by omega)
        have BM2 : Hid (Box v11 μ #[.string mk, .string mf, .string mw, .string mi, .string mp, .string mr]) := box_blkE BM.out (hgrow.block μ BM.out.lt (fun e => by have h1 := HVB.out μ e.symm; omega)) hgrow.size
        refine hK.out _ _ BM2.out.cell (fun hHeld => ?_)
        clear hK KK hown hgrow hat hbg
        try simp only [Act.put, List.getElem_toArray, List.getElem_cons_succ, List.getElem_cons_zero, List.setIfInBounds_toArray, List.set_cons_zero, List.set_cons_succ]
        refine wpAnyH_ready (rs := [6]) (by kernel_rfl) (by simp) ?_
        refine AllReadyH.cons rfl (fun KK hK => ?_) AllReadyH.nil
        go_simp
        refine hK.out _ _ BM2.out.cell (fun hHeld => ?_)
        clear hK KK hHeld
        try simp only [Act.put, List.getElem_toArray, List.getElem_cons_succ, List.getElem_cons_zero, List.setIfInBounds_toArray, List.set_cons_zero, List.set_cons_succ]
        refine wpAnyH_done (by kernel_rfl) ?_ _
        go_wp2
        go_meet
        exact ⟨g', cap1, rfl, HML.out, HM2.out, HT2.out, HR2.out⟩
    case rest =>
    revert wc
    intro W22 hcut
    obtain ⟨g2, c2, rfl, hml, hmo, htc, hrd⟩ := hcut
    have HML := hide hml
    have HMO := hide hmo
    have HT2 := hide htc
    replace HR := hide hrd
    clear hml hmo htc hrd DM BM BA BB KP
    go_wp2_with fail
    refine (specMends_any lo w.heap.size _ _ (L.map SX.sh) (M ++ [⟨mk, mf, mw, mi, mp, mr⟩]) W22 (shsG_at (ZRw.tch sh_keeps HSG.out HT2.out hl)) HML.out.at).mono ?_
    rintro e w23 ⟨rfl, hb⟩
    replace HML := hide (HML.out.below hb)
    replace HMO := hide (HMO.out.below hb)
    replace HT2 := hide (HT2.out.trans (Tch.below hb))
    replace HR := hide (HR.out.below hb)
    clear hb
    generalize mendsB _ _ = bb
    cases bb with
    | true =>
      go_wp2
      go_roundg (gk - 1)
      case rel => exact ⟨q3, g2, c2, M ++ [⟨mk, mf, mw, mi, mp, mr⟩], by simp, by go_num, by simp; omega, HML.out, HR.out, by omega, by omega, HT2.out⟩
      case measure => omega
    | false =>
      go_wp2
      go_roundg (gk - 1)
      case rel => exact ⟨q3, g, c, M, rfl, by go_num, by omega, HMO.out, HR.out, by omega, by omega, HT2.out⟩
      case measure => omega
end Go.Proofs.YtjkkbkdpoebfaaaGreat
