import Derived.Test.YtjkkbkdpoebfaaaGreatV28
namespace Go.Proofs.YtjkkbkdpoebfaaaGreat
open Go.RowKit Go.Deep

theorem owns_cell {base n sz cap b off : Nat} {e : TypeId} {W W' : World} {cs : List Value} (h : W.ownsRow base e sz (.slice (some ⟨b, off, none⟩) n cap) n cs) (hk : W'.heap[b]? = W.heap[b]?) : off = 0 ∧ b < W.heap.size ∧ ∀ j, j < n * sz → W'.cell? ⟨b, j, none⟩ = cs[j]? := by
  rcases h.2 with ⟨hv, _⟩ | ⟨g, cap', cur, hv, h1, h2, h3, h4, h5, h6⟩
  · cases hv
  · cases hv
    refine ⟨rfl, (owns_lt h (g := b) rfl).1, fun j hj => ?_⟩
    rw [cell_of_row W' b j cur e (0, 0) (hk.trans h2), ← h6, List.getElem?_take_of_lt hj]
    simp
theorem box_other {w : World} {β : Nat} {cs : Array Value} (h : Box w β cs) {p : Addr} (hp : β ≠ p.block) (u : Value) : Box (w.setCell p u) β cs :=
  ⟨by simpa [World.setCell] using h.lt, fun i => (cell_setCell_ne w p ⟨β, i, none⟩ u hp).trans (h.cell i), fun i => (World.frozen?_of_block (w := w) (a := ⟨β, i, none⟩) (Below.heap_setCell w p u β hp)).trans (h.free i)⟩
theorem ownS_tch {base ρ : Nat} {W W' : World} {v : Value} {R : List ByteArray} (h : OwnS base W v R) (ht : Tch ρ W W') (hl : ρ < base) : OwnS base W' v R := ⟨owns_kept h.row fun k hk => ht.block k (owns_lt h.row hk).1 (by have := (owns_lt h.row hk).2; omega), h.sz⟩
theorem ownS_set {base : Nat} {W : World} {v : Value} {R : List ByteArray} (h : OwnS base W v R) {p : Addr} (hp : p.block < base) (u : Value) : OwnS base (W.setCell p u) v R := ⟨owns_kept h.row fun k hk => Below.heap_setCell W p u k (by have := (owns_lt h.row hk).2; omega), h.sz⟩
structure Four (w W : World) (a0 a1 a2 c : Array Value) : Prop where
  al : Below w.heap.size w W
  b0 : Box W w.heap.size a0
  b1 : Box W (w.heap.size + 1) a1
  b2 : Box W (w.heap.size + 1 + 1) a2
  b3 : Box W (w.heap.size + 1 + 1 + 1) c
theorem four (w : World) (a0 a1 a2 c : Array Value) (t t' : TypeId) : Four w ((((w.alloc (.cells a0 t)).alloc (.cells a1 t)).alloc (.cells a2 t)).alloc (.cells c t')) a0 a1 a2 c := by
  generalize h0 : w.alloc (.cells a0 t) = w0
  have k0 : Box w0 w.heap.size a0 := h0 ▸ Box.new w a0 t _ rfl
  have l0 : Below w.heap.size w w0 := h0 ▸ one_al _ _
  have s0 : w0.heap.size = w.heap.size + 1 := by rw [← h0]; simp
  clear h0
  generalize h1 : w0.alloc (.cells a1 t) = w1
  have k1 : Box w1 (w.heap.size + 1) a1 := h1 ▸ Box.new w0 a1 t _ s0
  have m1 : Below w0.heap.size w0 w1 := h1 ▸ one_al _ _
  have s1 : w1.heap.size = w.heap.size + 1 + 1 := by rw [← h1]; simp [s0]
  clear h1
  generalize h2 : w1.alloc (.cells a2 t) = w2
  have k2 : Box w2 (w.heap.size + 1 + 1) a2 := h2 ▸ Box.new w1 a2 t _ s1
  have m2 : Below w1.heap.size w1 w2 := h2 ▸ one_al _ _
  have s2 : w2.heap.size = w.heap.size + 1 + 1 + 1 := by rw [← h2]; simp [s1]
  clear h2
  generalize h3 : w2.alloc (.cells c t') = w3
  have k3 : Box w3 (w.heap.size + 1 + 1 + 1) c := h3 ▸ Box.new w2 c t' _ s2
  have m3 : Below w2.heap.size w2 w3 := h3 ▸ one_al _ _
  clear h3
  have f : Below w.heap.size w w3 := ((l0.trans (m1.mono l0.size)).trans (m2.mono (by omega))).trans (m3.mono (by omega))
  exact ⟨f, ((k0.on m1).on m2).on m3, (k1.on m2).on m3, k2.on m3, k3⟩
theorem Book_size : (Tryz.prog.info? 89).map (·.size) = some 7 := by kernel_rfl
/-- what l2Draw gives -/
def ObjTo (ρ p : Nat) (bs : List UInt8) (w : World) (e : Ending) (w' : World) : Prop :=
  ∃ (k n t : ByteArray) (vv hv : Value) (V Ho : List ByteArray), e = .returned (.agg #[.string k, .string n, .string t, vv, .bool false, hv, .int .i64 0]) ∧ (k.size ≤ 1000 ∧ n.size ≤ 1000 ∧ t.size ≤ 1000) ∧
    OwnS w.heap.size w' vv V ∧ V.length ≤ 10 ∧ (∀ s ∈ V, s.size ≤ 1100000) ∧ StrsIn w.heap.size w' hv Ho ∧ Ho.length ≤ 10 ∧ (∀ s ∈ Ho, s.size ≤ 1000) ∧ (∀ k, vv.ownBlock = some k → hv.ownBlock ≠ some k) ∧ (∃ q, p ≤ q ∧ q ≤ p + 100 ∧ Rd w' ρ q bs) ∧ Tch ρ w w'

set_option maxRecDepth 20000 in
set_option maxHeartbeats 16000000 in
theorem l2Draw_any (lo ρ p : Nat) (bs : List UInt8) (a0 a1 a2 : Int) (ov g1 g2 g3 : Value) (Kn : List (ByteArray × ByteArray)) (v : Value) (L : List SX) (w : World) (h : Rd w ρ p bs) (hp : p ≤ 700000000) (hS : ShsG lo v L w) (hl : ρ < lo) (hL : L.length ≤ 10)
    (hO : KnAt ρ w ov Kn) (hKn : Kn.length ≤ 10) (hKs : ∀ x ∈ Kn, x.2.size ≤ 1000) :
    Calls Tryz.prog 52 #[.pointer (some ⟨ρ, 0, none⟩), v, .agg #[.int .i64 a0, .int .i64 a1, .int .i64 a2, ov, g1, g2, g3]] w (ObjTo ρ p bs w) := by
  obtain ⟨i0, hi, hz0, hz1, hz2⟩ := info_parts Tryz.info9
  have HI := hide (And.intro hi (And.intro hz0 (And.intro hz1 hz2)))
  have HR := hide h
  have hlt := h.lt
  have HSG := hide hS
  have HO := hide hO
  have HKS := hide hKs
  obtain ⟨va, vc, rfl⟩ := ZRw.form hS
  clear h hS hO hKs hi hz0 hz1 hz2
  go_enter Tryz.func52, Tryz.ntmps52
  go_upto_region 1 with fail
  generalize hW1 : World.alloc (World.alloc w _) _ = w1
  have hbA : Below w.heap.size w w1 := by rw [← hW1]; exact (one_al w _).alloc (by simp) _
  have BB : Hid (Box w1 w.heap.size #[.int .i64 a0, .int .i64 a1, .int .i64 a2, ov, g1, g2, g3]) := by unfold Hid; rw [← hW1]; exact (Box.new _ _ _ _ rfl).on (one_al _ _)
  have BR : Hid (Box w1 (w.heap.size + 1) #[.string ⟨#[]⟩, .string ⟨#[]⟩, .string ⟨#[]⟩, .slice none 0 0, .bool false, .slice none 0 0, .int .i64 0]) := by unfold Hid; rw [← hW1]; exact Box.new _ _ _ _ (by simp)
  clear hW1
  replace HR := hide (HR.out.below hbA)
  have HT : Hid (Tch ρ w w1) := Tch.below hbA
  clear hbA
  go_wp2_with fail
  refine (ofBuilt_any ρ p bs _ _ 6 w1 HR.out (by omega) (by decide) rfl (by decide) (by decide)).mono ?_
  rintro e w2 ⟨s1, rfl, hs, hr, ht⟩
  have HS1 := hide hs
  replace HR := hide hr
  replace HT := hide (HT.out.trans ht)
  replace BB := hide (ht.box BB.out (by omega))
  replace BR := hide (ht.box BR.out (by omega))
  clear hs hr ht
  go_wp2_with fail
  refine (ofBuilt_any ρ _ bs _ _ 3 w2 HR.out (by omega) (by decide) rfl (by decide) (by decide)).mono ?_
  rintro e w3 ⟨s2, rfl, hs, hr, ht⟩
  have HS2 := hide hs
  replace HR := hide hr
  replace HT := hide (HT.out.trans ht)
  replace BB := hide (ht.box BB.out (by omega))
  replace BR := hide (ht.box BR.out (by omega))
  clear hs hr ht
  go_upto_region 2 with fail
  generalize hW4 : w3.alloc _ = w4
  have hba : Below w3.heap.size w3 w4 := by rw [← hW4]; exact one_al _ _
  have BO : Hid (Box w4 w3.heap.size #[.string ⟨#[110, 111, 110, 101]⟩, .string s1, .string s2, .slice none 0 0, .bool false, .slice none 0 0, .int .i64 0]) := by unfold Hid; rw [← hW4]; exact Box.new _ _ _ _ rfl
  replace HR := hide (HR.out.below hba)
  replace HT := hide (HT.out.trans (Tch.below hba))
  replace BB := hide (BB.out.on hba)
  have hωr : w.heap.size + 1 < w3.heap.size := BR.out.lt
  replace BR := hide (BR.out.on hba)
  clear hba hW4
  generalize w3.heap.size = ω at *
  by_cases hL0 : L.length = 0
  ·
    have hL0' : (L.length : Int) = 0 := by omega
    have c : ∀ i, w4.cell? ⟨ω, i, none⟩ = #[.string ⟨#[110, 111, 110, 101]⟩, .string s1, .string s2, .slice none 0 0, .bool false, .slice none 0 0, .int .i64 0][i]? := BO.out.cell
    have cl := BO.out.lt
    have r : ∀ i, w4.cell? ⟨w.heap.size + 1, i, none⟩ = #[.string ⟨#[]⟩, .string ⟨#[]⟩, .string ⟨#[]⟩, .slice none 0 0, .bool false, .slice none 0 0, .int .i64 0][i]? := BR.out.cell
    have rf := BR.out.free
    have rl := BR.out.lt
    go_wp2
    refine bodyPost_ret (v := .agg #[.string ⟨#[110, 111, 110, 101]⟩, .string s1, .string s2, .slice none 0 0, .bool false, .slice none 0 0, .int .i64 0]) (by simp [results, Tryz.results52, go_sem, r]) rfl ⟨⟨#[110, 111, 110, 101]⟩, s1, s2, .slice none 0 0, .slice none 0 0, [], [], rfl, ⟨by decide, HS1.out, HS2.out⟩, ?_, by decide, (fun s hs => by cases hs), ?_, by decide, (fun s hs => by cases hs), (fun k hk => by cases hk), ⟨p + 2, by omega, by omega, ?_⟩, ?_⟩
    · exact OwnS.nil _ _
    · exact StrsIn.nil _ _
    · repeat (refine Rd.other ?_ (by omega) _)
      exact HR.out
    · repeat (refine Tch.other ?_ (by omega) _)
      exact HT.out
  have hL0' : ¬ ((L.length : Int) = 0) := by omega
  obtain ⟨sb, rfl⟩ : ∃ sb, va = some ⟨sb, 0, none⟩ := by
    rcases HSG.out.own.2 with ⟨hv, hn⟩ | ⟨g, cap', cur, hv, _⟩
    · omega
    · cases hv; exact ⟨_, rfl⟩
  go_wp2_with fail
  refine (pick_any ρ _ bs L.length w4 HR.out (by omega) (by omega) (by omega)).mono ?_
  rintro e w5 ⟨x, rfl, hx0, hx1, hr, ht⟩
  obtain ⟨i, rfl⟩ := Int.eq_ofNat_of_zero_le hx0
  have hiL : i < L.length := by omega
  replace HR := hide hr
  replace HT := hide (HT.out.trans ht)
  replace BB := hide (ht.box BB.out (by omega))
  replace BR := hide (ht.box BR.out (by omega))
  replace BO := hide (ht.box BO.out (by omega))
  clear hr ht
  have hlo : lo ≤ w.heap.size := by
    have := (owns_lt HSG.out.own (g := sb) rfl)
    omega
  have HS5 := hide (ZRw.tch sh_keeps HSG.out HT.out hl)
  obtain ⟨-, hsb, -, k0⟩ := ZRw.cell HS5.out shC_len hiL (j := 0) (by omega)
  obtain ⟨-, -, -, k1⟩ := ZRw.cell HS5.out shC_len hiL (j := 1) (by omega)
  obtain ⟨KX, hP, hKX⟩ := HSG.out.inn _ (List.getElem_mem hiL)
  obtain ⟨⟨fv, kd, fs⟩, hx⟩ : ∃ x, L[i] = x := ⟨_, rfl⟩
  rw [hx] at k0 k1 hP
  simp only [shC, List.getElem?_cons_zero, List.getElem?_cons_succ, Nat.add_zero] at k0 k1
  have HP := hide hP
  have HKX := hide hKX
  have hfn : fs.length ≤ 10 := hP.n
  have HKD : Hid (kd.size ≤ 1000) := hP.kd
  obtain ⟨fa, fc, rfl⟩ : ∃ a c, fv = .slice a fs.length c := owns_form hP.own
  clear hP hKX hx
  have hix : (i : Int) < (L.length : Int) := by omega
  have o0 := BO.out.cell 0
  have of0 := BO.out.free
  have ol := BO.out.lt
  go_wp2
  clear k0 k1 o0 of0 ol
  obtain ⟨w5', hw5⟩ : ∃ vv, vv = w5.setCell ⟨ω, 0, none⟩ (.string kd) := ⟨_, rfl⟩
  rw [← hw5]
  have hω5 : ω < w5.heap.size := BO.out.lt
  have hz5 : w5'.heap.size = w5.heap.size := by rw [hw5]; simp [World.setCell]
  replace BB : Hid (Box w5' w.heap.size #[.int .i64 a0, .int .i64 a1, .int .i64 a2, ov, g1, g2, g3]) := by unfold Hid; rw [hw5]; exact box_other BB.out (by show w.heap.size ≠ ω; omega) _
  replace BR : Hid (Box w5' (w.heap.size + 1) #[.string ⟨#[]⟩, .string ⟨#[]⟩, .string ⟨#[]⟩, .slice none 0 0, .bool false, .slice none 0 0, .int .i64 0]) := by unfold Hid; rw [hw5]; exact box_other BR.out (by show w.heap.size + 1 ≠ ω; omega) _
  replace BO : Hid (Box w5' ω #[.string kd, .string s1, .string s2, .slice none 0 0, .bool false, .slice none 0 0, .int .i64 0]) := by unfold Hid; rw [hw5]; exact put_cell BO.out 0 (by simp) _
  replace HR : Hid (Rd w5' ρ (p + 3) bs) := by unfold Hid; rw [hw5]; exact HR.out.other (by omega) _
  replace HT : Hid (Tch ρ w w5') := by unfold Hid; rw [hw5]; exact HT.out.other (by omega) _
  rw [← hz5]
  rw [← hz5] at hω5
  clear hw5 hz5 HS5
  generalize hW6 : World.alloc w5' _ = w6
  have hba : Below w5'.heap.size w5' w6 := by rw [← hW6]; exact one_al _ _
  have BS : Hid (Box w6 w5'.heap.size #[.string kd, .slice fa fs.length fc]) := by unfold Hid; rw [← hW6]; exact Box.new _ _ _ _ rfl
  replace BB := hide (BB.out.on hba)
  replace BR := hide (BR.out.on hba)
  replace BO := hide (BO.out.on hba)
  replace HR := hide (HR.out.below hba)
  replace HT := hide (HT.out.trans (Tch.below hba))
  clear hW6 hba
  generalize w5'.heap.size = σ at *
  go_loopw [9] (fun i wr => ∃ (k q : Nat) (vv : Value) (V : List ByteArray), i = .int .i64 k ∧ k ≤ fs.length ∧ V.length = k ∧ Box wr ω #[.string kd, .string s1, .string s2, vv, .bool false, .slice none 0 0, .int .i64 0] ∧ Box wr σ #[.string kd, .slice fa fs.length fc] ∧ Box wr w.heap.size #[.int .i64 a0, .int .i64 a1, .int .i64 a2, ov, g1, g2, g3] ∧ Box wr (w.heap.size + 1) #[.string ⟨#[]⟩, .string ⟨#[]⟩, .string ⟨#[]⟩, .slice none 0 0, .bool false, .slice none 0 0, .int .i64 0] ∧ OwnS (σ + 1) wr vv V ∧ (∀ s ∈ V, s.size ≤ 1100000) ∧ Rd wr ρ q bs ∧ p + 3 ≤ q ∧ q ≤ p + 3 + 8 * k ∧ Tch ρ w wr) (fun i _ => fs.length - (intOf i).toNat)
  case atStart => exact ⟨0, p + 3, .slice none 0 0, [], rfl, Nat.zero_le _, rfl, BO.out, BS.out, BB.out, BR.out, OwnS.nil _ _, fun s hs => (by cases hs), HR.out, Nat.le_refl _, Nat.le_refl _, HT.out⟩
  case round =>
    obtain ⟨k, q, vv, V, rfl, hk, hVk, hBO, hBS, hBB, hBR, hOw, hVs, hRd, hq1, hq2, hTc⟩ := hrel
    subst hVk
    replace BO := hide hBO
    replace BS := hide hBS
    replace BB := hide hBB
    replace BR := hide hBR
    have HOW := hide hOw
    have HVS := hide hVs
    replace HR := hide hRd
    replace HT := hide hTc
    obtain ⟨wa, wc, rfl⟩ := hOw.form
    have hσr : σ < wr.heap.size := hBS.lt
    clear hBO hBS hBB hBR hOw hVs hRd hTc
    have b1 : wr.cell? ⟨σ, 1, none⟩ = some (.slice fa fs.length fc) := BS.out.cell 1
    by_cases hkl : V.length < fs.length
    · obtain ⟨fg, rfl⟩ : ∃ fg, fa = some ⟨fg, 0, none⟩ := by
        rcases HP.out.own.2 with ⟨hv, hn⟩ | ⟨g, cap', cur, hv, _⟩
        · have : fs.length = 0 := hn
          omega
        · cases hv; exact ⟨_, rfl⟩
      have hfgK : KX fg := HP.out.blk fg rfl
      have hfg : fg < w.heap.size := (HKX.out fg hfgK).2.1
      have hfl : lo ≤ fg := (HKX.out fg hfgK).1
      obtain ⟨-, -, hcs⟩ := owns_cell (W' := wr) HP.out.own (HT.out.block fg hfg (by omega))
      have hfd : ∀ j, j < 11 → wr.cell? ⟨fg, V.length * 11 + j, none⟩ = (fdC (fs[V.length]'hkl))[j]? := fun j hj => (hcs (V.length * 11 + j) (by
        show V.length * 11 + j < fs.length * 11
        omega)).trans (flatC_at fdC 11 fdC_len fs V.length j hkl hj)
      have HFP : Hid (FdP KX w (fs[V.length]'hkl)) := HP.out.inn _ (List.getElem_mem hkl)
      obtain ⟨⟨wvk, fk⟩, hfk⟩ : ∃ y, fs[V.length]'hkl = y := ⟨_, rfl⟩
      rw [hfk] at hfd HFP
      have HFD := hide hfd
      have f7 : wr.cell? ⟨fg, V.length * 11 + 7, none⟩ = some (.bool fk.mu) := hfd 7 (by omega)
      clear hcs hfd hfk
      have hki : (V.length : Int) < (fs.length : Int) := by omega
      have hfgr : fg < wr.heap.size := by omega
      have hσω : ω < σ := hω5
      cases hmu : fk.mu with
      | true =>
        rw [hmu] at f7
        go_upto_region 11 with fail
        clear f7 b1
        have KP : Hid (∀ W, Tch ρ wr W → W.cell? ⟨σ, 1, none⟩ = some (.slice (some ⟨fg, 0, none⟩) fs.length fc) ∧ W.rangeAt fg (V.length * 11) (fdL fk wvk) ∧ W.rangeAt w.heap.size 0 [.int .i64 a0, .int .i64 a1, .int .i64 a2, ov, g1, g2, g3]) := fun W hW => ⟨(hW.box BS.out (by omega)).cell 1, fun j u hu => by
          have hj : j < 11 := by
            rcases Nat.lt_or_ge j 11 with h | h
            · exact h
            · rw [List.getElem?_eq_none (by show 11 ≤ j; exact h)] at hu; cases hu
          rw [hW.cell (p := ⟨fg, _, none⟩) hfgr (by show fg ≠ ρ; omega)]
          exact (HFD.out j hj).trans hu, box_range (hW.box BB.out (by omega)) rfl⟩
        refine wp_region_held_drew (S := fun W => W.cell? ⟨σ, 1, none⟩ = some (.slice (some ⟨fg, 0, none⟩) fs.length fc) ∧ W.rangeAt fg (V.length * 11) (fdL fk wvk) ∧ W.rangeAt w.heap.size 0 [.int .i64 a0, .int .i64 a1, .int .i64 a2, ov, g1, g2, g3]) (by kernel_rfl) (KP.out _ (Tch.below ((Below.refl _ _).drew))) (fun hHeld => ?_)
        refine wpAnyH_take (i := 0) (v := .pointer (some ⟨ρ, 0, none⟩)) rfl (by kernel_rfl) (by kernel_rfl) (by kernel_rfl) (fun _ _ _ h => h) (Or.inl ⟨by rfl, fun W hW => by obtain ⟨hq1, hq2, hq3⟩ := hW; go_simp⟩) hHeld ?_
        try simp only [Act.put, List.getElem_toArray, List.getElem_cons_zero, List.setIfInBounds_toArray, List.set_cons_zero, List.set_cons_succ]
        refine wpAnyH_take (i := 1) (v := .pointer (some ⟨σ, 1, none⟩)) rfl (by kernel_rfl) (by kernel_rfl) (by kernel_rfl) (fun _ _ _ h => h) (Or.inl ⟨by rfl, fun W hW => by obtain ⟨hq1, hq2, hq3⟩ := hW; go_simp⟩) hHeld ?_
        try simp only [Act.put, List.getElem_toArray, List.getElem_cons_succ, List.getElem_cons_zero, List.setIfInBounds_toArray, List.set_cons_zero, List.set_cons_succ]
        refine wpAnyH_take (i := 2) (v := .slice (some ⟨fg, 0, none⟩) fs.length fc) rfl (by kernel_rfl) (by kernel_rfl) (by kernel_rfl) (fun _ _ _ h => h) (Or.inl ⟨by rfl, fun W hW => by obtain ⟨hq1, hq2, hq3⟩ := hW; go_simp⟩) hHeld ?_
        try simp only [Act.put, List.getElem_toArray, List.getElem_cons_succ, List.getElem_cons_zero, List.setIfInBounds_toArray, List.set_cons_zero, List.set_cons_succ]
        refine wpAnyH_take (i := 3) (v := .int .i64 (V.length : Int)) rfl (by kernel_rfl) (by kernel_rfl) (by kernel_rfl) (fun _ _ _ h => h) (Or.inl ⟨by rfl, fun W hW => by obtain ⟨hq1, hq2, hq3⟩ := hW; go_simp⟩) hHeld ?_
        try simp only [Act.put, List.getElem_toArray, List.getElem_cons_succ, List.getElem_cons_zero, List.setIfInBounds_toArray, List.set_cons_zero, List.set_cons_succ]
        refine wpAnyH_take (i := 4) (v := .pointer (some ⟨fg, V.length * 11, none⟩)) rfl (by kernel_rfl) (by kernel_rfl) (by kernel_rfl) (fun _ _ _ h => h) (Or.inl ⟨by rfl, fun W hW => by obtain ⟨hq1, hq2, hq3⟩ := hW; go_simp⟩) hHeld ?_
        try simp only [Act.put, List.getElem_toArray, List.getElem_cons_succ, List.getElem_cons_zero, List.setIfInBounds_toArray, List.set_cons_zero, List.set_cons_succ]
        refine wpAnyH_take (i := 5) rfl (by kernel_rfl) (by kernel_rfl) (by kernel_rfl) (fun _ _ _ h => h) (yieldsIf_load_mid (by rfl) 56 (.tmp 54) rfl fg (V.length * 11) rfl (fdL fk wvk) _ (fun _ h => h.2.1) Tryz.underlying56 rfl Fd_sizeI) hHeld ?_
        try simp only [Act.put, List.getElem_toArray, List.getElem_cons_succ, List.getElem_cons_zero, List.setIfInBounds_toArray, List.set_cons_zero, List.set_cons_succ]
        refine wpAnyH_take (i := 6) rfl (by kernel_rfl) (by kernel_rfl) (by kernel_rfl) (fun _ _ _ h => h) (yieldsIf_load_mid (by rfl) 89 (.tmp 5) rfl w.heap.size 0 rfl [.int .i64 a0, .int .i64 a1, .int .i64 a2, ov, g1, g2, g3] _ (fun _ h => h.2.2) Tryz.underlying89 rfl Book_size) hHeld ?_
        try simp only [Act.put, List.getElem_toArray, List.getElem_cons_succ, List.getElem_cons_zero, List.setIfInBounds_toArray, List.set_cons_zero, List.set_cons_succ]
        refine wpAnyH_ready (rs := [7]) (by kernel_rfl) (by simp) ?_
        refine AllReadyH.cons rfl (fun KK hK => ?_) AllReadyH.nil
        go_simp
        have htw : Tch ρ w wr.drew := HT.out.trans (Tch.below ((Below.refl _ _).drew))
        refine (l1Fit_any lo ρ q bs fk wvk a0 a1 a2 ov g1 g2 g3 Kn _ (HR.out.below ((Below.refl _ _).drew)) (by omega) HFP.out.1 ((HFP.out.2.inn fun k hk => ⟨(HKX.out k hk).1, (HKX.out k hk).2.1⟩).tch htw hl) hl (HO.out.tch htw) hKn HKS.out).mono ?_
        rintro e wz ⟨sv, rfl, hsv, ⟨qz, hqz1, hqz2, hr⟩, ht⟩
        have HSV := hide hsv
        replace ht : Tch ρ wr wz := (Tch.below ((Below.refl _ _).drew)).trans ht
        replace HR := hide hr
        replace BO := hide (ht.box BO.out (by omega))
        replace BS := hide (ht.box BS.out (by omega))
        replace BB := hide (ht.box BB.out (by omega))
        replace BR := hide (ht.box BR.out (by omega))
        replace HT := hide (HT.out.trans ht)
        replace HOW := hide (ownS_tch HOW.out ht (by omega))
        have HTZ := hide ht
        clear hr ht hsv htw
        try go_wp2_with fail
        refine hK.out _ _ (KP.out _ HTZ.out) (fun hHeld => ?_)
        clear hK KK
        try simp only [Act.put, List.getElem_toArray, List.getElem_cons_succ, List.getElem_cons_zero, List.setIfInBounds_toArray, List.set_cons_zero, List.set_cons_succ]
        refine wpAnyH_ready (rs := [8]) (by kernel_rfl) (by simp) ?_
        refine AllReadyH.cons rfl (fun KK hK => ?_) AllReadyH.nil
        go_simp
        refine hK.out _ _ (KP.out _ HTZ.out) (fun hHeld => ?_)
        clear hK KK KP HTZ hHeld
        try simp only [Act.put, List.getElem_toArray, List.getElem_cons_succ, List.getElem_cons_zero, List.setIfInBounds_toArray, List.set_cons_zero, List.set_cons_succ]
        refine wpAnyH_done (by kernel_rfl) ?_ _
        have o3 : wz.cell? ⟨ω, 3, none⟩ = some (.slice wa V.length wc) := BO.out.cell 3
        have ol := BO.out.lt
        have sl := BS.out.lt
        have HOA := hide (HOW.out.below (one_al wz (.cells #[.string sv] 9)))
        go_wp2_with (at_builtin; refine wpList_append_lies _ rfl (.tmp 59) (.tmp 61) 25 rfl (σ + 1) 9 i0 (.string ⟨#[]⟩) 1 16 Tryz.underlying25 HI.out.1 HI.out.2.1 HI.out.2.2.1 HI.out.2.2.2 rfl (by decide) _ _ _ rfl HOA.out.row ⟨wz.heap.size, 0, none⟩ 1 1 [.string sv] rfl rfl (cell_new1 _ _ _ _ rfl) (one_oneCell _) (by decide) (by unfold maxLen; omega) (by omega) (by simp; omega) _ rfl ?_; intro g cap1 w9 hown hgrow hat hltg; have hbg := HOA.out.grown hgrow (by simp; omega); have o9 := ((BO.out.on (one_al _ _)).below hbg (by omega)).cell 3; have f9 := ((BO.out.on (one_al _ _)).below hbg (by omega)).free)
        obtain ⟨w8, hw8⟩ : ∃ vv, vv = w9.setCell ⟨ω, 3, none⟩ (.slice (some ⟨g, 0, none⟩) (V.length + 1) cap1) := ⟨_, rfl⟩
        rw [← hw8]
        have hb8 := hbg
        have BO8 : Hid (Box w8 ω #[.string kd, .string s1, .string s2, .slice (some ⟨g, 0, none⟩) (V.length + 1) cap1, .bool false, .slice none 0 0, .int .i64 0]) := by unfold Hid; rw [hw8]; exact put_cell ((BO.out.on (one_al _ _)).below hbg (by omega)) 3 (by simp) _
        have BS8 : Hid (Box w8 σ #[.string kd, .slice (some ⟨fg, 0, none⟩) fs.length fc]) := by unfold Hid; rw [hw8]; exact box_other ((BS.out.on (one_al _ _)).below hbg (by omega)) (by show σ ≠ ω; omega) _
        have BB8 : Hid (Box w8 w.heap.size #[.int .i64 a0, .int .i64 a1, .int .i64 a2, ov, g1, g2, g3]) := by unfold Hid; rw [hw8]; exact box_other ((BB.out.on (one_al _ _)).below hbg (by omega)) (by show w.heap.size ≠ ω; omega) _
        have BR8 : Hid (Box w8 (w.heap.size + 1) #[.string ⟨#[]⟩, .string ⟨#[]⟩, .string ⟨#[]⟩, .slice none 0 0, .bool false, .slice none 0 0, .int .i64 0]) := by unfold Hid; rw [hw8]; exact box_other ((BR.out.on (one_al _ _)).below hbg (by omega)) (by show w.heap.size + 1 ≠ ω; omega) _
        have OW8 : Hid (OwnS (σ + 1) w8 (.slice (some ⟨g, 0, none⟩) (V.length + 1) cap1) (V ++ [sv])) := by unfold Hid; rw [hw8]; exact ownS_set (HOW.out.snoc hown (by have := HSV.out; unfold maxLen; omega)) (by show ω < σ + 1; omega) _
        have VS8 : Hid (∀ s ∈ V ++ [sv], s.size ≤ 1100000) := fun s hs => by
          rcases List.mem_append.1 hs with h1 | h1
          · exact HVS.out s h1
          · rw [List.mem_singleton.1 h1]; exact HSV.out
        have HR8 : Hid (Rd w8 ρ qz bs) := by unfold Hid; rw [hw8]; exact ((HR.out.below (one_al _ _)).belowB hbg (by omega)).other (by omega) _
        have HT8 : Hid (Tch ρ w w8) := by unfold Hid; rw [hw8]; exact ((HT.out.trans (Tch.below (one_al _ _))).belowB hbg (by omega)).other (by omega) _
        clear hw8 hown hgrow hat hbg hb8 o9 f9 o3 ol sl
        go_roundw
        case rel => exact ⟨V.length + 1, qz, _, V ++ [sv], by go_num, by omega, by simp, BO8.out, BS8.out, BB8.out, BR8.out, OW8.out, VS8.out, HR8.out, by omega, by omega, HT8.out⟩
        case measure => simp [intOf]; omega
      | false =>
        rw [hmu] at f7
        go_wp2_with fail
        refine (pick_any ρ q bs 3 wr HR.out (by omega) (by decide) (by decide)).mono ?_
        rintro e wp ⟨x3, rfl, hx30, hx31, hr, ht⟩
        have hzp := ht.size
        replace HR := hide hr
        replace BO := hide (ht.box BO.out (by omega))
        replace BS := hide (ht.box BS.out (by omega))
        replace BB := hide (ht.box BB.out (by omega))
        replace BR := hide (ht.box BR.out (by omega))
        replace HT := hide (HT.out.trans ht)
        replace HOW := hide (ownS_tch HOW.out ht (by omega))
        replace HFD : Hid (∀ j, j < 11 → wp.cell? ⟨fg, V.length * 11 + j, none⟩ = (fdC (wvk, fk))[j]?) := fun j hj => (ht.cell (p := ⟨fg, _, none⟩) hfgr (by show fg ≠ ρ; omega)).trans (HFD.out j hj)
        have hfgp : fg < wp.heap.size := by omega
        clear hr ht f7 b1
        by_cases hx0' : x3 = 0
        · subst hx0'
          have HSV : Hid ((⟨#[]⟩ : ByteArray).size ≤ 1100000) := hide (of_decide_eq_true rfl)
          go_upto_region 12 with fail
          have o3 : wp.cell? ⟨ω, 3, none⟩ = some (.slice wa V.length wc) := BO.out.cell 3
          have ol := BO.out.lt
          have sl := BS.out.lt
          have HOA := hide (HOW.out.below (one_al wp (.cells #[.string ⟨#[]⟩] 9)))
          go_wp2_with (at_builtin; refine wpList_append_lies _ rfl (.tmp 59) (.tmp 61) 25 rfl (σ + 1) 9 i0 (.string ⟨#[]⟩) 1 16 Tryz.underlying25 HI.out.1 HI.out.2.1 HI.out.2.2.1 HI.out.2.2.2 rfl (by decide) _ _ _ rfl HOA.out.row ⟨wp.heap.size, 0, none⟩ 1 1 [.string ⟨#[]⟩] rfl rfl (cell_new1 _ _ _ _ rfl) (one_oneCell _) (by decide) (by unfold maxLen; omega) (by omega) (by simp; omega) _ rfl ?_; intro g cap1 w9 hown hgrow hat hltg; have hbg := HOA.out.grown hgrow (by simp; omega); have o9 := ((BO.out.on (one_al _ _)).below hbg (by omega)).cell 3; have f9 := ((BO.out.on (one_al _ _)).below hbg (by omega)).free)
          obtain ⟨w8, hw8⟩ : ∃ vv, vv = w9.setCell ⟨ω, 3, none⟩ (.slice (some ⟨g, 0, none⟩) (V.length + 1) cap1) := ⟨_, rfl⟩
          rw [← hw8]
          have hb8 := hbg
          have BO8 : Hid (Box w8 ω #[.string kd, .string s1, .string s2, .slice (some ⟨g, 0, none⟩) (V.length + 1) cap1, .bool false, .slice none 0 0, .int .i64 0]) := by unfold Hid; rw [hw8]; exact put_cell ((BO.out.on (one_al _ _)).below hbg (by omega)) 3 (by simp) _
          have BS8 : Hid (Box w8 σ #[.string kd, .slice (some ⟨fg, 0, none⟩) fs.length fc]) := by unfold Hid; rw [hw8]; exact box_other ((BS.out.on (one_al _ _)).below hbg (by omega)) (by show σ ≠ ω; omega) _
          have BB8 : Hid (Box w8 w.heap.size #[.int .i64 a0, .int .i64 a1, .int .i64 a2, ov, g1, g2, g3]) := by unfold Hid; rw [hw8]; exact box_other ((BB.out.on (one_al _ _)).below hbg (by omega)) (by show w.heap.size ≠ ω; omega) _
          have BR8 : Hid (Box w8 (w.heap.size + 1) #[.string ⟨#[]⟩, .string ⟨#[]⟩, .string ⟨#[]⟩, .slice none 0 0, .bool false, .slice none 0 0, .int .i64 0]) := by unfold Hid; rw [hw8]; exact box_other ((BR.out.on (one_al _ _)).below hbg (by omega)) (by show w.heap.size + 1 ≠ ω; omega) _
          have OW8 : Hid (OwnS (σ + 1) w8 (.slice (some ⟨g, 0, none⟩) (V.length + 1) cap1) (V ++ [⟨#[]⟩])) := by unfold Hid; rw [hw8]; exact ownS_set (HOW.out.snoc hown (by have := HSV.out; unfold maxLen; omega)) (by show ω < σ + 1; omega) _
          have VS8 : Hid (∀ s ∈ V ++ [⟨#[]⟩], s.size ≤ 1100000) := fun s hs => by
            rcases List.mem_append.1 hs with h1 | h1
            · exact HVS.out s h1
            · rw [List.mem_singleton.1 h1]; exact HSV.out
          have HR8 : Hid (Rd w8 ρ (q + 1) bs) := by unfold Hid; rw [hw8]; exact ((HR.out.below (one_al _ _)).belowB hbg (by omega)).other (by omega) _
          have HT8 : Hid (Tch ρ w w8) := by unfold Hid; rw [hw8]; exact ((HT.out.trans (Tch.below (one_al _ _))).belowB hbg (by omega)).other (by omega) _
          clear hw8 hown hgrow hat hbg hb8 o9 f9 o3 ol sl
          go_roundw
          case rel => exact ⟨V.length + 1, (q + 1), _, V ++ [⟨#[]⟩], by go_num, by omega, by simp, BO8.out, BS8.out, BB8.out, BR8.out, OW8.out, VS8.out, HR8.out, by omega, by omega, HT8.out⟩
          case measure => simp [intOf]; omega
        · have hx1' : 0 < x3 := by omega
          have b1 : wp.cell? ⟨σ, 1, none⟩ = some (.slice (some ⟨fg, 0, none⟩) fs.length fc) := BS.out.cell 1
          go_upto_region 11 with fail
          clear b1
          have KP : Hid (∀ W, Tch ρ wp W → W.cell? ⟨σ, 1, none⟩ = some (.slice (some ⟨fg, 0, none⟩) fs.length fc) ∧ W.rangeAt fg (V.length * 11) (fdL fk wvk) ∧ W.rangeAt w.heap.size 0 [.int .i64 a0, .int .i64 a1, .int .i64 a2, ov, g1, g2, g3]) := fun W hW => ⟨(hW.box BS.out (by omega)).cell 1, fun j u hu => by
            have hj : j < 11 := by
              rcases Nat.lt_or_ge j 11 with h | h
              · exact h
              · rw [List.getElem?_eq_none (by show 11 ≤ j; exact h)] at hu; cases hu
            rw [hW.cell (p := ⟨fg, _, none⟩) hfgp (by show fg ≠ ρ; omega)]
            exact (HFD.out j hj).trans hu, box_range (hW.box BB.out (by omega)) rfl⟩
          refine wp_region_held_drew (S := fun W => W.cell? ⟨σ, 1, none⟩ = some (.slice (some ⟨fg, 0, none⟩) fs.length fc) ∧ W.rangeAt fg (V.length * 11) (fdL fk wvk) ∧ W.rangeAt w.heap.size 0 [.int .i64 a0, .int .i64 a1, .int .i64 a2, ov, g1, g2, g3]) (by kernel_rfl) (KP.out _ (Tch.below ((Below.refl _ _).drew))) (fun hHeld => ?_)
          refine wpAnyH_take (i := 0) (v := .pointer (some ⟨ρ, 0, none⟩)) rfl (by kernel_rfl) (by kernel_rfl) (by kernel_rfl) (fun _ _ _ h => h) (Or.inl ⟨by rfl, fun W hW => by obtain ⟨hq1, hq2, hq3⟩ := hW; go_simp⟩) hHeld ?_
          try simp only [Act.put, List.getElem_toArray, List.getElem_cons_zero, List.setIfInBounds_toArray, List.set_cons_zero, List.set_cons_succ]
          refine wpAnyH_take (i := 1) (v := .pointer (some ⟨σ, 1, none⟩)) rfl (by kernel_rfl) (by kernel_rfl) (by kernel_rfl) (fun _ _ _ h => h) (Or.inl ⟨by rfl, fun W hW => by obtain ⟨hq1, hq2, hq3⟩ := hW; go_simp⟩) hHeld ?_
          try simp only [Act.put, List.getElem_toArray, List.getElem_cons_succ, List.getElem_cons_zero, List.setIfInBounds_toArray, List.set_cons_zero, List.set_cons_succ]
          refine wpAnyH_take (i := 2) (v := .slice (some ⟨fg, 0, none⟩) fs.length fc) rfl (by kernel_rfl) (by kernel_rfl) (by kernel_rfl) (fun _ _ _ h => h) (Or.inl ⟨by rfl, fun W hW => by obtain ⟨hq1, hq2, hq3⟩ := hW; go_simp⟩) hHeld ?_
          try simp only [Act.put, List.getElem_toArray, List.getElem_cons_succ, List.getElem_cons_zero, List.setIfInBounds_toArray, List.set_cons_zero, List.set_cons_succ]
          refine wpAnyH_take (i := 3) (v := .int .i64 (V.length : Int)) rfl (by kernel_rfl) (by kernel_rfl) (by kernel_rfl) (fun _ _ _ h => h) (Or.inl ⟨by rfl, fun W hW => by obtain ⟨hq1, hq2, hq3⟩ := hW; go_simp⟩) hHeld ?_
          try simp only [Act.put, List.getElem_toArray, List.getElem_cons_succ, List.getElem_cons_zero, List.setIfInBounds_toArray, List.set_cons_zero, List.set_cons_succ]
          refine wpAnyH_take (i := 4) (v := .pointer (some ⟨fg, V.length * 11, none⟩)) rfl (by kernel_rfl) (by kernel_rfl) (by kernel_rfl) (fun _ _ _ h => h) (Or.inl ⟨by rfl, fun W hW => by obtain ⟨hq1, hq2, hq3⟩ := hW; go_simp⟩) hHeld ?_
          try simp only [Act.put, List.getElem_toArray, List.getElem_cons_succ, List.getElem_cons_zero, List.setIfInBounds_toArray, List.set_cons_zero, List.set_cons_succ]
          refine wpAnyH_take (i := 5) rfl (by kernel_rfl) (by kernel_rfl) (by kernel_rfl) (fun _ _ _ h => h) (yieldsIf_load_mid (by rfl) 56 (.tmp 54) rfl fg (V.length * 11) rfl (fdL fk wvk) _ (fun _ h => h.2.1) Tryz.underlying56 rfl Fd_sizeI) hHeld ?_
          try simp only [Act.put, List.getElem_toArray, List.getElem_cons_succ, List.getElem_cons_zero, List.setIfInBounds_toArray, List.set_cons_zero, List.set_cons_succ]
          refine wpAnyH_take (i := 6) rfl (by kernel_rfl) (by kernel_rfl) (by kernel_rfl) (fun _ _ _ h => h) (yieldsIf_load_mid (by rfl) 89 (.tmp 5) rfl w.heap.size 0 rfl [.int .i64 a0, .int .i64 a1, .int .i64 a2, ov, g1, g2, g3] _ (fun _ h => h.2.2) Tryz.underlying89 rfl Book_size) hHeld ?_
          try simp only [Act.put, List.getElem_toArray, List.getElem_cons_succ, List.getElem_cons_zero, List.setIfInBounds_toArray, List.set_cons_zero, List.set_cons_succ]
          refine wpAnyH_ready (rs := [7]) (by kernel_rfl) (by simp) ?_
          refine AllReadyH.cons rfl (fun KK hK => ?_) AllReadyH.nil
          go_simp
          have htw : Tch ρ w wp.drew := HT.out.trans (Tch.below ((Below.refl _ _).drew))
          refine (l1Fit_any lo ρ (q + 1) bs fk wvk a0 a1 a2 ov g1 g2 g3 Kn _ (HR.out.below ((Below.refl _ _).drew)) (by omega) HFP.out.1 ((HFP.out.2.inn fun k hk => ⟨(HKX.out k hk).1, (HKX.out k hk).2.1⟩).tch htw hl) hl (HO.out.tch htw) hKn HKS.out).mono ?_
          rintro e wz ⟨sv, rfl, hsv, ⟨qz, hqz1, hqz2, hr⟩, ht⟩
          have HSV := hide hsv
          replace ht : Tch ρ wp wz := (Tch.below ((Below.refl _ _).drew)).trans ht
          replace HR := hide hr
          replace BO := hide (ht.box BO.out (by omega))
          replace BS := hide (ht.box BS.out (by omega))
          replace BB := hide (ht.box BB.out (by omega))
          replace BR := hide (ht.box BR.out (by omega))
          replace HT := hide (HT.out.trans ht)
          replace HOW := hide (ownS_tch HOW.out ht (by omega))
          have HTZ := hide ht
          clear hr ht hsv htw
          try go_wp2_with fail
          refine hK.out _ _ (KP.out _ HTZ.out) (fun hHeld => ?_)
          clear hK KK
          try simp only [Act.put, List.getElem_toArray, List.getElem_cons_succ, List.getElem_cons_zero, List.setIfInBounds_toArray, List.set_cons_zero, List.set_cons_succ]
          refine wpAnyH_ready (rs := [8]) (by kernel_rfl) (by simp) ?_
          refine AllReadyH.cons rfl (fun KK hK => ?_) AllReadyH.nil
          go_simp
          refine hK.out _ _ (KP.out _ HTZ.out) (fun hHeld => ?_)
          clear hK KK KP HTZ hHeld
          try simp only [Act.put, List.getElem_toArray, List.getElem_cons_succ, List.getElem_cons_zero, List.setIfInBounds_toArray, List.set_cons_zero, List.set_cons_succ]
          refine wpAnyH_done (by kernel_rfl) ?_ _
          have o3 : wz.cell? ⟨ω, 3, none⟩ = some (.slice wa V.length wc) := BO.out.cell 3
          have ol := BO.out.lt
          have sl := BS.out.lt
          have HOA := hide (HOW.out.below (one_al wz (.cells #[.string sv] 9)))
          go_wp2_with (at_builtin; refine wpList_append_lies _ rfl (.tmp 59) (.tmp 61) 25 rfl (σ + 1) 9 i0 (.string ⟨#[]⟩) 1 16 Tryz.underlying25 HI.out.1 HI.out.2.1 HI.out.2.2.1 HI.out.2.2.2 rfl (by decide) _ _ _ rfl HOA.out.row ⟨wz.heap.size, 0, none⟩ 1 1 [.string sv] rfl rfl (cell_new1 _ _ _ _ rfl) (one_oneCell _) (by decide) (by unfold maxLen; omega) (by omega) (by simp; omega) _ rfl ?_; intro g cap1 w9 hown hgrow hat hltg; have hbg := HOA.out.grown hgrow (by simp; omega); have o9 := ((BO.out.on (one_al _ _)).below hbg (by omega)).cell 3; have f9 := ((BO.out.on (one_al _ _)).below hbg (by omega)).free)
          obtain ⟨w8, hw8⟩ : ∃ vv, vv = w9.setCell ⟨ω, 3, none⟩ (.slice (some ⟨g, 0, none⟩) (V.length + 1) cap1) := ⟨_, rfl⟩
          rw [← hw8]
          have hb8 := hbg
          have BO8 : Hid (Box w8 ω #[.string kd, .string s1, .string s2, .slice (some ⟨g, 0, none⟩) (V.length + 1) cap1, .bool false, .slice none 0 0, .int .i64 0]) := by unfold Hid; rw [hw8]; exact put_cell ((BO.out.on (one_al _ _)).below hbg (by omega)) 3 (by simp) _
          have BS8 : Hid (Box w8 σ #[.string kd, .slice (some ⟨fg, 0, none⟩) fs.length fc]) := by unfold Hid; rw [hw8]; exact box_other ((BS.out.on (one_al _ _)).below hbg (by omega)) (by show σ ≠ ω; omega) _
          have BB8 : Hid (Box w8 w.heap.size #[.int .i64 a0, .int .i64 a1, .int .i64 a2, ov, g1, g2, g3]) := by unfold Hid; rw [hw8]; exact box_other ((BB.out.on (one_al _ _)).below hbg (by omega)) (by show w.heap.size ≠ ω; omega) _
          have BR8 : Hid (Box w8 (w.heap.size + 1) #[.string ⟨#[]⟩, .string ⟨#[]⟩, .string ⟨#[]⟩, .slice none 0 0, .bool false, .slice none 0 0, .int .i64 0]) := by unfold Hid; rw [hw8]; exact box_other ((BR.out.on (one_al _ _)).below hbg (by omega)) (by show w.heap.size + 1 ≠ ω; omega) _
          have OW8 : Hid (OwnS (σ + 1) w8 (.slice (some ⟨g, 0, none⟩) (V.length + 1) cap1) (V ++ [sv])) := by unfold Hid; rw [hw8]; exact ownS_set (HOW.out.snoc hown (by have := HSV.out; unfold maxLen; omega)) (by show ω < σ + 1; omega) _
          have VS8 : Hid (∀ s ∈ V ++ [sv], s.size ≤ 1100000) := fun s hs => by
            rcases List.mem_append.1 hs with h1 | h1
            · exact HVS.out s h1
            · rw [List.mem_singleton.1 h1]; exact HSV.out
          have HR8 : Hid (Rd w8 ρ qz bs) := by unfold Hid; rw [hw8]; exact ((HR.out.below (one_al _ _)).belowB hbg (by omega)).other (by omega) _
          have HT8 : Hid (Tch ρ w w8) := by unfold Hid; rw [hw8]; exact ((HT.out.trans (Tch.below (one_al _ _))).belowB hbg (by omega)).other (by omega) _
          clear hw8 hown hgrow hat hbg hb8 o9 f9 o3 ol sl
          go_roundw
          case rel => exact ⟨V.length + 1, qz, _, V ++ [sv], by go_num, by omega, by simp, BO8.out, BS8.out, BB8.out, BR8.out, OW8.out, VS8.out, HR8.out, by omega, by omega, HT8.out⟩
          case measure => simp [intOf]; omega
    · have hkl' : ¬ ((V.length : Int) < (fs.length : Int)) := by omega
      go_wp2_with fail
      refine (pick_any ρ q bs 3 wr HR.out (by omega) (by decide) (by decide)).mono ?_
      rintro e wp ⟨x3, rfl, hx30, hx31, hr, ht⟩
      have hzp := ht.size
      replace HR := hide hr
      replace BO := hide (ht.box BO.out (by omega))
      replace BR := hide (ht.box BR.out (by omega))
      replace HT := hide (HT.out.trans ht)
      replace HOW := hide (ownS_tch HOW.out ht (by omega))
      have hσp : σ < wp.heap.size := by omega
      clear hr ht b1 BS BB
      by_cases hx0' : x3 = 0
      · subst hx0'
        go_wp2_with fail
        have SV := hide (four wp #[.string ⟨#[104]⟩] #[.string ⟨#[103]⟩, .string ⟨#[104]⟩] #[.string ⟨#[97]⟩, .string ⟨#[98]⟩, .string ⟨#[99]⟩] #[.slice (some ⟨wp.heap.size , 0, none⟩) 1 1, .slice (some ⟨wp.heap.size + 1, 0, none⟩) 2 2, .slice (some ⟨wp.heap.size + 1 + 1, 0, none⟩) 3 3] 9 25)
        generalize hW7 : World.alloc _ _ = W7 at *
        have hvb : ∀ k, (Value.slice wa V.length wc).ownBlock = some k → k < wp.heap.size := fun k hk => (owns_lt HOW.out.row hk).1
        have HVB := hide hvb
        replace HR := hide (HR.out.below SV.out.al)
        replace HT := hide (HT.out.trans (Tch.below SV.out.al))
        replace HOW := hide (HOW.out.below SV.out.al)
        replace BO := hide (BO.out.on SV.out.al)
        replace BR := hide (BR.out.on SV.out.al)
        have hωp : ω < wp.heap.size := by omega
        clear hW7 hvb
        refine (pick_any ρ _ bs 3 W7 HR.out (by omega) (by decide) (by decide)).mono ?_
        rintro e wq ⟨x5, rfl, hx50, hx51, hr, ht⟩
        have ht5 := ht
        replace HR := hide hr
        replace HT := hide (HT.out.trans ht)
        replace HOW := hide (ownS_tch HOW.out ht (by omega))
        replace BO := hide (ht.box BO.out (by omega))
        replace BR := hide (ht.box BR.out (by omega))
        clear hr ht
        obtain ⟨n5, rfl⟩ := Int.eq_ofNat_of_zero_le hx50
        obtain ⟨sa, sn, sc, L5, hy, hL5, hL6, hL7, hL8⟩ : ∃ (sa : Option Addr) (sn sc : Nat) (L5 : List ByteArray), wq.cell? ⟨wp.heap.size + 1 + 1 + 1, n5, none⟩ = some (.slice sa sn sc) ∧ StrsIn (σ + 1) wq (.slice sa sn sc) L5 ∧ L5.length ≤ 10 ∧ (∀ s ∈ L5, s.size ≤ 1000) ∧ ∀ k, (Value.slice sa sn sc).ownBlock = some k → wp.heap.size ≤ k := by
          have b3 := ht5.box SV.out.b3 (by omega)
          have h3 : n5 = 0 ∨ n5 = 1 ∨ n5 = 2 := by omega
          rcases h3 with rfl | rfl | rfl
          · exact ⟨_, _, _, [⟨#[104]⟩], b3.cell 0, box_strs [⟨#[104]⟩] 1 (ht5.box SV.out.b0 (by omega)) rfl (by omega) rfl (by omega) (by decide), by decide, by decide, fun k hk => by
              have e : wp.heap.size  = k := by simpa [Value.ownBlock] using hk
              omega⟩
          · exact ⟨_, _, _, [⟨#[103]⟩, ⟨#[104]⟩], b3.cell 1, box_strs [⟨#[103]⟩, ⟨#[104]⟩] 2 (ht5.box SV.out.b1 (by omega)) rfl (by omega) rfl (by omega) (by decide), by decide, by decide, fun k hk => by
              have e : wp.heap.size + 1 = k := by simpa [Value.ownBlock] using hk
              omega⟩
          · exact ⟨_, _, _, [⟨#[97]⟩, ⟨#[98]⟩, ⟨#[99]⟩], b3.cell 2, box_strs [⟨#[97]⟩, ⟨#[98]⟩, ⟨#[99]⟩] 3 (ht5.box SV.out.b2 (by omega)) rfl (by omega) rfl (by omega) (by decide), by decide, by decide, fun k hk => by
              have e : wp.heap.size + 1 + 1 = k := by simpa [Value.ownBlock] using hk
              omega⟩
        have hn5 : (n5 : Int) < 3 := hx51
        have HL5 := hide hL5
        have HL7 := hide hL7
        have HL8 := hide hL8
        have o5 := BO.out.cell 5
        have of5 := BO.out.free
        have ol5 := BO.out.lt
        clear ht5 hL5 hL7 hL8 SV
        go_upto_region 15 with fail
        clear hy o5 of5 ol5
        generalize hW : World.setCell wq ⟨ω, 5, none⟩ _ = wy
        replace BO : Hid (Box wy ω #[.string kd, .string s1, .string s2, .slice wa V.length wc, .bool false, .slice sa sn sc, .int .i64 0]) := by unfold Hid; rw [← hW]; exact put_cell BO.out 5 (by simp) _
        replace BR : Hid (Box wy (w.heap.size + 1) #[.string ⟨#[]⟩, .string ⟨#[]⟩, .string ⟨#[]⟩, .slice none 0 0, .bool false, .slice none 0 0, .int .i64 0]) := by unfold Hid; rw [← hW]; exact box_other BR.out (by show w.heap.size + 1 ≠ ω; omega) _
        replace HOW : Hid (OwnS (σ + 1) wy (.slice wa V.length wc) V) := by unfold Hid; rw [← hW]; exact ownS_set HOW.out (by show ω < σ + 1; omega) _
        replace HL5 : Hid (StrsIn (σ + 1) wy (.slice sa sn sc) L5) := by unfold Hid; rw [← hW]; exact HL5.out.setCell (by show ω < σ + 1; omega) _
        replace HR : Hid (Rd wy ρ (q + 1 + 1) bs) := by unfold Hid; rw [← hW]; exact HR.out.other (by omega) _
        replace HT : Hid (Tch ρ w wy) := by unfold Hid; rw [← hW]; exact HT.out.other (by omega) _
        clear hW
        have c : ∀ i, wy.cell? ⟨ω, i, none⟩ = #[.string kd, .string s1, .string s2, .slice wa V.length wc, .bool false, .slice sa sn sc, .int .i64 0][i]? := BO.out.cell
        have cl := BO.out.lt
        have r : ∀ i, wy.cell? ⟨w.heap.size + 1, i, none⟩ = #[.string ⟨#[]⟩, .string ⟨#[]⟩, .string ⟨#[]⟩, .slice none 0 0, .bool false, .slice none 0 0, .int .i64 0][i]? := BR.out.cell
        have rf := BR.out.free
        have rl := BR.out.lt
        go_wp2
        refine bodyPost_ret (v := .agg #[.string kd, .string s1, .string s2, .slice wa V.length wc, .bool false, .slice sa sn sc, .int .i64 0]) (by simp [results, Tryz.results52, go_sem, r]) rfl ⟨kd, s1, s2, .slice wa V.length wc, .slice sa sn sc, V, L5, rfl, ⟨HKD.out, HS1.out, HS2.out⟩, ?_, by omega, HVS.out, ?_, hL6, HL7.out, (fun k hk e => by have h1 := HVB.out k hk; have h2 := HL8.out k e; omega), ⟨q + 1 + 1, by omega, by omega, ?_⟩, ?_⟩
        · refine OwnS.mono (base := σ + 1) ?_ (by omega)
          repeat (refine ownS_set ?_ (by show w.heap.size + 1 < σ + 1; omega) _)
          exact HOW.out
        · refine StrsIn.mono (lo := σ + 1) ?_ (by omega)
          repeat (refine StrsIn.setCell ?_ (by show w.heap.size + 1 < σ + 1; omega) _)
          exact HL5.out
        · repeat (refine Rd.other ?_ (by omega) _)
          exact HR.out
        · repeat (refine Tch.other ?_ (by omega) _)
          exact HT.out
      · have hx1' : (x3 == 0) = false := by simpa using hx0'
        go_upto_region 15 with fail
        have c : ∀ i, wp.cell? ⟨ω, i, none⟩ = #[.string kd, .string s1, .string s2, .slice wa V.length wc, .bool false, .slice none 0 0, .int .i64 0][i]? := BO.out.cell
        have cl := BO.out.lt
        have r : ∀ i, wp.cell? ⟨w.heap.size + 1, i, none⟩ = #[.string ⟨#[]⟩, .string ⟨#[]⟩, .string ⟨#[]⟩, .slice none 0 0, .bool false, .slice none 0 0, .int .i64 0][i]? := BR.out.cell
        have rf := BR.out.free
        have rl := BR.out.lt
        go_wp2
        refine bodyPost_ret (v := .agg #[.string kd, .string s1, .string s2, .slice wa V.length wc, .bool false, .slice none 0 0, .int .i64 0]) (by simp [results, Tryz.results52, go_sem, r]) rfl ⟨kd, s1, s2, .slice wa V.length wc, .slice none 0 0, V, [], rfl, ⟨HKD.out, HS1.out, HS2.out⟩, ?_, by omega, HVS.out, ?_, by decide, (fun s hs => by cases hs), (fun k hk e => by cases e), ⟨q + 1, by omega, by omega, ?_⟩, ?_⟩
        · refine OwnS.mono (base := σ + 1) ?_ (by omega)
          repeat (refine ownS_set ?_ (by show w.heap.size + 1 < σ + 1; omega) _)
          exact HOW.out
        · exact StrsIn.nil _ _
        · repeat (refine Rd.other ?_ (by omega) _)
          exact HR.out
        · repeat (refine Tch.other ?_ (by omega) _)
          exact HT.out
end Go.Proofs.YtjkkbkdpoebfaaaGreat
