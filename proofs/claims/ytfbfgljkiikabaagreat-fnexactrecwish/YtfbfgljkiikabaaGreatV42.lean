import Derived.Test.YtfbfgljkiikabaaGreatV41
namespace Go.Proofs.YtfbfgljkiikabaaGreat
open Go.RowKit Go.Deep

theorem txA_get {L : List ByteArray} {i : Nat} (h : i < L.length) : txA L i = L[i] := by unfold txA; simp [List.getD, List.getElem?_eq_getElem h]
theorem hasT_is (L : List ByteArray) (x : ByteArray) : hasT L L.length x = L.any (fun s => s.toList == x.toList) := by
  unfold hasT
  cases h : L.any (fun s => s.toList == x.toList) with
  | true =>
    rw [List.any_eq_true] at h
    obtain ⟨s, hs, he⟩ := h
    obtain ⟨i, hi, rfl⟩ := List.mem_iff_getElem.1 hs
    rw [range_not hi (by rw [txA_get hi, he]; rfl)]
    rfl
  | false =>
    rw [List.any_eq_false] at h
    rw [range_all (fun i hi => by rw [txA_get hi]; have := h L[i] (List.getElem_mem hi); simpa using this)]
    rfl
def wishBI (U : Rr) (tx : ByteArray) : Bool := inB 1 160 (tx.size : Int) && (decide ((U.wi.length : Int) < 20) && (!(U.wi.any (fun s => s.toList == tx.toList)) && !txSl (U.dk.sl.take U.dk.kn.toNat) tx))
def wishI (U : Rr) (tx : ByteArray) : Rr := if wishBI U tx then { U with wi := U.wi ++ [tx] } else U
/-- two boxes' cells -/
def H2 (β γ i : Nat) (v u : Value) (W : World) : Prop := W.cell? ⟨β, 0, none⟩ = some v ∧ W.cell? ⟨γ, i, none⟩ = some u
set_option maxRecDepth 20000 in
set_option maxHeartbeats 16000000 in
theorem wishW_any (K : Nat → Prop) (lo : Nat) (w : World) (γ : Nat) (U : Rr) (fn : Value) (tx : ByteArray) (hW : Wr K lo w γ U) (hz : RrZ U) (hkn : 0 ≤ U.dk.kn ∧ U.dk.kn ≤ (U.dk.sl.length : Int)) (_htx : tx.size ≤ maxLen) (hn : U.wi.length ≤ 1000000) (_hf1 : fn.oneCell' = true) :
    Calls Tryz.prog 62 #[.agg #[.pointer (some ⟨γ, 0, none⟩), fn], .string tx] w fun e w' => e = .returned (.tuple #[]) ∧ Kept K w w' ∧ Wr K lo w' γ (wishI U tx) := by
  obtain ⟨b, m, c, hR⟩ := hW
  have HK : Hid (∀ k, K k → k < w.heap.size) := fun k hk => (hR.prot k hk).1
  have hγ := hR.box.lt
  obtain ⟨W0, hW0⟩ : ∃ W0, W0 = w.alloc (.cells #[.pointer (some ⟨γ, 0, none⟩), fn] 87) := ⟨_, rfl⟩
  have hb0 : Below w.heap.size w W0 := by rw [hW0]; exact one_al _ _
  have BX : Hid (Box W0 w.heap.size #[.pointer (some ⟨γ, 0, none⟩), fn]) := by unfold Hid; rw [hW0]; exact Box.new _ _ _ _ rfl
  have HSG : Hid ((c 3).2 ≤ w.heap.size) := (hR.cp.seg 3 (by decide)).2
  have HR := hide (hR.on hb0)
  have HB0 := hide hb0
  have HZ := hide hz
  clear hb0 hR hz
  have x0 : W0.cell? ⟨w.heap.size, 0, none⟩ = some (.pointer (some ⟨γ, 0, none⟩)) := BX.out.cell 0
  have x6 : W0.cell? ⟨γ, 6, none⟩ = some (.int .i64 U.dk.pr) := HR.out.box.cell 6
  have x7 : W0.cell? ⟨γ, 7, none⟩ = some (.int .i64 U.dk.kn) := HR.out.box.cell 7
  have x8 : W0.cell? ⟨γ, 8, none⟩ = some (.slice (b 1) U.dk.sl.length (m 1)) := HR.out.box.cell 8
  have x10 : W0.cell? ⟨γ, 10, none⟩ = some (.slice (b 3) U.wi.length (m 3)) := HR.out.box.cell 10
  have HE : Hid (wishBI U tx = (inB 1 160 (tx.size : Int) && (decide ((U.wi.length : Int) < 20) && (!(U.wi.any (fun s => s.toList == tx.toList)) && !txSl (U.dk.sl.take U.dk.kn.toNat) tx)))) := rfl
  have HNO : Hid (wishBI U tx = false → Kept K w W0 ∧ Wr K lo W0 γ (wishI U tx)) := fun h => ⟨Kept.below HB0.out HK.out, b, m, c, by unfold wishI; rw [h]; exact HR.out⟩
  have HAW : Hid (RtsAt lo W0 (.slice (b 3) U.wi.length (m 3)) U.wi) := (HR.out.cp.o3.rts HZ.out.z3).at.mono (HR.out.cp.seg 3 (by decide)).1
  have HAS : Hid (RssAt lo W0 (.slice (b 1) U.dk.sl.length (m 1)) U.dk.sl) := (HR.out.cp.o1.rss HZ.out.z1).at.mono (HR.out.cp.seg 1 (by decide)).1
  have HCT : Hid (∀ j, j < U.wi.length → ∃ b' off, b 3 = some ⟨b', off, none⟩ ∧ W0.cell? ⟨b', off + j, none⟩ = some (.string (txA U.wi j))) := fun j hj => by
    obtain ⟨b', off, e, -, -, hc⟩ := HAW.out.full' (by omega)
    exact ⟨b', off, e, by rw [txA_get hj]; exact (hc j hj).2⟩
  go_enter Tryz.func62, Tryz.ntmps62
  cases q1 : inB 1 160 (tx.size : Int) with
  | false =>
    have HF : Hid (wishBI U tx = false) := by unfold Hid; rw [HE.out, q1]; rfl
    go_wp2_with (first | (go_at_call 94; refine (within_any _ _ _ _).mono ?_; rw [q1]; rintro e w' ⟨rfl, rfl⟩))
    rw [← hW0]
    go_end0
    exact ⟨rfl, HNO.out HF.out⟩
  | true =>
  by_cases h2 : (U.wi.length : Int) < 20
  case neg =>
    have d2 : decide ((U.wi.length : Int) < 20) = false := decide_eq_false h2
    have HF : Hid (wishBI U tx = false) := by unfold Hid; rw [HE.out, q1, d2]; rfl
    rw [hW0] at x0 x10
    go_wp2_with (first | (go_at_call 94; refine (within_any _ _ _ _).mono ?_; rw [q1]; rintro e w' ⟨rfl, rfl⟩))
    rw [← hW0]
    go_end0
    exact ⟨rfl, HNO.out HF.out⟩
  have d2 : decide ((U.wi.length : Int) < 20) = true := decide_eq_true h2
  cases q3 : U.wi.any (fun s => s.toList == tx.toList) with
  | true =>
    have HF : Hid (wishBI U tx = false) := by unfold Hid; rw [HE.out, q1, d2, q3]; rfl
    have q3' : hasT U.wi U.wi.length tx = true := by rw [hasT_is, q3]
    rw [hW0] at x0 x10 HCT
    go_wp2_with (first | (go_at_call 94; refine (within_any _ _ _ _).mono ?_; rw [q1]; rintro e w' ⟨rfl, rfl⟩) | (go_at_call 111; refine (containsT_any _ _ _ U.wi tx _ hn HCT.out).mono ?_; rw [q3']; rintro e w' ⟨rfl, rfl⟩))
    rw [← hW0]
    go_end0
    exact ⟨rfl, HNO.out HF.out⟩
  | false =>
  have q3' : hasT U.wi U.wi.length tx = false := by rw [hasT_is, q3]
  have HSZ : Hid (W0.heap.size = w.heap.size + 1) := by unfold Hid; rw [hW0]; simp
  rw [hW0] at x0 x6 x7 x8 x10 HCT HAS
  go_wp2_with (first | (go_at_call 94; refine (within_any _ _ _ _).mono ?_; rw [q1]; rintro e w' ⟨rfl, rfl⟩) | (go_at_call 111; refine (containsT_any _ _ _ U.wi tx _ hn HCT.out).mono ?_; rw [q3']; rintro e w' ⟨rfl, rfl⟩) | (go_at_call 112; refine (knows_any lo U.dk (b 1) (m 1) tx _ HAS.out hkn.1 hkn.2).mono ?_; rintro e w1 ⟨rfl, hb1⟩; have HB1 := hide hb1; clear hb1; refine Hid.out ?_))
  rw [← hW0] at HB1
  clear hW0 x0 x6 x7 x8 x10 HCT HAS HNO
  replace BX := hide (BX.out.on HB1.out)
  replace HR := hide (HR.out.on HB1.out)
  replace HB0 := hide (bt HB0.out HB1.out)
  have hsz1 : w.heap.size + 1 ≤ w1.heap.size := by have := HB1.out.size; have := HSZ.out; omega
  refine hide ?_
  cases q4 : txSl (U.dk.sl.take U.dk.kn.toNat) tx with
  | true =>
    have HF : Hid (wishBI U tx = false) := by unfold Hid; rw [HE.out, q1, d2, q3, q4]; rfl
    go_wp2
    go_end0
    exact ⟨rfl, Kept.below HB0.out HK.out, b, m, c, by unfold wishI; rw [HF.out]; exact HR.out⟩
  | false =>
  have HF : Hid (wishBI U tx = true) := by unfold Hid; rw [HE.out, q1, d2, q3, q4]; rfl
  go_wp2_with fail
  clear q1 d2 q3 q3' q4
  have x0 : w1.cell? ⟨w.heap.size, 0, none⟩ = some (.pointer (some ⟨γ, 0, none⟩)) := BX.out.cell 0
  have x10 : w1.cell? ⟨γ, 10, none⟩ = some (.slice (b 3) U.wi.length (m 3)) := HR.out.box.cell 10
  have HS3 : Hid ((c 3).2 ≤ w.heap.size) := HSG.out
  refine Code.wp_mono NoPanic.imp ?_
  refine wp_region_B (S := H2 w.heap.size γ 10 (.pointer (some ⟨γ, 0, none⟩)) (.slice (b 3) U.wi.length (m 3))) [10, 11, 12] (by kernel_rfl) ⟨x0, x10⟩ (fun hHeld => ?_)
  refine wpAnyB_take [1, 10, 11, 12] (i := 0) (v := .pointer (some ⟨w.heap.size, 0, none⟩)) rfl (by kernel_rfl) (by kernel_rfl) (by kernel_rfl) (by kernel_rfl) (fun _ _ _ h => h) (Or.inl ⟨by rfl, fun W hW => by obtain ⟨h1, h2⟩ := hW; go_simp⟩) hHeld ?_
  try simp only [Act.put, List.getElem_toArray, List.getElem_cons_zero, List.setIfInBounds_toArray, List.set_cons_zero, List.set_cons_succ]
  refine wpAnyB_take [10, 11, 12] (i := 1) (v := .pointer (some ⟨γ, 0, none⟩)) rfl (by kernel_rfl) (by kernel_rfl) (by kernel_rfl) (by kernel_rfl) (fun _ _ _ h => h) (Or.inl ⟨by rfl, fun W hW => by obtain ⟨h1, h2⟩ := hW; go_simp⟩) hHeld ?_
  try simp only [Act.put, List.getElem_toArray, List.getElem_cons_succ, List.getElem_cons_zero, List.setIfInBounds_toArray, List.set_cons_zero, List.set_cons_succ]
  refine wpAnyB_take [3, 4, 5, 6, 9, 10, 11, 12] (i := 2) (v := .pointer (some ⟨w.heap.size, 0, none⟩)) rfl (by kernel_rfl) (by kernel_rfl) (by kernel_rfl) (by kernel_rfl) (fun _ _ _ h => h) (Or.inl ⟨by rfl, fun W hW => by obtain ⟨h1, h2⟩ := hW; go_simp⟩) hHeld ?_
  try simp only [Act.put, List.getElem_toArray, List.getElem_cons_succ, List.getElem_cons_zero, List.setIfInBounds_toArray, List.set_cons_zero, List.set_cons_succ]
  refine wpAnyB_take [4, 5, 6, 9, 10, 11, 12] (i := 3) (v := .pointer (some ⟨γ, 0, none⟩)) rfl (by kernel_rfl) (by kernel_rfl) (by kernel_rfl) (by kernel_rfl) (fun _ _ _ h => h) (Or.inl ⟨by rfl, fun W hW => by obtain ⟨h1, h2⟩ := hW; go_simp⟩) hHeld ?_
  try simp only [Act.put, List.getElem_toArray, List.getElem_cons_succ, List.getElem_cons_zero, List.setIfInBounds_toArray, List.set_cons_zero, List.set_cons_succ]
  refine wpAnyB_take [5, 6, 9, 10, 11, 12] (i := 4) (v := .pointer (some ⟨γ, 0, none⟩)) rfl (by kernel_rfl) (by kernel_rfl) (by kernel_rfl) (by kernel_rfl) (fun _ _ _ h => h) (Or.inl ⟨by rfl, fun W hW => by obtain ⟨h1, h2⟩ := hW; go_simp⟩) hHeld ?_
  try simp only [Act.put, List.getElem_toArray, List.getElem_cons_succ, List.getElem_cons_zero, List.setIfInBounds_toArray, List.set_cons_zero, List.set_cons_succ]
  refine wpAnyB_take [6, 9, 10, 11, 12] (i := 5) (v := .pointer (some ⟨γ, 10, none⟩)) rfl (by kernel_rfl) (by kernel_rfl) (by kernel_rfl) (by kernel_rfl) (fun _ _ _ h => h) (Or.inl ⟨by rfl, fun W hW => by obtain ⟨h1, h2⟩ := hW; go_simp⟩) hHeld ?_
  try simp only [Act.put, List.getElem_toArray, List.getElem_cons_succ, List.getElem_cons_zero, List.setIfInBounds_toArray, List.set_cons_zero, List.set_cons_succ]
  refine wpAnyB_take [9, 10, 11, 12] (i := 6) (v := .slice (b 3) U.wi.length (m 3)) rfl (by kernel_rfl) (by kernel_rfl) (by kernel_rfl) (by kernel_rfl) (fun _ _ _ h => h) (Or.inl ⟨by rfl, fun W hW => by obtain ⟨h1, h2⟩ := hW; go_simp⟩) hHeld ?_
  try simp only [Act.put, List.getElem_toArray, List.getElem_cons_succ, List.getElem_cons_zero, List.setIfInBounds_toArray, List.set_cons_zero, List.set_cons_succ]
  refine wpAnyB_take [8, 9, 10, 11, 12] (i := 7) (v := .string tx) rfl (by kernel_rfl) (by kernel_rfl) (by kernel_rfl) (by kernel_rfl) (fun _ _ _ h => h) (Or.inl ⟨by rfl, fun W hW => by obtain ⟨h1, h2⟩ := hW; go_simp⟩) hHeld ?_
  try simp only [Act.put, List.getElem_toArray, List.getElem_cons_succ, List.getElem_cons_zero, List.setIfInBounds_toArray, List.set_cons_zero, List.set_cons_succ]
  refine wpAnyB_one (i := 8) (by kernel_rfl) rfl (fun K hK => ?_)
  go_simp
  obtain ⟨y1, hy1⟩ : ∃ y1, y1 = (w1.alloc (.cells #[.string tx] 9)).drew := ⟨_, rfl⟩
  have hby : Below w1.heap.size w1 y1 := by rw [hy1]; exact (one_al w1 _).drew
  have SY : Hid (Box y1 w1.heap.size #[.string tx]) := by unfold Hid; rw [hy1]; exact (Box.new w1 _ _ _ rfl).drew
  rw [← hy1]
  clear hy1
  have hy : w1.heap.size + 1 ≤ y1.heap.size := by have := SY.out.lt; omega
  replace BX := hide (BX.out.on hby)
  replace HR := hide (HR.out.on hby)
  replace HB0 := hide (bt HB0.out hby)
  clear hby x0 x10
  have x0 : y1.cell? ⟨w.heap.size, 0, none⟩ = some (.pointer (some ⟨γ, 0, none⟩)) := BX.out.cell 0
  have x10 : y1.cell? ⟨γ, 10, none⟩ = some (.slice (b 3) U.wi.length (m 3)) := HR.out.box.cell 10
  refine hK.out _ _ (fun _ => ⟨x0, x10⟩) (fun hHx => ?_)
  clear hHeld
  have hHeld := hHx (by decide)
  clear hK K hHx
  try simp only [Act.put, List.getElem_toArray, List.getElem_cons_succ, List.getElem_cons_zero, List.setIfInBounds_toArray, List.set_cons_zero, List.set_cons_succ]
  refine wpAnyB_one (i := 9) (by kernel_rfl) rfl (fun K hK => ?_)
  obtain ⟨u3, y2, hrun, ht, hrow⟩ := run_nr tyL_len (by decide) Tryz.underlying26 infoTx rfl (w := y1) (L := U.wi) (M := [tx]) 26 HR.out.cp.o3 (some ⟨w1.heap.size, 0, none⟩) 1 1 rfl (fun e => by cases e) (fun ad e j u hu => by
      injection e with e
      subst e
      rw [Addr.add_lit, Nat.zero_add, SY.out.cell j]
      simpa [flatV, tyL] using hu) (tyL_one _) (by simp; omega) (by decide)
  refine step_append_run rfl (.tmp 42) (.tmp 44) 26 rfl rfl rfl hrun ?_
  have HT := hide ht
  have hp : ∃ p : Nat × Nat, (p = c 3 ∨ (y1.heap.size ≤ p.1 ∧ p.2 ≤ y2.heap.size)) ∧ NRow tyL 1 y2 p.1 p.2 u3 (U.wi ++ [tx]) := by
    rcases hrow with h | h
    · exact ⟨c 3, Or.inl rfl, h⟩
    · exact ⟨(y1.heap.size, y2.heap.size), Or.inr ⟨Nat.le_refl _, Nat.le_refl _⟩, h⟩
  obtain ⟨p, hp, hrow'⟩ := hp
  obtain ⟨b', m', rfl⟩ := hrow'.form
  have HP := hide hp
  have HRW := hide hrow'
  clear hrun ht hrow hp hrow'
  have fγ := HR.out.far 3 (by decide)
  have x0n : y2.cell? ⟨w.heap.size, 0, none⟩ = some (.pointer (some ⟨γ, 0, none⟩)) := ((BX.out.tch2 HT.out (Or.inr HS3.out)).cell 0)
  have BG := hide (HR.out.box.tch2 HT.out fγ)
  have x10n : y2.cell? ⟨γ, 10, none⟩ = some (.slice (b 3) U.wi.length (m 3)) := BG.out.cell 10
  refine hK.out _ _ (fun _ => ⟨x0n, x10n⟩) (fun hHx => ?_)
  clear hHeld x0 x10 x0n
  have gf := BG.out.free
  clear hK K hHx
  try simp only [Act.put, List.getElem_toArray, List.getElem_cons_succ, List.getElem_cons_zero, List.setIfInBounds_toArray, List.set_cons_zero, List.set_cons_succ]
  refine wpAnyB_one (i := 10) (by kernel_rfl) rfl (fun K hK => ?_)
  go_simp
  refine hK.out _ _ (fun h => absurd (by decide) h) (fun _ => ?_)
  clear hK K
  try simp only [Act.put, List.getElem_toArray, List.getElem_cons_succ, List.getElem_cons_zero, List.setIfInBounds_toArray, List.set_cons_zero, List.set_cons_succ]
  refine wpAnyB_one (i := 11) (by kernel_rfl) rfl (fun K hK => ?_)
  go_simp
  refine hK.out _ _ (fun h => absurd (by decide) h) (fun _ => ?_)
  clear hK K
  try simp only [Act.put, List.getElem_toArray, List.getElem_cons_succ, List.getElem_cons_zero, List.setIfInBounds_toArray, List.set_cons_zero, List.set_cons_succ]
  refine wpAnyB_one (i := 12) (by kernel_rfl) rfl (fun K hK => ?_)
  go_simp
  refine hK.out _ _ (fun h => absurd (by decide) h) (fun _ => ?_)
  clear hK K
  try simp only [Act.put, List.getElem_toArray, List.getElem_cons_succ, List.getElem_cons_zero, List.setIfInBounds_toArray, List.set_cons_zero, List.set_cons_succ]
  refine wpAnyB_done (by kernel_rfl) ?_ _
  refine NoPanic.normal ?_
  clear gf x10n
  have hfin := HR.out.part3 (L' := U.wi ++ [tx]) HT.out HP.out HRW.out
  simp only [List.length_append, List.length_cons, List.length_nil, Nat.zero_add] at hfin
  have HFN := hide hfin
  clear hfin
  generalize World.setCell _ _ _ = Wf at *
  go_wp2
  go_end0
  exact ⟨rfl, (Kept.below HB0.out HK.out).trans HFN.out.2, _, _, _, by unfold wishI; rw [HF.out]; exact HFN.out.1⟩
end Go.Proofs.YtfbfgljkiikabaaGreat
