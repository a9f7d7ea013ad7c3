import Derived.Test.YtjkkbkdpoebfaaaGreatV29
import Derived.Laws.OwnMore
namespace Go.Proofs.YtjkkbkdpoebfaaaGreat
open Go.RowKit Go.Deep

theorem strsAt_kept {W W' : World} {v : Value} {L : List ByteArray} (h : StrsAt W v L) (hs : W.heap.size ≤ W'.heap.size) (hk : L = [] ∨ ∀ k, v.ownBlock = some k → W'.heap[k]? = W.heap[k]?) : StrsAt W' v L := by
  rcases h with h | ⟨b, off, cap, h1, h2, h3, h4, h5, h6⟩
  · exact Or.inl h
  · rcases hk with hk | hk
    · exact absurd hk h2
    · exact Or.inr ⟨b, off, cap, h1, h2, h3, Nat.lt_of_lt_of_le h4 hs, fun i hi => (World.cell?_of_block (hk b (by rw [h1]; rfl))).trans (h5 i hi), h6⟩
/-- texts in memory, neither in the block ω nor at or below β -/
structure Tx (β ω : Nat) (W : World) (v : Value) (L : List ByteArray) : Prop where
  at' : StrsAt W v L
  ne : L = [] ∨ ∀ k, v.ownBlock = some k → k ≠ ω ∧ k < W.heap.size ∧ β < k
theorem Tx.tch {β ω ρ : Nat} {W W' : World} {v : Value} {L : List ByteArray} (h : Tx β ω W v L) (ht : Tch ρ W W') (hn : ρ ≤ β) : Tx β ω W' v L :=
  ⟨strsAt_kept h.at' ht.size (h.ne.imp id fun g k hk => ht.block k (g k hk).2.1 (by have := (g k hk).2.2; omega)), h.ne.imp id fun g k hk => ⟨(g k hk).1, Nat.lt_of_lt_of_le (g k hk).2.1 ht.size, (g k hk).2.2⟩⟩
theorem Tx.set {β ω : Nat} {W : World} {v : Value} {L : List ByteArray} (h : Tx β ω W v L) (i : Nat) (u : Value) : Tx β ω (W.setCell ⟨ω, i, none⟩ u) v L :=
  ⟨strsAt_kept h.at' (by simp [World.setCell]) (h.ne.imp id fun g k hk => Below.heap_setCell W _ u k (g k hk).1), h.ne.imp id fun g k hk => ⟨(g k hk).1, by simpa [World.setCell] using (g k hk).2.1, (g k hk).2.2⟩⟩
theorem Tx.out {β ω : Nat} {W : World} {v : Value} {L : List ByteArray} (h : Tx β ω W v L) (i : Nat) (u : Value) : Tx β ω (W.setCell ⟨β, i, none⟩ u) v L :=
  ⟨strsAt_kept h.at' (by simp [World.setCell]) (h.ne.imp id fun g k hk => Below.heap_setCell W _ u k (by have := (g k hk).2.2; show k ≠ β; omega)), h.ne.imp id fun g k hk => ⟨(g k hk).1, by simpa [World.setCell] using (g k hk).2.1, (g k hk).2.2⟩⟩
theorem box_blk {W W' : World} {β : Nat} {cs : Array Value} (h : Box W β cs) (e : W'.heap[β]? = W.heap[β]?) (hs : W.heap.size ≤ W'.heap.size) : Box W' β cs :=
  ⟨Nat.lt_of_lt_of_le h.lt hs, fun i => (World.cell?_of_block (a := ⟨β, i, none⟩) e).trans (h.cell i), fun i => (World.frozen?_of_block (a := ⟨β, i, none⟩) e).trans (h.free i)⟩
/-- what l2Any gives -/
def AnyTo (ρ p : Nat) (bs : List UInt8) (w : World) (e : Ending) (w' : World) : Prop :=
  ∃ (k n t : ByteArray) (vv hv : Value) (ver : Int) (V Ho : List ByteArray), e = .returned (.agg #[.string k, .string n, .string t, vv, .bool false, hv, .int .i64 ver]) ∧ (k.size ≤ 1000 ∧ n.size ≤ 1000 ∧ t.size ≤ 1000) ∧
    (∃ ω, Tx w.heap.size ω w' vv V) ∧ V.length ≤ 11 ∧ (∃ ω, Tx w.heap.size ω w' hv Ho) ∧ Ho.length ≤ 10 ∧ (∃ q, p ≤ q ∧ q ≤ p + 120 ∧ Rd w' ρ q bs) ∧ Tch ρ w w'

set_option maxRecDepth 20000 in
set_option maxHeartbeats 16000000 in
theorem l2Any_any (lo ρ p : Nat) (bs : List UInt8) (v : Value) (L : List SX) (w : World) (h : Rd w ρ p bs) (hp : p ≤ 600000000) (hS : ShsG lo v L w) (hl : ρ < lo) (hL : L.length ≤ 10) :
    Calls Tryz.prog 31 #[.pointer (some ⟨ρ, 0, none⟩), v] w (AnyTo ρ p bs w) := by
  obtain ⟨i0, hi, hz0, hz1, hz2⟩ := info_parts Tryz.info9
  have HI := hide (And.intro hi (And.intro hz0 (And.intro hz1 hz2)))
  have HR := hide h
  have hlt := h.lt
  have HSG := hide hS
  obtain ⟨va, vc, rfl⟩ := ZRw.form hS
  clear h hS hi hz0 hz1 hz2
  go_enter Tryz.func31, Tryz.ntmps31
  go_upto_region 1 with fail
  generalize hW1 : World.alloc w _ = w1
  have hba : Below w.heap.size w w1 := by rw [← hW1]; exact one_al _ _
  have BR : Hid (Box w1 w.heap.size #[.string ⟨#[]⟩, .string ⟨#[]⟩, .string ⟨#[]⟩, .slice none 0 0, .bool false, .slice none 0 0, .int .i64 0]) := by unfold Hid; rw [← hW1]; exact Box.new _ _ _ _ rfl
  replace HR := hide (HR.out.below hba)
  have HT : Hid (Tch ρ w w1) := Tch.below hba
  clear hba hW1
  go_wp2_with fail
  generalize hW2 : World.alloc w1 _ = w2
  have hba : Below w1.heap.size w1 w2 := by rw [← hW2]; exact one_al _ _
  have BN : Hid (Box w2 w1.heap.size #[.string ⟨#[107]⟩, .string ⟨#[120]⟩, .string ⟨#[]⟩, .slice none 0 0, .bool false, .slice none 0 0, .int .i64 0, .string ⟨#[106, 111, 98]⟩, .string ⟨#[106]⟩, .string ⟨#[]⟩, .slice none 0 0, .bool false, .slice none 0 0, .int .i64 0, .string ⟨#[118, 111, 108]⟩, .string ⟨#[118]⟩, .string ⟨#[]⟩, .slice none 0 0, .bool false, .slice none 0 0, .int .i64 0, .string ⟨#[98, 101, 114, 116, 104]⟩, .string ⟨#[98]⟩, .string ⟨#[]⟩, .slice none 0 0, .bool false, .slice none 0 0, .int .i64 0]) := by unfold Hid; rw [← hW2]; exact Box.new _ _ _ _ rfl
  have hr1 : w.heap.size < w1.heap.size := BR.out.lt
  replace HR := hide (HR.out.below hba)
  replace HT := hide (HT.out.trans (Tch.below hba))
  replace BR := hide (BR.out.on hba)
  clear hba hW2
  have HKN : Hid (KnAt ρ w2 (.slice (some ⟨w1.heap.size, 0, none⟩) 4 4) [(⟨#[107]⟩, ⟨#[120]⟩), (⟨#[106, 111, 98]⟩, ⟨#[106]⟩), (⟨#[118, 111, 108]⟩, ⟨#[118]⟩), (⟨#[98, 101, 114, 116, 104]⟩, ⟨#[98]⟩)]) := Or.inr ⟨w1.heap.size, 0, 4, rfl, by simp, BN.out.lt, by omega, fun i hi => by
    have hi' : i < 4 := hi
    match i, hi' with
    | 0, _ => exact ⟨BN.out.cell 0, BN.out.cell 1⟩
    | 1, _ => exact ⟨BN.out.cell 7, BN.out.cell 8⟩
    | 2, _ => exact ⟨BN.out.cell 14, BN.out.cell 15⟩
    | 3, _ => exact ⟨BN.out.cell 21, BN.out.cell 22⟩⟩
  refine (l2Draw_any lo ρ p bs 0 0 0 _ _ _ _ _ _ L w2 HR.out (by omega) (ZRw.tch sh_keeps HSG.out HT.out hl) hl hL HKN.out (by decide) (by decide)).mono ?_
  rintro e w3 ⟨k, n, t, vv, hv, V, Ho, rfl, hsz, hOw, hVn, hVs, hHo, hHn, hHs, hnb, ⟨q, hq1, hq2, hr⟩, ht⟩
  have HSZ := hide hsz
  have HOW := hide hOw
  have HHO := hide hHo
  have HNB := hide hnb
  have HVS := hide hVs
  replace HR := hide hr
  replace HT := hide (HT.out.trans ht)
  replace BR := hide (ht.box BR.out (by omega))
  have hz2 := BN.out.lt
  have hw23 : w2.heap.size ≤ w3.heap.size := ht.size
  obtain ⟨wa, wc, rfl⟩ := hOw.form
  obtain ⟨ha, hn', hc, rfl⟩ := hHo.form
  clear hsz hOw hHo hnb hr ht BN HKN hVs
  go_wp2_with fail
  have hrω : w.heap.size < w3.heap.size := BR.out.lt
  generalize hW4 : World.alloc w3 _ = w4
  have hba : Below w3.heap.size w3 w4 := by rw [← hW4]; exact one_al _ _
  have BO : Hid (Box w4 w3.heap.size #[.string k, .string n, .string t, .slice wa V.length wc, .bool false, .slice ha hn' hc, .int .i64 0]) := by unfold Hid; rw [← hW4]; exact Box.new _ _ _ _ rfl
  have hz3 := HT.out.size
  have hz4 := hba.size
  have NV : Hid (∀ j, (Value.slice wa V.length wc).ownBlock = some j → w.heap.size < j ∧ j < w3.heap.size) := fun j hj => ⟨by have := (owns_lt HOW.out.row hj).2; omega, (owns_lt HOW.out.row hj).1⟩
  have TV : Hid (Tx w.heap.size w3.heap.size w4 (.slice wa V.length wc) V) := ⟨HOW.out.strs.below hba, Or.inr fun j hj => ⟨by have := (NV.out j hj).2; omega, by have := (NV.out j hj).2; omega, (NV.out j hj).1⟩⟩
  have TH : Hid (Tx w.heap.size w3.heap.size w4 (.slice ha hn' hc) Ho) := ⟨HHO.out.at.below hba, by
    rcases HHO.out with ⟨_, _, _, e⟩ | ⟨b, off, cap, e, _, _, hb, _, _, hlo⟩
    · exact Or.inl e
    · refine Or.inr fun j hj => ?_
      cases e
      have e' : b = j := by simpa [Value.ownBlock] using hj
      exact ⟨by omega, by omega, by omega⟩⟩
  replace HOW := hide (HOW.out.below hba)
  replace HR := hide (HR.out.below hba)
  replace HT := hide (HT.out.trans (Tch.below hba))
  replace BR := hide (BR.out.on hba)
  clear hba hW4 HHO
  generalize w3.heap.size = ω at *
  have hρω : ρ < ω := by omega
  refine (pick_any ρ _ bs 5 _ HR.out (by omega) (by decide) (by decide)).mono ?_
  rintro e w5 ⟨x5, rfl, hx50, hx51, hr, ht⟩
  replace HR : Hid (Rd w5 ρ (q + 1) bs) := hr
  replace HT := hide (HT.out.trans ht)
  replace BR := hide (ht.box BR.out (by omega))
  replace BO := hide (ht.box BO.out (by omega))
  replace TV := hide (TV.out.tch ht (by omega))
  replace TH := hide (TH.out.tch ht (by omega))
  replace HOW := hide (ownS_tch HOW.out ht (by omega))
  clear hr ht
  have c : ∀ i, w5.cell? ⟨ω, i, none⟩ = #[.string k, .string n, .string t, .slice wa V.length wc, .bool false, .slice ha hn' hc, .int .i64 (0)][i]? := BO.out.cell
  have cf := BO.out.free
  have cl := BO.out.lt
  go_wp2_with fail
  clear c cf cl
  generalize hW : World.setCell w5 ⟨ω, 6, none⟩ _ = w6
  replace BO : Hid (Box w6 ω #[.string k, .string n, .string t, .slice wa V.length wc, .bool false, .slice ha hn' hc, .int .i64 (x5)]) := by unfold Hid; rw [← hW]; exact put_cell BO.out 6 (by simp) _
  replace BR : Hid (Box w6 w.heap.size #[.string ⟨#[]⟩, .string ⟨#[]⟩, .string ⟨#[]⟩, .slice none 0 0, .bool false, .slice none 0 0, .int .i64 0]) := by unfold Hid; rw [← hW]; exact box_other BR.out (by show w.heap.size ≠ ω; omega) _
  replace TV : Hid (Tx w.heap.size ω w6 (.slice wa V.length wc) V) := by unfold Hid; rw [← hW]; exact TV.out.set _ _
  replace TH : Hid (Tx w.heap.size ω w6 (.slice ha hn' hc) Ho) := by unfold Hid; rw [← hW]; exact TH.out.set _ _
  replace HOW : Hid (OwnS w2.heap.size w6 (.slice wa V.length wc) V) := by unfold Hid; rw [← hW]; exact ⟨owns_kept HOW.out.row fun j hj => Below.heap_setCell _ _ _ j (by have := (NV.out j hj).2; show j ≠ ω; omega), HOW.out.sz⟩
  replace HR : Hid (Rd w6 ρ (q + 1) bs) := by unfold Hid; rw [← hW]; exact HR.out.other (by omega) _
  replace HT : Hid (Tch ρ w w6) := by unfold Hid; rw [← hW]; exact HT.out.other (by omega) _
  clear hW
  refine (pick_any ρ _ bs 9 _ HR.out (by omega) (by decide) (by decide)).mono ?_
  rintro e w7 ⟨x9, rfl, hx90, hx91, hr, ht⟩
  replace HR : Hid (Rd w7 ρ (q + 2) bs) := hr
  replace HT := hide (HT.out.trans ht)
  replace BR := hide (ht.box BR.out (by omega))
  replace BO := hide (ht.box BO.out (by omega))
  replace TV := hide (TV.out.tch ht (by omega))
  replace TH := hide (TH.out.tch ht (by omega))
  replace HOW := hide (ownS_tch HOW.out ht (by omega))
  clear hr ht
  have h9 : x9 = 0 ∨ x9 = 1 ∨ x9 = 2 ∨ x9 = 3 ∨ x9 = 4 ∨ x9 = 5 ∨ x9 = 6 ∨ 7 ≤ x9 := by omega
  rcases h9 with rfl | rfl | rfl | rfl | rfl | rfl | rfl | h9
  ·
    by_cases hV0 : V.length = 0
    ·
      have hV0' : ¬ (0 : Int) < (V.length : Int) := by omega
      clear hV0
      have c : ∀ i, w7.cell? ⟨ω, i, none⟩ = #[.string k, .string n, .string t, .slice wa V.length wc, .bool false, .slice ha hn' hc, .int .i64 (x5)][i]? := BO.out.cell
      have cf := BO.out.free
      have cl := BO.out.lt
      go_upto_region 19 with fail
      clear c cf cl
      have c : ∀ i, w7.cell? ⟨ω, i, none⟩ = #[.string k, .string n, .string t, .slice wa V.length wc, .bool false, .slice ha hn' hc, .int .i64 (x5)][i]? := BO.out.cell
      have cl := BO.out.lt
      have r : ∀ i, w7.cell? ⟨w.heap.size, i, none⟩ = #[.string ⟨#[]⟩, .string ⟨#[]⟩, .string ⟨#[]⟩, .slice none 0 0, .bool false, .slice none 0 0, .int .i64 0][i]? := BR.out.cell
      have rf := BR.out.free
      have rl := BR.out.lt
      go_wp2
      refine bodyPost_ret (v := .agg #[.string k, .string n, .string t, .slice wa V.length wc, .bool false, .slice ha hn' hc, .int .i64 (x5)]) (by simp [results, Tryz.results31, go_sem, r]) rfl ⟨k, n, t, .slice wa V.length wc, .slice ha hn' hc, x5, V, Ho, rfl, ⟨HSZ.out.1, HSZ.out.2.1, HSZ.out.2.2⟩, ?_, by omega, ?_, by omega, ⟨q + 2, by omega, by omega, ?_⟩, ?_⟩
      · refine ⟨ω, ?_⟩
        repeat (refine Tx.out ?_ _ _)
        exact TV.out
      · refine ⟨ω, ?_⟩
        repeat (refine Tx.out ?_ _ _)
        exact TH.out
      · repeat (refine Rd.other ?_ (by omega) _)
        exact HR.out
      · repeat (refine Tch.other ?_ (by omega) _)
        exact HT.out
    have hV0' : (0 : Int) < (V.length : Int) := by omega
    obtain ⟨vb, rfl⟩ : ∃ vb, wa = some ⟨vb, 0, none⟩ := by
      rcases HOW.out.row.2 with ⟨hv, hn⟩ | ⟨g, cap', cur, hv, _⟩
      · omega
      · cases hv; exact ⟨_, rfl⟩
    have hvb := NV.out vb rfl
    have c : ∀ i, w7.cell? ⟨ω, i, none⟩ = #[.string k, .string n, .string t, .slice (some ⟨vb, 0, none⟩) V.length wc, .bool false, .slice ha hn' hc, .int .i64 (x5)][i]? := BO.out.cell
    have cf := BO.out.free
    have cl := BO.out.lt
    go_upto_region 6 with fail
    clear c cf cl
    refine wp_region_held_drew (S := fun W => W.cell? ⟨ω, 3, none⟩ = some (.slice (some ⟨vb, 0, none⟩) V.length wc)) (by kernel_rfl) (BO.out.cell 3) (fun hHeld => ?_)
    refine wpAnyH_take (i := 0) (v := .pointer (some ⟨ω, 3, none⟩)) rfl (by kernel_rfl) (by kernel_rfl) (by kernel_rfl) (fun _ _ _ h => h) (Or.inl ⟨by rfl, fun W hW => by go_simp⟩) hHeld ?_
    try simp only [Act.put, List.getElem_toArray, List.getElem_cons_zero, List.setIfInBounds_toArray, List.set_cons_zero, List.set_cons_succ]
    refine wpAnyH_take (i := 1) (v := .slice (some ⟨vb, 0, none⟩) V.length wc) rfl (by kernel_rfl) (by kernel_rfl) (by kernel_rfl) (fun _ _ _ h => h) (Or.inl ⟨by rfl, fun W hW => by go_simp⟩) hHeld ?_
    try simp only [Act.put, List.getElem_toArray, List.getElem_cons_succ, List.getElem_cons_zero, List.setIfInBounds_toArray, List.set_cons_zero, List.set_cons_succ]
    refine wpAnyH_take (i := 2) (v := .pointer (some ⟨ρ, 0, none⟩)) rfl (by kernel_rfl) (by kernel_rfl) (by kernel_rfl) (fun _ _ _ h => h) (Or.inl ⟨by rfl, fun W hW => by go_simp⟩) hHeld ?_
    try simp only [Act.put, List.getElem_toArray, List.getElem_cons_succ, List.getElem_cons_zero, List.setIfInBounds_toArray, List.set_cons_zero, List.set_cons_succ]
    refine wpAnyH_take (i := 3) (v := .pointer (some ⟨ω, 3, none⟩)) rfl (by kernel_rfl) (by kernel_rfl) (by kernel_rfl) (fun _ _ _ h => h) (Or.inl ⟨by rfl, fun W hW => by go_simp⟩) hHeld ?_
    try simp only [Act.put, List.getElem_toArray, List.getElem_cons_succ, List.getElem_cons_zero, List.setIfInBounds_toArray, List.set_cons_zero, List.set_cons_succ]
    refine wpAnyH_take (i := 4) (v := .slice (some ⟨vb, 0, none⟩) V.length wc) rfl (by kernel_rfl) (by kernel_rfl) (by kernel_rfl) (fun _ _ _ h => h) (Or.inl ⟨by rfl, fun W hW => by go_simp⟩) hHeld ?_
    try simp only [Act.put, List.getElem_toArray, List.getElem_cons_succ, List.getElem_cons_zero, List.setIfInBounds_toArray, List.set_cons_zero, List.set_cons_succ]
    refine wpAnyH_take (i := 5) (v := .int .i64 (V.length : Int)) rfl (by kernel_rfl) (by kernel_rfl) (by kernel_rfl) (fun _ _ _ h => h) (Or.inl ⟨by rfl, fun W hW => by go_simp⟩) hHeld ?_
    try simp only [Act.put, List.getElem_toArray, List.getElem_cons_succ, List.getElem_cons_zero, List.setIfInBounds_toArray, List.set_cons_zero, List.set_cons_succ]
    refine wpAnyH_take (i := 7) (v := .pointer (some ⟨ρ, 0, none⟩)) rfl (by kernel_rfl) (by kernel_rfl) (by kernel_rfl) (fun _ _ _ h => h) (Or.inl ⟨by rfl, fun W hW => by go_simp⟩) hHeld ?_
    try simp only [Act.put, List.getElem_toArray, List.getElem_cons_succ, List.getElem_cons_zero, List.setIfInBounds_toArray, List.set_cons_zero, List.set_cons_succ]
    refine wpAnyH_ready (rs := [6]) (by kernel_rfl) (by simp) ?_
    refine AllReadyH.cons rfl (fun KK hK => ?_) AllReadyH.nil
    go_simp
    have hbd : Below w7.heap.size w7 w7.drew := (Below.refl _ _).drew
    refine (pick_any ρ _ bs V.length _ (HR.out.below hbd) (by omega) (by omega) (by omega)).mono ?_
    rintro e w8 ⟨x6, rfl, hx60, hx61, hr, ht⟩
    replace ht : Tch ρ w7 w8 := (Tch.below hbd).trans ht
    clear hbd
    replace HR : Hid (Rd w8 ρ (q + 3) bs) := hr
    replace HT := hide (HT.out.trans ht)
    replace BR := hide (ht.box BR.out (by omega))
    replace BO := hide (ht.box BO.out (by omega))
    replace TV := hide (TV.out.tch ht (by omega))
    replace TH := hide (TH.out.tch ht (by omega))
    replace HOW := hide (ownS_tch HOW.out ht (by omega))
    clear hr ht
    obtain ⟨n6, rfl⟩ := Int.eq_ofNat_of_zero_le hx60
    have hn6 : (n6 : Int) < (V.length : Int) := hx61
    try go_wp2_with fail
    refine hK.out _ _ (BO.out.cell 3) (fun hHeld => ?_)
    clear hK KK
    try simp only [Act.put, List.getElem_toArray, List.getElem_cons_succ, List.getElem_cons_zero, List.setIfInBounds_toArray, List.set_cons_zero, List.set_cons_succ]
    refine wpAnyH_ready (rs := [8]) (by kernel_rfl) (by simp) ?_
    refine AllReadyH.cons rfl (fun KK hK => ?_) AllReadyH.nil
    go_simp
    refine (l1Odd_any ρ _ bs _ HR.out (by omega)).mono ?_
    rintro e w9 ⟨sn, rfl, hs, hr, ht⟩
    have HSN := hide hs
    clear hs
    replace HR : Hid (Rd w9 ρ (q + 6) bs) := hr
    replace HT := hide (HT.out.trans ht)
    replace BR := hide (ht.box BR.out (by omega))
    replace BO := hide (ht.box BO.out (by omega))
    replace TV := hide (TV.out.tch ht (by omega))
    replace TH := hide (TH.out.tch ht (by omega))
    replace HOW := hide (ownS_tch HOW.out ht (by omega))
    clear hr ht
    try go_wp2_with fail
    refine hK.out _ _ (BO.out.cell 3) (fun hHeld => ?_)
    clear hK KK
    try simp only [Act.put, List.getElem_toArray, List.getElem_cons_succ, List.getElem_cons_zero, List.setIfInBounds_toArray, List.set_cons_zero, List.set_cons_succ]
    refine wpAnyH_take (i := 9) (v := .pointer (some ⟨vb, n6, none⟩)) rfl (by kernel_rfl) (by kernel_rfl) (by kernel_rfl) (fun _ _ _ h => h) (Or.inl ⟨by rfl, fun W hW => by go_simp⟩) hHeld ?_
    try simp only [Act.put, List.getElem_toArray, List.getElem_cons_succ, List.getElem_cons_zero, List.setIfInBounds_toArray, List.set_cons_zero, List.set_cons_succ]
    have hcell : w9.cell? ⟨vb, n6, none⟩ = some (.string (V[n6]'(by omega))) := by
      rcases HOW.out.strs with ⟨_, _, _, e⟩ | ⟨b, off, cap, e, _, _, _, hc, _⟩
      · rw [e] at hV0; simp at hV0
      · cases e
        have := hc n6 (by omega)
        rwa [Nat.zero_add] at this
    have hfz := HOW.out.row.frozenAt n6
    have hblt : vb < w9.heap.size := (owns_lt HOW.out.row (g := vb) rfl).1
    refine wpAnyH_ready (rs := [10]) (by kernel_rfl) (by simp) ?_
    refine AllReadyH.cons rfl (fun KK hK => ?_) AllReadyH.nil
    go_simp
    obtain ⟨w10, hw9⟩ : ∃ vv, vv = w9.setCell ⟨vb, n6, none⟩ (.string sn) := ⟨_, rfl⟩
    rw [← hw9]
    have BO9 : Hid (Box w10 ω #[.string k, .string n, .string t, .slice (some ⟨vb, 0, none⟩) V.length wc, .bool false, .slice ha hn' hc, .int .i64 (x5)]) := by unfold Hid; rw [hw9]; exact box_other BO.out (by show ω ≠ vb; omega) _
    refine hK.out _ _ (BO9.out.cell 3) (fun hHeld => ?_)
    clear hK KK hHeld
    try simp only [Act.put, List.getElem_toArray, List.getElem_cons_succ, List.getElem_cons_zero, List.setIfInBounds_toArray, List.set_cons_zero, List.set_cons_succ]
    refine wpAnyH_done (by kernel_rfl) ?_ _
    have TV9 : Hid (Tx w.heap.size ω w10 (.slice (some ⟨vb, 0, none⟩) V.length wc) (V.set n6 sn)) := ⟨by
      rw [hw9]
      rcases HOW.out.strs with ⟨_, _, _, e⟩ | ⟨b, off, cap, e, h2, h3, h4, h5, h6⟩
      · rw [e] at hV0; simp at hV0
      · cases e
        refine Or.inr ⟨vb, 0, wc, by rw [List.length_set], by intro e2; rw [← List.length_eq_zero_iff, List.length_set] at e2; omega, by rw [List.length_set]; exact h3, by simpa [World.setCell] using h4, fun i hi => ?_, fun s hs => ?_⟩
        · rw [List.length_set] at hi
          by_cases hij : i = n6
          · subst hij
            rw [Nat.zero_add, show (w9.setCell ⟨vb, i, none⟩ (.string sn)).cell? ⟨vb, i, none⟩ = some (.string sn) from by apply World.cell?_setCell_same; exact hcell]
            simp
          · rw [show (w9.setCell ⟨vb, n6, none⟩ (.string sn)).cell? ⟨vb, 0 + i, none⟩ = w9.cell? ⟨vb, 0 + i, none⟩ from (by apply World.cell?_setCell_other; simp <;> omega), h5 i hi, List.getElem_set_ne (by omega)]
        · rcases List.mem_or_eq_of_mem_set hs with h | h
          · exact h6 s h
          · rw [h]; have := HSN.out; unfold maxLen; omega, Or.inr fun j hj => by
      have e : vb = j := by simpa [Value.ownBlock] using hj
      subst e
      exact ⟨by omega, by rw [hw9]; simpa [World.setCell] using hblt, hvb.1⟩⟩
    have TH9 : Hid (Tx w.heap.size ω w10 (.slice ha hn' hc) Ho) := ⟨by
      rw [hw9]
      exact strsAt_kept TH.out.at' (by simp [World.setCell]) (TH.out.ne.imp id fun gg j hj => Below.heap_setCell _ _ _ j (by intro e; exact HNB.out vb rfl (by rw [← show j = vb from e]; exact hj))), by
      rw [hw9]
      exact TH.out.ne.imp id fun gg j hj => ⟨(gg j hj).1, by simpa [World.setCell] using (gg j hj).2.1, (gg j hj).2.2⟩⟩
    replace BR : Hid (Box w10 w.heap.size #[.string ⟨#[]⟩, .string ⟨#[]⟩, .string ⟨#[]⟩, .slice none 0 0, .bool false, .slice none 0 0, .int .i64 0]) := by unfold Hid; rw [hw9]; exact box_other BR.out (by show w.heap.size ≠ vb; omega) _
    replace HR : Hid (Rd w10 ρ (q + 6) bs) := by unfold Hid; rw [hw9]; exact HR.out.other (by omega) _
    replace HT : Hid (Tch ρ w w10) := by unfold Hid; rw [hw9]; exact HT.out.other (by omega) _
    have TV := TV9
    have TH := TH9
    have BO := BO9
    clear hw9 TV9 TH9 BO9 hcell hfz
    go_upto_region 19 with fail
    have c : ∀ i, w10.cell? ⟨ω, i, none⟩ = #[.string k, .string n, .string t, .slice (some ⟨vb, 0, none⟩) V.length wc, .bool false, .slice ha hn' hc, .int .i64 (x5)][i]? := BO.out.cell
    have cl := BO.out.lt
    have r : ∀ i, w10.cell? ⟨w.heap.size, i, none⟩ = #[.string ⟨#[]⟩, .string ⟨#[]⟩, .string ⟨#[]⟩, .slice none 0 0, .bool false, .slice none 0 0, .int .i64 0][i]? := BR.out.cell
    have rf := BR.out.free
    have rl := BR.out.lt
    go_wp2
    refine bodyPost_ret (v := .agg #[.string k, .string n, .string t, .slice (some ⟨vb, 0, none⟩) V.length wc, .bool false, .slice ha hn' hc, .int .i64 (x5)]) (by simp [results, Tryz.results31, go_sem, r]) rfl ⟨k, n, t, .slice (some ⟨vb, 0, none⟩) V.length wc, .slice ha hn' hc, x5, (V.set n6 sn), Ho, rfl, ⟨HSZ.out.1, HSZ.out.2.1, HSZ.out.2.2⟩, ?_, by rw [List.length_set]; omega, ?_, by omega, ⟨q + 6, by omega, by omega, ?_⟩, ?_⟩
    · refine ⟨ω, ?_⟩
      repeat (refine Tx.out ?_ _ _)
      exact TV.out
    · refine ⟨ω, ?_⟩
      repeat (refine Tx.out ?_ _ _)
      exact TH.out
    · repeat (refine Rd.other ?_ (by omega) _)
      exact HR.out
    · repeat (refine Tch.other ?_ (by omega) _)
      exact HT.out
  ·
    have o3 : w7.cell? ⟨ω, 3, none⟩ = some (.slice wa V.length wc) := BO.out.cell 3
    have ol := BO.out.lt
    have hz2' := HT.out.size
    have HOA := hide (HOW.out.below (one_al w7 (.cells #[.string ⟨#[120]⟩] 9)))
    have BOA := hide (BO.out.on (one_al w7 (.cells #[.string ⟨#[120]⟩] 9)))
    go_upto_region 19 with (at_builtin; refine wpList_append_lies _ rfl (.tmp 39) (.tmp 40) 25 rfl w2.heap.size 9 i0 (.string ⟨#[]⟩) 1 16 Tryz.underlying25 HI.out.1 HI.out.2.1 HI.out.2.2.1 HI.out.2.2.2 rfl (by decide) _ _ _ rfl HOA.out.row ⟨w7.heap.size, 0, none⟩ 1 1 [.string ⟨#[120]⟩] rfl rfl (cell_new1 _ _ _ _ rfl) (one_oneCell _) (by decide) (by unfold maxLen; omega) (by omega) (by simp; omega) _ rfl ?_; intro g cap1 w9 hown hgrow hat hltg; have bo9 := box_blk BOA.out (hgrow.block ω BOA.out.lt (fun e => by have := (NV.out ω e.symm).2; omega)) hgrow.size; have o9 := bo9.cell 3; have f9 := bo9.free)
    have hbg := HOA.out.grown hgrow (by simp; omega)
    have hza : (w7.alloc (.cells #[.string ⟨#[120]⟩] 9)).heap.size = w7.heap.size + 1 := by simp
    have HOS := HOW.out.snoc hown (s := ⟨#[120]⟩) (by unfold maxLen; decide)
    replace BO := hide bo9
    replace BR := hide ((BR.out.on (one_al _ _)).below hbg (by omega))
    have TV9 : Hid (Tx w.heap.size ω w9 (.slice (some ⟨g, 0, none⟩) (V.length + 1) cap1) (V ++ [⟨#[120]⟩])) := ⟨HOS.strs, Or.inr fun j hj => by
      have e : g = j := by simpa [Value.ownBlock] using hj
      subst e
      rcases hat with hat | hat
      · exact ⟨by have := (NV.out g hat).2; omega, hltg, (NV.out g hat).1⟩
      · exact ⟨by omega, hltg, by omega⟩⟩
    have TH9 : Hid (Tx w.heap.size ω w9 (.slice ha hn' hc) Ho) := ⟨strsAt_kept (TH.out.at'.below (one_al _ _)) hgrow.size (TH.out.ne.imp id fun gg j hj => hgrow.block j (by have := (gg j hj).2.1; omega) (fun e => HNB.out j e.symm hj)), TH.out.ne.imp id fun gg j hj => ⟨(gg j hj).1, by have := (gg j hj).2.1; have := hgrow.size; omega, (gg j hj).2.2⟩⟩
    replace HR : Hid (Rd w9 ρ (q + 2) bs) := (HR.out.below (one_al _ _)).belowB hbg (by omega)
    replace HT : Hid (Tch ρ w w9) := (HT.out.trans (Tch.below (one_al _ _))).belowB hbg (by omega)
    clear hown hgrow hat hbg HOS bo9 o9 f9 o3 ol HOA BOA TV TH hza
    have TV := TV9
    have TH := TH9
    clear TV9 TH9
    generalize hW : World.setCell w9 ⟨ω, 3, none⟩ _ = w21
    replace BO : Hid (Box w21 ω #[.string k, .string n, .string t, .slice (some ⟨g, 0, none⟩) (V.length + 1) cap1, .bool false, .slice ha hn' hc, .int .i64 (x5)]) := by unfold Hid; rw [← hW]; exact put_cell BO.out 3 (by simp) _
    replace BR : Hid (Box w21 w.heap.size #[.string ⟨#[]⟩, .string ⟨#[]⟩, .string ⟨#[]⟩, .slice none 0 0, .bool false, .slice none 0 0, .int .i64 0]) := by unfold Hid; rw [← hW]; exact box_other BR.out (by show w.heap.size ≠ ω; omega) _
    replace TV : Hid (Tx w.heap.size ω w21 (.slice (some ⟨g, 0, none⟩) (V.length + 1) cap1) (V ++ [⟨#[120]⟩])) := by unfold Hid; rw [← hW]; exact TV.out.set _ _
    replace TH : Hid (Tx w.heap.size ω w21 (.slice ha hn' hc) Ho) := by unfold Hid; rw [← hW]; exact TH.out.set _ _
    replace HR : Hid (Rd w21 ρ (q + 2) bs) := by unfold Hid; rw [← hW]; exact HR.out.other (by omega) _
    replace HT : Hid (Tch ρ w w21) := by unfold Hid; rw [← hW]; exact HT.out.other (by omega) _
    clear hW
    have c : ∀ i, w21.cell? ⟨ω, i, none⟩ = #[.string k, .string n, .string t, .slice (some ⟨g, 0, none⟩) (V.length + 1) cap1, .bool false, .slice ha hn' hc, .int .i64 (x5)][i]? := BO.out.cell
    have cl := BO.out.lt
    have r : ∀ i, w21.cell? ⟨w.heap.size, i, none⟩ = #[.string ⟨#[]⟩, .string ⟨#[]⟩, .string ⟨#[]⟩, .slice none 0 0, .bool false, .slice none 0 0, .int .i64 0][i]? := BR.out.cell
    have rf := BR.out.free
    have rl := BR.out.lt
    go_wp2
    refine bodyPost_ret (v := .agg #[.string k, .string n, .string t, .slice (some ⟨g, 0, none⟩) (V.length + 1) cap1, .bool false, .slice ha hn' hc, .int .i64 (x5)]) (by simp [results, Tryz.results31, go_sem, r]) rfl ⟨k, n, t, .slice (some ⟨g, 0, none⟩) (V.length + 1) cap1, .slice ha hn' hc, x5, (V ++ [⟨#[120]⟩]), Ho, rfl, ⟨HSZ.out.1, HSZ.out.2.1, HSZ.out.2.2⟩, ?_, by simp; omega, ?_, by omega, ⟨q + 2, by omega, by omega, ?_⟩, ?_⟩
    · refine ⟨ω, ?_⟩
      repeat (refine Tx.out ?_ _ _)
      exact TV.out
    · refine ⟨ω, ?_⟩
      repeat (refine Tx.out ?_ _ _)
      exact TH.out
    · repeat (refine Rd.other ?_ (by omega) _)
      exact HR.out
    · repeat (refine Tch.other ?_ (by omega) _)
      exact HT.out
  ·
    have c : ∀ i, w7.cell? ⟨ω, i, none⟩ = #[.string k, .string n, .string t, .slice wa V.length wc, .bool false, .slice ha hn' hc, .int .i64 (x5)][i]? := BO.out.cell
    have cf := BO.out.free
    have cl := BO.out.lt
    go_wp2_with fail
    clear c cf cl
    refine (l1Odd_any ρ _ bs _ HR.out (by omega)).mono ?_
    rintro e w8 ⟨sn, rfl, hs, hr, ht⟩
    have HSN := hide hs
    clear hs
    replace HR : Hid (Rd w8 ρ (q + 5) bs) := hr
    replace HT := hide (HT.out.trans ht)
    replace BR := hide (ht.box BR.out (by omega))
    replace BO := hide (ht.box BO.out (by omega))
    replace TV := hide (TV.out.tch ht (by omega))
    replace TH := hide (TH.out.tch ht (by omega))
    replace HOW := hide (ownS_tch HOW.out ht (by omega))
    clear hr ht
    have c : ∀ i, w8.cell? ⟨ω, i, none⟩ = #[.string k, .string n, .string t, .slice wa V.length wc, .bool false, .slice ha hn' hc, .int .i64 (x5)][i]? := BO.out.cell
    have cf := BO.out.free
    have cl := BO.out.lt
    go_upto_region 19 with fail
    clear c cf cl
    generalize hW : World.setCell w8 ⟨ω, 1, none⟩ _ = w9
    replace BO : Hid (Box w9 ω #[.string k, .string sn, .string t, .slice wa V.length wc, .bool false, .slice ha hn' hc, .int .i64 (x5)]) := by unfold Hid; rw [← hW]; exact put_cell BO.out 1 (by simp) _
    replace BR : Hid (Box w9 w.heap.size #[.string ⟨#[]⟩, .string ⟨#[]⟩, .string ⟨#[]⟩, .slice none 0 0, .bool false, .slice none 0 0, .int .i64 0]) := by unfold Hid; rw [← hW]; exact box_other BR.out (by show w.heap.size ≠ ω; omega) _
    replace TV : Hid (Tx w.heap.size ω w9 (.slice wa V.length wc) V) := by unfold Hid; rw [← hW]; exact TV.out.set _ _
    replace TH : Hid (Tx w.heap.size ω w9 (.slice ha hn' hc) Ho) := by unfold Hid; rw [← hW]; exact TH.out.set _ _
    replace HOW : Hid (OwnS w2.heap.size w9 (.slice wa V.length wc) V) := by unfold Hid; rw [← hW]; exact ⟨owns_kept HOW.out.row fun j hj => Below.heap_setCell _ _ _ j (by have := (NV.out j hj).2; show j ≠ ω; omega), HOW.out.sz⟩
    replace HR : Hid (Rd w9 ρ (q + 5) bs) := by unfold Hid; rw [← hW]; exact HR.out.other (by omega) _
    replace HT : Hid (Tch ρ w w9) := by unfold Hid; rw [← hW]; exact HT.out.other (by omega) _
    clear hW
    have c : ∀ i, w9.cell? ⟨ω, i, none⟩ = #[.string k, .string sn, .string t, .slice wa V.length wc, .bool false, .slice ha hn' hc, .int .i64 (x5)][i]? := BO.out.cell
    have cl := BO.out.lt
    have r : ∀ i, w9.cell? ⟨w.heap.size, i, none⟩ = #[.string ⟨#[]⟩, .string ⟨#[]⟩, .string ⟨#[]⟩, .slice none 0 0, .bool false, .slice none 0 0, .int .i64 0][i]? := BR.out.cell
    have rf := BR.out.free
    have rl := BR.out.lt
    go_wp2
    refine bodyPost_ret (v := .agg #[.string k, .string sn, .string t, .slice wa V.length wc, .bool false, .slice ha hn' hc, .int .i64 (x5)]) (by simp [results, Tryz.results31, go_sem, r]) rfl ⟨k, sn, t, .slice wa V.length wc, .slice ha hn' hc, x5, V, Ho, rfl, ⟨HSZ.out.1, HSN.out, HSZ.out.2.2⟩, ?_, by omega, ?_, by omega, ⟨q + 5, by omega, by omega, ?_⟩, ?_⟩
    · refine ⟨ω, ?_⟩
      repeat (refine Tx.out ?_ _ _)
      exact TV.out
    · refine ⟨ω, ?_⟩
      repeat (refine Tx.out ?_ _ _)
      exact TH.out
    · repeat (refine Rd.other ?_ (by omega) _)
      exact HR.out
    · repeat (refine Tch.other ?_ (by omega) _)
      exact HT.out
  ·
    have c : ∀ i, w7.cell? ⟨ω, i, none⟩ = #[.string k, .string n, .string t, .slice wa V.length wc, .bool false, .slice ha hn' hc, .int .i64 (x5)][i]? := BO.out.cell
    have cf := BO.out.free
    have cl := BO.out.lt
    go_wp2_with fail
    clear c cf cl
    refine (ofBuilt_any ρ _ bs _ _ 3 _ HR.out (by omega) (by decide) rfl (by decide) (by decide)).mono ?_
    rintro e w8 ⟨sn, rfl, hs, hr, ht⟩
    have HSN := hide hs
    clear hs
    replace HR : Hid (Rd w8 ρ (q + 3) bs) := hr
    replace HT := hide (HT.out.trans ht)
    replace BR := hide (ht.box BR.out (by omega))
    replace BO := hide (ht.box BO.out (by omega))
    replace TV := hide (TV.out.tch ht (by omega))
    replace TH := hide (TH.out.tch ht (by omega))
    replace HOW := hide (ownS_tch HOW.out ht (by omega))
    clear hr ht
    have c : ∀ i, w8.cell? ⟨ω, i, none⟩ = #[.string k, .string n, .string t, .slice wa V.length wc, .bool false, .slice ha hn' hc, .int .i64 (x5)][i]? := BO.out.cell
    have cf := BO.out.free
    have cl := BO.out.lt
    go_upto_region 19 with fail
    clear c cf cl
    generalize hW : World.setCell w8 ⟨ω, 2, none⟩ _ = w9
    replace BO : Hid (Box w9 ω #[.string k, .string n, .string sn, .slice wa V.length wc, .bool false, .slice ha hn' hc, .int .i64 (x5)]) := by unfold Hid; rw [← hW]; exact put_cell BO.out 2 (by simp) _
    replace BR : Hid (Box w9 w.heap.size #[.string ⟨#[]⟩, .string ⟨#[]⟩, .string ⟨#[]⟩, .slice none 0 0, .bool false, .slice none 0 0, .int .i64 0]) := by unfold Hid; rw [← hW]; exact box_other BR.out (by show w.heap.size ≠ ω; omega) _
    replace TV : Hid (Tx w.heap.size ω w9 (.slice wa V.length wc) V) := by unfold Hid; rw [← hW]; exact TV.out.set _ _
    replace TH : Hid (Tx w.heap.size ω w9 (.slice ha hn' hc) Ho) := by unfold Hid; rw [← hW]; exact TH.out.set _ _
    replace HOW : Hid (OwnS w2.heap.size w9 (.slice wa V.length wc) V) := by unfold Hid; rw [← hW]; exact ⟨owns_kept HOW.out.row fun j hj => Below.heap_setCell _ _ _ j (by have := (NV.out j hj).2; show j ≠ ω; omega), HOW.out.sz⟩
    replace HR : Hid (Rd w9 ρ (q + 3) bs) := by unfold Hid; rw [← hW]; exact HR.out.other (by omega) _
    replace HT : Hid (Tch ρ w w9) := by unfold Hid; rw [← hW]; exact HT.out.other (by omega) _
    clear hW
    have c : ∀ i, w9.cell? ⟨ω, i, none⟩ = #[.string k, .string n, .string sn, .slice wa V.length wc, .bool false, .slice ha hn' hc, .int .i64 (x5)][i]? := BO.out.cell
    have cl := BO.out.lt
    have r : ∀ i, w9.cell? ⟨w.heap.size, i, none⟩ = #[.string ⟨#[]⟩, .string ⟨#[]⟩, .string ⟨#[]⟩, .slice none 0 0, .bool false, .slice none 0 0, .int .i64 0][i]? := BR.out.cell
    have rf := BR.out.free
    have rl := BR.out.lt
    go_wp2
    refine bodyPost_ret (v := .agg #[.string k, .string n, .string sn, .slice wa V.length wc, .bool false, .slice ha hn' hc, .int .i64 (x5)]) (by simp [results, Tryz.results31, go_sem, r]) rfl ⟨k, n, sn, .slice wa V.length wc, .slice ha hn' hc, x5, V, Ho, rfl, ⟨HSZ.out.1, HSZ.out.2.1, HSN.out⟩, ?_, by omega, ?_, by omega, ⟨q + 3, by omega, by omega, ?_⟩, ?_⟩
    · refine ⟨ω, ?_⟩
      repeat (refine Tx.out ?_ _ _)
      exact TV.out
    · refine ⟨ω, ?_⟩
      repeat (refine Tx.out ?_ _ _)
      exact TH.out
    · repeat (refine Rd.other ?_ (by omega) _)
      exact HR.out
    · repeat (refine Tch.other ?_ (by omega) _)
      exact HT.out
  ·
    have c : ∀ i, w7.cell? ⟨ω, i, none⟩ = #[.string k, .string n, .string t, .slice wa V.length wc, .bool false, .slice ha hn' hc, .int .i64 (x5)][i]? := BO.out.cell
    have cf := BO.out.free
    have cl := BO.out.lt
    go_wp2_with fail
    clear c cf cl
    have SV := hide (four w7 #[.string ⟨#[98]⟩, .string ⟨#[97]⟩] #[.string ⟨#[97]⟩, .string ⟨#[98]⟩, .string ⟨#[99]⟩, .string ⟨#[100]⟩] #[.string ⟨#[]⟩] #[.slice (some ⟨w7.heap.size , 0, none⟩) 2 2, .slice (some ⟨w7.heap.size + 1, 0, none⟩) 4 4, .slice (some ⟨w7.heap.size + 1 + 1, 0, none⟩) 1 1] 9 25)
    generalize hW7 : World.alloc _ _ = W7 at *
    have hr := HR.out.below SV.out.al
    have ht : Tch ρ w7 W7 := Tch.below SV.out.al
    have hgz := BO.out.lt
    clear hW7
    replace HR : Hid (Rd W7 ρ (q + 2) bs) := hr
    replace HT := hide (HT.out.trans ht)
    replace BR := hide (ht.box BR.out (by omega))
    replace BO := hide (ht.box BO.out (by omega))
    replace TV := hide (TV.out.tch ht (by omega))
    replace TH := hide (TH.out.tch ht (by omega))
    replace HOW := hide (ownS_tch HOW.out ht (by omega))
    clear hr ht
    refine (pick_any ρ _ bs 3 _ HR.out (by omega) (by decide) (by decide)).mono ?_
    rintro e w8 ⟨x7, rfl, hx70, hx71, hr, ht⟩
    have ht7 := ht
    replace HR : Hid (Rd w8 ρ (q + 3) bs) := hr
    replace HT := hide (HT.out.trans ht)
    replace BR := hide (ht.box BR.out (by omega))
    replace BO := hide (ht.box BO.out (by omega))
    replace TV := hide (TV.out.tch ht (by omega))
    replace TH := hide (TH.out.tch ht (by omega))
    replace HOW := hide (ownS_tch HOW.out ht (by omega))
    clear hr ht
    obtain ⟨n7, rfl⟩ := Int.eq_ofNat_of_zero_le hx70
    obtain ⟨sa, sn, sc, L5, hy, hL5, hL6⟩ : ∃ (sa : Option Addr) (sn sc : Nat) (L5 : List ByteArray), w8.cell? ⟨w7.heap.size + 1 + 1 + 1, n7, none⟩ = some (.slice sa sn sc) ∧ Tx w.heap.size ω w8 (.slice sa sn sc) L5 ∧ L5.length ≤ 10 := by
      have b3 := ht7.box SV.out.b3 (by omega)
      have h3 : n7 = 0 ∨ n7 = 1 ∨ n7 = 2 := by omega
      rcases h3 with rfl | rfl | rfl
      · have hb := ht7.box SV.out.b0 (by omega)
        have hbl := hb.lt
        exact ⟨_, _, _, [⟨#[98]⟩, ⟨#[97]⟩], b3.cell 0, ⟨(box_strs (lo := 0) [⟨#[98]⟩, ⟨#[97]⟩] 2 hb rfl (Nat.zero_le _) rfl (by omega) (by decide)).at, Or.inr fun j hj => by
          have e : w7.heap.size  = j := by simpa [Value.ownBlock] using hj
          omega⟩, by decide⟩
      · have hb := ht7.box SV.out.b1 (by omega)
        have hbl := hb.lt
        exact ⟨_, _, _, [⟨#[97]⟩, ⟨#[98]⟩, ⟨#[99]⟩, ⟨#[100]⟩], b3.cell 1, ⟨(box_strs (lo := 0) [⟨#[97]⟩, ⟨#[98]⟩, ⟨#[99]⟩, ⟨#[100]⟩] 4 hb rfl (Nat.zero_le _) rfl (by omega) (by decide)).at, Or.inr fun j hj => by
          have e : w7.heap.size + 1 = j := by simpa [Value.ownBlock] using hj
          omega⟩, by decide⟩
      · have hb := ht7.box SV.out.b2 (by omega)
        have hbl := hb.lt
        exact ⟨_, _, _, [⟨#[]⟩], b3.cell 2, ⟨(box_strs (lo := 0) [⟨#[]⟩] 1 hb rfl (Nat.zero_le _) rfl (by omega) (by decide)).at, Or.inr fun j hj => by
          have e : w7.heap.size + 1 + 1 = j := by simpa [Value.ownBlock] using hj
          omega⟩, by decide⟩
    have hn7 : (n7 : Int) < 3 := hx71
    have HL5 := hide hL5
    clear ht7 hL5 SV
    have c : ∀ i, w8.cell? ⟨ω, i, none⟩ = #[.string k, .string n, .string t, .slice wa V.length wc, .bool false, .slice ha hn' hc, .int .i64 (x5)][i]? := BO.out.cell
    have cf := BO.out.free
    have cl := BO.out.lt
    go_upto_region 19 with fail
    clear c cf cl
    clear hy
    generalize hW : World.setCell w8 ⟨ω, 5, none⟩ _ = w9
    replace BO : Hid (Box w9 ω #[.string k, .string n, .string t, .slice wa V.length wc, .bool false, .slice sa sn sc, .int .i64 (x5)]) := by unfold Hid; rw [← hW]; exact put_cell BO.out 5 (by simp) _
    replace BR : Hid (Box w9 w.heap.size #[.string ⟨#[]⟩, .string ⟨#[]⟩, .string ⟨#[]⟩, .slice none 0 0, .bool false, .slice none 0 0, .int .i64 0]) := by unfold Hid; rw [← hW]; exact box_other BR.out (by show w.heap.size ≠ ω; omega) _
    replace TV : Hid (Tx w.heap.size ω w9 (.slice wa V.length wc) V) := by unfold Hid; rw [← hW]; exact TV.out.set _ _
    replace TH : Hid (Tx w.heap.size ω w9 (.slice sa sn sc) L5) := by unfold Hid; rw [← hW]; exact HL5.out.set _ _
    replace HOW : Hid (OwnS w2.heap.size w9 (.slice wa V.length wc) V) := by unfold Hid; rw [← hW]; exact ⟨owns_kept HOW.out.row fun j hj => Below.heap_setCell _ _ _ j (by have := (NV.out j hj).2; show j ≠ ω; omega), HOW.out.sz⟩
    replace HR : Hid (Rd w9 ρ (q + 3) bs) := by unfold Hid; rw [← hW]; exact HR.out.other (by omega) _
    replace HT : Hid (Tch ρ w w9) := by unfold Hid; rw [← hW]; exact HT.out.other (by omega) _
    clear hW
    have c : ∀ i, w9.cell? ⟨ω, i, none⟩ = #[.string k, .string n, .string t, .slice wa V.length wc, .bool false, .slice sa sn sc, .int .i64 (x5)][i]? := BO.out.cell
    have cl := BO.out.lt
    have r : ∀ i, w9.cell? ⟨w.heap.size, i, none⟩ = #[.string ⟨#[]⟩, .string ⟨#[]⟩, .string ⟨#[]⟩, .slice none 0 0, .bool false, .slice none 0 0, .int .i64 0][i]? := BR.out.cell
    have rf := BR.out.free
    have rl := BR.out.lt
    go_wp2
    refine bodyPost_ret (v := .agg #[.string k, .string n, .string t, .slice wa V.length wc, .bool false, .slice sa sn sc, .int .i64 (x5)]) (by simp [results, Tryz.results31, go_sem, r]) rfl ⟨k, n, t, .slice wa V.length wc, .slice sa sn sc, x5, V, L5, rfl, ⟨HSZ.out.1, HSZ.out.2.1, HSZ.out.2.2⟩, ?_, by omega, ?_, hL6, ⟨q + 3, by omega, by omega, ?_⟩, ?_⟩
    · refine ⟨ω, ?_⟩
      repeat (refine Tx.out ?_ _ _)
      exact TV.out
    · refine ⟨ω, ?_⟩
      repeat (refine Tx.out ?_ _ _)
      exact TH.out
    · repeat (refine Rd.other ?_ (by omega) _)
      exact HR.out
    · repeat (refine Tch.other ?_ (by omega) _)
      exact HT.out
  ·
    have c : ∀ i, w7.cell? ⟨ω, i, none⟩ = #[.string k, .string n, .string t, .slice wa V.length wc, .bool false, .slice ha hn' hc, .int .i64 (x5)][i]? := BO.out.cell
    have cf := BO.out.free
    have cl := BO.out.lt
    go_wp2_with fail
    clear c cf cl
    generalize hW : World.alloc w7 _ = w8
    have hr0 : Below w7.heap.size w7 w8 := by rw [← hW]; exact one_al _ _
    have WX : Hid (Box w8 w7.heap.size #[.int .i64 (-1), .int .i64 1000000, .int .i64 1000001]) := by unfold Hid; rw [← hW]; exact Box.new _ _ _ _ rfl
    have hr := HR.out.below hr0
    have ht : Tch ρ w7 w8 := Tch.below hr0
    have hgz := BO.out.lt
    clear hW hr0
    replace HR : Hid (Rd w8 ρ (q + 2) bs) := hr
    replace HT := hide (HT.out.trans ht)
    replace BR := hide (ht.box BR.out (by omega))
    replace BO := hide (ht.box BO.out (by omega))
    replace TV := hide (TV.out.tch ht (by omega))
    replace TH := hide (TH.out.tch ht (by omega))
    replace HOW := hide (ownS_tch HOW.out ht (by omega))
    clear hr ht
    refine (pick_any ρ _ bs 3 _ HR.out (by omega) (by decide) (by decide)).mono ?_
    rintro e w9 ⟨x7, rfl, hx70, hx71, hr, ht⟩
    replace WX := hide (ht.box WX.out (by omega))
    replace HR : Hid (Rd w9 ρ (q + 3) bs) := hr
    replace HT := hide (HT.out.trans ht)
    replace BR := hide (ht.box BR.out (by omega))
    replace BO := hide (ht.box BO.out (by omega))
    replace TV := hide (TV.out.tch ht (by omega))
    replace TH := hide (TH.out.tch ht (by omega))
    replace HOW := hide (ownS_tch HOW.out ht (by omega))
    clear hr ht
    obtain ⟨n7, rfl⟩ := Int.eq_ofNat_of_zero_le hx70
    obtain ⟨y, hy⟩ : ∃ y : Int, w9.cell? ⟨w7.heap.size, n7, none⟩ = some (.int .i64 y) := by
      have h3 : n7 = 0 ∨ n7 = 1 ∨ n7 = 2 := by omega
      rcases h3 with rfl | rfl | rfl
      · exact ⟨_, WX.out.cell 0⟩
      · exact ⟨_, WX.out.cell 1⟩
      · exact ⟨_, WX.out.cell 2⟩
    have hn7 : (n7 : Int) < 3 := hx71
    have c : ∀ i, w9.cell? ⟨ω, i, none⟩ = #[.string k, .string n, .string t, .slice wa V.length wc, .bool false, .slice ha hn' hc, .int .i64 (x5)][i]? := BO.out.cell
    have cf := BO.out.free
    have cl := BO.out.lt
    go_upto_region 19 with fail
    clear c cf cl
    clear hy
    generalize hW : World.setCell w9 ⟨ω, 6, none⟩ _ = w10
    replace BO : Hid (Box w10 ω #[.string k, .string n, .string t, .slice wa V.length wc, .bool false, .slice ha hn' hc, .int .i64 (y)]) := by unfold Hid; rw [← hW]; exact put_cell BO.out 6 (by simp) _
    replace BR : Hid (Box w10 w.heap.size #[.string ⟨#[]⟩, .string ⟨#[]⟩, .string ⟨#[]⟩, .slice none 0 0, .bool false, .slice none 0 0, .int .i64 0]) := by unfold Hid; rw [← hW]; exact box_other BR.out (by show w.heap.size ≠ ω; omega) _
    replace TV : Hid (Tx w.heap.size ω w10 (.slice wa V.length wc) V) := by unfold Hid; rw [← hW]; exact TV.out.set _ _
    replace TH : Hid (Tx w.heap.size ω w10 (.slice ha hn' hc) Ho) := by unfold Hid; rw [← hW]; exact TH.out.set _ _
    replace HOW : Hid (OwnS w2.heap.size w10 (.slice wa V.length wc) V) := by unfold Hid; rw [← hW]; exact ⟨owns_kept HOW.out.row fun j hj => Below.heap_setCell _ _ _ j (by have := (NV.out j hj).2; show j ≠ ω; omega), HOW.out.sz⟩
    replace HR : Hid (Rd w10 ρ (q + 3) bs) := by unfold Hid; rw [← hW]; exact HR.out.other (by omega) _
    replace HT : Hid (Tch ρ w w10) := by unfold Hid; rw [← hW]; exact HT.out.other (by omega) _
    clear hW
    have c : ∀ i, w10.cell? ⟨ω, i, none⟩ = #[.string k, .string n, .string t, .slice wa V.length wc, .bool false, .slice ha hn' hc, .int .i64 (y)][i]? := BO.out.cell
    have cl := BO.out.lt
    have r : ∀ i, w10.cell? ⟨w.heap.size, i, none⟩ = #[.string ⟨#[]⟩, .string ⟨#[]⟩, .string ⟨#[]⟩, .slice none 0 0, .bool false, .slice none 0 0, .int .i64 0][i]? := BR.out.cell
    have rf := BR.out.free
    have rl := BR.out.lt
    go_wp2
    refine bodyPost_ret (v := .agg #[.string k, .string n, .string t, .slice wa V.length wc, .bool false, .slice ha hn' hc, .int .i64 (y)]) (by simp [results, Tryz.results31, go_sem, r]) rfl ⟨k, n, t, .slice wa V.length wc, .slice ha hn' hc, y, V, Ho, rfl, ⟨HSZ.out.1, HSZ.out.2.1, HSZ.out.2.2⟩, ?_, by omega, ?_, by omega, ⟨q + 3, by omega, by omega, ?_⟩, ?_⟩
    · refine ⟨ω, ?_⟩
      repeat (refine Tx.out ?_ _ _)
      exact TV.out
    · refine ⟨ω, ?_⟩
      repeat (refine Tx.out ?_ _ _)
      exact TH.out
    · repeat (refine Rd.other ?_ (by omega) _)
      exact HR.out
    · repeat (refine Tch.other ?_ (by omega) _)
      exact HT.out
  ·
    have c : ∀ i, w7.cell? ⟨ω, i, none⟩ = #[.string k, .string n, .string t, .slice wa V.length wc, .bool false, .slice ha hn' hc, .int .i64 (x5)][i]? := BO.out.cell
    have cf := BO.out.free
    have cl := BO.out.lt
    go_wp2_with fail
    clear c cf cl
    refine (ofBuilt_any ρ _ bs _ _ 3 _ HR.out (by omega) (by decide) rfl (by decide) (by decide)).mono ?_
    rintro e w8 ⟨sn, rfl, hs, hr, ht⟩
    have HSN := hide hs
    clear hs
    replace HR : Hid (Rd w8 ρ (q + 3) bs) := hr
    replace HT := hide (HT.out.trans ht)
    replace BR := hide (ht.box BR.out (by omega))
    replace BO := hide (ht.box BO.out (by omega))
    replace TV := hide (TV.out.tch ht (by omega))
    replace TH := hide (TH.out.tch ht (by omega))
    replace HOW := hide (ownS_tch HOW.out ht (by omega))
    clear hr ht
    have c : ∀ i, w8.cell? ⟨ω, i, none⟩ = #[.string k, .string n, .string t, .slice wa V.length wc, .bool false, .slice ha hn' hc, .int .i64 (x5)][i]? := BO.out.cell
    have cf := BO.out.free
    have cl := BO.out.lt
    go_upto_region 19 with fail
    clear c cf cl
    generalize hW : World.setCell w8 ⟨ω, 0, none⟩ _ = w9
    replace BO : Hid (Box w9 ω #[.string sn, .string n, .string t, .slice wa V.length wc, .bool false, .slice ha hn' hc, .int .i64 (x5)]) := by unfold Hid; rw [← hW]; exact put_cell BO.out 0 (by simp) _
    replace BR : Hid (Box w9 w.heap.size #[.string ⟨#[]⟩, .string ⟨#[]⟩, .string ⟨#[]⟩, .slice none 0 0, .bool false, .slice none 0 0, .int .i64 0]) := by unfold Hid; rw [← hW]; exact box_other BR.out (by show w.heap.size ≠ ω; omega) _
    replace TV : Hid (Tx w.heap.size ω w9 (.slice wa V.length wc) V) := by unfold Hid; rw [← hW]; exact TV.out.set _ _
    replace TH : Hid (Tx w.heap.size ω w9 (.slice ha hn' hc) Ho) := by unfold Hid; rw [← hW]; exact TH.out.set _ _
    replace HOW : Hid (OwnS w2.heap.size w9 (.slice wa V.length wc) V) := by unfold Hid; rw [← hW]; exact ⟨owns_kept HOW.out.row fun j hj => Below.heap_setCell _ _ _ j (by have := (NV.out j hj).2; show j ≠ ω; omega), HOW.out.sz⟩
    replace HR : Hid (Rd w9 ρ (q + 3) bs) := by unfold Hid; rw [← hW]; exact HR.out.other (by omega) _
    replace HT : Hid (Tch ρ w w9) := by unfold Hid; rw [← hW]; exact HT.out.other (by omega) _
    clear hW
    have c : ∀ i, w9.cell? ⟨ω, i, none⟩ = #[.string sn, .string n, .string t, .slice wa V.length wc, .bool false, .slice ha hn' hc, .int .i64 (x5)][i]? := BO.out.cell
    have cl := BO.out.lt
    have r : ∀ i, w9.cell? ⟨w.heap.size, i, none⟩ = #[.string ⟨#[]⟩, .string ⟨#[]⟩, .string ⟨#[]⟩, .slice none 0 0, .bool false, .slice none 0 0, .int .i64 0][i]? := BR.out.cell
    have rf := BR.out.free
    have rl := BR.out.lt
    go_wp2
    refine bodyPost_ret (v := .agg #[.string sn, .string n, .string t, .slice wa V.length wc, .bool false, .slice ha hn' hc, .int .i64 (x5)]) (by simp [results, Tryz.results31, go_sem, r]) rfl ⟨sn, n, t, .slice wa V.length wc, .slice ha hn' hc, x5, V, Ho, rfl, ⟨HSN.out, HSZ.out.2.1, HSZ.out.2.2⟩, ?_, by omega, ?_, by omega, ⟨q + 3, by omega, by omega, ?_⟩, ?_⟩
    · refine ⟨ω, ?_⟩
      repeat (refine Tx.out ?_ _ _)
      exact TV.out
    · refine ⟨ω, ?_⟩
      repeat (refine Tx.out ?_ _ _)
      exact TH.out
    · repeat (refine Rd.other ?_ (by omega) _)
      exact HR.out
    · repeat (refine Tch.other ?_ (by omega) _)
      exact HT.out
  ·
    have g0 : (x9 == 0) = false := by rw [beq_eq_false_iff_ne]; omega
    have g1 : (x9 == 1) = false := by rw [beq_eq_false_iff_ne]; omega
    have g2 : (x9 == 2) = false := by rw [beq_eq_false_iff_ne]; omega
    have g3 : (x9 == 3) = false := by rw [beq_eq_false_iff_ne]; omega
    have g4 : (x9 == 4) = false := by rw [beq_eq_false_iff_ne]; omega
    have g5 : (x9 == 5) = false := by rw [beq_eq_false_iff_ne]; omega
    have g6 : (x9 == 6) = false := by rw [beq_eq_false_iff_ne]; omega
    go_upto_region 19 with fail
    have c : ∀ i, w7.cell? ⟨ω, i, none⟩ = #[.string k, .string n, .string t, .slice wa V.length wc, .bool false, .slice ha hn' hc, .int .i64 (x5)][i]? := BO.out.cell
    have cl := BO.out.lt
    have r : ∀ i, w7.cell? ⟨w.heap.size, i, none⟩ = #[.string ⟨#[]⟩, .string ⟨#[]⟩, .string ⟨#[]⟩, .slice none 0 0, .bool false, .slice none 0 0, .int .i64 0][i]? := BR.out.cell
    have rf := BR.out.free
    have rl := BR.out.lt
    go_wp2
    refine bodyPost_ret (v := .agg #[.string k, .string n, .string t, .slice wa V.length wc, .bool false, .slice ha hn' hc, .int .i64 (x5)]) (by simp [results, Tryz.results31, go_sem, r]) rfl ⟨k, n, t, .slice wa V.length wc, .slice ha hn' hc, x5, V, Ho, rfl, ⟨HSZ.out.1, HSZ.out.2.1, HSZ.out.2.2⟩, ?_, by omega, ?_, by omega, ⟨q + 2, by omega, by omega, ?_⟩, ?_⟩
    · refine ⟨ω, ?_⟩
      repeat (refine Tx.out ?_ _ _)
      exact TV.out
    · refine ⟨ω, ?_⟩
      repeat (refine Tx.out ?_ _ _)
      exact TH.out
    · repeat (refine Rd.other ?_ (by omega) _)
      exact HR.out
    · repeat (refine Tch.other ?_ (by omega) _)
      exact HT.out
end Go.Proofs.YtjkkbkdpoebfaaaGreat
