
import Derived.Test.YtgnodlkdjpnmoaaSVx
import Derived.Test.YtgnodlkdjpnmoaaW2
import Derived.Test.YtgnodlkdjpnmoaaW3
import Derived.Test.YtgnodlkdjpnmoaaO1
import Derived.Deep.RegionHeld3
import Derived.Deep.MidRow
namespace Go.Proofs.Ytgnodlkdjpnmoaa
open Go.RowKit Go.Deep

theorem strs_spread {w : World} {a : Option Addr} {n cap : Nat} {L : List ByteArray} (h : StrsAt w (.slice a n cap) L) (hL : 0 < L.length) :
    ∃ b off, a = some ⟨b, off, none⟩ ∧ b < w.heap.size ∧ (∀ i (h : i < L.length), w.cell? ⟨b, off + i, none⟩ = some (.string L[i])) ∧ ∀ s ∈ L, s.size ≤ maxLen := by
  rcases h with ⟨_, _, _, rfl⟩ | ⟨b, off, _, h1, _, _, h4, h5, h6⟩
  · simp at hL
  · cases h1
    exact ⟨b, off, rfl, h4, h5, h6⟩
theorem decR_num (s : ByteArray) : decR s = if numV s < 0 then 0 else numV s := by
  unfold decR numV
  split
  · rename_i h
    have h7 : s.size ≤ 7 ∧ allB digit s = true := by
      unfold decB inB at h
      simp only [Bool.and_eq_true, decide_eq_true_eq] at h
      exact ⟨by omega, h.2⟩
    have := valOf_take_bd s s.size (Nat.le_refl _) h7.1 (by
      rw [List.take_of_length_le (by simp)]
      exact h7.2)
    rw [decV_take (Nat.le_refl _)] at this
    rw [if_neg (by omega)]
  · simp
theorem decR_bd (s : ByteArray) : 0 ≤ decR s ∧ decR s ≤ 9999999 := by
  unfold decR
  split
  · rename_i h
    have h7 : s.size ≤ 7 ∧ allB digit s = true := by
      unfold decB inB at h
      simp only [Bool.and_eq_true, decide_eq_true_eq] at h
      exact ⟨by omega, h.2⟩
    have := valOf_take_bd s s.size (Nat.le_refl _) h7.1 (by
      rw [List.take_of_length_le (by simp)]
      exact h7.2)
    rw [decV_take (Nat.le_refl _)] at this
    omega
  · omega
theorem l31Value_any (s : ByteArray) (w : World) (hs : s.size ≤ maxLen) :
    Calls Try.prog 13 #[.string s] w fun e w' => e = .returned (.int .i64 (decR s)) ∧ w' = w := by
  have HE := hide (decR_num s)
  have HS := hide hs
  clear hs
  go_enter Try.func13, Try.ntmps13
  go_wp2_with fail
  refine (l1Number_any s _ HS.out).mono ?_
  rintro e w1 ⟨rfl, hw⟩
  have := hw.symm
  subst this
  generalize numV s = q at *
  by_cases hq : q < 0
  · rw [if_pos hq] at HE
    go_wp2
    go_ret
    exact ⟨ret_int HE.out.symm, rfl⟩
  · rw [if_neg hq] at HE
    go_wp2
    go_ret
    exact ⟨ret_int HE.out.symm, rfl⟩
/-- six texts in a row -/
structure Six (vb vo : Nat) (s0 s1 s2 s3 s4 s5 : ByteArray) (w : World) : Prop where
  c0 : w.cell? ⟨vb, vo, none⟩ = some (.string s0)
  c1 : w.cell? ⟨vb, vo + 1, none⟩ = some (.string s1)
  c2 : w.cell? ⟨vb, vo + 2, none⟩ = some (.string s2)
  c3 : w.cell? ⟨vb, vo + 3, none⟩ = some (.string s3)
  c4 : w.cell? ⟨vb, vo + 4, none⟩ = some (.string s4)
theorem Six.below {vb vo : Nat} {s0 s1 s2 s3 s4 s5 : ByteArray} {w w' : World} (h : Six vb vo s0 s1 s2 s3 s4 s5 w) {n : Nat} (hb : Below n w w') (hl : vb < n) : Six vb vo s0 s1 s2 s3 s4 s5 w' := by
  have e : ∀ i, w'.cell? ⟨vb, i, none⟩ = w.cell? ⟨vb, i, none⟩ := fun i => hb.cell (p := ⟨vb, i, none⟩) hl
  exact ⟨by rw [e]; exact h.c0, by rw [e]; exact h.c1, by rw [e]; exact h.c2, by rw [e]; exact h.c3, by rw [e]; exact h.c4⟩
def six (s0 s1 s2 s3 s4 s5 : ByteArray) : Nat → ByteArray
  | 0 => s0
  | 1 => s1
  | 2 => s2
  | 3 => s3
  | 4 => s4
  | _ => s5
section
variable (kind nm team : ByteArray) (en : Bool) (hv : Value) (ver : Int) (vb vo vc : Nat) (s0 s1 s2 s3 s4 s5 : ByteArray) (w : World)
theorem hallNumber_any (k : Nat) (hk : k < 5) (h6 : Six vb vo s0 s1 s2 s3 s4 s5 w) (hb : vb < w.heap.size) (hz : ∀ i, (six s0 s1 s2 s3 s4 s5 i).size ≤ maxLen) :
    Calls Try.prog 15 #[.agg #[.string kind, .string nm, .string team, .slice (some ⟨vb, vo, none⟩) 6 vc, .bool en, hv, .int .i64 ver], .int .i64 (k : Int)] w fun e w' => e = .returned (.int .i64 (decR (six s0 s1 s2 s3 s4 s5 k))) ∧ Below w.heap.size w w' := by
  have H6 : Hid (Six vb vo s0 s1 s2 s3 s4 s5 (w.alloc (.cells #[.string kind, .string nm, .string team, .slice (some ⟨vb, vo, none⟩) 6 vc, .bool en, hv, .int .i64 ver] 31))) := h6.below (one_al _ _) hb
  have HZ := hide hz
  clear h6 hz
  have hk' : k = 0 ∨ k = 1 ∨ k = 2 ∨ k = 3 ∨ k = 4 := by omega
  rcases hk' with rfl | rfl | rfl | rfl | rfl
  · have c := H6.out.c0
    go_enter Try.func15, Try.ntmps15
    go_wp2_with fail
    clear c
    refine (gateDecimal_any s0 _ (HZ.out 0)).mono ?_
    rintro e w1 ⟨rfl, hw⟩
    have := hw.symm
    subst this
    go_wp2
    go_ret
    exact ⟨rfl, one_al _ _⟩
  · have c := H6.out.c1
    go_enter Try.func15, Try.ntmps15
    go_wp2_with fail
    clear c
    refine (gateDecimal_any s1 _ (HZ.out 1)).mono ?_
    rintro e w1 ⟨rfl, hw⟩
    have := hw.symm
    subst this
    go_wp2
    go_ret
    exact ⟨rfl, one_al _ _⟩
  · have c := H6.out.c2
    go_enter Try.func15, Try.ntmps15
    go_wp2_with fail
    clear c
    refine (gateDecimal_any s2 _ (HZ.out 2)).mono ?_
    rintro e w1 ⟨rfl, hw⟩
    have := hw.symm
    subst this
    go_wp2
    go_ret
    exact ⟨rfl, one_al _ _⟩
  · have c := H6.out.c3
    go_enter Try.func15, Try.ntmps15
    go_wp2_with fail
    clear c
    refine (gateDecimal_any s3 _ (HZ.out 3)).mono ?_
    rintro e w1 ⟨rfl, hw⟩
    have := hw.symm
    subst this
    go_wp2
    go_ret
    exact ⟨rfl, one_al _ _⟩
  · have c := H6.out.c4
    go_enter Try.func15, Try.ntmps15
    go_wp2_with fail
    clear c
    refine (gateDecimal_any s4 _ (HZ.out 4)).mono ?_
    rintro e w1 ⟨rfl, hw⟩
    have := hw.symm
    subst this
    go_wp2
    go_ret
    exact ⟨rfl, one_al _ _⟩
end

theorem Box.put {w : World} {β : Nat} {cs : Array Value} (h : Box w β cs) (j : Nat) (hj : j < cs.size) (u : Value) : Box (w.setCell ⟨β, j, none⟩ u) β (cs.setIfInBounds j u) := by
  have hv : w.cell? ⟨β, j, none⟩ = some cs[j] := by rw [h.cell j, Array.getElem?_eq_getElem hj]
  refine ⟨by simpa [World.setCell] using h.lt, fun i => ?_, fun i => ?_⟩
  · by_cases e : i = j
    · subst e
      rw [show (w.setCell ⟨β, i, none⟩ u).cell? ⟨β, i, none⟩ = some u from by apply World.cell?_setCell_same; exact hv, Array.getElem?_setIfInBounds_self_of_lt hj]
    · rw [show (w.setCell ⟨β, j, none⟩ u).cell? ⟨β, i, none⟩ = w.cell? ⟨β, i, none⟩ from by apply World.cell?_setCell_other; simp, h.cell i, Array.getElem?_setIfInBounds_ne (by omega)]
  · rw [World.frozen?_setCell]; exact h.free i
theorem Box.other {w : World} {β : Nat} {cs : Array Value} (h : Box w β cs) {p : Addr} (hp : β ≠ p.block) (u : Value) : Box (w.setCell p u) β cs :=
  ⟨by simpa [World.setCell] using h.lt, fun i => (cell_setCell_ne w p ⟨β, i, none⟩ u hp).trans (h.cell i), fun i => (World.frozen?_of_block (w := w) (a := ⟨β, i, none⟩) (Below.heap_setCell w p u β hp)).trans (h.free i)⟩

def hallSv (nm : ByteArray) (en : Bool) (V : List ByteArray) (old : Sv) : Sv :=
  match V with
  | [s0, s1, s2, s3, s4, _] => if decR s4 = 0 then ⟨nm, 0, en, decR s0, decR s1, decR s2, decR s3, 0, 0, 0, 0, 0, 0⟩
      else ⟨nm, 0, en, decR s0, if old.wa < decR s1 then old.wa else decR s1, decR s2, decR s3, 0, decR s4, 0, decR s1, old.ld, 0⟩
  | _ => ⟨⟨#[]⟩, 0, false, 0, 0, 0, 0, 0, 0, 0, 0, 0, 0⟩
theorem six_list {V : List ByteArray} (h : V.length = 6) : ∃ s0 s1 s2 s3 s4 s5, V = [s0, s1, s2, s3, s4, s5] := by
  match V, h with
  | [s0, s1, s2, s3, s4, s5], _ => exact ⟨s0, s1, s2, s3, s4, s5, rfl⟩
theorem hallSv_no {nm : ByteArray} {en : Bool} {V : List ByteArray} {old : Sv} (h : V.length ≠ 6) : hallSv nm en V old = ⟨⟨#[]⟩, 0, false, 0, 0, 0, 0, 0, 0, 0, 0, 0, 0⟩ := by
  unfold hallSv
  split
  · simp at h
  · rfl
theorem hallSv_size {nm : ByteArray} {en : Bool} {V : List ByteArray} {old : Sv} (h : nm.size ≤ maxLen) : SvSize (hallSv nm en V old) := by
  unfold hallSv
  split
  · split <;> exact ⟨h⟩
  · exact ⟨Nat.zero_le _⟩
set_option maxRecDepth 20000 in
set_option maxHeartbeats 8000000 in
theorem specService_any (kind nm team : ByteArray) (vv hv : Value) (en : Bool) (ver : Int) (V : List ByteArray) (old : Sv) (w : World) (hV : StrsAt w vv V) :
    Calls Try.prog 6 #[.agg #[.string kind, .string nm, .string team, vv, .bool en, hv, .int .i64 ver], .agg (svL old).toArray] w
      fun e w' => e = .returned (.agg (svL (hallSv nm en V old)).toArray) ∧ Below w.heap.size w w' := by
  by_cases hL : V.length = 6
  case neg =>
    have HE : Hid (hallSv nm en V old = ⟨⟨#[]⟩, 0, false, 0, 0, 0, 0, 0, 0, 0, 0, 0, 0⟩) := hallSv_no hL
    obtain ⟨va, vc, rfl⟩ := hV.form'
    have hl : ¬ ((V.length : Int) = 6) := by omega
    clear hV hL
    go_enter Try.func6, Try.ntmps6
    unfold svL
    go_wp2
    refine bodyPost_ret (v := .agg #[.string ⟨#[]⟩, .int .i64 0, .bool false, .int .i64 0, .int .i64 0, .int .i64 0, .int .i64 0, .int .i64 0, .int .i64 0, .int .i64 0, .int .i64 0, .int .i64 0, .int .i64 0]) (by simp [results, Try.results6, go_sem]) rfl ⟨by rw [HE.out], ?_⟩
    repeat (refine Below.setCell ?_ (by simp; try omega) _)
    exact (((Below.refl _ _).alloc (Nat.le_refl _) _).alloc (by simp) _).alloc (by simp; omega) _
  obtain ⟨s0, s1, s2, s3, s4, s5, rfl⟩ := six_list hL
  obtain ⟨va, vc, rfl⟩ := hV.form'
  obtain ⟨vb, vo, rfl, hvb, hc, hz⟩ := strs_spread hV (by simp)
  have H6 : Hid (Six vb vo s0 s1 s2 s3 s4 s5 w) := ⟨hc 0 (by simp), hc 1 (by simp), hc 2 (by simp), hc 3 (by simp), hc 4 (by simp)⟩
  have HZ : Hid (∀ i, (six s0 s1 s2 s3 s4 s5 i).size ≤ maxLen) := fun i => by
    unfold six
    split <;> exact hz _ (by simp)
  clear hV hc hz hL
  have HE : Hid (hallSv nm en [s0, s1, s2, s3, s4, s5] old = if decR s4 = 0 then ⟨nm, 0, en, decR s0, decR s1, decR s2, decR s3, 0, 0, 0, 0, 0, 0⟩ else ⟨nm, 0, en, decR s0, if old.wa < decR s1 then old.wa else decR s1, decR s2, decR s3, 0, decR s4, 0, decR s1, old.ld, 0⟩) := rfl
  have HN4 : Hid (0 ≤ decR s4) := (decR_bd s4).1
  generalize hallSv nm en [s0, s1, s2, s3, s4, s5] old = R at *
  go_enter Try.func6, Try.ntmps6
  try simp only [List.length_cons, List.length_nil, Nat.reduceAdd]
  go_upto_region 3 with fail
  generalize hWa : World.alloc (World.alloc (World.alloc w _) _) _ = w1
  have HB : Hid (Below w.heap.size w w1) := by unfold Hid; rw [← hWa]; exact ((one_al w _).alloc (by simp) _).alloc (by simp; omega) _
  have FO : Hid (Box w1 w.heap.size #[.string kind, .string nm, .string team, .slice (some ⟨vb, vo, none⟩) 6 vc, .bool en, hv, .int .i64 ver]) := by unfold Hid; rw [← hWa]; exact ((Box.new _ _ _ _ rfl).on (one_al _ _)).on (one_al _ _)
  have FD : Hid (Box w1 (w.heap.size + 1) (svL old).toArray) := by unfold Hid; rw [← hWa]; exact (Box.new _ _ _ _ (by simp)).on (one_al _ _)
  have FR : Hid (Box w1 (w.heap.size + 2) #[.string ⟨#[]⟩, .int .i64 0, .bool false, .int .i64 0, .int .i64 0, .int .i64 0, .int .i64 0, .int .i64 0, .int .i64 0, .int .i64 0, .int .i64 0, .int .i64 0, .int .i64 0]) := by unfold Hid; rw [← hWa]; exact Box.new _ _ _ _ (by simp)
  have hsz : w1.heap.size = w.heap.size + 3 := by rw [← hWa]; simp
  have HSZ := hide hsz
  clear hWa
  have H61 := hide (H6.out.below HB.out hvb)
  have hvb1 : vb < w1.heap.size := by omega
  have KP : Hid (∀ W, Below w1.heap.size w1 W → (∀ i, W.cell? ⟨w.heap.size, i, none⟩ = #[.string kind, .string nm, .string team, .slice (some ⟨vb, vo, none⟩) 6 vc, .bool en, hv, .int .i64 ver][i]?) ∧ Six vb vo s0 s1 s2 s3 s4 s5 W) := fun W hW => ⟨(FO.out.on hW).cell, H61.out.below hW hvb1⟩
  clear hsz
  go_cut [5] (fun p wc => ∃ β, p = .pointer (some ⟨β, 0, none⟩) ∧ Below w1.heap.size w1 wc ∧ Box wc β #[.string nm, .int .i64 0, .bool en, .int .i64 (decR s0), .int .i64 (decR s1), .int .i64 (decR s2), .int .i64 (decR s3), .int .i64 0, .int .i64 (decR s4), .int .i64 0, .int .i64 0, .int .i64 0, .int .i64 0] ∧ w1.heap.size ≤ β)
  case first =>
    refine wp_region_held_drew (S := (fun W => (∀ i, W.cell? ⟨w.heap.size, i, none⟩ = #[.string kind, .string nm, .string team, .slice (some ⟨vb, vo, none⟩) 6 vc, .bool en, hv, .int .i64 ver][i]?) ∧ Six vb vo s0 s1 s2 s3 s4 s5 W)) (by kernel_rfl) (KP.out _ ((Below.refl _ _).drew)) (fun hHeld => ?_)
    refine wpAnyH_take (i := 0) (v := .pointer (some ⟨w.heap.size, 1, none⟩)) rfl (by kernel_rfl) (by kernel_rfl) (by kernel_rfl) (fun _ _ _ h => h) (Or.inl ⟨by rfl, fun W hW => by obtain ⟨hq, c0, c1, c2, c3, c4⟩ := hW; go_simp⟩) hHeld ?_
    try simp only [Act.put, List.getElem_toArray, List.getElem_cons_zero, List.setIfInBounds_toArray, List.set_cons_zero, List.set_cons_succ]
    refine wpAnyH_take (i := 1) (v := .string nm) rfl (by kernel_rfl) (by kernel_rfl) (by kernel_rfl) (fun _ _ _ h => h) (Or.inl ⟨by rfl, fun W hW => by obtain ⟨hq, c0, c1, c2, c3, c4⟩ := hW; go_simp⟩) hHeld ?_
    try simp only [Act.put, List.getElem_toArray, List.getElem_cons_succ, List.getElem_cons_zero, List.setIfInBounds_toArray, List.set_cons_zero, List.set_cons_succ]
    refine wpAnyH_take (i := 2) (v := .pointer (some ⟨w.heap.size, 4, none⟩)) rfl (by kernel_rfl) (by kernel_rfl) (by kernel_rfl) (fun _ _ _ h => h) (Or.inl ⟨by rfl, fun W hW => by obtain ⟨hq, c0, c1, c2, c3, c4⟩ := hW; go_simp⟩) hHeld ?_
    try simp only [Act.put, List.getElem_toArray, List.getElem_cons_succ, List.getElem_cons_zero, List.setIfInBounds_toArray, List.set_cons_zero, List.set_cons_succ]
    refine wpAnyH_take (i := 3) (v := .bool en) rfl (by kernel_rfl) (by kernel_rfl) (by kernel_rfl) (fun _ _ _ h => h) (Or.inl ⟨by rfl, fun W hW => by obtain ⟨hq, c0, c1, c2, c3, c4⟩ := hW; go_simp⟩) hHeld ?_
    try simp only [Act.put, List.getElem_toArray, List.getElem_cons_succ, List.getElem_cons_zero, List.setIfInBounds_toArray, List.set_cons_zero, List.set_cons_succ]
    refine wpAnyH_take (i := 4) (v := .pointer (some ⟨w.heap.size, 3, none⟩)) rfl (by kernel_rfl) (by kernel_rfl) (by kernel_rfl) (fun _ _ _ h => h) (Or.inl ⟨by rfl, fun W hW => by obtain ⟨hq, c0, c1, c2, c3, c4⟩ := hW; go_simp⟩) hHeld ?_
    try simp only [Act.put, List.getElem_toArray, List.getElem_cons_succ, List.getElem_cons_zero, List.setIfInBounds_toArray, List.set_cons_zero, List.set_cons_succ]
    refine wpAnyH_take (i := 5) (v := .slice (some ⟨vb, vo, none⟩) 6 vc) rfl (by kernel_rfl) (by kernel_rfl) (by kernel_rfl) (fun _ _ _ h => h) (Or.inl ⟨by rfl, fun W hW => by obtain ⟨hq, c0, c1, c2, c3, c4⟩ := hW; go_simp⟩) hHeld ?_
    try simp only [Act.put, List.getElem_toArray, List.getElem_cons_succ, List.getElem_cons_zero, List.setIfInBounds_toArray, List.set_cons_zero, List.set_cons_succ]
    refine wpAnyH_take (i := 6) (v := .pointer (some ⟨vb, vo, none⟩)) rfl (by kernel_rfl) (by kernel_rfl) (by kernel_rfl) (fun _ _ _ h => h) (Or.inl ⟨by rfl, fun W hW => by obtain ⟨hq, c0, c1, c2, c3, c4⟩ := hW; go_simp⟩) hHeld ?_
    try simp only [Act.put, List.getElem_toArray, List.getElem_cons_succ, List.getElem_cons_zero, List.setIfInBounds_toArray, List.set_cons_zero, List.set_cons_succ]
    refine wpAnyH_take (i := 7) (v := .string s0) rfl (by kernel_rfl) (by kernel_rfl) (by kernel_rfl) (fun _ _ _ h => h) (Or.inl ⟨by rfl, fun W hW => by obtain ⟨hq, c0, c1, c2, c3, c4⟩ := hW; go_simp⟩) hHeld ?_
    try simp only [Act.put, List.getElem_toArray, List.getElem_cons_succ, List.getElem_cons_zero, List.setIfInBounds_toArray, List.set_cons_zero, List.set_cons_succ]
    refine wpAnyH_take (i := 9) (v := .pointer (some ⟨w.heap.size, 3, none⟩)) rfl (by kernel_rfl) (by kernel_rfl) (by kernel_rfl) (fun _ _ _ h => h) (Or.inl ⟨by rfl, fun W hW => by obtain ⟨hq, c0, c1, c2, c3, c4⟩ := hW; go_simp⟩) hHeld ?_
    try simp only [Act.put, List.getElem_toArray, List.getElem_cons_succ, List.getElem_cons_zero, List.setIfInBounds_toArray, List.set_cons_zero, List.set_cons_succ]
    refine wpAnyH_take (i := 10) (v := .slice (some ⟨vb, vo, none⟩) 6 vc) rfl (by kernel_rfl) (by kernel_rfl) (by kernel_rfl) (fun _ _ _ h => h) (Or.inl ⟨by rfl, fun W hW => by obtain ⟨hq, c0, c1, c2, c3, c4⟩ := hW; go_simp⟩) hHeld ?_
    try simp only [Act.put, List.getElem_toArray, List.getElem_cons_succ, List.getElem_cons_zero, List.setIfInBounds_toArray, List.set_cons_zero, List.set_cons_succ]
    refine wpAnyH_take (i := 11) (v := .pointer (some ⟨vb, vo + 1, none⟩)) rfl (by kernel_rfl) (by kernel_rfl) (by kernel_rfl) (fun _ _ _ h => h) (Or.inl ⟨by rfl, fun W hW => by obtain ⟨hq, c0, c1, c2, c3, c4⟩ := hW; go_simp⟩) hHeld ?_
    try simp only [Act.put, List.getElem_toArray, List.getElem_cons_succ, List.getElem_cons_zero, List.setIfInBounds_toArray, List.set_cons_zero, List.set_cons_succ]
    refine wpAnyH_take (i := 12) (v := .string s1) rfl (by kernel_rfl) (by kernel_rfl) (by kernel_rfl) (fun _ _ _ h => h) (Or.inl ⟨by rfl, fun W hW => by obtain ⟨hq, c0, c1, c2, c3, c4⟩ := hW; go_simp⟩) hHeld ?_
    try simp only [Act.put, List.getElem_toArray, List.getElem_cons_succ, List.getElem_cons_zero, List.setIfInBounds_toArray, List.set_cons_zero, List.set_cons_succ]
    refine wpAnyH_take (i := 14) (v := .pointer (some ⟨w.heap.size, 3, none⟩)) rfl (by kernel_rfl) (by kernel_rfl) (by kernel_rfl) (fun _ _ _ h => h) (Or.inl ⟨by rfl, fun W hW => by obtain ⟨hq, c0, c1, c2, c3, c4⟩ := hW; go_simp⟩) hHeld ?_
    try simp only [Act.put, List.getElem_toArray, List.getElem_cons_succ, List.getElem_cons_zero, List.setIfInBounds_toArray, List.set_cons_zero, List.set_cons_succ]
    refine wpAnyH_take (i := 15) (v := .slice (some ⟨vb, vo, none⟩) 6 vc) rfl (by kernel_rfl) (by kernel_rfl) (by kernel_rfl) (fun _ _ _ h => h) (Or.inl ⟨by rfl, fun W hW => by obtain ⟨hq, c0, c1, c2, c3, c4⟩ := hW; go_simp⟩) hHeld ?_
    try simp only [Act.put, List.getElem_toArray, List.getElem_cons_succ, List.getElem_cons_zero, List.setIfInBounds_toArray, List.set_cons_zero, List.set_cons_succ]
    refine wpAnyH_take (i := 16) (v := .pointer (some ⟨vb, vo + 2, none⟩)) rfl (by kernel_rfl) (by kernel_rfl) (by kernel_rfl) (fun _ _ _ h => h) (Or.inl ⟨by rfl, fun W hW => by obtain ⟨hq, c0, c1, c2, c3, c4⟩ := hW; go_simp⟩) hHeld ?_
    try simp only [Act.put, List.getElem_toArray, List.getElem_cons_succ, List.getElem_cons_zero, List.setIfInBounds_toArray, List.set_cons_zero, List.set_cons_succ]
    refine wpAnyH_take (i := 17) (v := .string s2) rfl (by kernel_rfl) (by kernel_rfl) (by kernel_rfl) (fun _ _ _ h => h) (Or.inl ⟨by rfl, fun W hW => by obtain ⟨hq, c0, c1, c2, c3, c4⟩ := hW; go_simp⟩) hHeld ?_
    try simp only [Act.put, List.getElem_toArray, List.getElem_cons_succ, List.getElem_cons_zero, List.setIfInBounds_toArray, List.set_cons_zero, List.set_cons_succ]
    refine wpAnyH_take (i := 19) (v := .pointer (some ⟨w.heap.size, 3, none⟩)) rfl (by kernel_rfl) (by kernel_rfl) (by kernel_rfl) (fun _ _ _ h => h) (Or.inl ⟨by rfl, fun W hW => by obtain ⟨hq, c0, c1, c2, c3, c4⟩ := hW; go_simp⟩) hHeld ?_
    try simp only [Act.put, List.getElem_toArray, List.getElem_cons_succ, List.getElem_cons_zero, List.setIfInBounds_toArray, List.set_cons_zero, List.set_cons_succ]
    refine wpAnyH_take (i := 20) (v := .slice (some ⟨vb, vo, none⟩) 6 vc) rfl (by kernel_rfl) (by kernel_rfl) (by kernel_rfl) (fun _ _ _ h => h) (Or.inl ⟨by rfl, fun W hW => by obtain ⟨hq, c0, c1, c2, c3, c4⟩ := hW; go_simp⟩) hHeld ?_
    try simp only [Act.put, List.getElem_toArray, List.getElem_cons_succ, List.getElem_cons_zero, List.setIfInBounds_toArray, List.set_cons_zero, List.set_cons_succ]
    refine wpAnyH_take (i := 21) (v := .pointer (some ⟨vb, vo + 3, none⟩)) rfl (by kernel_rfl) (by kernel_rfl) (by kernel_rfl) (fun _ _ _ h => h) (Or.inl ⟨by rfl, fun W hW => by obtain ⟨hq, c0, c1, c2, c3, c4⟩ := hW; go_simp⟩) hHeld ?_
    try simp only [Act.put, List.getElem_toArray, List.getElem_cons_succ, List.getElem_cons_zero, List.setIfInBounds_toArray, List.set_cons_zero, List.set_cons_succ]
    refine wpAnyH_take (i := 22) (v := .string s3) rfl (by kernel_rfl) (by kernel_rfl) (by kernel_rfl) (fun _ _ _ h => h) (Or.inl ⟨by rfl, fun W hW => by obtain ⟨hq, c0, c1, c2, c3, c4⟩ := hW; go_simp⟩) hHeld ?_
    try simp only [Act.put, List.getElem_toArray, List.getElem_cons_succ, List.getElem_cons_zero, List.setIfInBounds_toArray, List.set_cons_zero, List.set_cons_succ]
    refine wpAnyH_take (i := 24) (v := .pointer (some ⟨w.heap.size, 3, none⟩)) rfl (by kernel_rfl) (by kernel_rfl) (by kernel_rfl) (fun _ _ _ h => h) (Or.inl ⟨by rfl, fun W hW => by obtain ⟨hq, c0, c1, c2, c3, c4⟩ := hW; go_simp⟩) hHeld ?_
    try simp only [Act.put, List.getElem_toArray, List.getElem_cons_succ, List.getElem_cons_zero, List.setIfInBounds_toArray, List.set_cons_zero, List.set_cons_succ]
    refine wpAnyH_take (i := 25) (v := .slice (some ⟨vb, vo, none⟩) 6 vc) rfl (by kernel_rfl) (by kernel_rfl) (by kernel_rfl) (fun _ _ _ h => h) (Or.inl ⟨by rfl, fun W hW => by obtain ⟨hq, c0, c1, c2, c3, c4⟩ := hW; go_simp⟩) hHeld ?_
    try simp only [Act.put, List.getElem_toArray, List.getElem_cons_succ, List.getElem_cons_zero, List.setIfInBounds_toArray, List.set_cons_zero, List.set_cons_succ]
    refine wpAnyH_take (i := 26) (v := .pointer (some ⟨vb, vo + 4, none⟩)) rfl (by kernel_rfl) (by kernel_rfl) (by kernel_rfl) (fun _ _ _ h => h) (Or.inl ⟨by rfl, fun W hW => by obtain ⟨hq, c0, c1, c2, c3, c4⟩ := hW; go_simp⟩) hHeld ?_
    try simp only [Act.put, List.getElem_toArray, List.getElem_cons_succ, List.getElem_cons_zero, List.setIfInBounds_toArray, List.set_cons_zero, List.set_cons_succ]
    refine wpAnyH_take (i := 27) (v := .string s4) rfl (by kernel_rfl) (by kernel_rfl) (by kernel_rfl) (fun _ _ _ h => h) (Or.inl ⟨by rfl, fun W hW => by obtain ⟨hq, c0, c1, c2, c3, c4⟩ := hW; go_simp⟩) hHeld ?_
    try simp only [Act.put, List.getElem_toArray, List.getElem_cons_succ, List.getElem_cons_zero, List.setIfInBounds_toArray, List.set_cons_zero, List.set_cons_succ]
    refine wpAnyH_ready (rs := [8, 30]) (by kernel_rfl) (by simp) ?_
    refine AllReadyH.cons rfl (fun KK hK => ?_) (AllReadyH.cons rfl (fun KK hK => ?_) AllReadyH.nil)
    ·
      go_simp
      refine (l31Value_any s0 _ (HZ.out 0)).mono ?_
      rintro e v1 ⟨rfl, hw⟩
      have CN : Hid (Below w1.heap.size w1 v1) := by unfold Hid; rw [hw]; exact ((Below.refl _ _).drew)
      clear hw
      have CC := CN
      clear CN
      have hy1 := CC.out.size
      try go_wp2_with fail
      refine hK.out _ _ (KP.out _ CC.out) (fun hHeld => ?_)
      clear hK KK
      try simp only [Act.put, List.getElem_toArray, List.getElem_cons_succ, List.getElem_cons_zero, List.setIfInBounds_toArray, List.set_cons_zero, List.set_cons_succ]
      refine wpAnyH_ready (rs := [13, 30]) (by kernel_rfl) (by simp) ?_
      refine AllReadyH.cons rfl (fun KK hK => ?_) (AllReadyH.cons rfl (fun KK hK => ?_) AllReadyH.nil)
      ·
        go_simp
        refine (l31Value_any s1 _ (HZ.out 1)).mono ?_
        rintro e v2 ⟨rfl, hw⟩
        have CN : Hid (Below w1.heap.size w1 v2) := by unfold Hid; rw [hw]; exact CC.out
        clear hw
        clear CC
        have CC := CN
        clear CN
        have hy2 := CC.out.size
        try go_wp2_with fail
        refine hK.out _ _ (KP.out _ CC.out) (fun hHeld => ?_)
        clear hK KK
        try simp only [Act.put, List.getElem_toArray, List.getElem_cons_succ, List.getElem_cons_zero, List.setIfInBounds_toArray, List.set_cons_zero, List.set_cons_succ]
        refine wpAnyH_ready (rs := [18, 30]) (by kernel_rfl) (by simp) ?_
        refine AllReadyH.cons rfl (fun KK hK => ?_) (AllReadyH.cons rfl (fun KK hK => ?_) AllReadyH.nil)
        ·
          go_simp
          refine (l31Value_any s2 _ (HZ.out 2)).mono ?_
          rintro e v3 ⟨rfl, hw⟩
          have CN : Hid (Below w1.heap.size w1 v3) := by unfold Hid; rw [hw]; exact CC.out
          clear hw
          clear CC
          have CC := CN
          clear CN
          have hy3 := CC.out.size
          try go_wp2_with fail
          refine hK.out _ _ (KP.out _ CC.out) (fun hHeld => ?_)
          clear hK KK
          try simp only [Act.put, List.getElem_toArray, List.getElem_cons_succ, List.getElem_cons_zero, List.setIfInBounds_toArray, List.set_cons_zero, List.set_cons_succ]
          refine wpAnyH_ready (rs := [23, 30]) (by kernel_rfl) (by simp) ?_
          refine AllReadyH.cons rfl (fun KK hK => ?_) (AllReadyH.cons rfl (fun KK hK => ?_) AllReadyH.nil)
          ·
            go_simp
            refine (l31Value_any s3 _ (HZ.out 3)).mono ?_
            rintro e v4 ⟨rfl, hw⟩
            have CN : Hid (Below w1.heap.size w1 v4) := by unfold Hid; rw [hw]; exact CC.out
            clear hw
            clear CC
            have CC := CN
            clear CN
            have hy4 := CC.out.size
            try go_wp2_with fail
            refine hK.out _ _ (KP.out _ CC.out) (fun hHeld => ?_)
            clear hK KK
            try simp only [Act.put, List.getElem_toArray, List.getElem_cons_succ, List.getElem_cons_zero, List.setIfInBounds_toArray, List.set_cons_zero, List.set_cons_succ]
            refine wpAnyH_ready (rs := [28, 30]) (by kernel_rfl) (by simp) ?_
            refine AllReadyH.cons rfl (fun KK hK => ?_) (AllReadyH.cons rfl (fun KK hK => ?_) AllReadyH.nil)
            ·
              go_simp
              refine (l31Value_any s4 _ (HZ.out 4)).mono ?_
              rintro e v5 ⟨rfl, hw⟩
              have CN : Hid (Below w1.heap.size w1 v5) := by unfold Hid; rw [hw]; exact CC.out
              clear hw
              clear CC
              have CC := CN
              clear CN
              have hy5 := CC.out.size
              try go_wp2_with fail
              refine hK.out _ _ (KP.out _ CC.out) (fun hHeld => ?_)
              clear hK KK
              try simp only [Act.put, List.getElem_toArray, List.getElem_cons_succ, List.getElem_cons_zero, List.setIfInBounds_toArray, List.set_cons_zero, List.set_cons_succ]
              refine wpAnyH_take (i := 29) (v := .agg #[.string nm, .int .i64 0, .bool en, .int .i64 (decR s0), .int .i64 (decR s1), .int .i64 (decR s2), .int .i64 (decR s3), .int .i64 0, .int .i64 (decR s4), .int .i64 0, .int .i64 0, .int .i64 0, .int .i64 0]) rfl (by kernel_rfl) (by kernel_rfl) (by kernel_rfl) (fun _ _ _ h => h) (Or.inl ⟨by rfl, fun W hW => by go_simp⟩) hHeld ?_
              try simp only [Act.put, List.getElem_toArray, List.getElem_cons_succ, List.getElem_cons_zero, List.setIfInBounds_toArray, List.set_cons_zero, List.set_cons_succ]
              refine wpAnyH_ready (rs := [30]) (by kernel_rfl) (by simp) ?_
              refine AllReadyH.cons rfl (fun KK hK => ?_) AllReadyH.nil
              go_simp
              obtain ⟨v6, hv'⟩ : ∃ vv, vv = v5.alloc (.cells #[.string ⟨#[]⟩, .int .i64 0, .bool false, .int .i64 0, .int .i64 0, .int .i64 0, .int .i64 0, .int .i64 0, .int .i64 0, .int .i64 0, .int .i64 0, .int .i64 0, .int .i64 0] 29) := ⟨_, rfl⟩
              rw [← hv']
              have hb : Below v5.heap.size v5 v6 := by rw [hv']; exact one_al _ _
              have BX : Hid (Box v6 v5.heap.size #[.string ⟨#[]⟩, .int .i64 0, .bool false, .int .i64 0, .int .i64 0, .int .i64 0, .int .i64 0, .int .i64 0, .int .i64 0, .int .i64 0, .int .i64 0, .int .i64 0, .int .i64 0]) := by unfold Hid; rw [hv']; exact Box.new _ _ _ _ rfl
              clear hv'
              replace CC : Hid (Below w1.heap.size w1 v6) := bt CC.out hb
              clear hb
              have hy6 := CC.out.size
              have hx6 := BX.out.lt
              refine hK.out _ _ (KP.out _ CC.out) (fun hHeld => ?_)
              clear hK KK
              try simp only [Act.put, List.getElem_toArray, List.getElem_cons_succ, List.getElem_cons_zero, List.setIfInBounds_toArray, List.set_cons_zero, List.set_cons_succ]
              refine wpAnyH_ready (rs := [31]) (by kernel_rfl) (by simp) ?_
              refine AllReadyH.cons rfl (fun KK hK => ?_) AllReadyH.nil
              have HTH : Hid (World.there v6 (v5.heap.size) 0 13) := BX.out.there rfl
              rw [if_pos (by rfl)]
              refine wp_store_mid 29 (.tmp 5) (.tmp 40) rfl (v5.heap.size) 0 #[.string nm, .int .i64 0, .bool en, .int .i64 (decR s0), .int .i64 (decR s1), .int .i64 (decR s2), .int .i64 (decR s3), .int .i64 0, .int .i64 (decR s4), .int .i64 0, .int .i64 0, .int .i64 0, .int .i64 0] rfl rfl HTH.out Sv_sizeI (by simp [Value.oneCell']) ?_
              refine hK.out _ _ (KP.out _ (Below.sets (by omega) _ _ CC.out)) (fun hHeld => ?_)
              clear hK KK
              try simp only [Act.put, List.getElem_toArray, List.getElem_cons_succ, List.getElem_cons_zero]
              refine wpAnyH_done (by kernel_rfl) ?_ _
              go_wp2
              go_meet
              exact ⟨v5.heap.size, rfl, Below.sets (by omega) _ _ CC.out, BX.out.full rfl, by omega⟩
            ·
              go_simp
              obtain ⟨v5, hv'⟩ : ∃ vv, vv = v4.alloc (.cells #[.string ⟨#[]⟩, .int .i64 0, .bool false, .int .i64 0, .int .i64 0, .int .i64 0, .int .i64 0, .int .i64 0, .int .i64 0, .int .i64 0, .int .i64 0, .int .i64 0, .int .i64 0] 29) := ⟨_, rfl⟩
              rw [← hv']
              have hb : Below v4.heap.size v4 v5 := by rw [hv']; exact one_al _ _
              have BX : Hid (Box v5 v4.heap.size #[.string ⟨#[]⟩, .int .i64 0, .bool false, .int .i64 0, .int .i64 0, .int .i64 0, .int .i64 0, .int .i64 0, .int .i64 0, .int .i64 0, .int .i64 0, .int .i64 0, .int .i64 0]) := by unfold Hid; rw [hv']; exact Box.new _ _ _ _ rfl
              clear hv'
              replace CC : Hid (Below w1.heap.size w1 v5) := bt CC.out hb
              clear hb
              have hy5 := CC.out.size
              have hx5 := BX.out.lt
              refine hK.out _ _ (KP.out _ CC.out) (fun hHeld => ?_)
              clear hK KK
              try simp only [Act.put, List.getElem_toArray, List.getElem_cons_succ, List.getElem_cons_zero, List.setIfInBounds_toArray, List.set_cons_zero, List.set_cons_succ]
              refine wpAnyH_ready (rs := [28]) (by kernel_rfl) (by simp) ?_
              refine AllReadyH.cons rfl (fun KK hK => ?_) AllReadyH.nil
              go_simp
              refine (l31Value_any s4 _ (HZ.out 4)).mono ?_
              rintro e v6 ⟨rfl, hw⟩
              have CN : Hid (Below w1.heap.size w1 v6) := by unfold Hid; rw [hw]; exact CC.out
              replace BX : Hid (Box v6 (v4.heap.size) #[.string ⟨#[]⟩, .int .i64 0, .bool false, .int .i64 0, .int .i64 0, .int .i64 0, .int .i64 0, .int .i64 0, .int .i64 0, .int .i64 0, .int .i64 0, .int .i64 0, .int .i64 0]) := by unfold Hid; rw [hw]; exact BX.out
              clear hw
              clear CC
              have CC := CN
              clear CN
              have hy6 := CC.out.size
              try go_wp2_with fail
              have hx6 := BX.out.lt
              refine hK.out _ _ (KP.out _ CC.out) (fun hHeld => ?_)
              clear hK KK
              try simp only [Act.put, List.getElem_toArray, List.getElem_cons_succ, List.getElem_cons_zero, List.setIfInBounds_toArray, List.set_cons_zero, List.set_cons_succ]
              refine wpAnyH_take (i := 29) (v := .agg #[.string nm, .int .i64 0, .bool en, .int .i64 (decR s0), .int .i64 (decR s1), .int .i64 (decR s2), .int .i64 (decR s3), .int .i64 0, .int .i64 (decR s4), .int .i64 0, .int .i64 0, .int .i64 0, .int .i64 0]) rfl (by kernel_rfl) (by kernel_rfl) (by kernel_rfl) (fun _ _ _ h => h) (Or.inl ⟨by rfl, fun W hW => by go_simp⟩) hHeld ?_
              try simp only [Act.put, List.getElem_toArray, List.getElem_cons_succ, List.getElem_cons_zero, List.setIfInBounds_toArray, List.set_cons_zero, List.set_cons_succ]
              refine wpAnyH_ready (rs := [31]) (by kernel_rfl) (by simp) ?_
              refine AllReadyH.cons rfl (fun KK hK => ?_) AllReadyH.nil
              have HTH : Hid (World.there v6 (v4.heap.size) 0 13) := BX.out.there rfl
              rw [if_pos (by rfl)]
              refine wp_store_mid 29 (.tmp 5) (.tmp 40) rfl (v4.heap.size) 0 #[.string nm, .int .i64 0, .bool en, .int .i64 (decR s0), .int .i64 (decR s1), .int .i64 (decR s2), .int .i64 (decR s3), .int .i64 0, .int .i64 (decR s4), .int .i64 0, .int .i64 0, .int .i64 0, .int .i64 0] rfl rfl HTH.out Sv_sizeI (by simp [Value.oneCell']) ?_
              refine hK.out _ _ (KP.out _ (Below.sets (by omega) _ _ CC.out)) (fun hHeld => ?_)
              clear hK KK
              try simp only [Act.put, List.getElem_toArray, List.getElem_cons_succ, List.getElem_cons_zero]
              refine wpAnyH_done (by kernel_rfl) ?_ _
              go_wp2
              go_meet
              exact ⟨v4.heap.size, rfl, Below.sets (by omega) _ _ CC.out, BX.out.full rfl, by omega⟩
          ·
            go_simp
            obtain ⟨v4, hv'⟩ : ∃ vv, vv = v3.alloc (.cells #[.string ⟨#[]⟩, .int .i64 0, .bool false, .int .i64 0, .int .i64 0, .int .i64 0, .int .i64 0, .int .i64 0, .int .i64 0, .int .i64 0, .int .i64 0, .int .i64 0, .int .i64 0] 29) := ⟨_, rfl⟩
            rw [← hv']
            have hb : Below v3.heap.size v3 v4 := by rw [hv']; exact one_al _ _
            have BX : Hid (Box v4 v3.heap.size #[.string ⟨#[]⟩, .int .i64 0, .bool false, .int .i64 0, .int .i64 0, .int .i64 0, .int .i64 0, .int .i64 0, .int .i64 0, .int .i64 0, .int .i64 0, .int .i64 0, .int .i64 0]) := by unfold Hid; rw [hv']; exact Box.new _ _ _ _ rfl
            clear hv'
            replace CC : Hid (Below w1.heap.size w1 v4) := bt CC.out hb
            clear hb
            have hy4 := CC.out.size
            have hx4 := BX.out.lt
            refine hK.out _ _ (KP.out _ CC.out) (fun hHeld => ?_)
            clear hK KK
            try simp only [Act.put, List.getElem_toArray, List.getElem_cons_succ, List.getElem_cons_zero, List.setIfInBounds_toArray, List.set_cons_zero, List.set_cons_succ]
            refine wpAnyH_ready (rs := [23]) (by kernel_rfl) (by simp) ?_
            refine AllReadyH.cons rfl (fun KK hK => ?_) AllReadyH.nil
            go_simp
            refine (l31Value_any s3 _ (HZ.out 3)).mono ?_
            rintro e v5 ⟨rfl, hw⟩
            have CN : Hid (Below w1.heap.size w1 v5) := by unfold Hid; rw [hw]; exact CC.out
            replace BX : Hid (Box v5 (v3.heap.size) #[.string ⟨#[]⟩, .int .i64 0, .bool false, .int .i64 0, .int .i64 0, .int .i64 0, .int .i64 0, .int .i64 0, .int .i64 0, .int .i64 0, .int .i64 0, .int .i64 0, .int .i64 0]) := by unfold Hid; rw [hw]; exact BX.out
            clear hw
            clear CC
            have CC := CN
            clear CN
            have hy5 := CC.out.size
            try go_wp2_with fail
            have hx5 := BX.out.lt
            refine hK.out _ _ (KP.out _ CC.out) (fun hHeld => ?_)
            clear hK KK
            try simp only [Act.put, List.getElem_toArray, List.getElem_cons_succ, List.getElem_cons_zero, List.setIfInBounds_toArray, List.set_cons_zero, List.set_cons_succ]
            refine wpAnyH_ready (rs := [28]) (by kernel_rfl) (by simp) ?_
            refine AllReadyH.cons rfl (fun KK hK => ?_) AllReadyH.nil
            go_simp
            refine (l31Value_any s4 _ (HZ.out 4)).mono ?_
            rintro e v6 ⟨rfl, hw⟩
            have CN : Hid (Below w1.heap.size w1 v6) := by unfold Hid; rw [hw]; exact CC.out
            replace BX : Hid (Box v6 (v3.heap.size) #[.string ⟨#[]⟩, .int .i64 0, .bool false, .int .i64 0, .int .i64 0, .int .i64 0, .int .i64 0, .int .i64 0, .int .i64 0, .int .i64 0, .int .i64 0, .int .i64 0, .int .i64 0]) := by unfold Hid; rw [hw]; exact BX.out
            clear hw
            clear CC
            have CC := CN
            clear CN
            have hy6 := CC.out.size
            try go_wp2_with fail
            have hx6 := BX.out.lt
            refine hK.out _ _ (KP.out _ CC.out) (fun hHeld => ?_)
            clear hK KK
            try simp only [Act.put, List.getElem_toArray, List.getElem_cons_succ, List.getElem_cons_zero, List.setIfInBounds_toArray, List.set_cons_zero, List.set_cons_succ]
            refine wpAnyH_take (i := 29) (v := .agg #[.string nm, .int .i64 0, .bool en, .int .i64 (decR s0), .int .i64 (decR s1), .int .i64 (decR s2), .int .i64 (decR s3), .int .i64 0, .int .i64 (decR s4), .int .i64 0, .int .i64 0, .int .i64 0, .int .i64 0]) rfl (by kernel_rfl) (by kernel_rfl) (by kernel_rfl) (fun _ _ _ h => h) (Or.inl ⟨by rfl, fun W hW => by go_simp⟩) hHeld ?_
            try simp only [Act.put, List.getElem_toArray, List.getElem_cons_succ, List.getElem_cons_zero, List.setIfInBounds_toArray, List.set_cons_zero, List.set_cons_succ]
            refine wpAnyH_ready (rs := [31]) (by kernel_rfl) (by simp) ?_
            refine AllReadyH.cons rfl (fun KK hK => ?_) AllReadyH.nil
            have HTH : Hid (World.there v6 (v3.heap.size) 0 13) := BX.out.there rfl
            rw [if_pos (by rfl)]
            refine wp_store_mid 29 (.tmp 5) (.tmp 40) rfl (v3.heap.size) 0 #[.string nm, .int .i64 0, .bool en, .int .i64 (decR s0), .int .i64 (decR s1), .int .i64 (decR s2), .int .i64 (decR s3), .int .i64 0, .int .i64 (decR s4), .int .i64 0, .int .i64 0, .int .i64 0, .int .i64 0] rfl rfl HTH.out Sv_sizeI (by simp [Value.oneCell']) ?_
            refine hK.out _ _ (KP.out _ (Below.sets (by omega) _ _ CC.out)) (fun hHeld => ?_)
            clear hK KK
            try simp only [Act.put, List.getElem_toArray, List.getElem_cons_succ, List.getElem_cons_zero]
            refine wpAnyH_done (by kernel_rfl) ?_ _
            go_wp2
            go_meet
            exact ⟨v3.heap.size, rfl, Below.sets (by omega) _ _ CC.out, BX.out.full rfl, by omega⟩
        ·
          go_simp
          obtain ⟨v3, hv'⟩ : ∃ vv, vv = v2.alloc (.cells #[.string ⟨#[]⟩, .int .i64 0, .bool false, .int .i64 0, .int .i64 0, .int .i64 0, .int .i64 0, .int .i64 0, .int .i64 0, .int .i64 0, .int .i64 0, .int .i64 0, .int .i64 0] 29) := ⟨_, rfl⟩
          rw [← hv']
          have hb : Below v2.heap.size v2 v3 := by rw [hv']; exact one_al _ _
          have BX : Hid (Box v3 v2.heap.size #[.string ⟨#[]⟩, .int .i64 0, .bool false, .int .i64 0, .int .i64 0, .int .i64 0, .int .i64 0, .int .i64 0, .int .i64 0, .int .i64 0, .int .i64 0, .int .i64 0, .int .i64 0]) := by unfold Hid; rw [hv']; exact Box.new _ _ _ _ rfl
          clear hv'
          replace CC : Hid (Below w1.heap.size w1 v3) := bt CC.out hb
          clear hb
          have hy3 := CC.out.size
          have hx3 := BX.out.lt
          refine hK.out _ _ (KP.out _ CC.out) (fun hHeld => ?_)
          clear hK KK
          try simp only [Act.put, List.getElem_toArray, List.getElem_cons_succ, List.getElem_cons_zero, List.setIfInBounds_toArray, List.set_cons_zero, List.set_cons_succ]
          refine wpAnyH_ready (rs := [18]) (by kernel_rfl) (by simp) ?_
          refine AllReadyH.cons rfl (fun KK hK => ?_) AllReadyH.nil
          go_simp
          refine (l31Value_any s2 _ (HZ.out 2)).mono ?_
          rintro e v4 ⟨rfl, hw⟩
          have CN : Hid (Below w1.heap.size w1 v4) := by unfold Hid; rw [hw]; exact CC.out
          replace BX : Hid (Box v4 (v2.heap.size) #[.string ⟨#[]⟩, .int .i64 0, .bool false, .int .i64 0, .int .i64 0, .int .i64 0, .int .i64 0, .int .i64 0, .int .i64 0, .int .i64 0, .int .i64 0, .int .i64 0, .int .i64 0]) := by unfold Hid; rw [hw]; exact BX.out
          clear hw
          clear CC
          have CC := CN
          clear CN
          have hy4 := CC.out.size
          try go_wp2_with fail
          have hx4 := BX.out.lt
          refine hK.out _ _ (KP.out _ CC.out) (fun hHeld => ?_)
          clear hK KK
          try simp only [Act.put, List.getElem_toArray, List.getElem_cons_succ, List.getElem_cons_zero, List.setIfInBounds_toArray, List.set_cons_zero, List.set_cons_succ]
          refine wpAnyH_ready (rs := [23]) (by kernel_rfl) (by simp) ?_
          refine AllReadyH.cons rfl (fun KK hK => ?_) AllReadyH.nil
          go_simp
          refine (l31Value_any s3 _ (HZ.out 3)).mono ?_
          rintro e v5 ⟨rfl, hw⟩
          have CN : Hid (Below w1.heap.size w1 v5) := by unfold Hid; rw [hw]; exact CC.out
          replace BX : Hid (Box v5 (v2.heap.size) #[.string ⟨#[]⟩, .int .i64 0, .bool false, .int .i64 0, .int .i64 0, .int .i64 0, .int .i64 0, .int .i64 0, .int .i64 0, .int .i64 0, .int .i64 0, .int .i64 0, .int .i64 0]) := by unfold Hid; rw [hw]; exact BX.out
          clear hw
          clear CC
          have CC := CN
          clear CN
          have hy5 := CC.out.size
          try go_wp2_with fail
          have hx5 := BX.out.lt
          refine hK.out _ _ (KP.out _ CC.out) (fun hHeld => ?_)
          clear hK KK
          try simp only [Act.put, List.getElem_toArray, List.getElem_cons_succ, List.getElem_cons_zero, List.setIfInBounds_toArray, List.set_cons_zero, List.set_cons_succ]
          refine wpAnyH_ready (rs := [28]) (by kernel_rfl) (by simp) ?_
          refine AllReadyH.cons rfl (fun KK hK => ?_) AllReadyH.nil
          go_simp
          refine (l31Value_any s4 _ (HZ.out 4)).mono ?_
          rintro e v6 ⟨rfl, hw⟩
          have CN : Hid (Below w1.heap.size w1 v6) := by unfold Hid; rw [hw]; exact CC.out
          replace BX : Hid (Box v6 (v2.heap.size) #[.string ⟨#[]⟩, .int .i64 0, .bool false, .int .i64 0, .int .i64 0, .int .i64 0, .int .i64 0, .int .i64 0, .int .i64 0, .int .i64 0, .int .i64 0, .int .i64 0, .int .i64 0]) := by unfold Hid; rw [hw]; exact BX.out
          clear hw
          clear CC
          have CC := CN
          clear CN
          have hy6 := CC.out.size
          try go_wp2_with fail
          have hx6 := BX.out.lt
          refine hK.out _ _ (KP.out _ CC.out) (fun hHeld => ?_)
          clear hK KK
          try simp only [Act.put, List.getElem_toArray, List.getElem_cons_succ, List.getElem_cons_zero, List.setIfInBounds_toArray, List.set_cons_zero, List.set_cons_succ]
          refine wpAnyH_take (i := 29) (v := .agg #[.string nm, .int .i64 0, .bool en, .int .i64 (decR s0), .int .i64 (decR s1), .int .i64 (decR s2), .int .i64 (decR s3), .int .i64 0, .int .i64 (decR s4), .int .i64 0, .int .i64 0, .int .i64 0, .int .i64 0]) rfl (by kernel_rfl) (by kernel_rfl) (by kernel_rfl) (fun _ _ _ h => h) (Or.inl ⟨by rfl, fun W hW => by go_simp⟩) hHeld ?_
          try simp only [Act.put, List.getElem_toArray, List.getElem_cons_succ, List.getElem_cons_zero, List.setIfInBounds_toArray, List.set_cons_zero, List.set_cons_succ]
          refine wpAnyH_ready (rs := [31]) (by kernel_rfl) (by simp) ?_
          refine AllReadyH.cons rfl (fun KK hK => ?_) AllReadyH.nil
          have HTH : Hid (World.there v6 (v2.heap.size) 0 13) := BX.out.there rfl
          rw [if_pos (by rfl)]
          refine wp_store_mid 29 (.tmp 5) (.tmp 40) rfl (v2.heap.size) 0 #[.string nm, .int .i64 0, .bool en, .int .i64 (decR s0), .int .i64 (decR s1), .int .i64 (decR s2), .int .i64 (decR s3), .int .i64 0, .int .i64 (decR s4), .int .i64 0, .int .i64 0, .int .i64 0, .int .i64 0] rfl rfl HTH.out Sv_sizeI (by simp [Value.oneCell']) ?_
          refine hK.out _ _ (KP.out _ (Below.sets (by omega) _ _ CC.out)) (fun hHeld => ?_)
          clear hK KK
          try simp only [Act.put, List.getElem_toArray, List.getElem_cons_succ, List.getElem_cons_zero]
          refine wpAnyH_done (by kernel_rfl) ?_ _
          go_wp2
          go_meet
          exact ⟨v2.heap.size, rfl, Below.sets (by omega) _ _ CC.out, BX.out.full rfl, by omega⟩
      ·
        go_simp
        obtain ⟨v2, hv'⟩ : ∃ vv, vv = v1.alloc (.cells #[.string ⟨#[]⟩, .int .i64 0, .bool false, .int .i64 0, .int .i64 0, .int .i64 0, .int .i64 0, .int .i64 0, .int .i64 0, .int .i64 0, .int .i64 0, .int .i64 0, .int .i64 0] 29) := ⟨_, rfl⟩
        rw [← hv']
        have hb : Below v1.heap.size v1 v2 := by rw [hv']; exact one_al _ _
        have BX : Hid (Box v2 v1.heap.size #[.string ⟨#[]⟩, .int .i64 0, .bool false, .int .i64 0, .int .i64 0, .int .i64 0, .int .i64 0, .int .i64 0, .int .i64 0, .int .i64 0, .int .i64 0, .int .i64 0, .int .i64 0]) := by unfold Hid; rw [hv']; exact Box.new _ _ _ _ rfl
        clear hv'
        replace CC : Hid (Below w1.heap.size w1 v2) := bt CC.out hb
        clear hb
        have hy2 := CC.out.size
        have hx2 := BX.out.lt
        refine hK.out _ _ (KP.out _ CC.out) (fun hHeld => ?_)
        clear hK KK
        try simp only [Act.put, List.getElem_toArray, List.getElem_cons_succ, List.getElem_cons_zero, List.setIfInBounds_toArray, List.set_cons_zero, List.set_cons_succ]
        refine wpAnyH_ready (rs := [13]) (by kernel_rfl) (by simp) ?_
        refine AllReadyH.cons rfl (fun KK hK => ?_) AllReadyH.nil
        go_simp
        refine (l31Value_any s1 _ (HZ.out 1)).mono ?_
        rintro e v3 ⟨rfl, hw⟩
        have CN : Hid (Below w1.heap.size w1 v3) := by unfold Hid; rw [hw]; exact CC.out
        replace BX : Hid (Box v3 (v1.heap.size) #[.string ⟨#[]⟩, .int .i64 0, .bool false, .int .i64 0, .int .i64 0, .int .i64 0, .int .i64 0, .int .i64 0, .int .i64 0, .int .i64 0, .int .i64 0, .int .i64 0, .int .i64 0]) := by unfold Hid; rw [hw]; exact BX.out
        clear hw
        clear CC
        have CC := CN
        clear CN
        have hy3 := CC.out.size
        try go_wp2_with fail
        have hx3 := BX.out.lt
        refine hK.out _ _ (KP.out _ CC.out) (fun hHeld => ?_)
        clear hK KK
        try simp only [Act.put, List.getElem_toArray, List.getElem_cons_succ, List.getElem_cons_zero, List.setIfInBounds_toArray, List.set_cons_zero, List.set_cons_succ]
        refine wpAnyH_ready (rs := [18]) (by kernel_rfl) (by simp) ?_
        refine AllReadyH.cons rfl (fun KK hK => ?_) AllReadyH.nil
        go_simp
        refine (l31Value_any s2 _ (HZ.out 2)).mono ?_
        rintro e v4 ⟨rfl, hw⟩
        have CN : Hid (Below w1.heap.size w1 v4) := by unfold Hid; rw [hw]; exact CC.out
        replace BX : Hid (Box v4 (v1.heap.size) #[.string ⟨#[]⟩, .int .i64 0, .bool false, .int .i64 0, .int .i64 0, .int .i64 0, .int .i64 0, .int .i64 0, .int .i64 0, .int .i64 0, .int .i64 0, .int .i64 0, .int .i64 0]) := by unfold Hid; rw [hw]; exact BX.out
        clear hw
        clear CC
        have CC := CN
        clear CN
        have hy4 := CC.out.size
        try go_wp2_with fail
        have hx4 := BX.out.lt
        refine hK.out _ _ (KP.out _ CC.out) (fun hHeld => ?_)
        clear hK KK
        try simp only [Act.put, List.getElem_toArray, List.getElem_cons_succ, List.getElem_cons_zero, List.setIfInBounds_toArray, List.set_cons_zero, List.set_cons_succ]
        refine wpAnyH_ready (rs := [23]) (by kernel_rfl) (by simp) ?_
        refine AllReadyH.cons rfl (fun KK hK => ?_) AllReadyH.nil
        go_simp
        refine (l31Value_any s3 _ (HZ.out 3)).mono ?_
        rintro e v5 ⟨rfl, hw⟩
        have CN : Hid (Below w1.heap.size w1 v5) := by unfold Hid; rw [hw]; exact CC.out
        replace BX : Hid (Box v5 (v1.heap.size) #[.string ⟨#[]⟩, .int .i64 0, .bool false, .int .i64 0, .int .i64 0, .int .i64 0, .int .i64 0, .int .i64 0, .int .i64 0, .int .i64 0, .int .i64 0, .int .i64 0, .int .i64 0]) := by unfold Hid; rw [hw]; exact BX.out
        clear hw
        clear CC
        have CC := CN
        clear CN
        have hy5 := CC.out.size
        try go_wp2_with fail
        have hx5 := BX.out.lt
        refine hK.out _ _ (KP.out _ CC.out) (fun hHeld => ?_)
        clear hK KK
        try simp only [Act.put, List.getElem_toArray, List.getElem_cons_succ, List.getElem_cons_zero, List.setIfInBounds_toArray, List.set_cons_zero, List.set_cons_succ]
        refine wpAnyH_ready (rs := [28]) (by kernel_rfl) (by simp) ?_
        refine AllReadyH.cons rfl (fun KK hK => ?_) AllReadyH.nil
        go_simp
        refine (l31Value_any s4 _ (HZ.out 4)).mono ?_
        rintro e v6 ⟨rfl, hw⟩
        have CN : Hid (Below w1.heap.size w1 v6) := by unfold Hid; rw [hw]; exact CC.out
        replace BX : Hid (Box v6 (v1.heap.size) #[.string ⟨#[]⟩, .int .i64 0, .bool false, .int .i64 0, .int .i64 0, .int .i64 0, .int .i64 0, .int .i64 0, .int .i64 0, .int .i64 0, .int .i64 0, .int .i64 0, .int .i64 0]) := by unfold Hid; rw [hw]; exact BX.out
        clear hw
        clear CC
        have CC := CN
        clear CN
        have hy6 := CC.out.size
        try go_wp2_with fail
        have hx6 := BX.out.lt
        refine hK.out _ _ (KP.out _ CC.out) (fun hHeld => ?_)
        clear hK KK
        try simp only [Act.put, List.getElem_toArray, List.getElem_cons_succ, List.getElem_cons_zero, List.setIfInBounds_toArray, List.set_cons_zero, List.set_cons_succ]
        refine wpAnyH_take (i := 29) (v := .agg #[.string nm, .int .i64 0, .bool en, .int .i64 (decR s0), .int .i64 (decR s1), .int .i64 (decR s2), .int .i64 (decR s3), .int .i64 0, .int .i64 (decR s4), .int .i64 0, .int .i64 0, .int .i64 0, .int .i64 0]) rfl (by kernel_rfl) (by kernel_rfl) (by kernel_rfl) (fun _ _ _ h => h) (Or.inl ⟨by rfl, fun W hW => by go_simp⟩) hHeld ?_
        try simp only [Act.put, List.getElem_toArray, List.getElem_cons_succ, List.getElem_cons_zero, List.setIfInBounds_toArray, List.set_cons_zero, List.set_cons_succ]
        refine wpAnyH_ready (rs := [31]) (by kernel_rfl) (by simp) ?_
        refine AllReadyH.cons rfl (fun KK hK => ?_) AllReadyH.nil
        have HTH : Hid (World.there v6 (v1.heap.size) 0 13) := BX.out.there rfl
        rw [if_pos (by rfl)]
        refine wp_store_mid 29 (.tmp 5) (.tmp 40) rfl (v1.heap.size) 0 #[.string nm, .int .i64 0, .bool en, .int .i64 (decR s0), .int .i64 (decR s1), .int .i64 (decR s2), .int .i64 (decR s3), .int .i64 0, .int .i64 (decR s4), .int .i64 0, .int .i64 0, .int .i64 0, .int .i64 0] rfl rfl HTH.out Sv_sizeI (by simp [Value.oneCell']) ?_
        refine hK.out _ _ (KP.out _ (Below.sets (by omega) _ _ CC.out)) (fun hHeld => ?_)
        clear hK KK
        try simp only [Act.put, List.getElem_toArray, List.getElem_cons_succ, List.getElem_cons_zero]
        refine wpAnyH_done (by kernel_rfl) ?_ _
        go_wp2
        go_meet
        exact ⟨v1.heap.size, rfl, Below.sets (by omega) _ _ CC.out, BX.out.full rfl, by omega⟩
    ·
      go_simp
      obtain ⟨v1, hv'⟩ : ∃ vv, vv = (w1.alloc (.cells #[.string ⟨#[]⟩, .int .i64 0, .bool false, .int .i64 0, .int .i64 0, .int .i64 0, .int .i64 0, .int .i64 0, .int .i64 0, .int .i64 0, .int .i64 0, .int .i64 0, .int .i64 0] 29)).drew := ⟨_, rfl⟩
      rw [← hv']
      have hb : Below w1.heap.size w1 v1 := by rw [hv']; exact (one_al _ _).drew
      have BX : Hid (Box v1 w1.heap.size #[.string ⟨#[]⟩, .int .i64 0, .bool false, .int .i64 0, .int .i64 0, .int .i64 0, .int .i64 0, .int .i64 0, .int .i64 0, .int .i64 0, .int .i64 0, .int .i64 0, .int .i64 0]) := by unfold Hid; rw [hv']; exact (Box.new _ _ _ _ rfl).drew
      clear hv'
      have CC : Hid (Below w1.heap.size w1 v1) := hb
      clear hb
      have hy1 := CC.out.size
      have hx1 := BX.out.lt
      refine hK.out _ _ (KP.out _ CC.out) (fun hHeld => ?_)
      clear hK KK
      try simp only [Act.put, List.getElem_toArray, List.getElem_cons_succ, List.getElem_cons_zero, List.setIfInBounds_toArray, List.set_cons_zero, List.set_cons_succ]
      refine wpAnyH_ready (rs := [8]) (by kernel_rfl) (by simp) ?_
      refine AllReadyH.cons rfl (fun KK hK => ?_) AllReadyH.nil
      go_simp
      refine (l31Value_any s0 _ (HZ.out 0)).mono ?_
      rintro e v2 ⟨rfl, hw⟩
      have CN : Hid (Below w1.heap.size w1 v2) := by unfold Hid; rw [hw]; exact CC.out
      replace BX : Hid (Box v2 (w1.heap.size) #[.string ⟨#[]⟩, .int .i64 0, .bool false, .int .i64 0, .int .i64 0, .int .i64 0, .int .i64 0, .int .i64 0, .int .i64 0, .int .i64 0, .int .i64 0, .int .i64 0, .int .i64 0]) := by unfold Hid; rw [hw]; exact BX.out
      clear hw
      clear CC
      have CC := CN
      clear CN
      have hy2 := CC.out.size
      try go_wp2_with fail
      have hx2 := BX.out.lt
      refine hK.out _ _ (KP.out _ CC.out) (fun hHeld => ?_)
      clear hK KK
      try simp only [Act.put, List.getElem_toArray, List.getElem_cons_succ, List.getElem_cons_zero, List.setIfInBounds_toArray, List.set_cons_zero, List.set_cons_succ]
      refine wpAnyH_ready (rs := [13]) (by kernel_rfl) (by simp) ?_
      refine AllReadyH.cons rfl (fun KK hK => ?_) AllReadyH.nil
      go_simp
      refine (l31Value_any s1 _ (HZ.out 1)).mono ?_
      rintro e v3 ⟨rfl, hw⟩
      have CN : Hid (Below w1.heap.size w1 v3) := by unfold Hid; rw [hw]; exact CC.out
      replace BX : Hid (Box v3 (w1.heap.size) #[.string ⟨#[]⟩, .int .i64 0, .bool false, .int .i64 0, .int .i64 0, .int .i64 0, .int .i64 0, .int .i64 0, .int .i64 0, .int .i64 0, .int .i64 0, .int .i64 0, .int .i64 0]) := by unfold Hid; rw [hw]; exact BX.out
      clear hw
      clear CC
      have CC := CN
      clear CN
      have hy3 := CC.out.size
      try go_wp2_with fail
      have hx3 := BX.out.lt
      refine hK.out _ _ (KP.out _ CC.out) (fun hHeld => ?_)
      clear hK KK
      try simp only [Act.put, List.getElem_toArray, List.getElem_cons_succ, List.getElem_cons_zero, List.setIfInBounds_toArray, List.set_cons_zero, List.set_cons_succ]
      refine wpAnyH_ready (rs := [18]) (by kernel_rfl) (by simp) ?_
      refine AllReadyH.cons rfl (fun KK hK => ?_) AllReadyH.nil
      go_simp
      refine (l31Value_any s2 _ (HZ.out 2)).mono ?_
      rintro e v4 ⟨rfl, hw⟩
      have CN : Hid (Below w1.heap.size w1 v4) := by unfold Hid; rw [hw]; exact CC.out
      replace BX : Hid (Box v4 (w1.heap.size) #[.string ⟨#[]⟩, .int .i64 0, .bool false, .int .i64 0, .int .i64 0, .int .i64 0, .int .i64 0, .int .i64 0, .int .i64 0, .int .i64 0, .int .i64 0, .int .i64 0, .int .i64 0]) := by unfold Hid; rw [hw]; exact BX.out
      clear hw
      clear CC
      have CC := CN
      clear CN
      have hy4 := CC.out.size
      try go_wp2_with fail
      have hx4 := BX.out.lt
      refine hK.out _ _ (KP.out _ CC.out) (fun hHeld => ?_)
      clear hK KK
      try simp only [Act.put, List.getElem_toArray, List.getElem_cons_succ, List.getElem_cons_zero, List.setIfInBounds_toArray, List.set_cons_zero, List.set_cons_succ]
      refine wpAnyH_ready (rs := [23]) (by kernel_rfl) (by simp) ?_
      refine AllReadyH.cons rfl (fun KK hK => ?_) AllReadyH.nil
      go_simp
      refine (l31Value_any s3 _ (HZ.out 3)).mono ?_
      rintro e v5 ⟨rfl, hw⟩
      have CN : Hid (Below w1.heap.size w1 v5) := by unfold Hid; rw [hw]; exact CC.out
      replace BX : Hid (Box v5 (w1.heap.size) #[.string ⟨#[]⟩, .int .i64 0, .bool false, .int .i64 0, .int .i64 0, .int .i64 0, .int .i64 0, .int .i64 0, .int .i64 0, .int .i64 0, .int .i64 0, .int .i64 0, .int .i64 0]) := by unfold Hid; rw [hw]; exact BX.out
      clear hw
      clear CC
      have CC := CN
      clear CN
      have hy5 := CC.out.size
      try go_wp2_with fail
      have hx5 := BX.out.lt
      refine hK.out _ _ (KP.out _ CC.out) (fun hHeld => ?_)
      clear hK KK
      try simp only [Act.put, List.getElem_toArray, List.getElem_cons_succ, List.getElem_cons_zero, List.setIfInBounds_toArray, List.set_cons_zero, List.set_cons_succ]
      refine wpAnyH_ready (rs := [28]) (by kernel_rfl) (by simp) ?_
      refine AllReadyH.cons rfl (fun KK hK => ?_) AllReadyH.nil
      go_simp
      refine (l31Value_any s4 _ (HZ.out 4)).mono ?_
      rintro e v6 ⟨rfl, hw⟩
      have CN : Hid (Below w1.heap.size w1 v6) := by unfold Hid; rw [hw]; exact CC.out
      replace BX : Hid (Box v6 (w1.heap.size) #[.string ⟨#[]⟩, .int .i64 0, .bool false, .int .i64 0, .int .i64 0, .int .i64 0, .int .i64 0, .int .i64 0, .int .i64 0, .int .i64 0, .int .i64 0, .int .i64 0, .int .i64 0]) := by unfold Hid; rw [hw]; exact BX.out
      clear hw
      clear CC
      have CC := CN
      clear CN
      have hy6 := CC.out.size
      try go_wp2_with fail
      have hx6 := BX.out.lt
      refine hK.out _ _ (KP.out _ CC.out) (fun hHeld => ?_)
      clear hK KK
      try simp only [Act.put, List.getElem_toArray, List.getElem_cons_succ, List.getElem_cons_zero, List.setIfInBounds_toArray, List.set_cons_zero, List.set_cons_succ]
      refine wpAnyH_take (i := 29) (v := .agg #[.string nm, .int .i64 0, .bool en, .int .i64 (decR s0), .int .i64 (decR s1), .int .i64 (decR s2), .int .i64 (decR s3), .int .i64 0, .int .i64 (decR s4), .int .i64 0, .int .i64 0, .int .i64 0, .int .i64 0]) rfl (by kernel_rfl) (by kernel_rfl) (by kernel_rfl) (fun _ _ _ h => h) (Or.inl ⟨by rfl, fun W hW => by go_simp⟩) hHeld ?_
      try simp only [Act.put, List.getElem_toArray, List.getElem_cons_succ, List.getElem_cons_zero, List.setIfInBounds_toArray, List.set_cons_zero, List.set_cons_succ]
      refine wpAnyH_ready (rs := [31]) (by kernel_rfl) (by simp) ?_
      refine AllReadyH.cons rfl (fun KK hK => ?_) AllReadyH.nil
      have HTH : Hid (World.there v6 (w1.heap.size) 0 13) := BX.out.there rfl
      rw [if_pos (by rfl)]
      refine wp_store_mid 29 (.tmp 5) (.tmp 40) rfl (w1.heap.size) 0 #[.string nm, .int .i64 0, .bool en, .int .i64 (decR s0), .int .i64 (decR s1), .int .i64 (decR s2), .int .i64 (decR s3), .int .i64 0, .int .i64 (decR s4), .int .i64 0, .int .i64 0, .int .i64 0, .int .i64 0] rfl rfl HTH.out Sv_sizeI (by simp [Value.oneCell']) ?_
      refine hK.out _ _ (KP.out _ (Below.sets (by omega) _ _ CC.out)) (fun hHeld => ?_)
      clear hK KK
      try simp only [Act.put, List.getElem_toArray, List.getElem_cons_succ, List.getElem_cons_zero]
      refine wpAnyH_done (by kernel_rfl) ?_ _
      go_wp2
      go_meet
      exact ⟨w1.heap.size, rfl, Below.sets (by omega) _ _ CC.out, BX.out.full rfl, by omega⟩
  case rest =>
  obtain ⟨β, rfl, hbc, hX, hβ⟩ := hcut
  have HBc : Hid (Below w.heap.size w wc) := bt HB.out hbc
  have hq := HSZ.out
  have x := hX.cell
  have xf := hX.free
  have d := (FD.out.on hbc).cell
  have r := (FR.out.on hbc).cell
  have rf := (FR.out.on hbc).free
  have r' : ∀ i, wc.cell? ⟨w.heap.size + 1 + 1, i, none⟩ = _ := r
  have hxl := hX.lt
  have hrl := (FR.out.on hbc).lt
  have HX := hide hX
  have HRX := hide (FR.out.on hbc)
  have hq2 : w.heap.size + 3 ≤ β := by omega
  clear hX hbc FO FD FR KP H6 H61 HB HZ hq HSZ
  unfold svL at d
  by_cases h4 : decR s4 = 0
  · rw [if_pos h4] at HE
    generalize decR s4 = p4 at *
    subst h4
    go_wp2
    refine bodyPost_ret (v := .agg (svL R).toArray) (by rw [HE.out]; simp [results, Try.results6, go_sem, svL, r']) rfl ⟨rfl, ?_⟩
    repeat (refine Below.setCell ?_ (by simp; try omega) _)
    exact HBc.out
  · rw [if_neg h4] at HE
    have h4' : 0 < decR s4 := by have := HN4.out; omega
    clear HN4
    have nb1 : ¬ (w.heap.size + 1 = β) := by omega
    have nb2 : ¬ (β = w.heap.size + 1) := by omega
    have nb3 : ¬ (β = w.heap.size + 1 + 1) := by omega
    have nb4 : ¬ (w.heap.size + 1 + 1 = β) := by omega
    by_cases hw : old.wa < decR s1
    · rw [if_pos hw] at HE
      go_wp2
      refine bodyPost_ret (v := .agg (svL R).toArray) (by rw [HE.out]; simp [results, Try.results6, go_sem, svL, r']) rfl ⟨rfl, ?_⟩
      repeat (refine Below.setCell ?_ (by simp; try omega) _)
      exact HBc.out
    · rw [if_neg hw] at HE
      go_wp2
      refine bodyPost_ret (v := .agg (svL R).toArray) (by rw [HE.out]; simp [results, Try.results6, go_sem, svL, r']) rfl ⟨rfl, ?_⟩
      repeat (refine Below.setCell ?_ (by simp; try omega) _)
      exact HBc.out
end Go.Proofs.Ytgnodlkdjpnmoaa
