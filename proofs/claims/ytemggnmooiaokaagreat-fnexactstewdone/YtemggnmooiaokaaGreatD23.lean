import Derived.Test.YtemggnmooiaokaaGreatD22
namespace Go.Proofs.YtemggnmooiaokaaGreat
open Go.RowKit Go.Deep

/-! what is left to do: mathematics -/
def sumL (f : Sv → Int) (L : List Sv) : Int := (L.map f).sum
theorem sum_snoc (f : Sv → Int) (L : List Sv) (x : Sv) : sumL f (L ++ [x]) = sumL f L + f x := by unfold sumL; simp
theorem sum_take {f : Sv → Int} {L : List Sv} {i : Nat} (h : i < L.length) : sumL f (L.take (i + 1)) = sumL f (L.take i) + f L[i] := by
  rw [List.take_succ_eq_append_getElem h, sum_snoc]
theorem sum_bd {f : Sv → Int} {K : Int} : ∀ {L : List Sv}, (∀ x ∈ L, 0 ≤ f x ∧ f x ≤ K) → 0 ≤ sumL f L ∧ sumL f L ≤ K * L.length
  | [], _ => by simp [sumL]
  | x :: L, h => by
    have h1 := h x (List.mem_cons_self ..)
    have h2 := sum_bd (L := L) (fun y hy => h y (List.mem_cons_of_mem _ hy))
    unfold sumL at h2 ⊢
    simp only [List.map_cons, List.sum_cons, List.length_cons]
    have : K * ((L.length + 1 : Nat) : Int) = K * L.length + K := by rw [Int.natCast_add, Int.mul_add]; simp
    omega
theorem sum_zero {f : Sv → Int} : ∀ {L : List Sv}, (∀ x ∈ L, 0 ≤ f x) → sumL f L = 0 → ∀ x ∈ L, f x = 0
  | [], _, _, x, hx => by simp at hx
  | y :: L, h, h0, x, hx => by
    have h1 := h y (List.mem_cons_self ..)
    have h2 : 0 ≤ sumL f L := by
      have : ∀ {M : List Sv}, (∀ x ∈ M, 0 ≤ f x) → 0 ≤ sumL f M := fun {M} hM => by
        induction M with
        | nil => simp [sumL]
        | cons z M ih =>
          have a1 := hM z (List.mem_cons_self ..)
          have a2 := ih (fun y hy => hM y (List.mem_cons_of_mem _ hy))
          unfold sumL at a2 ⊢
          simp only [List.map_cons, List.sum_cons]
          omega
      exact this (fun y hy => h y (List.mem_cons_of_mem _ hy))
    have h3 : sumL f (y :: L) = f y + sumL f L := by unfold sumL; simp
    rcases List.mem_cons.1 hx with rfl | hm
    · omega
    · exact sum_zero (fun y hy => h y (List.mem_cons_of_mem _ hy)) (by omega) x hm
theorem sum_congr {f g : Sv → Int} {L : List Sv} (h : ∀ x ∈ L, f x = g x) : sumL f L = sumL g L := by
  unfold sumL
  rw [List.map_congr_left h]
def misB (B : Sb) (x : Sv) (c : Cp) : Bool := (c.im != x.im) || drB B c
def misL (B : Sb) (x : Sv) : List Cp := (liveL B x.nm).filter (misB B x)
def unrL (B : Sb) (s : ByteArray) : List Cp := (liveL B s).filter fun c => c.st != 3
def cx (B : Sb) (x : Sv) : Ct := ctL B.cs x.nm x.im
/-- what a service adds to a rank -/
def sh0 (x : Sv) : Int := if x.gn then 1 else 0
def sh1 (B : Sb) (x : Sv) : Int := if x.gn then (cx B x).en + (cx B x).li else (cx B x).en
def sh2 (B : Sb) (x : Sv) : Int := if x.gn then 0 else max ((cx B x).li - x.wa) (x.wa - (cx B x).li)
def sh3 (B : Sb) (x : Sv) : Int := ((misL B x).length : Nat)
def sh4 (B : Sb) (x : Sv) : Int := (cx B x).li - (cx B x).re
def sq3 (B : Sb) (x : Sv) : Int := if x.gn then 0 else ((misL B x).length : Nat)
def sq4 (B : Sb) (x : Sv) : Int := if x.gn then 0 else ((unrL B x.nm).length : Nat)
theorem ctB_li {B : Sb} {x : Sv} (hx : x ∈ B.ss) : (ctB B x.nm).li = (cx B x).li ∧ (ctB B x.nm).en = (cx B x).en := by
  unfold ctB
  cases h : svF B.ss x.nm with
  | none =>
    unfold svF at h
    have := List.find?_eq_none.1 h x hx
    simp at this
  | some y => exact ⟨rfl, rfl⟩
theorem live_unr (B : Sb) (x : Sv) : sh4 B x = ((unrL B x.nm).length : Nat) := by
  unfold sh4 cx ctL unrL liveL ct
  simp only []
  rw [List.filter_filter]
  have : ∀ L : List Cp, L.countP (liveB x.nm) = L.countP (rdyB x.nm) + (L.filter fun c => (c.st != 3) && liveB x.nm c).length := fun L => by
    induction L with
    | nil => rfl
    | cons c L ih =>
      rw [List.countP_cons, List.countP_cons, List.filter_cons, ih]
      unfold rdyB
      cases h1 : liveB x.nm c <;> cases h2 : (c.st == 3) <;> simp [bne, h2] <;> omega
  rw [this B.cs]
  simp only [Int.natCast_add]
  omega
theorem sh0_bd (x : Sv) : 0 ≤ sh0 x ∧ sh0 x ≤ 1000 := by unfold sh0; split <;> omega
theorem ct_len (p : Cp → Bool) (L : List Cp) : 0 ≤ ct p L ∧ ct p L ≤ L.length := by
  unfold ct
  have := List.countP_le_length (p := p) (l := L)
  omega
theorem sh1_bd {B : Sb} (h : B.cs.length ≤ 200) (x : Sv) : 0 ≤ sh1 B x ∧ sh1 B x ≤ 1000 := by
  have h1 := ct_len (endB x.nm) B.cs
  have h2 := ct_len (liveB x.nm) B.cs
  unfold sh1 cx ctL
  simp only []
  split <;> omega
theorem sh2_bd {B : Sb} (h : B.cs.length ≤ 200) {x : Sv} (hw : 0 ≤ x.wa ∧ x.wa ≤ 10) : 0 ≤ sh2 B x ∧ sh2 B x ≤ 1000 := by
  have h2 := ct_len (liveB x.nm) B.cs
  unfold sh2 cx ctL
  simp only []
  split <;> omega
theorem live_le {B : Sb} (h : B.cs.length ≤ 200) (s : ByteArray) : (liveL B s).length ≤ 200 := Nat.le_trans (List.length_filter_le _ _) h
theorem sh3_bd {B : Sb} (h : B.cs.length ≤ 200) (x : Sv) : 0 ≤ sh3 B x ∧ sh3 B x ≤ 1000 := by
  have h1 := live_le h x.nm
  have h2 : (misL B x).length ≤ (liveL B x.nm).length := List.length_filter_le _ _
  unfold sh3
  omega
theorem unr_le {B : Sb} (h : B.cs.length ≤ 200) (s : ByteArray) : (unrL B s).length ≤ 200 := Nat.le_trans (List.length_filter_le _ _) (live_le h s)
theorem sh4_bd {B : Sb} (h : B.cs.length ≤ 200) (x : Sv) : 0 ≤ sh4 B x ∧ sh4 B x ≤ 1000 := by
  have := unr_le h x.nm
  rw [live_unr]
  omega
theorem sq3_bd {B : Sb} (h : B.cs.length ≤ 200) (x : Sv) : 0 ≤ sq3 B x ∧ sq3 B x ≤ 1000 := by
  have := sh3_bd h x
  unfold sh3 at this
  unfold sq3
  split <;> omega
theorem sq4_bd {B : Sb} (h : B.cs.length ≤ 200) (x : Sv) : 0 ≤ sq4 B x ∧ sq4 B x ≤ 1000 := by
  have := unr_le h x.nm
  unfold sq4
  split <;> omega
/-- the rank as the program has it, and as the specification has it -/
def rankI (B : Sb) (L : List Sv) : List Int := [sumL sh0 L, sumL (sh1 B) L, sumL (sh2 B) L, sumL (sh3 B) L, sumL (sh4 B) L]
def rankS (B : Sb) (L : List Sv) : List Int := [sumL sh0 L, sumL (sh1 B) L, sumL (sh2 B) L, sumL (sq3 B) L, sumL (sq4 B) L]
def zero5 (r : List Int) : Bool := r.all (· == 0)
theorem rank_same (B : Sb) (L : List Sv) : zero5 (rankI B L) = zero5 (rankS B L) := by
  by_cases h : sumL sh0 L = 0
  · have hg : ∀ x ∈ L, x.gn = false := fun x hx => by
      have := sum_zero (f := sh0) (fun y _ => (sh0_bd y).1) h x hx
      unfold sh0 at this
      cases hq : x.gn with
      | false => rfl
      | true => rw [hq] at this; simp at this
    have e3 : sumL (sh3 B) L = sumL (sq3 B) L := sum_congr fun x hx => by unfold sq3 sh3; rw [hg x hx]; rfl
    have e4 : sumL (sh4 B) L = sumL (sq4 B) L := sum_congr fun x hx => by rw [live_unr]; unfold sq4; rw [hg x hx]; rfl
    unfold rankI rankS
    rw [e3, e4]
  · have hn : (sumL sh0 L == 0) = false := by simpa using h
    unfold zero5 rankI rankS
    simp [hn]
def folB (x : Sv) : Bool := (x.pr == 0) || ((x.wa == desF x) && (x.cl == 0))
def doneB (B : Sb) : Bool := validB B && (B.ss.all folB && zero5 (rankI B B.ss))
end Go.Proofs.YtemggnmooiaokaaGreat
namespace Go.Proofs.YtemggnmooiaokaaGreat
open Go.RowKit Go.Deep

/-- the place of a berth, or -1 -/
def BeP (L : List Be) (s : ByteArray) (r : Int) : Prop := (r = -1 ∧ L.find? (fun x => x.nm.toList == s.toList) = none) ∨ ∃ (k : Nat) (h : k < L.length), r = (k : Int) ∧ L.find? (fun x => x.nm.toList == s.toList) = some L[k]
theorem BeP.at {L : List Be} {s : ByteArray} {k : Nat} (hk : k < L.length) (hno : ∀ j (h : j < L.length), j < k → (L[j].nm.toList == s.toList) = false) (h : (L[k].nm.toList == s.toList) = true) : BeP L s (k : Int) := by
  refine Or.inr ⟨k, hk, rfl, ?_⟩
  rw [List.find?_eq_some_iff_getElem]
  exact ⟨h, k, hk, rfl, fun j hj => by simpa using hno j (by omega) hj⟩
set_option maxRecDepth 20000 in
set_option maxHeartbeats 2000000 in
theorem berthP_any (lo : Nat) (sv cv bv : Value) (B : Sb) (s : ByteArray) (w : World) (h : SbAt lo w sv cv bv B) :
    Calls Tryz.prog 71 #[.agg #[.int .i64 B.now, sv, cv, bv], .string s] w fun e w' => ∃ r : Int, e = .returned (.int .i64 r) ∧ Below w.heap.size w w' ∧ (BeP B.bs s r) := by
  have HK := hide h
  obtain ⟨a0, k0, rfl⟩ := h.svs.form
  obtain ⟨a1, k1, rfl⟩ := h.cps.form
  obtain ⟨a2, k2, rfl⟩ := h.bes.form
  have hmx := h.bes.max
  unfold maxLen at hmx
  clear h
  go_enter Tryz.func71, Tryz.ntmps71
  go_wp2
  generalize hWa : w.alloc _ = Wa
  have HB0 : Hid (Below w.heap.size w Wa) := by rw [← hWa]; exact one_al w _
  have HX0 : Hid (Box Wa w.heap.size #[.int .i64 B.now, .slice a0 B.ss.length k0, .slice a1 B.cs.length k1, .slice a2 B.bs.length k2]) := by rw [← hWa]; exact Box.new _ _ _ _ rfl
  clear hWa
  have x1 := HX0.out.cell 3
  simp at x1
  go_loop [5] (fun i => ∃ k : Nat, i = .int .i64 k ∧ k ≤ B.bs.length ∧ (∀ j (hj : j < B.bs.length), j < k → (B.bs[j].nm.toList == s.toList) = false)) (fun i => B.bs.length - (intOf i).toNat)
  case atStart => exact ⟨0, rfl, by omega, fun j _ h => by omega⟩
  case round =>
    obtain ⟨k, rfl, hk, hall⟩ := hrel
    have HA := hide hall
    clear hall
    by_cases hlt : k < B.bs.length
    · obtain ⟨b, off, rfl, hbw, -, hc⟩ := HK.out.bes.full' (by omega)
      obtain ⟨hs, hc⟩ := hc k hlt
      have c0 := (hc.below HB0.out hbw).c0
      clear hc hs
      cases he : (B.bs[k].nm.toList == s.toList) with
      | true =>
        have HS := hide (BeP.at hlt HA.out he)
        go_wp2
        go_ret
        exact ⟨_, rfl, HB0.out, HS.out⟩
      | false =>
        have HN := hide he
        go_wp2
        go_round
        case rel => exact ⟨k + 1, by go_num, by omega, fun j hj h => by
                      by_cases e : j = k
                      · subst e; exact HN.out
                      · exact HA.out j hj (by omega)⟩
        case measure => simp [intOf]; omega
    · have HS := hide ((show BeP B.bs s (-1 : Int) from Or.inl ⟨rfl, find_none (f := fun x : Be => x.nm.toList == s.toList) (fun j hj => HA.out j hj (by omega))⟩))
      go_wp2
      go_ret
      exact ⟨_, rfl, HB0.out, HS.out⟩


set_option maxRecDepth 100000 in
set_option maxHeartbeats 4000000 in
theorem l16Drains_any (lo : Nat) (sv cv bv : Value) (B : Sb) (c : Cp) (w : World) (h : SbAt lo w sv cv bv B) :
    Calls Tryz.prog 50 #[.agg #[.int .i64 B.now, sv, cv, bv], .agg #[.string c.se, .int .i64 c.nu, .int .i64 c.ve, .int .i64 c.im, .int .i64 c.st, .bool c.en, .string c.be]] w fun e w' => e = .returned (.bool (drB B c)) ∧ Below w.heap.size w w' := by
  have HK := hide h
  obtain ⟨a0, k0, rfl⟩ := h.svs.form
  obtain ⟨a1, k1, rfl⟩ := h.cps.form
  obtain ⟨a2, k2, rfl⟩ := h.bes.form
  clear h
  go_enter Tryz.func50, Tryz.ntmps50
  go_wp2_with fail
  generalize hWa : World.alloc (w.alloc _) _ = Wa
  have HB : Hid (Below w.heap.size w Wa) := by unfold Hid; rw [← hWa]; exact (one_al w _).alloc (by simp) _
  have F1 : Hid (Box Wa w.heap.size #[.int .i64 B.now, .slice a0 B.ss.length k0, .slice a1 B.cs.length k1, .slice a2 B.bs.length k2]) := by unfold Hid; rw [← hWa]; exact (Box.new _ _ _ _ rfl).on (one_al _ _)
  clear hWa
  refine (berthP_any lo _ _ _ B c.be _ (HK.out.below HB.out)).mono ?_
  rintro e w1 ⟨r, rfl, hb1, hp⟩
  replace HB := hide (bt HB.out hb1)
  replace F1 := hide (F1.out.on hb1)
  clear hb1
  rcases hp with ⟨rfl, hf⟩ | ⟨k, hk, rfl, hf⟩
  · have HE : Hid (drB B c = false) := by unfold Hid drB; rw [hf]
    go_wp2
    go_ret
    exact ⟨ret_bool HE.out.symm, HB.out⟩
  · have HE : Hid (drB B c = B.bs[k].dr) := by unfold Hid drB; rw [hf]
    obtain ⟨bb, bo, rfl, hbw, -, hbc⟩ := HK.out.bes.full' (by omega)
    have d1 := ((hbc k hk).2.below HB.out hbw).c1
    have p3 := F1.out.cell 3
    simp at p3
    have i0 : (0 : Int) ≤ (k : Int) := by omega
    have i1 : (k : Int) < (B.bs.length : Int) := by omega
    clear hbc hf
    go_wp2
    go_ret
    exact ⟨ret_bool HE.out.symm, HB.out⟩
end Go.Proofs.YtemggnmooiaokaaGreat
