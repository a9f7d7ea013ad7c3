import Derived.Test.YtaogpeebencnoaaGreatDoorA45
import Derived.Test.YtaogpeebencnoaaGreatDoorA46
import Derived.Recover
import Derived.Defers
import Derived.Stop.Asserts
namespace Go.Proofs.YtaogpeebencnoaaGreatDoor
open Go.RowKit Go.Deep

/-! what the steps of an act come to: mathematics -/
theorem ris_pair {L : List Cp} (h : risR aheadB L = true) : L.Pairwise fun a b => aheadB a b = true := List.pairwise_iff_getElem.2 fun _ _ hi hj hij => ahead_lt h hi hj hij
theorem pair_ris {L : List Cp} (h : L.Pairwise fun a b => aheadB a b = true) : risR aheadB L = true := by
  unfold risR
  rw [List.all_eq_true]
  intro j hj
  rw [List.mem_range] at hj
  cases j with
  | zero => rfl
  | succ j =>
    rw [risN_at hj]
    exact List.pairwise_iff_getElem.1 h j (j + 1) (by omega) hj (by omega)
/-- the copies that an act makes -/
def madeL (s : ByteArray) (v im : Int) : Nat → Int → List Cp
  | 0, _ => []
  | n + 1, nx => newC s nx v im :: madeL s v im n (nx + 1)
theorem made_len (s : ByteArray) (v im : Int) : ∀ (n : Nat) (nx : Int), (madeL s v im n nx).length = n
  | 0, _ => rfl
  | n + 1, nx => by rw [madeL, List.length_cons, made_len s v im n]
theorem made_snoc (s : ByteArray) (v im : Int) : ∀ (n : Nat) (nx : Int), madeL s v im (n + 1) nx = madeL s v im n nx ++ [newC s (nx + n) v im]
  | 0, nx => by simp [madeL]
  | n + 1, nx => by
    rw [madeL, made_snoc s v im n, madeL, List.cons_append]
    have e : nx + 1 + (n : Int) = nx + ((n + 1 : Nat) : Int) := by omega
    rw [e]
theorem made_mem (s : ByteArray) (v im : Int) : ∀ (n : Nat) (nx : Int) (d : Cp), d ∈ madeL s v im n nx → d.se = s ∧ nx ≤ d.nu ∧ d.nu < nx + n ∧ d.en = false
  | 0, _, d, h => by cases h
  | n + 1, nx, d, h => by
    rw [madeL, List.mem_cons] at h
    rcases h with rfl | h
    · exact ⟨rfl, Int.le_refl _, by show nx < _; omega, rfl⟩
    · obtain ⟨h1, h2, h3, h4⟩ := made_mem s v im n (nx + 1) d h
      exact ⟨h1, by omega, by omega, h4⟩
theorem ahead_se {a b : Cp} (h1 : a.se = b.se) (h2 : a.nu < b.nu) : aheadB a b = true := by
  unfold aheadB
  rw [h1]
  simp [h2]
theorem made_pair (s : ByteArray) (v im : Int) : ∀ (n : Nat) (nx : Int), (madeL s v im n nx).Pairwise fun a b => aheadB a b = true
  | 0, _ => List.Pairwise.nil
  | n + 1, nx => by
    rw [madeL]
    refine List.Pairwise.cons (fun d hd => ?_) (made_pair s v im n (nx + 1))
    obtain ⟨h1, h2, _, _⟩ := made_mem s v im n (nx + 1) d hd
    exact ahead_se h1.symm (by show nx < _; omega)
theorem takeW_at {X : Type} {p : X → Bool} : ∀ {P D : List X}, (∀ d ∈ P, p d = true) → (∀ d ∈ D, p d = false) → (P ++ D).takeWhile p = P ∧ (P ++ D).dropWhile p = D
  | [], [], _, _ => ⟨rfl, rfl⟩
  | [], d :: D, _, h => by
    have := h d List.mem_cons_self
    simp [this]
  | x :: P, D, h1, h2 => by
    obtain ⟨e1, e2⟩ := takeW_at (P := P) (D := D) (fun d hd => h1 d (List.mem_cons_of_mem _ hd)) h2
    have := h1 x List.mem_cons_self
    simp [this, e1, e2]
/-- copies put in one after the other are copies put in at one place -/
theorem crF_at (s : ByteArray) (v im : Int) : ∀ (n : Nat) (nx : Int) (P D : List Cp), (∀ d ∈ P, aheadB d (newC s nx v im) = true) → (∀ d ∈ D, ∀ m, aheadB d (newC s m v im) = false) → crF s v im n nx (P ++ D) = P ++ (madeL s v im n nx ++ D)
  | 0, nx, P, D, _, _ => by rw [crF, madeL, List.nil_append]
  | n + 1, nx, P, D, hP, hD => by
    have e : insF (P ++ D) (newC s nx v im) = (P ++ [newC s nx v im]) ++ D := by
      obtain ⟨e1, e2⟩ := takeW_at (p := fun d => aheadB d (newC s nx v im)) hP (fun d hd => hD d hd nx)
      unfold insF
      rw [e1, e2, List.append_assoc]
      rfl
    rw [crF, e, crF_at s v im n (nx + 1) (P ++ [newC s nx v im]) D ?_ hD, madeL, List.append_assoc]
    · rfl
    · intro d hd
      rw [List.mem_append, List.mem_singleton] at hd
      rcases hd with hd | rfl
      · exact ahead_trans _ _ _ (hP d hd) (ahead_se rfl (by show nx < nx + 1; omega))
      · exact ahead_se rfl (by show nx < nx + 1; omega)
/-- the place of the next Number, where all Numbers of the service are below it -/
theorem next_spot {L : List Cp} {s : ByteArray} {nx : Int} {p : Nat} (v im : Int) (hs : Spot cCp L (tgtN s nx) p) (hlt : ∀ d ∈ L, d.se = s → d.nu < nx) :
    (∀ d ∈ L.take p, aheadB d (newC s nx v im) = true) ∧ (∀ d ∈ L.drop p, ∀ m, aheadB d (newC s m v im) = false ∧ aheadB (newC s m v im) d = true) := by
  refine ⟨fun d hd => ?_, fun d hd m => ?_⟩
  · obtain ⟨i, hi, rfl⟩ := List.mem_iff_getElem.1 hd
    have hi' := hi
    rw [List.length_take] at hi'
    rw [List.getElem_take]
    have := hs.less i (by omega) (by omega)
    show aheadB L[i] (tgtN s nx) = true
    rw [← cCp_neg]
    exact decide_eq_true this
  · obtain ⟨i, hi, rfl⟩ := List.mem_iff_getElem.1 hd
    have hi' := hi
    rw [List.length_drop] at hi'
    rw [List.getElem_drop]
    have h1 := hs.more (p + i) (by omega) (by omega)
    have h2 := hlt L[p + i] (List.getElem_mem _)
    generalize L[p + i] = d at h1 h2
    unfold cCp orI at h1
    have hne : ¬ d.se = s := fun e => by
      have e0 : cmpS d.se (tgtN s nx).se = 0 := cmpS_zero.2 e
      rw [e0] at h1
      have := (cmpI_neg (a := d.nu) (b := nx)).2 (h2 e)
      rw [if_pos rfl] at h1
      have h1' : 0 ≤ cmpI d.nu nx := h1
      omega
    have hz : cmpS d.se s ≠ 0 := fun e => hne (cmpS_zero.1 e)
    have h1' : 0 ≤ cmpS d.se s := by
      have h3 : (tgtN s nx).se = s := rfl
      rw [h3, if_neg hz] at h1
      exact h1
    have hpos : Op.bytesLess s.toList d.se.toList = true := cmpS_pos.1 (by omega)
    have hne2 : (d.se.toList == s.toList) = false := by
      cases hq : (d.se.toList == s.toList) with
      | false => rfl
      | true => exact absurd (bytes_eq.1 hq) hne
    constructor
    · show (Op.bytesLess d.se.toList s.toList || ((d.se.toList == s.toList) && decide (d.nu < m))) = false
      rw [less_asymm hpos, hne2]
      rfl
    · show (Op.bytesLess s.toList d.se.toList || _) = true
      rw [hpos]
      rfl
theorem ins_ris {L : List Cp} {s : ByteArray} {nx : Int} {p n : Nat} (v im : Int) (hs : Spot cCp L (tgtN s nx) p) (hlt : ∀ d ∈ L, d.se = s → d.nu < nx) (hr : risR aheadB L = true) : risR aheadB (L.take p ++ (madeL s v im n nx ++ L.drop p)) = true := by
  obtain ⟨h1, h2⟩ := next_spot v im hs hlt
  have hp := ris_pair hr
  rw [← List.take_append_drop p L, List.pairwise_append] at hp
  obtain ⟨q1, q2, q3⟩ := hp
  refine pair_ris (List.pairwise_append.2 ⟨q1, List.pairwise_append.2 ⟨made_pair s v im n nx, q2, fun a ha b hb => ?_⟩, fun a ha b hb => ?_⟩)
  · obtain ⟨e1, _⟩ := made_mem s v im n nx a ha
    have := (h2 b hb a.nu).2
    unfold aheadB at this ⊢
    rw [e1]
    exact this
  · rw [List.mem_append] at hb
    rcases hb with hb | hb
    · obtain ⟨e1, e2, _⟩ := made_mem s v im n nx b hb
      have := h1 a ha
      unfold aheadB at this ⊢
      simp only [Bool.or_eq_true, Bool.and_eq_true, decide_eq_true_iff] at this ⊢
      rw [e1]
      rcases this with h | ⟨h, h'⟩
      · exact Or.inl h
      · exact Or.inr ⟨h, by have h'' : a.nu < nx := h'; omega⟩
    · exact q3 a ha b hb
theorem ct_app (p : Cp → Bool) (L M : List Cp) : ct p (L ++ M) = ct p L + ct p M := by unfold ct; rw [List.countP_append]; omega
theorem made_live (s : ByteArray) (v im : Int) (n : Nat) (nx : Int) : ct (liveB s) (madeL s v im n nx) = n := by
  unfold ct
  rw [List.countP_eq_length.2, made_len]
  intro d hd
  obtain ⟨h1, _, _, h4⟩ := made_mem s v im n nx d hd
  unfold liveB mineB
  rw [h1, h4]
  simp
theorem made_ending (s : ByteArray) (v im : Int) (n : Nat) (nx : Int) : ct (endB s) (madeL s v im n nx) = 0 := by
  unfold ct
  rw [List.countP_eq_zero.2]
  · rfl
  intro d hd
  obtain ⟨_, _, _, h4⟩ := made_mem s v im n nx d hd
  unfold endB
  rw [h4]
  simp
theorem ins_live (L : List Cp) (s : ByteArray) (v im k : Int) (n p : Nat) (nx : Int) : (ctL (L.take p ++ (madeL s v im n nx ++ L.drop p)) s k).li = (ctL L s k).li + n := by
  have e : ct (liveB s) L = ct (liveB s) (L.take p) + ct (liveB s) (L.drop p) := by rw [← ct_app, List.take_append_drop]
  show ct (liveB s) _ = ct (liveB s) L + n
  rw [ct_app, ct_app, made_live, e]
  omega
theorem ins_ending (L : List Cp) (s : ByteArray) (v im k : Int) (n p : Nat) (nx : Int) : (ctL (L.take p ++ (madeL s v im n nx ++ L.drop p)) s k).en = (ctL L s k).en := by
  have e : ct (endB s) L = ct (endB s) (L.take p) + ct (endB s) (L.drop p) := by rw [← ct_app, List.take_append_drop]
  show ct (endB s) _ = ct (endB s) L
  rw [ct_app, ct_app, made_ending, e]
  omega
theorem ct_nn (p : Cp → Bool) (L : List Cp) : 0 ≤ ct p L := by unfold ct; omega

/-- what an end leaves -/
def keyC (c : Cp) : ByteArray × Int := (c.se, c.nu)
def Sm (L M : List Cp) : Prop := M.map keyC = L.map keyC
theorem Sm.refl (L : List Cp) : Sm L L := rfl
theorem Sm.ended {L M : List Cp} (h : Sm L M) (i : Nat) (v : Int) : Sm L (M.modify i (endC v)) := by
  unfold Sm at h ⊢
  rw [← h]
  refine List.ext_getElem (by simp) fun j h1 h2 => ?_
  rw [List.getElem_map, List.getElem_map, List.getElem_modify]
  split <;> rfl
theorem Sm.len {L M : List Cp} (h : Sm L M) : M.length = L.length := by
  have := congrArg List.length h
  simpa using this
theorem Sm.key {L M : List Cp} (h : Sm L M) (i : Nat) (h1 : i < M.length) (h2 : i < L.length) : M[i].se = L[i].se ∧ M[i].nu = L[i].nu := by
  have e1 : (M.map keyC)[i]? = (L.map keyC)[i]? := by rw [h]
  rw [List.getElem?_map, List.getElem?_map, List.getElem?_eq_getElem h1, List.getElem?_eq_getElem h2] at e1
  have := Option.some.inj e1
  exact ⟨congrArg Prod.fst this, congrArg Prod.snd this⟩
theorem Sm.ris {L M : List Cp} (h : Sm L M) (hr : risR aheadB L = true) : risR aheadB M = true := by
  refine pair_ris (List.pairwise_iff_getElem.2 fun i j hi hj hij => ?_)
  have hl := h.len
  obtain ⟨a1, a2⟩ := h.key i hi (by omega)
  obtain ⟨b1, b2⟩ := h.key j hj (by omega)
  have := ahead_lt hr (i := i) (j := j) (by omega) (by omega) hij
  unfold aheadB at this ⊢
  rw [a1, a2, b1, b2]
  exact this
theorem Sm.mem {L M : List Cp} (h : Sm L M) {d : Cp} (hd : d ∈ M) : ∃ c ∈ L, c.se = d.se ∧ c.nu = d.nu := by
  obtain ⟨i, hi, rfl⟩ := List.mem_iff_getElem.1 hd
  have hl := h.len
  obtain ⟨a1, a2⟩ := h.key i hi (by omega)
  exact ⟨L[i], List.getElem_mem _, a1.symm, a2.symm⟩
theorem Sm.some {L M : List Cp} (h : Sm L M) {s : ByteArray} {n : Int} (hf : (cpF L s n).isSome = true) : (cpF M s n).isSome = true := by
  unfold cpF at hf ⊢
  rw [List.find?_isSome] at hf ⊢
  obtain ⟨c, hc, hp⟩ := hf
  obtain ⟨i, hi, rfl⟩ := List.mem_iff_getElem.1 hc
  have hl := h.len
  obtain ⟨a1, a2⟩ := h.key i (by omega) hi
  refine ⟨M[i], List.getElem_mem _, ?_⟩
  unfold cpIs at hp ⊢
  rw [a1, a2]
  exact hp
theorem endsF_sm {v : Int} {s : ByteArray} : ∀ (es : List En) (X Y : Sb), endsF v s es X = some Y → Sm X.cs Y.cs ∧ Y.now = X.now
  | [], X, Y, h => by
    rw [endsF] at h
    cases h
    exact ⟨rfl, rfl⟩
  | e :: r, X, Y, h => by
    rw [endsF] at h
    split at h
    · obtain ⟨h1, h2⟩ := endsF_sm r _ Y h
      have h3 : Sm X.cs (endX v s e.nu X).cs := (Sm.refl _).ended _ v
      exact ⟨by unfold Sm at *; rw [h1, h3], h2⟩
    · cases h
end Go.Proofs.YtaogpeebencnoaaGreatDoor
namespace Go.Proofs.YtaogpeebencnoaaGreatDoor
open Go.RowKit Go.Deep

/-- what is panicked with -/
def haltV (c : Int) : Value := .iface 136 (.agg #[.iface 122 (.agg #[.int .i64 c])])
theorem goOn_yes (c : Int) (w : World) : Calls Tryz.prog 131 #[.bool true, .int .i64 c] w fun e w' => e = .returned (.tuple #[]) ∧ w' = w := by
  go_enter Tryz.func131, Tryz.ntmps131
  go_wp2
  go_end0
  exact ⟨rfl, rfl⟩
theorem goOn_yesB (c : Int) (w : World) : Calls Tryz.prog 131 #[.bool true, .int .i64 c] w fun e w' => e = .returned (.tuple #[]) ∧ Below w.heap.size w w' :=
  (goOn_yes c w).mono fun _ _ ⟨h1, h2⟩ => ⟨h1, by rw [h2]; exact Below.refl _ _⟩
theorem goOn_no (c : Int) (w : World) : Calls Tryz.prog 131 #[.bool false, .int .i64 c] w fun e w' => e = .panicked [{ v := haltV c, recovered := false }] ∧ w' = w := by
  go_enter Tryz.func131, Tryz.ntmps131
  go_wp2
  exact ⟨rfl, rfl, rfl⟩
theorem wkService_any (γ b off cap n pl : Nat) (w : World) (h1 : w.cell? ⟨γ, 1, none⟩ = some (.slice (some ⟨b, off, none⟩) n cap)) (h2 : w.cell? ⟨γ, 12, none⟩ = some (.int .i64 pl)) (hp : pl < n) :
    Calls Tryz.prog 106 #[.pointer (some ⟨γ, 0, none⟩)] w fun e w' => e = .returned (.pointer (some ⟨b, off + pl * 13, none⟩)) ∧ Below w.heap.size w w' := by
  have i0 : (0 : Int) ≤ (pl : Int) := by omega
  have i1 : (pl : Int) < (n : Int) := by omega
  go_enter Tryz.func106, Tryz.ntmps106
  go_wp2_with fail
  go_quiet (fail)
  go_wp2
  go_ret
  exact ⟨rfl, below_drewN (Below.refl _ _) nq⟩
end Go.Proofs.YtaogpeebencnoaaGreatDoor
namespace Go.Proofs.YtaogpeebencnoaaGreatDoor
open Go.RowKit Go.Deep

theorem SvsOwn.turn {lo hi b off cap : Nat} {w w' : World} {L : List Sv} (h : SvsOwn lo hi w (.slice (some ⟨b, off, none⟩) L.length cap) L) {K : Nat} (hk : K < L.length) (y : Sv) (hst : ∀ c0 c1, SvSt w b (off + K * 13) c0 c1 w L[K] → SvSt w b (off + K * 13) c0 c1 w' y) (hy : y.nm = L[K].nm) :
    SvsOwn lo hi w' (.slice (some ⟨b, off, none⟩) (L.set K y).length cap) (L.set K y) ∧ Touch lo hi w w' := by
  rcases h with ⟨a, c, h, rfl⟩ | ⟨b', off', cap', c, X, h1, h2, h3, h4, h5, h6⟩
  · simp at hk
  · injection h1 with e1 e2 e3
    injection e1 with e1
    injection e1 with e4 e5
    subst e4 e5 e3
    have hr := h6.row K hk
    rw [h5 K hk] at hr
    have hbc : b < c K := Nat.lt_of_lt_of_le h6.bc (h6.le (Nat.zero_le _) (by omega))
    have st2 := hst (c K) (c (K + 1)) ⟨Near.refl _ _ _ _ _ _, hbc, hr.2, h6.frz, h6.lt⟩
    have hone : SvOne b (off + K * 13) (c K) (c (K + 1)) w' y := ⟨⟨by rw [hy]; exact hr.1.s0⟩, st2.cells⟩
    have hrow := h6.near hk st2.near hone
    refine ⟨Or.inr ⟨b, off, cap, c, _, rfl, ?_, by rw [List.length_set]; exact h3, by rw [List.length_set]; exact h4, fun i hi' => ?_, by rw [List.length_set]; exact hrow⟩, st2.near.wide h6.lt (by have := h6.low; omega) (Nat.le_trans (h6.le (by omega) (Nat.le_refl _)) h6.top) ⟨h6.low, h6.bh⟩⟩
    · intro e
      have := congrArg List.length e
      rw [List.length_set] at this
      simp at this
      exact h2 this
    · rw [List.length_set] at hi'
      rw [List.getElem_set]
      by_cases e : i = K
      · subst e; simp
      · rw [if_neg e, if_neg (fun e' => e e'.symm)]
        exact h5 i hi'
theorem SvsOwn.one {lo hi : Nat} {w : World} {v : Value} {L : List Sv} (h : SvsOwn lo hi w v L) {K : Nat} (hk : K < L.length) : ∃ b off cap, v = .slice (some ⟨b, off, none⟩) L.length cap ∧ lo ≤ b ∧ b < hi ∧ b < w.heap.size ∧ (∀ i, w.frozen? ⟨b, i, none⟩ = false) ∧ SvCells w b (off + K * 13) L[K] := by
  rcases h with ⟨a, c, h, rfl⟩ | ⟨b', off', cap', c, X, h1, h2, h3, h4, h5, h6⟩
  · simp at hk
  · have hr := h6.row K hk
    rw [h5 K hk] at hr
    exact ⟨b', off', cap', h1, h6.low, h6.bh, h6.lt, h6.frz, hr.2⟩
theorem SvsOwn.oneAt {lo hi b off cap n : Nat} {w : World} {L : List Sv} (h : SvsOwn lo hi w (.slice (some ⟨b, off, none⟩) n cap) L) {K : Nat} (hk : K < L.length) : lo ≤ b ∧ b < hi ∧ b < w.heap.size ∧ (∀ i, w.frozen? ⟨b, i, none⟩ = false) ∧ SvCells w b (off + K * 13) L[K] := by
  obtain ⟨b', off', cap', h1, h2⟩ := h.one hk
  injection h1 with e1 e2 e3
  injection e1 with e1
  injection e1 with e4 e5
  subst e4 e5 e3
  exact h2
theorem CpsOwn.one {lo hi : Nat} {w : World} {v : Value} {L : List Cp} (h : CpsOwn lo hi w v L) {K : Nat} (hk : K < L.length) : ∃ b off cap, v = .slice (some ⟨b, off, none⟩) L.length cap ∧ lo ≤ b ∧ b < hi ∧ b < w.heap.size ∧ (∀ i, w.frozen? ⟨b, i, none⟩ = false) ∧ CpCells w b (off + K * 7) L[K] := by
  rcases h with ⟨a, c, h, rfl⟩ | ⟨b', off', cap', c, X, h1, h2, h3, h4, h5, h6⟩
  · simp at hk
  · have hr := h6.row K hk
    rw [h5 K hk] at hr
    exact ⟨b', off', cap', h1, h6.low, h6.bh, h6.lt, h6.frz, hr.2⟩
/-- an act at work: what lies in memory -/
structure Wk (w0 W : World) (lo γ s0 s1 c0 c1 e0 e1 : Nat) (C : Array Value) (sv cv bv : Value) (ss : List Sv) (cs : List Cp) (bs : List Be) : Prop where
  hb : Below w0.heap.size w0 W
  bx : Box W γ C
  so : SvsOwn s0 s1 W sv ss
  co : CpsOwn c0 c1 W cv cs
  eo : BesOwn e0 e1 W bv bs
  ch : c1 ≤ W.heap.size
  sh : CpSh W c0 c1 cv cs.length
  az : w0.heap.size ≤ lo ∧ lo ≤ s0 ∧ s1 ≤ γ ∧ lo ≤ e0 ∧ e1 ≤ γ ∧ lo ≤ c0 ∧ (c1 ≤ γ ∨ γ < c0) ∧ (s1 ≤ c0 ∨ c1 ≤ s0) ∧ (e1 ≤ c0 ∨ c1 ≤ e0) ∧ (s1 ≤ e0 ∨ e1 ≤ s0) ∧ lo ≤ γ
section
variable {w0 W W' : World} {lo γ s0 s1 c0 c1 e0 e1 : Nat} {C : Array Value} {sv cv bv : Value} {ss : List Sv} {cs : List Cp} {bs : List Be}
theorem Wk.on (h : Wk w0 W lo γ s0 s1 c0 c1 e0 e1 C sv cv bv ss cs bs) (hb : Below W.heap.size W W') : Wk w0 W' lo γ s0 s1 c0 c1 e0 e1 C sv cv bv ss cs bs :=
  ⟨bt h.hb hb, h.bx.on hb, h.so.below hb, h.co.below hb, h.eo.below hb, Nat.le_trans h.ch hb.size, h.sh.below hb, h.az⟩
theorem Wk.setB (h : Wk w0 W lo γ s0 s1 c0 c1 e0 e1 C sv cv bv ss cs bs) {k : Nat} (u : Value) (hk : k < C.size) : Wk w0 (W.setCell ⟨γ, k, none⟩ u) lo γ s0 s1 c0 c1 e0 e1 (C.set k u hk) sv cv bv ss cs bs ∧ Touch lo (γ + 1) W (W.setCell ⟨γ, k, none⟩ u) := by
  have az := h.az
  have ht := Touch.setCell γ (γ + 1) W ⟨γ, k, none⟩ u ⟨Nat.le_refl _, Nat.lt_succ_self _⟩
  exact ⟨⟨h.hb.setCell (by simp only []; omega) _, h.bx.set u hk, h.so.touch ht (by omega), h.co.touch ht (by omega), h.eo.touch ht (by omega), Nat.le_trans h.ch ht.size, h.sh.touch ht (by omega), az⟩, ht.wide (by omega) (by omega)⟩
theorem Wk.turnS {b off cap : Nat} (h : Wk w0 W lo γ s0 s1 c0 c1 e0 e1 C (.slice (some ⟨b, off, none⟩) ss.length cap) cv bv ss cs bs) {K : Nat} (hk : K < ss.length) (y : Sv) (hst : ∀ c0 c1, SvSt W b (off + K * 13) c0 c1 W ss[K] → SvSt W b (off + K * 13) c0 c1 W' y) (hy : y.nm = ss[K].nm) :
    Wk w0 W' lo γ s0 s1 c0 c1 e0 e1 C (.slice (some ⟨b, off, none⟩) (ss.set K y).length cap) cv bv (ss.set K y) cs bs ∧ Touch lo (γ + 1) W W' := by
  obtain ⟨g1, ht⟩ := h.so.turn hk y hst hy
  have az := h.az
  have hl := h.bx.lt
  have hs := h.hb.size
  exact ⟨⟨h.hb.trans (((ht.wide (lo' := lo) (hi' := γ + 1) (by omega) (by omega)).under (by omega)).mono (by omega)), h.bx.touch ht (by omega), g1, h.co.touch ht (by omega), h.eo.touch ht (by omega), Nat.le_trans h.ch ht.size, h.sh.touch ht (by omega), az⟩, ht.wide (by omega) (by omega)⟩
theorem Wk.turnN {b off cap n : Nat} (h : Wk w0 W lo γ s0 s1 c0 c1 e0 e1 C (.slice (some ⟨b, off, none⟩) n cap) cv bv ss cs bs) {K : Nat} (hk : K < ss.length) (y : Sv) (hst : ∀ c0 c1, SvSt W b (off + K * 13) c0 c1 W ss[K] → SvSt W b (off + K * 13) c0 c1 W' y) (hy : y.nm = ss[K].nm) :
    Wk w0 W' lo γ s0 s1 c0 c1 e0 e1 C (.slice (some ⟨b, off, none⟩) n cap) cv bv (ss.set K y) cs bs ∧ Touch lo (γ + 1) W W' := by
  obtain ⟨a, k, e⟩ := h.so.form
  injection e with e1 e2 e3
  subst e2
  have h2 := h.turnS hk y hst hy
  rw [List.length_set] at h2
  exact h2
theorem Wk.ended {b off cap : Nat} (h : Wk w0 W lo γ s0 s1 c0 c1 e0 e1 C sv (.slice (some ⟨b, off, none⟩) cs.length cap) bv ss cs bs) (hc : c1 ≤ γ) {ci : Nat} (hci : ci < cs.length) (v : Int) :
    Wk w0 ((W.setCell ⟨b, off + ci * 7 + 5, none⟩ (.bool true)).setCell ⟨b, off + ci * 7 + 2, none⟩ (.int .i64 v)) lo γ s0 s1 c0 c1 e0 e1 C sv (.slice (some ⟨b, off, none⟩) cs.length cap) bv ss (cs.modify ci (endC v)) bs ∧ Touch lo (γ + 1) W ((W.setCell ⟨b, off + ci * 7 + 5, none⟩ (.bool true)).setCell ⟨b, off + ci * 7 + 2, none⟩ (.int .i64 v)) := by
  obtain ⟨g1, ht⟩ := h.co.ended hci v
  have az := h.az
  have hl := h.bx.lt
  have hs := h.hb.size
  exact ⟨⟨h.hb.trans (((ht.wide (lo' := lo) (hi' := γ + 1) (by omega) (by omega)).under (by omega)).mono (by omega)), h.bx.touch ht (by omega), h.so.touch ht (by omega), g1, h.eo.touch ht (by omega), Nat.le_trans h.ch ht.size, by rw [List.length_modify]; exact (h.sh.set _ _ _).set _ _ _, az⟩, ht.wide (by omega) (by omega)⟩
end
end Go.Proofs.YtaogpeebencnoaaGreatDoor
namespace Go.Proofs.YtaogpeebencnoaaGreatDoor
open Go.RowKit Go.Deep

/-- the work's cells and its service's, above a world -/
abbrev HeldW (W0 : World) (γ : Nat) (cs : Array Value) (b o : Nat) (y : Sv) (W : World) : Prop :=
  (∀ i, W.cell? ⟨γ, i, none⟩ = cs[i]?) ∧ W.cell? ⟨b, o, none⟩ = some (.string y.nm) ∧ W.cell? ⟨b, o + 1, none⟩ = some (.int .i64 y.ve) ∧ W.cell? ⟨b, o + 2, none⟩ = some (.bool y.gn) ∧ W.cell? ⟨b, o + 3, none⟩ = some (.int .i64 y.im) ∧ W.cell? ⟨b, o + 4, none⟩ = some (.int .i64 y.wa) ∧ W.cell? ⟨b, o + 5, none⟩ = some (.int .i64 y.dn) ∧ W.cell? ⟨b, o + 6, none⟩ = some (.int .i64 y.ov) ∧ W.cell? ⟨b, o + 7, none⟩ = some (.int .i64 y.nx) ∧ W.cell? ⟨b, o + 8, none⟩ = some (.int .i64 y.pr) ∧ W.cell? ⟨b, o + 9, none⟩ = some (.int .i64 y.ls) ∧ W.cell? ⟨b, o + 10, none⟩ = some (.int .i64 y.ms) ∧ W.cell? ⟨b, o + 11, none⟩ = some (.int .i64 y.ld) ∧ W.cell? ⟨b, o + 12, none⟩ = some (.int .i64 y.cl) ∧ Hid (Below W0.heap.size W0 W ∧ γ < W0.heap.size ∧ b < W0.heap.size)
theorem HeldW.mk' {W0 W : World} {γ b o : Nat} {cs : Array Value} {y : Sv} (h : ∀ i, W.cell? ⟨γ, i, none⟩ = cs[i]?) (hc : SvCells W b o y) (hb : Below W0.heap.size W0 W) (h1 : γ < W0.heap.size) (h2 : b < W0.heap.size) : HeldW W0 γ cs b o y W :=
  ⟨h, hc.c0, hc.c1, hc.c2, hc.c3, hc.c4, hc.c5, hc.c6, hc.c7, hc.c8, hc.c9, hc.c10, hc.c11, hc.c12, hb, h1, h2⟩
theorem HeldW.drew {W0 : World} {γ b o : Nat} {cs : Array Value} {y : Sv} (h1 : Box W0 γ cs) (hc : SvCells W0 b o y) (hb : b < W0.heap.size) : HeldW W0 γ cs b o y W0.drew :=
  HeldW.mk' h1.cell ⟨hc.c0, hc.c1, hc.c2, hc.c3, hc.c4, hc.c5, hc.c6, hc.c7, hc.c8, hc.c9, hc.c10, hc.c11, hc.c12⟩ ((Below.refl _ _).drew) h1.lt hb
theorem HeldW.on {W0 W W' : World} {γ b o : Nat} {cs : Array Value} {y : Sv} (h : HeldW W0 γ cs b o y W) (hb : Below W.heap.size W W') : HeldW W0 γ cs b o y W' := by
  obtain ⟨h0, k0, k1, k2, k3, k4, k5, k6, k7, k8, k9, k10, k11, k12, hh⟩ := h
  obtain ⟨q1, q2, q3⟩ := hh.out
  have hz := q1.size
  exact HeldW.mk' (fun i => (hb.cell (p := ⟨γ, i, none⟩) (show γ < W.heap.size by omega)).trans (h0 i)) (SvCells.below ⟨k0, k1, k2, k3, k4, k5, k6, k7, k8, k9, k10, k11, k12⟩ hb (by omega)) (q1.trans (hb.mono hz)) q2 q3
theorem HeldW.base {W0 W : World} {γ b o : Nat} {cs : Array Value} {y : Sv} (h : HeldW W0 γ cs b o y W) : Below W0.heap.size W0 W := by
  obtain ⟨h0, k0, k1, k2, k3, k4, k5, k6, k7, k8, k9, k10, k11, k12, hh⟩ := h
  exact hh.out.1
theorem HeldW.cell {W0 W : World} {γ b o : Nat} {cs : Array Value} {y : Sv} (h : HeldW W0 γ cs b o y W) (i : Nat) : W.cell? ⟨γ, i, none⟩ = cs[i]? := h.1 i

/-- the place of a copy that is there -/
theorem placeAt_any (Z : Sb) (now : Int) (sv cv bv : Value) (s : ByteArray) (n : Int) (q : Nat) (w : World) {lo : Nat} (hL : CpsAt lo w cv Z.cs) (n1 : Z.cs.length ≤ 1048576) (hr : risR aheadB Z.cs = true) (hq : q = cpI Z.cs s n) (hf : ∃ (h : q < Z.cs.length), cpF Z.cs s n = some Z.cs[q]) (h0 : ∃ a n k, sv = .slice a n k) (h2 : ∃ a n k, bv = .slice a n k) :
    Calls Tryz.prog 104 #[.agg #[.int .i64 now, sv, cv, bv], .string s, .int .i64 n] w fun e w' => e = .returned (.tuple #[.int .i64 q, .bool true]) ∧ Below w.heap.size w w' := by
  refine (copyPlace_any lo now sv cv bv Z.cs s n w hL n1 hr h0 h2).mono ?_
  rintro e w' ⟨⟨p, hsp, rfl⟩, hb⟩
  obtain ⟨hqz, hqf⟩ := hf
  rcases cp_is hr hsp with ⟨-, hn⟩ | ⟨ht, hp, hc, hi, -⟩
  · rw [hn] at hqf; cases hqf
  · rw [ht]
    have : p = q := hi.symm.trans hq.symm
    subst this
    exact ⟨rfl, hb⟩

section
variable (w0 w : World) (lo γ s0 s1 c0 c1 e0 e1 sb so sc pl : Nat) (cv bv ev : Value) (A : Ac) (X : Sb) (x y : Sv) (v : Int) (ss : List Sv) (bs : List Be)

set_option maxRecDepth 100000 in
set_option maxHeartbeats 8000000 in
theorem end_any (hpl : pl < ss.length) (hy : ss[pl] = y) (hyx : y.gn = x.gn ∧ y.wa = x.wa ∧ y.dn = x.dn)
    (h : Wk w0 w lo γ s0 s1 c0 c1 e0 e1 #[.int .i64 v, .slice (some ⟨sb, so, none⟩) ss.length sc, cv, bv, .string A.sv, .int .i64 A.sn, .int .i64 A.cr, .int .i64 A.wa, .int .i64 A.cl, .bool A.sc, ev, .bool A.dp, .int .i64 pl] (.slice (some ⟨sb, so, none⟩) ss.length sc) cv bv ss X.cs bs)
    (hc1 : c1 ≤ γ) (ha : AcAt 0 w0 ev A) (hx : svF X.ss A.sv = some x) (hex : exB X A = true) (hr : risR aheadB X.cs = true) (hnu : ∀ i (h : i < X.cs.length), 1 ≤ X.cs[i].nu) (hl : X.cs.length ≤ 200) (he : A.es.length ≤ 200) (hw : (0 ≤ x.wa ∧ x.wa ≤ 10) ∧ (0 ≤ x.dn ∧ x.dn ≤ 10)) :
    Calls Tryz.prog 107 #[.pointer (some ⟨γ, 0, none⟩)] w fun e w' => Touch lo (γ + 1) w w' ∧ ((endsF v A.sv A.es X = none ∧ e = .panicked [{ v := haltV 5, recovered := false }]) ∨
      ∃ Y, endsF v A.sv A.es X = some Y ∧ e = .returned (.tuple #[]) ∧ Wk w0 w' lo γ s0 s1 c0 c1 e0 e1 #[.int .i64 v, .slice (some ⟨sb, so, none⟩) ss.length sc, cv, bv, .string A.sv, .int .i64 A.sn, .int .i64 A.cr, .int .i64 A.wa, .int .i64 A.cl, .bool A.sc, ev, .bool A.dp, .int .i64 pl] (.slice (some ⟨sb, so, none⟩) ss.length sc) cv bv ss Y.cs bs) := by
  have HW := hide h
  have HA := hide ha
  have HX := hide hx
  have HEX := hide hex
  have HR := hide hr
  have HNU := hide hnu
  have HBD := hide hw
  have HY := hide hy
  have HYX := hide hyx
  obtain ⟨ea, ec, rfl⟩ := ha.ens.form
  obtain ⟨ba, bc, rfl⟩ := h.eo.form
  have hcv : ∃ a n k, cv = .slice a n k := by
    obtain ⟨a, k, e⟩ := h.co.form
    exact ⟨a, _, k, e⟩
  clear h ha hx hex hr hnu hw hy hyx
  have p := HW.out.bx.cell 10
  simp at p
  go_enter Tryz.func107, Tryz.ntmps107
  go_wp2
  clear p
  go_loopw [13] (fun i wr => ∃ (j : Nat) (Z : Sb), i = .int .i64 j ∧ j ≤ A.es.length ∧ endsF v A.sv A.es X = endsF v A.sv (A.es.drop j) Z ∧ Z.ss = X.ss ∧ Sm X.cs Z.cs ∧ Touch lo (γ + 1) w wr ∧ Wk w0 wr lo γ s0 s1 c0 c1 e0 e1 #[.int .i64 v, .slice (some ⟨sb, so, none⟩) ss.length sc, cv, .slice ba bs.length bc, .string A.sv, .int .i64 A.sn, .int .i64 A.cr, .int .i64 A.wa, .int .i64 A.cl, .bool A.sc, .slice ea A.es.length ec, .bool A.dp, .int .i64 pl] (.slice (some ⟨sb, so, none⟩) ss.length sc) cv (.slice ba bs.length bc) ss Z.cs bs) (fun i _ => A.es.length - (intOf i).toNat)
  case atStart => exact ⟨0, X, rfl, by omega, rfl, rfl, Sm.refl _, Touch.refl _ _ _, HW.out⟩
  case round =>
    obtain ⟨j, Z, rfl, hj, hends, hzs, hsm, ht, hk⟩ := hrel
    have HE := hide hends
    have HZ := hide hzs
    have HS := hide hsm
    have HT := hide ht
    replace HW := hide hk
    clear hends hzs hsm ht hk
    by_cases hlt : j < A.es.length
    · obtain ⟨eb, eo, rfl, hew, -, hec⟩ := HA.out.ens.full' (by omega)
      have hcc := (hec j hlt).2.below HW.out.hb hew
      have d0 := hcc.c0
      have d1 := hcc.c1
      clear hec hcc
      have p := fun o => (HW.out.bx.on (one_al wr o)).cell
      go_wp2_with fail
      clear p d0 d1
      generalize hWb : wr.alloc _ = Wb
      have HWb : Hid (Wk w0 Wb lo γ s0 s1 c0 c1 e0 e1 #[.int .i64 v, .slice (some ⟨sb, so, none⟩) ss.length sc, cv, .slice ba bs.length bc, .string A.sv, .int .i64 A.sn, .int .i64 A.cr, .int .i64 A.wa, .int .i64 A.cl, .bool A.sc, .slice (some ⟨eb, eo, none⟩) A.es.length ec, .bool A.dp, .int .i64 pl] (.slice (some ⟨sb, so, none⟩) ss.length sc) cv (.slice ba bs.length bc) ss Z.cs bs) := by
        unfold Hid; rw [← hWb]; exact HW.out.on (one_al _ _)
      have HTb : Hid (Touch lo (γ + 1) w Wb) := by unfold Hid; rw [← hWb]; exact HT.out.trans (Touch.below (one_al _ _))
      have FE : Hid (Box Wb wr.heap.size #[.int .i64 A.es[j].nu, .int .i64 A.es[j].sn]) := by
        unfold Hid; rw [← hWb]; exact Box.new _ _ _ _ rfl
      clear hWb HW HT
      have hlZ := HS.out.len
      have hsome : (cpF Z.cs A.sv A.es[j].nu).isSome = true := HS.out.some (by
        have h1 := HEX.out
        unfold exB at h1
        exact List.all_eq_true.1 h1 _ (List.getElem_mem hlt))
      have HRZ := hide (HS.out.ris HR.out)
      obtain ⟨q, hq, hqi⟩ : ∃ q, q = cpI Z.cs A.sv A.es[j].nu ∧ ∃ (h : q < Z.cs.length), cpF Z.cs A.sv A.es[j].nu = some Z.cs[q] := by
        obtain ⟨ci, hi, -, h2, h3⟩ := cpR_some hsome
        exact ⟨ci, h3.symm, hi, h2⟩
      obtain ⟨hqz, hqf⟩ := hqi
      have HQ := hide hq
      have HQF := hide hqf
      clear hq hqf hsome
      go_cut [4] (fun c wc => c = .int .i64 q ∧ Below Wb.heap.size Wb wc)
      case first =>
        have xn : Nonempty (In (Up Wb)) := ⟨⟨Wb, Below.refl _ _⟩⟩
        have xs := fun (Y : In (Up Wb)) => in_self Y
        have p0 : ∀ Y : In (Up Wb), _ := fun Y => Up.cell Y (HWb.out.bx.cell 0)
        have p1 : ∀ Y : In (Up Wb), _ := fun Y => Up.cell Y (HWb.out.bx.cell 1)
        have p2 : ∀ Y : In (Up Wb), _ := fun Y => Up.cell Y (HWb.out.bx.cell 2)
        have p3 : ∀ Y : In (Up Wb), _ := fun Y => Up.cell Y (HWb.out.bx.cell 3)
        have p4 : ∀ Y : In (Up Wb), _ := fun Y => Up.cell Y (HWb.out.bx.cell 4)
        have f0 : ∀ Y : In (Up Wb), _ := fun Y => Up.cell Y (FE.out.cell 0)
        simp at p0 p1 p2 p3 p4 f0
        refine wp_region_class (Up Wb) (by kernel_rfl) (by kernel_rfl) ((Below.refl _ _).drew) ?_
        repeat (go_big_quiet_step ((go_at_call 104; rename_i Y; exact (placeAt_any Z v _ _ _ A.sv A.es[j].nu q _ (HWb.out.co.at.below Y.h) (by omega) HRZ.out HQ.out ⟨hqz, HQF.out⟩ ⟨_, _, _, rfl⟩ ⟨_, _, _, rfl⟩).mono fun _ _ h => ⟨h.1, Up.next Y h.2⟩)))
        refine wpQuiet_nil ?_
        intro wn hw
        obtain ⟨Y, hY⟩ := hw
        have HWN : Below Wb.heap.size Wb wn := by rw [hY]; exact Y.h
        clear hY Y p0 p1 p2 p3 p4 f0 xs xn
        go_wp2
        go_meet
        exact ⟨rfl, HWN⟩
      case rest =>
      obtain ⟨rfl, hbc⟩ := hcut
      have HWc := hide (HWb.out.on hbc)
      have HTc := hide (HTb.out.trans (Touch.below hbc))
      clear hbc HWb HTb FE
      go_wp2_with fail
      obtain ⟨-, -, hs3, -, hs5⟩ := HWc.out.so.oneAt hpl
      rw [HY.out] at hs5
      have HSC := hide hs5
      have HNZ : Hid (∀ i (h : i < Z.cs.length), 1 ≤ Z.cs[i].nu) := fun i h => by
        rw [(HS.out.key i h (by omega)).2]
        exact HNU.out i (by omega)
      have HBY : Hid ((0 ≤ y.wa ∧ y.wa ≤ 10) ∧ (0 ≤ y.dn ∧ y.dn ≤ 10)) := by
        unfold Hid; rw [HYX.out.2.1, HYX.out.2.2]; exact HBD.out
      obtain ⟨mb, hmb⟩ : ∃ b, b = mayT Z A.sv A.es[j].nu := ⟨_, rfl⟩
      have HMC : Hid (mayC Z.cs y Z.cs[q] = mb) := by
        unfold Hid
        rw [hmb, ← may_is HRZ.out hqz HQF.out (x := x) (by rw [HZ.out]; exact HX.out)]
        unfold mayC
        rw [HYX.out.1, HYX.out.2.1, HYX.out.2.2]
      have HMB := hide hmb
      clear hmb hs5
      refine wp_region_held_drew (S := HeldW wc γ #[.int .i64 v, .slice (some ⟨sb, so, none⟩) ss.length sc, cv, .slice ba bs.length bc, .string A.sv, .int .i64 A.sn, .int .i64 A.cr, .int .i64 A.wa, .int .i64 A.cl, .bool A.sc, .slice (some ⟨eb, eo, none⟩) A.es.length ec, .bool A.dp, .int .i64 pl] sb (so + pl * 13) y) (by kernel_rfl) (HeldW.drew HWc.out.bx HSC.out hs3) (fun hHeld => ?_)
      refine wpAnyH_take (i := 0) (v := .pointer (some ⟨γ, 0, none⟩)) rfl (by kernel_rfl) (by kernel_rfl) (by kernel_rfl) (fun _ _ _ h => h) (Or.inl ⟨by rfl, fun W hW => by (try dsimp only at hW); go_simp⟩) hHeld ?_
      try simp only [Act.put, List.getElem_toArray, List.getElem_cons_zero, List.setIfInBounds_toArray, List.set_cons_zero, List.set_cons_succ]
      refine wpAnyH_take (i := 1) (v := .pointer (some ⟨γ, 0, none⟩)) rfl (by kernel_rfl) (by kernel_rfl) (by kernel_rfl) (fun _ _ _ h => h) (Or.inl ⟨by rfl, fun W hW => by (try dsimp only at hW); go_simp⟩) hHeld ?_
      try simp only [Act.put, List.getElem_toArray, List.getElem_cons_succ, List.getElem_cons_zero, List.setIfInBounds_toArray, List.set_cons_zero, List.set_cons_succ]
      refine wpAnyH_take (i := 2) (v := .pointer (some ⟨γ, 0, none⟩)) rfl (by kernel_rfl) (by kernel_rfl) (by kernel_rfl) (fun _ _ _ h => h) (Or.inl ⟨by rfl, fun W hW => by (try dsimp only at hW); go_simp⟩) hHeld ?_
      try simp only [Act.put, List.getElem_toArray, List.getElem_cons_succ, List.getElem_cons_zero, List.setIfInBounds_toArray, List.set_cons_zero, List.set_cons_succ]
      refine wpAnyH_take (i := 3) (v := .agg #[.int .i64 v, .slice (some ⟨sb, so, none⟩) ss.length sc, cv, .slice ba bs.length bc]) rfl (by kernel_rfl) (by kernel_rfl) (by kernel_rfl) (fun _ _ _ h => h) (Or.inl ⟨by rfl, fun W hW => by (try dsimp only at hW); go_simp⟩) hHeld ?_
      try simp only [Act.put, List.getElem_toArray, List.getElem_cons_succ, List.getElem_cons_zero, List.setIfInBounds_toArray, List.set_cons_zero, List.set_cons_succ]
      refine wpAnyH_take (i := 4) (v := .pointer (some ⟨γ, 0, none⟩)) rfl (by kernel_rfl) (by kernel_rfl) (by kernel_rfl) (fun _ _ _ h => h) (Or.inl ⟨by rfl, fun W hW => by (try dsimp only at hW); go_simp⟩) hHeld ?_
      try simp only [Act.put, List.getElem_toArray, List.getElem_cons_succ, List.getElem_cons_zero, List.setIfInBounds_toArray, List.set_cons_zero, List.set_cons_succ]
      refine wpAnyH_take (i := 8) (v := .int .i64 q) rfl (by kernel_rfl) (by kernel_rfl) (by kernel_rfl) (fun _ _ _ h => h) (Or.inl ⟨by rfl, fun W hW => by (try dsimp only at hW); go_simp⟩) hHeld ?_
      try simp only [Act.put, List.getElem_toArray, List.getElem_cons_succ, List.getElem_cons_zero, List.setIfInBounds_toArray, List.set_cons_zero, List.set_cons_succ]
      refine wpAnyH_ready (rs := [5]) (by kernel_rfl) (by simp) ?_
      refine AllReadyH.cons rfl (fun K hK => ?_) AllReadyH.nil
      go_simp
      go_wp2_with (go_at_call 106; refine (wkService_any γ sb so sc ss.length pl _ (by rw [hHeld.cell 1]; rfl) (by rw [hHeld.cell 12]; rfl) hpl).mono ?_; rintro e w1 ⟨rfl, hb1⟩)
      refine hK.out _ _ (hHeld.on hb1) (fun hHeld => ?_)
      clear hK K
      refine wpAnyH_take (i := 6) (v := .pointer (some ⟨sb, so + pl * 13, none⟩)) rfl (by kernel_rfl) (by kernel_rfl) (by kernel_rfl) (fun _ _ _ h => h) (Or.inl ⟨by rfl, fun W hW => by (try dsimp only at hW); go_simp⟩) hHeld ?_
      try simp only [Act.put, List.getElem_toArray, List.getElem_cons_succ, List.getElem_cons_zero, List.setIfInBounds_toArray, List.set_cons_zero, List.set_cons_succ]
      refine wpAnyH_take (i := 7) (v := .agg #[.string y.nm, .int .i64 y.ve, .bool y.gn, .int .i64 y.im, .int .i64 y.wa, .int .i64 y.dn, .int .i64 y.ov, .int .i64 y.nx, .int .i64 y.pr, .int .i64 y.ls, .int .i64 y.ms, .int .i64 y.ld, .int .i64 y.cl]) rfl (by kernel_rfl) (by kernel_rfl) (by kernel_rfl) (fun _ _ _ h => h) (Or.inl ⟨by rfl, fun W hW => by (try dsimp only at hW); go_simp⟩) hHeld ?_
      try simp only [Act.put, List.getElem_toArray, List.getElem_cons_succ, List.getElem_cons_zero, List.setIfInBounds_toArray, List.set_cons_zero, List.set_cons_succ]
      refine wpAnyH_ready (rs := [9]) (by kernel_rfl) (by simp) ?_
      refine AllReadyH.cons rfl (fun K hK => ?_) AllReadyH.nil
      go_simp
      go_wp2_with (go_at_call 132; refine (mayAt_any c0 v _ _ _ Z.cs y q hqz _ (HWc.out.co.at.below hHeld.base) (by omega) HRZ.out HNZ.out ⟨_, _, _, rfl⟩ ⟨_, _, _, rfl⟩ HBY.out).mono ?_; rintro e w2 ⟨he2, hb2⟩; rw [HMC.out] at he2; subst he2)
      refine hK.out _ _ (hHeld.on hb2) (fun hHeld => ?_)
      clear hK K
      cases mb with
      | false =>
        have HEN : Hid (endsF v A.sv A.es X = none) := by
          unfold Hid
          rw [HE.out, endsF_step hlt, ← HMB.out]
          rfl
        refine wpAnyH_ready (rs := [10]) (by kernel_rfl) (by simp) ?_
        refine AllReadyH.cons rfl (fun K hK => ?_) AllReadyH.nil
        go_simp
        refine (goOn_no 5 _).mono ?_
        rintro e w3 ⟨rfl, rfl⟩
        exact ⟨rfl, HTc.out.trans (Touch.below hHeld.base), Or.inl ⟨HEN.out, rfl⟩⟩
      | true =>
        refine wpAnyH_ready (rs := [10]) (by kernel_rfl) (by simp) ?_
        refine AllReadyH.cons rfl (fun K hK => ?_) AllReadyH.nil
        go_simp
        go_wp2_with (go_at_call 131; refine (goOn_yes 5 _).mono ?_; rintro e w3 ⟨rfl, rfl⟩)
        have HW3 := hide (HWc.out.on hHeld.base)
        have HT3 := hide (HTc.out.trans (Touch.below hHeld.base))
        refine hK.out _ _ hHeld (fun hHeld2 => ?_)
        refine wpAnyH_done (by kernel_rfl) ?_ _
        clear hK K hHeld2 hHeld
        obtain ⟨cb, co, cc, hcve, hcb1, hcb2, hcb3, hfz, hcc⟩ := HW3.out.co.one hqz
        have haz := HW3.out.az
        have W4 := HW3.out
        rw [hcve] at W4
        obtain ⟨OE, TE⟩ := W4.ended hc1 hqz v
        rw [← hcve] at OE
        have z2 : w3.cell? ⟨γ, 2, none⟩ = some (.slice (some ⟨cb, co, none⟩) Z.cs.length cc) := by rw [HW3.out.bx.cell 2, ← hcve]; rfl
        have z0 : w3.cell? ⟨γ, 0, none⟩ = some (.int .i64 v) := by rw [HW3.out.bx.cell 0]; rfl
        have d5 := hcc.c5
        have d2 := hcc.c2
        have d2b : ∀ u, (w3.setCell ⟨cb, co + q * 7 + 5, none⟩ u).cell? ⟨cb, co + q * 7 + 2, none⟩ = some (.int .i64 Z.cs[q].ve) := fun u => (cell_set_ne0 _ _ _ _ _ (by omega)).trans d2
        have hfz2 : ∀ i p u, (w3.setCell p u).frozen? ⟨cb, i, none⟩ = false := fun i p u => by rw [World.frozen?_setCell]; exact hfz i
        have i0 : (0 : Int) ≤ (q : Int) := by omega
        have i1 : (q : Int) < (Z.cs.length : Int) := by omega
        have HOE := hide OE
        have HTE := hide (HT3.out.trans TE)
        have HEX2 : Hid (endsF v A.sv A.es X = endsF v A.sv (A.es.drop (j + 1)) (endX v A.sv A.es[j].nu Z)) := by
          unfold Hid
          rw [HE.out, endsF_step hlt, ← HMB.out]
          rfl
        clear hcc W4 OE TE hcve haz HWc HTc
        go_wp2
        clear z2 z0 d5 d2 d2b hfz hfz2
        generalize (w3.setCell ⟨cb, co + q * 7 + 5, none⟩ (.bool true)).setCell ⟨cb, co + q * 7 + 2, none⟩ (.int .i64 v) = W7 at *
        go_roundw
        case rel => exact ⟨j + 1, endX v A.sv A.es[j].nu Z, by go_num, by omega, HEX2.out, HZ.out, HS.out.ended _ v, HTE.out, by rw [HQ.out] at HOE; exact HOE.out⟩
        case measure => simp [intOf]; omega
    · have HD : Hid (endsF v A.sv A.es X = some Z) := by
        have := HE.out
        rw [List.drop_of_length_le (by omega)] at this
        exact this
      go_wp2
      go_end0
      exact ⟨HT.out, Or.inr ⟨Z, HD.out, rfl, HW.out⟩⟩
end
end Go.Proofs.YtaogpeebencnoaaGreatDoor
namespace Go.Proofs.YtaogpeebencnoaaGreatDoor
open Go.RowKit Go.Deep

theorem scS_no {A : Ac} {y : Sv} (h : A.sc = false) : scS A y = y := by unfold scS; rw [h]; rfl
theorem set_self {X : Type} {L : List X} {k : Nat} (hk : k < L.length) {y : X} (h : L[k] = y) : L.set k y = L := by subst h; exact List.set_getElem_self hk
theorem Wk.self {w0 W : World} {lo γ s0 s1 c0 c1 e0 e1 pl : Nat} {C : Array Value} {sv cv bv : Value} {ss : List Sv} {cs : List Cp} {bs : List Be} {y : Sv} (h : Wk w0 W lo γ s0 s1 c0 c1 e0 e1 C sv cv bv ss cs bs) (hpl : pl < ss.length) (hy : ss[pl] = y) : Wk w0 W lo γ s0 s1 c0 c1 e0 e1 C sv cv bv (ss.set pl y) cs bs := by
  rw [set_self hpl hy]; exact h
section
variable (w0 w : World) (lo γ s0 s1 c0 c1 e0 e1 sb so sc pl : Nat) (cv bv ev : Value) (A : Ac) (y : Sv) (v : Int) (ss : List Sv) (cs : List Cp) (bs : List Be)

set_option maxRecDepth 100000 in
set_option maxHeartbeats 8000000 in
theorem scale_any (hpl : pl < ss.length) (hy : ss[pl] = y) (hpr : 0 ≤ y.pr)
    (h : Wk w0 w lo γ s0 s1 c0 c1 e0 e1 #[.int .i64 v, .slice (some ⟨sb, so, none⟩) ss.length sc, cv, bv, .string A.sv, .int .i64 A.sn, .int .i64 A.cr, .int .i64 A.wa, .int .i64 A.cl, .bool A.sc, ev, .bool A.dp, .int .i64 pl] (.slice (some ⟨sb, so, none⟩) ss.length sc) cv bv ss cs bs) :
    Calls Tryz.prog 108 #[.pointer (some ⟨γ, 0, none⟩)] w fun e w' => Touch lo (γ + 1) w w' ∧ ((six3 A y = true ∧ e = .panicked [{ v := haltV 6, recovered := false }]) ∨
      (six3 A y = false ∧ e = .returned (.tuple #[]) ∧ Wk w0 w' lo γ s0 s1 c0 c1 e0 e1 #[.int .i64 v, .slice (some ⟨sb, so, none⟩) ss.length sc, cv, bv, .string A.sv, .int .i64 A.sn, .int .i64 A.cr, .int .i64 A.wa, .int .i64 A.cl, .bool A.sc, ev, .bool A.dp, .int .i64 pl] (.slice (some ⟨sb, so, none⟩) ss.length sc) cv bv (ss.set pl (scS A y)) cs bs)) := by
  have HW := hide h
  have HY := hide hy
  clear h hy
  cases hsc : A.sc with
  | false =>
    rw [hsc] at HW
    have HS6 : Hid (six3 A y = false) := by unfold Hid six3; rw [hsc]; rfl
    have HSC : Hid (scS A y = y) := scS_no hsc
    clear hsc
    have p := HW.out.bx.cell 9
    simp at p
    go_enter Tryz.func108, Tryz.ntmps108
    go_wp2
    refine bodyPost_ret (results_none rfl _ _ _) rfl ?_
    refine ⟨Touch.refl _ _ _, Or.inr ⟨HS6.out, rfl, ?_⟩⟩
    rw [HSC.out]
    exact HW.out.self hpl HY.out
  | true =>
    rw [hsc] at HW
    have HS6 : Hid (six3 A y = ((y.pr == 0) || !inB y.ls y.ms A.wa)) := by unfold Hid six3; rw [hsc]; rfl
    have HSC : Hid (scS A y = { y with wa := A.wa, cl := A.cl }) := by unfold Hid scS; rw [hsc]; rfl
    clear hsc
    have p := HW.out.bx.cell 9
    simp at p
    go_enter Tryz.func108, Tryz.ntmps108
    go_wp2_with (go_at_call 106; refine (wkService_any γ sb so sc ss.length pl _ (by rw [HW.out.bx.cell 1]; rfl) (by rw [HW.out.bx.cell 12]; rfl) hpl).mono ?_; rintro e wc ⟨rfl, hb1⟩)
    clear p
    have HWc := hide (HW.out.on hb1)
    have HTc : Hid (Touch lo (γ + 1) w wc) := Touch.below hb1
    clear hb1 HW
    obtain ⟨-, -, hs3, hfz, hs5⟩ := HWc.out.so.oneAt hpl
    rw [HY.out] at hs5
    have HSV := hide hs5
    have HFZ := hide hfz
    clear hs5 hfz
    have base : Hid (HeldW wc γ #[.int .i64 v, .slice (some ⟨sb, so, none⟩) ss.length sc, cv, bv, .string A.sv, .int .i64 A.sn, .int .i64 A.cr, .int .i64 A.wa, .int .i64 A.cl, .bool true, ev, .bool A.dp, .int .i64 pl] sb (so + pl * 13) y wc.drew) := HeldW.drew HWc.out.bx HSV.out hs3
    by_cases hp : 0 < y.pr
    · have hp0 : (y.pr == 0) = false := by simp; omega
      cases hin : inB y.ls y.ms A.wa with
      | false =>
        have HE : Hid (six3 A y = true) := by unfold Hid; rw [HS6.out, hp0, hin]; rfl
        have HIN := hide hin
        clear hp0 hin
        refine wp_region_held_drew (S := HeldW wc γ #[.int .i64 v, .slice (some ⟨sb, so, none⟩) ss.length sc, cv, bv, .string A.sv, .int .i64 A.sn, .int .i64 A.cr, .int .i64 A.wa, .int .i64 A.cl, .bool true, ev, .bool A.dp, .int .i64 pl] sb (so + pl * 13) y) (by kernel_rfl) base.out (fun hHeld => ?_)
        refine wpAnyH_take (i := 0) (v := .pointer (some ⟨sb, so + pl * 13, none⟩)) rfl (by kernel_rfl) (by kernel_rfl) (by kernel_rfl) (fun _ _ _ h => h) (Or.inl ⟨by rfl, fun W hW => by (try dsimp only at hW); go_simp⟩) hHeld ?_
        try simp only [Act.put, List.getElem_toArray, List.getElem_cons_zero, List.setIfInBounds_toArray, List.set_cons_zero, List.set_cons_succ]
        refine wpAnyH_take (i := 1) (v := .pointer (some ⟨sb, so + pl * 13, none⟩)) rfl (by kernel_rfl) (by kernel_rfl) (by kernel_rfl) (fun _ _ _ h => h) (Or.inl ⟨by rfl, fun W hW => by (try dsimp only at hW); go_simp⟩) hHeld ?_
        try simp only [Act.put, List.getElem_toArray, List.getElem_cons_succ, List.getElem_cons_zero, List.setIfInBounds_toArray, List.set_cons_zero, List.set_cons_succ]
        refine wpAnyH_take (i := 2) (v := .pointer (some ⟨sb, so + pl * 13 + 8, none⟩)) rfl (by kernel_rfl) (by kernel_rfl) (by kernel_rfl) (fun _ _ _ h => h) (Or.inl ⟨by rfl, fun W hW => by (try dsimp only at hW); go_simp⟩) hHeld ?_
        try simp only [Act.put, List.getElem_toArray, List.getElem_cons_succ, List.getElem_cons_zero, List.setIfInBounds_toArray, List.set_cons_zero, List.set_cons_succ]
        refine wpAnyH_take (i := 3) (v := .int .i64 y.pr) rfl (by kernel_rfl) (by kernel_rfl) (by kernel_rfl) (fun _ _ _ h => h) (Or.inl ⟨by rfl, fun W hW => by (try dsimp only at hW); go_simp⟩) hHeld ?_
        try simp only [Act.put, List.getElem_toArray, List.getElem_cons_succ, List.getElem_cons_zero, List.setIfInBounds_toArray, List.set_cons_zero, List.set_cons_succ]
        refine wpAnyH_take (i := 4) (v := .bool true) rfl (by kernel_rfl) (by kernel_rfl) (by kernel_rfl) (fun _ _ _ h => h) (Or.inl ⟨by rfl, fun W hW => by (try dsimp only at hW); go_simp⟩) hHeld ?_
        try simp only [Act.put, List.getElem_toArray, List.getElem_cons_succ, List.getElem_cons_zero, List.setIfInBounds_toArray, List.set_cons_zero, List.set_cons_succ]
        refine wpAnyH_take (i := 5) (v := .bool true) rfl (by kernel_rfl) (by kernel_rfl) (by kernel_rfl) (fun _ _ _ h => h) (Or.inl ⟨by rfl, fun W hW => by (try dsimp only at hW); go_simp⟩) hHeld ?_
        try simp only [Act.put, List.getElem_toArray, List.getElem_cons_succ, List.getElem_cons_zero, List.setIfInBounds_toArray, List.set_cons_zero, List.set_cons_succ]
        refine wpAnyH_take (i := 6) (v := .pointer (some ⟨γ, 0, none⟩)) rfl (by kernel_rfl) (by kernel_rfl) (by kernel_rfl) (fun _ _ _ h => h) (Or.inl ⟨by rfl, fun W hW => by (try dsimp only at hW); go_simp⟩) hHeld ?_
        try simp only [Act.put, List.getElem_toArray, List.getElem_cons_succ, List.getElem_cons_zero, List.setIfInBounds_toArray, List.set_cons_zero, List.set_cons_succ]
        refine wpAnyH_take (i := 7) (v := .pointer (some ⟨γ, 0, none⟩)) rfl (by kernel_rfl) (by kernel_rfl) (by kernel_rfl) (fun _ _ _ h => h) (Or.inl ⟨by rfl, fun W hW => by (try dsimp only at hW); go_simp⟩) hHeld ?_
        try simp only [Act.put, List.getElem_toArray, List.getElem_cons_succ, List.getElem_cons_zero, List.setIfInBounds_toArray, List.set_cons_zero, List.set_cons_succ]
        refine wpAnyH_take (i := 8) (v := .pointer (some ⟨γ, 4, none⟩)) rfl (by kernel_rfl) (by kernel_rfl) (by kernel_rfl) (fun _ _ _ h => h) (Or.inl ⟨by rfl, fun W hW => by (try dsimp only at hW); go_simp⟩) hHeld ?_
        try simp only [Act.put, List.getElem_toArray, List.getElem_cons_succ, List.getElem_cons_zero, List.setIfInBounds_toArray, List.set_cons_zero, List.set_cons_succ]
        refine wpAnyH_take (i := 9) (v := .pointer (some ⟨γ, 7, none⟩)) rfl (by kernel_rfl) (by kernel_rfl) (by kernel_rfl) (fun _ _ _ h => h) (Or.inl ⟨by rfl, fun W hW => by (try dsimp only at hW); go_simp⟩) hHeld ?_
        try simp only [Act.put, List.getElem_toArray, List.getElem_cons_succ, List.getElem_cons_zero, List.setIfInBounds_toArray, List.set_cons_zero, List.set_cons_succ]
        refine wpAnyH_take (i := 10) (v := .int .i64 A.wa) rfl (by kernel_rfl) (by kernel_rfl) (by kernel_rfl) (fun _ _ _ h => h) (Or.inl ⟨by rfl, fun W hW => by (try dsimp only at hW); go_simp⟩) hHeld ?_
        try simp only [Act.put, List.getElem_toArray, List.getElem_cons_succ, List.getElem_cons_zero, List.setIfInBounds_toArray, List.set_cons_zero, List.set_cons_succ]
        refine wpAnyH_take (i := 11) (v := .pointer (some ⟨sb, so + pl * 13, none⟩)) rfl (by kernel_rfl) (by kernel_rfl) (by kernel_rfl) (fun _ _ _ h => h) (Or.inl ⟨by rfl, fun W hW => by (try dsimp only at hW); go_simp⟩) hHeld ?_
        try simp only [Act.put, List.getElem_toArray, List.getElem_cons_succ, List.getElem_cons_zero, List.setIfInBounds_toArray, List.set_cons_zero, List.set_cons_succ]
        refine wpAnyH_take (i := 12) (v := .pointer (some ⟨sb, so + pl * 13, none⟩)) rfl (by kernel_rfl) (by kernel_rfl) (by kernel_rfl) (fun _ _ _ h => h) (Or.inl ⟨by rfl, fun W hW => by (try dsimp only at hW); go_simp⟩) hHeld ?_
        try simp only [Act.put, List.getElem_toArray, List.getElem_cons_succ, List.getElem_cons_zero, List.setIfInBounds_toArray, List.set_cons_zero, List.set_cons_succ]
        refine wpAnyH_take (i := 13) (v := .pointer (some ⟨sb, so + pl * 13 + 9, none⟩)) rfl (by kernel_rfl) (by kernel_rfl) (by kernel_rfl) (fun _ _ _ h => h) (Or.inl ⟨by rfl, fun W hW => by (try dsimp only at hW); go_simp⟩) hHeld ?_
        try simp only [Act.put, List.getElem_toArray, List.getElem_cons_succ, List.getElem_cons_zero, List.setIfInBounds_toArray, List.set_cons_zero, List.set_cons_succ]
        refine wpAnyH_take (i := 14) (v := .int .i64 y.ls) rfl (by kernel_rfl) (by kernel_rfl) (by kernel_rfl) (fun _ _ _ h => h) (Or.inl ⟨by rfl, fun W hW => by (try dsimp only at hW); go_simp⟩) hHeld ?_
        try simp only [Act.put, List.getElem_toArray, List.getElem_cons_succ, List.getElem_cons_zero, List.setIfInBounds_toArray, List.set_cons_zero, List.set_cons_succ]
        refine wpAnyH_take (i := 15) (v := .pointer (some ⟨sb, so + pl * 13, none⟩)) rfl (by kernel_rfl) (by kernel_rfl) (by kernel_rfl) (fun _ _ _ h => h) (Or.inl ⟨by rfl, fun W hW => by (try dsimp only at hW); go_simp⟩) hHeld ?_
        try simp only [Act.put, List.getElem_toArray, List.getElem_cons_succ, List.getElem_cons_zero, List.setIfInBounds_toArray, List.set_cons_zero, List.set_cons_succ]
        refine wpAnyH_take (i := 16) (v := .pointer (some ⟨sb, so + pl * 13, none⟩)) rfl (by kernel_rfl) (by kernel_rfl) (by kernel_rfl) (fun _ _ _ h => h) (Or.inl ⟨by rfl, fun W hW => by (try dsimp only at hW); go_simp⟩) hHeld ?_
        try simp only [Act.put, List.getElem_toArray, List.getElem_cons_succ, List.getElem_cons_zero, List.setIfInBounds_toArray, List.set_cons_zero, List.set_cons_succ]
        refine wpAnyH_take (i := 17) (v := .pointer (some ⟨sb, so + pl * 13 + 10, none⟩)) rfl (by kernel_rfl) (by kernel_rfl) (by kernel_rfl) (fun _ _ _ h => h) (Or.inl ⟨by rfl, fun W hW => by (try dsimp only at hW); go_simp⟩) hHeld ?_
        try simp only [Act.put, List.getElem_toArray, List.getElem_cons_succ, List.getElem_cons_zero, List.setIfInBounds_toArray, List.set_cons_zero, List.set_cons_succ]
        refine wpAnyH_take (i := 18) (v := .int .i64 y.ms) rfl (by kernel_rfl) (by kernel_rfl) (by kernel_rfl) (fun _ _ _ h => h) (Or.inl ⟨by rfl, fun W hW => by (try dsimp only at hW); go_simp⟩) hHeld ?_
        try simp only [Act.put, List.getElem_toArray, List.getElem_cons_succ, List.getElem_cons_zero, List.setIfInBounds_toArray, List.set_cons_zero, List.set_cons_succ]
        refine wpAnyH_ready (rs := [19]) (by kernel_rfl) (by simp) ?_
        refine AllReadyH.cons rfl (fun K hK => ?_) AllReadyH.nil
        go_simp
        go_wp2_with (go_at_call 87; refine (within_any _ _ _ _).mono ?_; rintro e w1 ⟨he1, rfl⟩; rw [HIN.out] at he1; subst he1)
        refine hK.out _ _ (hHeld) (fun hHeld => ?_)
        clear hK K
        refine wpAnyH_take (i := 20) (v := .bool false) rfl (by kernel_rfl) (by kernel_rfl) (by kernel_rfl) (fun _ _ _ h => h) (Or.inl ⟨by rfl, fun W hW => by (try dsimp only at hW); go_simp⟩) hHeld ?_
        try simp only [Act.put, List.getElem_toArray, List.getElem_cons_succ, List.getElem_cons_zero, List.setIfInBounds_toArray, List.set_cons_zero, List.set_cons_succ]
        refine wpAnyH_ready (rs := [21]) (by kernel_rfl) (by simp) ?_
        refine AllReadyH.cons rfl (fun K hK => ?_) AllReadyH.nil
        go_simp
        refine (goOn_no 6 _).mono ?_
        rintro e w3 ⟨rfl, rfl⟩
        exact ⟨rfl, HTc.out.trans (Touch.below hHeld.base), Or.inl ⟨HE.out, rfl⟩⟩
      | true =>
        have HE : Hid (six3 A y = false) := by unfold Hid; rw [HS6.out, hp0, hin]; rfl
        have HIN := hide hin
        clear hp0 hin
        refine wp_region_held_drew (S := HeldW wc γ #[.int .i64 v, .slice (some ⟨sb, so, none⟩) ss.length sc, cv, bv, .string A.sv, .int .i64 A.sn, .int .i64 A.cr, .int .i64 A.wa, .int .i64 A.cl, .bool true, ev, .bool A.dp, .int .i64 pl] sb (so + pl * 13) y) (by kernel_rfl) base.out (fun hHeld => ?_)
        refine wpAnyH_take (i := 0) (v := .pointer (some ⟨sb, so + pl * 13, none⟩)) rfl (by kernel_rfl) (by kernel_rfl) (by kernel_rfl) (fun _ _ _ h => h) (Or.inl ⟨by rfl, fun W hW => by (try dsimp only at hW); go_simp⟩) hHeld ?_
        try simp only [Act.put, List.getElem_toArray, List.getElem_cons_zero, List.setIfInBounds_toArray, List.set_cons_zero, List.set_cons_succ]
        refine wpAnyH_take (i := 1) (v := .pointer (some ⟨sb, so + pl * 13, none⟩)) rfl (by kernel_rfl) (by kernel_rfl) (by kernel_rfl) (fun _ _ _ h => h) (Or.inl ⟨by rfl, fun W hW => by (try dsimp only at hW); go_simp⟩) hHeld ?_
        try simp only [Act.put, List.getElem_toArray, List.getElem_cons_succ, List.getElem_cons_zero, List.setIfInBounds_toArray, List.set_cons_zero, List.set_cons_succ]
        refine wpAnyH_take (i := 2) (v := .pointer (some ⟨sb, so + pl * 13 + 8, none⟩)) rfl (by kernel_rfl) (by kernel_rfl) (by kernel_rfl) (fun _ _ _ h => h) (Or.inl ⟨by rfl, fun W hW => by (try dsimp only at hW); go_simp⟩) hHeld ?_
        try simp only [Act.put, List.getElem_toArray, List.getElem_cons_succ, List.getElem_cons_zero, List.setIfInBounds_toArray, List.set_cons_zero, List.set_cons_succ]
        refine wpAnyH_take (i := 3) (v := .int .i64 y.pr) rfl (by kernel_rfl) (by kernel_rfl) (by kernel_rfl) (fun _ _ _ h => h) (Or.inl ⟨by rfl, fun W hW => by (try dsimp only at hW); go_simp⟩) hHeld ?_
        try simp only [Act.put, List.getElem_toArray, List.getElem_cons_succ, List.getElem_cons_zero, List.setIfInBounds_toArray, List.set_cons_zero, List.set_cons_succ]
        refine wpAnyH_take (i := 4) (v := .bool true) rfl (by kernel_rfl) (by kernel_rfl) (by kernel_rfl) (fun _ _ _ h => h) (Or.inl ⟨by rfl, fun W hW => by (try dsimp only at hW); go_simp⟩) hHeld ?_
        try simp only [Act.put, List.getElem_toArray, List.getElem_cons_succ, List.getElem_cons_zero, List.setIfInBounds_toArray, List.set_cons_zero, List.set_cons_succ]
        refine wpAnyH_take (i := 5) (v := .bool true) rfl (by kernel_rfl) (by kernel_rfl) (by kernel_rfl) (fun _ _ _ h => h) (Or.inl ⟨by rfl, fun W hW => by (try dsimp only at hW); go_simp⟩) hHeld ?_
        try simp only [Act.put, List.getElem_toArray, List.getElem_cons_succ, List.getElem_cons_zero, List.setIfInBounds_toArray, List.set_cons_zero, List.set_cons_succ]
        refine wpAnyH_take (i := 6) (v := .pointer (some ⟨γ, 0, none⟩)) rfl (by kernel_rfl) (by kernel_rfl) (by kernel_rfl) (fun _ _ _ h => h) (Or.inl ⟨by rfl, fun W hW => by (try dsimp only at hW); go_simp⟩) hHeld ?_
        try simp only [Act.put, List.getElem_toArray, List.getElem_cons_succ, List.getElem_cons_zero, List.setIfInBounds_toArray, List.set_cons_zero, List.set_cons_succ]
        refine wpAnyH_take (i := 7) (v := .pointer (some ⟨γ, 0, none⟩)) rfl (by kernel_rfl) (by kernel_rfl) (by kernel_rfl) (fun _ _ _ h => h) (Or.inl ⟨by rfl, fun W hW => by (try dsimp only at hW); go_simp⟩) hHeld ?_
        try simp only [Act.put, List.getElem_toArray, List.getElem_cons_succ, List.getElem_cons_zero, List.setIfInBounds_toArray, List.set_cons_zero, List.set_cons_succ]
        refine wpAnyH_take (i := 8) (v := .pointer (some ⟨γ, 4, none⟩)) rfl (by kernel_rfl) (by kernel_rfl) (by kernel_rfl) (fun _ _ _ h => h) (Or.inl ⟨by rfl, fun W hW => by (try dsimp only at hW); go_simp⟩) hHeld ?_
        try simp only [Act.put, List.getElem_toArray, List.getElem_cons_succ, List.getElem_cons_zero, List.setIfInBounds_toArray, List.set_cons_zero, List.set_cons_succ]
        refine wpAnyH_take (i := 9) (v := .pointer (some ⟨γ, 7, none⟩)) rfl (by kernel_rfl) (by kernel_rfl) (by kernel_rfl) (fun _ _ _ h => h) (Or.inl ⟨by rfl, fun W hW => by (try dsimp only at hW); go_simp⟩) hHeld ?_
        try simp only [Act.put, List.getElem_toArray, List.getElem_cons_succ, List.getElem_cons_zero, List.setIfInBounds_toArray, List.set_cons_zero, List.set_cons_succ]
        refine wpAnyH_take (i := 10) (v := .int .i64 A.wa) rfl (by kernel_rfl) (by kernel_rfl) (by kernel_rfl) (fun _ _ _ h => h) (Or.inl ⟨by rfl, fun W hW => by (try dsimp only at hW); go_simp⟩) hHeld ?_
        try simp only [Act.put, List.getElem_toArray, List.getElem_cons_succ, List.getElem_cons_zero, List.setIfInBounds_toArray, List.set_cons_zero, List.set_cons_succ]
        refine wpAnyH_take (i := 11) (v := .pointer (some ⟨sb, so + pl * 13, none⟩)) rfl (by kernel_rfl) (by kernel_rfl) (by kernel_rfl) (fun _ _ _ h => h) (Or.inl ⟨by rfl, fun W hW => by (try dsimp only at hW); go_simp⟩) hHeld ?_
        try simp only [Act.put, List.getElem_toArray, List.getElem_cons_succ, List.getElem_cons_zero, List.setIfInBounds_toArray, List.set_cons_zero, List.set_cons_succ]
        refine wpAnyH_take (i := 12) (v := .pointer (some ⟨sb, so + pl * 13, none⟩)) rfl (by kernel_rfl) (by kernel_rfl) (by kernel_rfl) (fun _ _ _ h => h) (Or.inl ⟨by rfl, fun W hW => by (try dsimp only at hW); go_simp⟩) hHeld ?_
        try simp only [Act.put, List.getElem_toArray, List.getElem_cons_succ, List.getElem_cons_zero, List.setIfInBounds_toArray, List.set_cons_zero, List.set_cons_succ]
        refine wpAnyH_take (i := 13) (v := .pointer (some ⟨sb, so + pl * 13 + 9, none⟩)) rfl (by kernel_rfl) (by kernel_rfl) (by kernel_rfl) (fun _ _ _ h => h) (Or.inl ⟨by rfl, fun W hW => by (try dsimp only at hW); go_simp⟩) hHeld ?_
        try simp only [Act.put, List.getElem_toArray, List.getElem_cons_succ, List.getElem_cons_zero, List.setIfInBounds_toArray, List.set_cons_zero, List.set_cons_succ]
        refine wpAnyH_take (i := 14) (v := .int .i64 y.ls) rfl (by kernel_rfl) (by kernel_rfl) (by kernel_rfl) (fun _ _ _ h => h) (Or.inl ⟨by rfl, fun W hW => by (try dsimp only at hW); go_simp⟩) hHeld ?_
        try simp only [Act.put, List.getElem_toArray, List.getElem_cons_succ, List.getElem_cons_zero, List.setIfInBounds_toArray, List.set_cons_zero, List.set_cons_succ]
        refine wpAnyH_take (i := 15) (v := .pointer (some ⟨sb, so + pl * 13, none⟩)) rfl (by kernel_rfl) (by kernel_rfl) (by kernel_rfl) (fun _ _ _ h => h) (Or.inl ⟨by rfl, fun W hW => by (try dsimp only at hW); go_simp⟩) hHeld ?_
        try simp only [Act.put, List.getElem_toArray, List.getElem_cons_succ, List.getElem_cons_zero, List.setIfInBounds_toArray, List.set_cons_zero, List.set_cons_succ]
        refine wpAnyH_take (i := 16) (v := .pointer (some ⟨sb, so + pl * 13, none⟩)) rfl (by kernel_rfl) (by kernel_rfl) (by kernel_rfl) (fun _ _ _ h => h) (Or.inl ⟨by rfl, fun W hW => by (try dsimp only at hW); go_simp⟩) hHeld ?_
        try simp only [Act.put, List.getElem_toArray, List.getElem_cons_succ, List.getElem_cons_zero, List.setIfInBounds_toArray, List.set_cons_zero, List.set_cons_succ]
        refine wpAnyH_take (i := 17) (v := .pointer (some ⟨sb, so + pl * 13 + 10, none⟩)) rfl (by kernel_rfl) (by kernel_rfl) (by kernel_rfl) (fun _ _ _ h => h) (Or.inl ⟨by rfl, fun W hW => by (try dsimp only at hW); go_simp⟩) hHeld ?_
        try simp only [Act.put, List.getElem_toArray, List.getElem_cons_succ, List.getElem_cons_zero, List.setIfInBounds_toArray, List.set_cons_zero, List.set_cons_succ]
        refine wpAnyH_take (i := 18) (v := .int .i64 y.ms) rfl (by kernel_rfl) (by kernel_rfl) (by kernel_rfl) (fun _ _ _ h => h) (Or.inl ⟨by rfl, fun W hW => by (try dsimp only at hW); go_simp⟩) hHeld ?_
        try simp only [Act.put, List.getElem_toArray, List.getElem_cons_succ, List.getElem_cons_zero, List.setIfInBounds_toArray, List.set_cons_zero, List.set_cons_succ]
        refine wpAnyH_ready (rs := [19]) (by kernel_rfl) (by simp) ?_
        refine AllReadyH.cons rfl (fun K hK => ?_) AllReadyH.nil
        go_simp
        go_wp2_with (go_at_call 87; refine (within_any _ _ _ _).mono ?_; rintro e w1 ⟨he1, rfl⟩; rw [HIN.out] at he1; subst he1)
        refine hK.out _ _ (hHeld) (fun hHeld => ?_)
        clear hK K
        refine wpAnyH_take (i := 20) (v := .bool true) rfl (by kernel_rfl) (by kernel_rfl) (by kernel_rfl) (fun _ _ _ h => h) (Or.inl ⟨by rfl, fun W hW => by (try dsimp only at hW); go_simp⟩) hHeld ?_
        try simp only [Act.put, List.getElem_toArray, List.getElem_cons_succ, List.getElem_cons_zero, List.setIfInBounds_toArray, List.set_cons_zero, List.set_cons_succ]
        refine wpAnyH_ready (rs := [21]) (by kernel_rfl) (by simp) ?_
        refine AllReadyH.cons rfl (fun K hK => ?_) AllReadyH.nil
        go_simp
        go_wp2_with (go_at_call 131; refine (goOn_yesB 6 _).mono ?_; rintro e w3 ⟨rfl, hb3⟩)
        replace hHeld := hHeld.on hb3
        clear hb3
        have HW3 := hide (HWc.out.on hHeld.base)
        have h3c := hide hHeld.base
        have HT3 := hide (HTc.out.trans (Touch.below hHeld.base))
        refine hK.out _ _ hHeld (fun hHeld2 => ?_)
        refine wpAnyH_done (by kernel_rfl) ?_ _
        clear hK K hHeld2 hHeld
        have hsv := HSV.out.below (h3c.out) hs3
        have z7 : w3.cell? ⟨γ, 7, none⟩ = some (.int .i64 A.wa) := by rw [HW3.out.bx.cell 7]; rfl
        have z8 : w3.cell? ⟨γ, 8, none⟩ = some (.int .i64 A.cl) := by rw [HW3.out.bx.cell 8]; rfl
        have d4 := hsv.c4
        have d12 := hsv.c12
        have hfz : ∀ i, w3.frozen? ⟨sb, i, none⟩ = false := fun i => (h3c.out.frozen (p := ⟨sb, i, none⟩) hs3).trans (HFZ.out i)
        have d12b : ∀ u, (w3.setCell ⟨sb, so + pl * 13 + 4, none⟩ u).cell? ⟨sb, so + pl * 13 + 12, none⟩ = some (.int .i64 y.cl) := fun u => (cell_set_ne0 _ _ _ _ _ (by omega)).trans d12
        have hfz2 : ∀ i p u, (w3.setCell p u).frozen? ⟨sb, i, none⟩ = false := fun i p u => by rw [World.frozen?_setCell]; exact hfz i
        clear hsv
        go_wp2_with fail
        go_region
        all_goals
          go_wp2
          go_end0
          obtain ⟨hk, ht⟩ := HW3.out.turnS hpl { y with wa := A.wa, cl := A.cl } (fun c0 c1 st => by rw [HY.out] at st; exact (st.s4 A.wa).s12 A.cl) (by rw [HY.out])
          refine ⟨HT3.out.trans (ht.trans (Touch.below ((Below.refl _ _).drew))), Or.inr ⟨HE.out, rfl, ?_⟩⟩
          rw [HSC.out]
          have hk2 := hk.on ((Below.refl _ _).drew)
          rw [List.length_set] at hk2
          exact hk2
    · have hp0 : y.pr = 0 := by omega
      have HE : Hid (six3 A y = true) := by unfold Hid; rw [HS6.out, hp0]; rfl
      clear hp0
      refine wp_region_held_drew (S := HeldW wc γ #[.int .i64 v, .slice (some ⟨sb, so, none⟩) ss.length sc, cv, bv, .string A.sv, .int .i64 A.sn, .int .i64 A.cr, .int .i64 A.wa, .int .i64 A.cl, .bool true, ev, .bool A.dp, .int .i64 pl] sb (so + pl * 13) y) (by kernel_rfl) base.out (fun hHeld => ?_)
      refine wpAnyH_take (i := 0) (v := .pointer (some ⟨sb, so + pl * 13, none⟩)) rfl (by kernel_rfl) (by kernel_rfl) (by kernel_rfl) (fun _ _ _ h => h) (Or.inl ⟨by rfl, fun W hW => by (try dsimp only at hW); go_simp⟩) hHeld ?_
      try simp only [Act.put, List.getElem_toArray, List.getElem_cons_zero, List.setIfInBounds_toArray, List.set_cons_zero, List.set_cons_succ]
      refine wpAnyH_take (i := 1) (v := .pointer (some ⟨sb, so + pl * 13, none⟩)) rfl (by kernel_rfl) (by kernel_rfl) (by kernel_rfl) (fun _ _ _ h => h) (Or.inl ⟨by rfl, fun W hW => by (try dsimp only at hW); go_simp⟩) hHeld ?_
      try simp only [Act.put, List.getElem_toArray, List.getElem_cons_succ, List.getElem_cons_zero, List.setIfInBounds_toArray, List.set_cons_zero, List.set_cons_succ]
      refine wpAnyH_take (i := 2) (v := .pointer (some ⟨sb, so + pl * 13 + 8, none⟩)) rfl (by kernel_rfl) (by kernel_rfl) (by kernel_rfl) (fun _ _ _ h => h) (Or.inl ⟨by rfl, fun W hW => by (try dsimp only at hW); go_simp⟩) hHeld ?_
      try simp only [Act.put, List.getElem_toArray, List.getElem_cons_succ, List.getElem_cons_zero, List.setIfInBounds_toArray, List.set_cons_zero, List.set_cons_succ]
      refine wpAnyH_take (i := 3) (v := .int .i64 y.pr) rfl (by kernel_rfl) (by kernel_rfl) (by kernel_rfl) (fun _ _ _ h => h) (Or.inl ⟨by rfl, fun W hW => by (try dsimp only at hW); go_simp⟩) hHeld ?_
      try simp only [Act.put, List.getElem_toArray, List.getElem_cons_succ, List.getElem_cons_zero, List.setIfInBounds_toArray, List.set_cons_zero, List.set_cons_succ]
      refine wpAnyH_take (i := 4) (v := .bool false) rfl (by kernel_rfl) (by kernel_rfl) (by kernel_rfl) (fun _ _ _ h => h) (Or.inl ⟨by rfl, fun W hW => by (try dsimp only at hW); go_simp⟩) hHeld ?_
      try simp only [Act.put, List.getElem_toArray, List.getElem_cons_succ, List.getElem_cons_zero, List.setIfInBounds_toArray, List.set_cons_zero, List.set_cons_succ]
      refine wpAnyH_take (i := 5) (v := .bool false) rfl (by kernel_rfl) (by kernel_rfl) (by kernel_rfl) (fun _ _ _ h => h) (Or.inl ⟨by rfl, fun W hW => by (try dsimp only at hW); go_simp⟩) hHeld ?_
      try simp only [Act.put, List.getElem_toArray, List.getElem_cons_succ, List.getElem_cons_zero, List.setIfInBounds_toArray, List.set_cons_zero, List.set_cons_succ]
      refine wpAnyH_take (i := 6) (v := undef) rfl (by kernel_rfl) (by kernel_rfl) (by kernel_rfl) (fun _ _ _ h => h) (Or.inr ⟨by rfl, rfl⟩) hHeld ?_
      try simp only [Act.put, List.getElem_toArray, List.getElem_cons_succ, List.getElem_cons_zero, List.setIfInBounds_toArray, List.set_cons_zero, List.set_cons_succ]
      refine wpAnyH_take (i := 7) (v := undef) rfl (by kernel_rfl) (by kernel_rfl) (by kernel_rfl) (fun _ _ _ h => h) (Or.inr ⟨by rfl, rfl⟩) hHeld ?_
      try simp only [Act.put, List.getElem_toArray, List.getElem_cons_succ, List.getElem_cons_zero, List.setIfInBounds_toArray, List.set_cons_zero, List.set_cons_succ]
      refine wpAnyH_take (i := 8) (v := undef) rfl (by kernel_rfl) (by kernel_rfl) (by kernel_rfl) (fun _ _ _ h => h) (Or.inr ⟨by rfl, rfl⟩) hHeld ?_
      try simp only [Act.put, List.getElem_toArray, List.getElem_cons_succ, List.getElem_cons_zero, List.setIfInBounds_toArray, List.set_cons_zero, List.set_cons_succ]
      refine wpAnyH_take (i := 9) (v := undef) rfl (by kernel_rfl) (by kernel_rfl) (by kernel_rfl) (fun _ _ _ h => h) (Or.inr ⟨by rfl, rfl⟩) hHeld ?_
      try simp only [Act.put, List.getElem_toArray, List.getElem_cons_succ, List.getElem_cons_zero, List.setIfInBounds_toArray, List.set_cons_zero, List.set_cons_succ]
      refine wpAnyH_take (i := 10) (v := undef) rfl (by kernel_rfl) (by kernel_rfl) (by kernel_rfl) (fun _ _ _ h => h) (Or.inr ⟨by rfl, rfl⟩) hHeld ?_
      try simp only [Act.put, List.getElem_toArray, List.getElem_cons_succ, List.getElem_cons_zero, List.setIfInBounds_toArray, List.set_cons_zero, List.set_cons_succ]
      refine wpAnyH_take (i := 11) (v := undef) rfl (by kernel_rfl) (by kernel_rfl) (by kernel_rfl) (fun _ _ _ h => h) (Or.inr ⟨by rfl, rfl⟩) hHeld ?_
      try simp only [Act.put, List.getElem_toArray, List.getElem_cons_succ, List.getElem_cons_zero, List.setIfInBounds_toArray, List.set_cons_zero, List.set_cons_succ]
      refine wpAnyH_take (i := 12) (v := undef) rfl (by kernel_rfl) (by kernel_rfl) (by kernel_rfl) (fun _ _ _ h => h) (Or.inr ⟨by rfl, rfl⟩) hHeld ?_
      try simp only [Act.put, List.getElem_toArray, List.getElem_cons_succ, List.getElem_cons_zero, List.setIfInBounds_toArray, List.set_cons_zero, List.set_cons_succ]
      refine wpAnyH_take (i := 13) (v := undef) rfl (by kernel_rfl) (by kernel_rfl) (by kernel_rfl) (fun _ _ _ h => h) (Or.inr ⟨by rfl, rfl⟩) hHeld ?_
      try simp only [Act.put, List.getElem_toArray, List.getElem_cons_succ, List.getElem_cons_zero, List.setIfInBounds_toArray, List.set_cons_zero, List.set_cons_succ]
      refine wpAnyH_take (i := 14) (v := undef) rfl (by kernel_rfl) (by kernel_rfl) (by kernel_rfl) (fun _ _ _ h => h) (Or.inr ⟨by rfl, rfl⟩) hHeld ?_
      try simp only [Act.put, List.getElem_toArray, List.getElem_cons_succ, List.getElem_cons_zero, List.setIfInBounds_toArray, List.set_cons_zero, List.set_cons_succ]
      refine wpAnyH_take (i := 15) (v := undef) rfl (by kernel_rfl) (by kernel_rfl) (by kernel_rfl) (fun _ _ _ h => h) (Or.inr ⟨by rfl, rfl⟩) hHeld ?_
      try simp only [Act.put, List.getElem_toArray, List.getElem_cons_succ, List.getElem_cons_zero, List.setIfInBounds_toArray, List.set_cons_zero, List.set_cons_succ]
      refine wpAnyH_take (i := 16) (v := undef) rfl (by kernel_rfl) (by kernel_rfl) (by kernel_rfl) (fun _ _ _ h => h) (Or.inr ⟨by rfl, rfl⟩) hHeld ?_
      try simp only [Act.put, List.getElem_toArray, List.getElem_cons_succ, List.getElem_cons_zero, List.setIfInBounds_toArray, List.set_cons_zero, List.set_cons_succ]
      refine wpAnyH_take (i := 17) (v := undef) rfl (by kernel_rfl) (by kernel_rfl) (by kernel_rfl) (fun _ _ _ h => h) (Or.inr ⟨by rfl, rfl⟩) hHeld ?_
      try simp only [Act.put, List.getElem_toArray, List.getElem_cons_succ, List.getElem_cons_zero, List.setIfInBounds_toArray, List.set_cons_zero, List.set_cons_succ]
      refine wpAnyH_take (i := 18) (v := undef) rfl (by kernel_rfl) (by kernel_rfl) (by kernel_rfl) (fun _ _ _ h => h) (Or.inr ⟨by rfl, rfl⟩) hHeld ?_
      try simp only [Act.put, List.getElem_toArray, List.getElem_cons_succ, List.getElem_cons_zero, List.setIfInBounds_toArray, List.set_cons_zero, List.set_cons_succ]
      refine wpAnyH_take (i := 19) (v := undef) rfl (by kernel_rfl) (by kernel_rfl) (by kernel_rfl) (fun _ _ _ h => h) (Or.inr ⟨by rfl, rfl⟩) hHeld ?_
      try simp only [Act.put, List.getElem_toArray, List.getElem_cons_succ, List.getElem_cons_zero, List.setIfInBounds_toArray, List.set_cons_zero, List.set_cons_succ]
      refine wpAnyH_take (i := 20) (v := .bool false) rfl (by kernel_rfl) (by kernel_rfl) (by kernel_rfl) (fun _ _ _ h => h) (Or.inl ⟨by rfl, fun W hW => by (try dsimp only at hW); go_simp⟩) hHeld ?_
      try simp only [Act.put, List.getElem_toArray, List.getElem_cons_succ, List.getElem_cons_zero, List.setIfInBounds_toArray, List.set_cons_zero, List.set_cons_succ]
      refine wpAnyH_ready (rs := [21]) (by kernel_rfl) (by simp) ?_
      refine AllReadyH.cons rfl (fun K hK => ?_) AllReadyH.nil
      go_simp
      refine (goOn_no 6 _).mono ?_
      rintro e w3 ⟨rfl, rfl⟩
      exact ⟨rfl, HTc.out.trans (Touch.below hHeld.base), Or.inl ⟨HE.out, rfl⟩⟩
end
end Go.Proofs.YtaogpeebencnoaaGreatDoor
namespace Go.Proofs.YtaogpeebencnoaaGreatDoor
open Go.RowKit Go.Deep

/-- the same, where blocks from n on may turn -/
abbrev HeldN (n : Nat) (W0 : World) (γ : Nat) (cs : Array Value) (b o : Nat) (y : Sv) (W : World) : Prop :=
  (∀ i, W.cell? ⟨γ, i, none⟩ = cs[i]?) ∧ W.cell? ⟨b, o, none⟩ = some (.string y.nm) ∧ W.cell? ⟨b, o + 1, none⟩ = some (.int .i64 y.ve) ∧ W.cell? ⟨b, o + 2, none⟩ = some (.bool y.gn) ∧ W.cell? ⟨b, o + 3, none⟩ = some (.int .i64 y.im) ∧ W.cell? ⟨b, o + 4, none⟩ = some (.int .i64 y.wa) ∧ W.cell? ⟨b, o + 5, none⟩ = some (.int .i64 y.dn) ∧ W.cell? ⟨b, o + 6, none⟩ = some (.int .i64 y.ov) ∧ W.cell? ⟨b, o + 7, none⟩ = some (.int .i64 y.nx) ∧ W.cell? ⟨b, o + 8, none⟩ = some (.int .i64 y.pr) ∧ W.cell? ⟨b, o + 9, none⟩ = some (.int .i64 y.ls) ∧ W.cell? ⟨b, o + 10, none⟩ = some (.int .i64 y.ms) ∧ W.cell? ⟨b, o + 11, none⟩ = some (.int .i64 y.ld) ∧ W.cell? ⟨b, o + 12, none⟩ = some (.int .i64 y.cl) ∧ Hid (Below n W0 W ∧ γ < n ∧ b < n ∧ n ≤ W0.heap.size)
theorem HeldN.mk' {n : Nat} {W0 W : World} {γ b o : Nat} {cs : Array Value} {y : Sv} (h : ∀ i, W.cell? ⟨γ, i, none⟩ = cs[i]?) (hc : SvCells W b o y) (hb : Below n W0 W) (h1 : γ < n) (h2 : b < n) (h3 : n ≤ W0.heap.size) : HeldN n W0 γ cs b o y W :=
  ⟨h, hc.c0, hc.c1, hc.c2, hc.c3, hc.c4, hc.c5, hc.c6, hc.c7, hc.c8, hc.c9, hc.c10, hc.c11, hc.c12, hb, h1, h2, h3⟩
theorem HeldN.drew {n : Nat} {W0 : World} {γ b o : Nat} {cs : Array Value} {y : Sv} (h1 : Box W0 γ cs) (hc : SvCells W0 b o y) (hg : γ < n) (hb : b < n) (hn : n ≤ W0.heap.size) : HeldN n W0 γ cs b o y W0.drew :=
  HeldN.mk' h1.cell ⟨hc.c0, hc.c1, hc.c2, hc.c3, hc.c4, hc.c5, hc.c6, hc.c7, hc.c8, hc.c9, hc.c10, hc.c11, hc.c12⟩ ((Below.refl _ _).drew) hg hb hn
theorem HeldN.on {n : Nat} {W0 W W' : World} {γ b o : Nat} {cs : Array Value} {y : Sv} (h : HeldN n W0 γ cs b o y W) (hb : Below n W W') : HeldN n W0 γ cs b o y W' := by
  obtain ⟨h0, k0, k1, k2, k3, k4, k5, k6, k7, k8, k9, k10, k11, k12, hh⟩ := h
  obtain ⟨q1, q2, q3, q4⟩ := hh.out
  exact HeldN.mk' (fun i => (hb.cell (p := ⟨γ, i, none⟩) q2).trans (h0 i)) (SvCells.below ⟨k0, k1, k2, k3, k4, k5, k6, k7, k8, k9, k10, k11, k12⟩ hb q3) (q1.trans hb) q2 q3 q4
theorem HeldN.base {n : Nat} {W0 W : World} {γ b o : Nat} {cs : Array Value} {y : Sv} (h : HeldN n W0 γ cs b o y W) : Below n W0 W := by
  obtain ⟨h0, k0, k1, k2, k3, k4, k5, k6, k7, k8, k9, k10, k11, k12, hh⟩ := h
  exact hh.out.1
theorem HeldN.al {n : Nat} {W0 W : World} {γ b o : Nat} {cs : Array Value} {y : Sv} (h : HeldN n W0 γ cs b o y W) (ob : Obj) : HeldN n W0 γ cs b o y (W.alloc ob) := by
  have h' := h
  obtain ⟨h0, k0, k1, k2, k3, k4, k5, k6, k7, k8, k9, k10, k11, k12, hh⟩ := h
  obtain ⟨q1, q2, q3, q4⟩ := hh.out
  exact h'.on ((one_al W ob).mono (Nat.le_trans q4 q1.size))
theorem Touch.ofBelow {n : Nat} {a b : World} (h : Below n a b) : Touch n a.heap.size a b := ⟨h.os, h.tape, h.output, h.size, fun k hk ho => h.block k (by omega)⟩
theorem Wk.up {w0 W W' : World} {lo γ s0 s1 c0 c1 e0 e1 n : Nat} {C : Array Value} {sv cv bv : Value} {ss : List Sv} {cs : List Cp} {bs : List Be} (h : Wk w0 W lo γ s0 s1 c0 c1 e0 e1 C sv cv bv ss cs bs) (hc : c1 ≤ γ) (hb : Below n W W') (hn : γ < n) : Wk w0 W' lo γ s0 s1 c0 c1 e0 e1 C sv cv bv ss cs bs := by
  have ht := Touch.ofBelow hb
  have az := h.az
  exact ⟨h.hb.trans (hb.mono (by omega)), h.bx.below hb hn, h.so.touch ht (by omega), h.co.touch ht (by omega), h.eo.touch ht (by omega), Nat.le_trans h.ch hb.size, h.sh.touch ht (by omega), az⟩
theorem Touch.thenB {lo hi n : Nat} {a b c : World} (h : Touch lo hi a b) (k : Below n b c) (hn : a.heap.size ≤ n) : Touch lo hi a c := ⟨k.os.trans h.os, k.tape.trans h.tape, k.output.trans h.output, Nat.le_trans h.size k.size, fun i hi' ho => (k.block i (by omega)).trans (h.block i hi' ho)⟩
theorem owns_low {base base' : Nat} {w : World} {e : TypeId} {size n : Nat} {v : Value} {xs : List Value} (h : w.ownsRow base e size v n xs) (hb : base' ≤ base) : w.ownsRow base' e size v n xs := by
  obtain ⟨h1, h2 | ⟨g, cap, cur, h3, h4, h5⟩⟩ := h
  · exact ⟨h1, Or.inl h2⟩
  · exact ⟨h1, Or.inr ⟨g, cap, cur, h3, Nat.le_trans hb h4, h5⟩⟩
theorem owns_other {base : Nat} {w : World} {e : TypeId} {size n : Nat} {v : Value} {xs : List Value} (h : w.ownsRow base e size v n xs) {p : Addr} (hp : p.block < base) (u : Value) : (w.setCell p u).ownsRow base e size v n xs := by
  obtain ⟨h1, h2⟩ := h
  refine ⟨h1, ?_⟩
  rcases h2 with h2 | ⟨g, cap, cur, h3, h4, h5, h6⟩
  · exact Or.inl h2
  · exact Or.inr ⟨g, cap, cur, h3, h4, (heap_setCell_other w p g u (by omega)).trans h5, h6⟩
theorem CpSh.blk {w : World} {c0 c1 n : Nat} {v : Value} (h : CpSh w c0 c1 v n) : ∀ g, v.ownBlock = some g → c0 ≤ g ∧ g < c1 := fun g hg => by
  rcases h with ⟨rfl, -⟩ | ⟨g', cap, cur, rfl, h2, h3, -⟩
  · cases hg
  · cases hg; exact ⟨h2, h3⟩
/-- other copies, in the same block or in a new one -/
theorem Wk.ins {w0 W W' : World} {lo γ s0 s1 c0 c1 e0 e1 : Nat} {C : Array Value} {sv cv cv' bv : Value} {ss : List Sv} {cs L : List Cp} {bs : List Be} (h : Wk w0 W lo γ s0 s1 c0 c1 e0 e1 C sv cv bv ss cs bs) (hc : c1 ≤ γ)
    {base : Nat} (hown : W'.ownsRow base 92 7 cv' L.length (flatV cpL L)) (hg : W.grownBy W' cv.ownBlock) (hob : cv'.ownBlock = cv.ownBlock ∨ cv'.ownBlock = some W.heap.size) (hz : ∀ i (hi : i < L.length), CpSize L[i]) (hm : L.length ≤ maxLen) :
    (∃ c0' c1', (c1' ≤ γ ∨ W.heap.size ≤ c0') ∧ Wk w0 W' lo γ s0 s1 c0' c1' e0 e1 C sv cv' bv ss L bs) ∧ Touch lo (γ + 1) W W' := by
  have az := h.az
  have hl := h.bx.lt
  have hs := h.hb.size
  have ht : Touch c0 c1 W W' := ⟨hg.os, hg.tape, hg.output, hg.size, fun k hk ho => hg.block k hk (fun e => by have := h.sh.blk k e.symm; omega)⟩
  have hsz := hg.size
  have hbb := h.hb.trans (((ht.wide (lo' := lo) (hi' := γ + 1) (by omega) (by omega)).under (by omega)).mono (by omega))
  refine ⟨?_, ht.wide (by omega) (by omega)⟩
  rcases hob with hob | hob
  · obtain ⟨g1, g2⟩ := owns_cps hown (c0 := c0) (c1 := c1) (fun g hg => h.sh.blk g (hob ▸ hg)) hz hm
    exact ⟨c0, c1, Or.inl hc, hbb, h.bx.touch ht (by omega), h.so.touch ht (by omega), g1, h.eo.touch ht (by omega), Nat.le_trans h.ch hsz, g2, az⟩
  · have hex : W.heap.size < W'.heap.size := by
      rcases hown.2 with ⟨rfl, _⟩ | ⟨g', cap', cur', rfl, hbg, hh, _⟩
      · cases hob
      · cases hob
        exact (Array.getElem?_eq_some_iff.1 hh).1
    obtain ⟨g1, g2⟩ := owns_cps hown (c0 := W.heap.size) (c1 := W.heap.size + 1) (fun g hg => by rw [hob] at hg; cases hg; omega) hz hm
    exact ⟨W.heap.size, W.heap.size + 1, Or.inr (Nat.le_refl _), hbb, h.bx.touch ht (by omega), h.so.touch ht (by omega), g1, h.eo.touch ht (by omega), hex, g2, by omega⟩
theorem made_size {s : ByteArray} {v im : Int} (hs : s.size ≤ maxLen) {n : Nat} {nx : Int} {d : Cp} (hd : d ∈ madeL s v im n nx) : CpSize d := by
  induction n generalizing nx with
  | zero => cases hd
  | succ n ih =>
    rw [madeL, List.mem_cons] at hd
    rcases hd with rfl | hd
    · exact ⟨hs, Nat.zero_le _⟩
    · exact ih hd
/-- the place of what is looked for -/
theorem spot_is {L : List Cp} (hr : risR aheadB L = true) (t : Cp) : ∃ p, Spot cCp L t p := by
  have hri := rises_cp hr t
  refine ⟨L.findIdx (fun d => decide (0 ≤ cCp d t)), List.findIdx_le_length, fun i h hi => ?_, fun i h hi => ?_⟩
  · have := List.not_of_lt_findIdx hi
    simp at this
    exact this
  · rcases Nat.lt_or_eq_of_le hi with hlt | he
    · have hp := List.findIdx_getElem (xs := L) (p := fun d => decide (0 ≤ cCp d t)) (w := by omega)
      simp at hp
      by_cases hc : cCp L[i] t < 0
      · have := hri _ i (by omega) h hlt hc
        omega
      · omega
    · subst he
      have hp := List.findIdx_getElem (xs := L) (p := fun d => decide (0 ≤ cCp d t)) (w := h)
      simpa using hp
theorem spot_one {L : List Cp} {t : Cp} {p q : Nat} (h1 : Spot cCp L t p) (h2 : Spot cCp L t q) : p = q := by
  have := h1.le
  have := h2.le
  rcases Nat.lt_trichotomy p q with h | h | h
  · have a := h2.less p (by omega) h
    have b := h1.more p (by omega) (Nat.le_refl _)
    omega
  · exact h
  · have a := h1.less q (by omega) h
    have b := h2.more q (by omega) (Nat.le_refl _)
    omega
theorem placeSpot_any (now : Int) (sv cv bv : Value) (L : List Cp) (s : ByteArray) (n : Int) (q : Nat) (w : World) {lo : Nat} (hL : CpsAt lo w cv L) (n1 : L.length ≤ 1048576) (hr : risR aheadB L = true) (hq : Spot cCp L (tgtN s n) q) (h0 : ∃ a n k, sv = .slice a n k) (h2 : ∃ a n k, bv = .slice a n k) :
    Calls Tryz.prog 104 #[.agg #[.int .i64 now, sv, cv, bv], .string s, .int .i64 n] w fun e w' => e = .returned (.tuple #[.int .i64 q, .bool (isAt cCp L (tgtN s n) q)]) ∧ Below w.heap.size w w' := by
  refine (copyPlace_any lo now sv cv bv L s n w hL n1 hr h0 h2).mono ?_
  rintro e w' ⟨⟨p, hsp, rfl⟩, hb⟩
  obtain rfl := spot_one hsp hq
  exact ⟨rfl, hb⟩
end Go.Proofs.YtaogpeebencnoaaGreatDoor
namespace Go.Proofs.YtaogpeebencnoaaGreatDoor
open Go.RowKit Go.Deep

theorem rep20 : (Array.replicate 20 undef : Array Value) = #[undef, undef, undef, undef, undef, undef, undef, undef, undef, undef, undef, undef, undef, undef, undef, undef, undef, undef, undef, undef] := rfl
theorem assertNo (w : World) : (Instr.typeAssert .nilIface 20 136 true).run Tryz.prog w = .ok (.tuple #[.agg #[.nilIface], .bool false]) w := by kernel_rfl
theorem assertYes (v : Value) (w : World) : (Instr.typeAssert (.iface 136 (.agg #[v])) 20 136 true).run Tryz.prog w = .ok (.tuple #[.agg #[v], .bool true]) w := by kernel_rfl
theorem neqNo (w : World) : (binOp BinOp.neq 20 .nilIface .nilIface).run Tryz.prog w = .ok (.bool false) w := by kernel_rfl
theorem neqYes (v : Value) (w : World) : (binOp BinOp.neq 20 (.iface 136 v) .nilIface).run Tryz.prog w = .ok (.bool true) w := by kernel_rfl

set_option maxRecDepth 20000 in
set_option maxHeartbeats 4000000 in
/-- what is deferred, where nothing was panicked -/
theorem catch_idle (r1 r2 : Nat) (w : World) :
    CallsD Tryz.prog 81 #[.pointer (some ⟨r1, 0, none⟩), .pointer (some ⟨r2, 0, none⟩)] .returning w fun e u' w' => e = .returned (.tuple #[]) ∧ u' = .returning ∧ Below w.heap.size w w' := by
  refine callsD_of_wpS Tryz.func81 rfl fun c₀ cs hu => ?_
  apply wpS_seq
  apply wpS_region
  simp [wpOpsS, go_sem, recoverD, hu, Tryz.ntmps81, Exit.thenS, rep20]
  refine wpS_of_wp ?_
  have ha := assertNo
  have hn := neqNo
  go_wp2
  simp [bodyPostS, results, Tryz.results81]
  refine ⟨.returning, ?_, rfl, one_al _ _⟩
  cases c₀
  simp only at hu
  subst hu
  rfl

set_option maxRecDepth 20000 in
set_option maxHeartbeats 4000000 in
/-- what is deferred, where an act was halted -/
theorem catch_halt (r1 r2 : Nat) (c : Int) (older : List PanicEntry) (w : World) (h1 : Box w r1 #[.int .i64 0, .slice none 0 0, .slice none 0 0, .slice none 0 0]) (h2 : Box w r2 #[.nilIface]) (h12 : r1 < r2) :
    CallsD Tryz.prog 81 #[.pointer (some ⟨r1, 0, none⟩), .pointer (some ⟨r2, 0, none⟩)] (.panicking ({ v := haltV c, recovered := false } :: older)) w fun e u' w' =>
      e = .returned (.tuple #[]) ∧ u' = .panicking ({ v := haltV c, recovered := true } :: older) ∧ Below r1 w w' ∧ Box w' r1 #[.int .i64 0, .slice none 0 0, .slice none 0 0, .slice none 0 0] ∧ Box w' r2 #[.iface 122 (.agg #[.int .i64 c])] := by
  have H1 := hide h1
  have H2 := hide h2
  clear h1 h2
  refine callsD_of_wpS Tryz.func81 rfl fun c₀ cs hu => ?_
  apply wpS_seq
  apply wpS_region
  simp [wpOpsS, go_sem, recoverD, hu, Tryz.ntmps81, Exit.thenS, haltV, rep20]
  refine wpS_of_wp ?_
  have ha := assertYes
  have hn := neqYes
  go_wp2_with fail
  clear ha hn
  have hl1 := H1.out.lt
  have hl2 := H2.out.lt
  generalize hWa : w.alloc _ = Wa
  have FH : Hid (Box Wa w.heap.size #[.iface 122 (.agg #[.int .i64 c])]) := by unfold Hid; rw [← hWa]; exact Box.new _ _ _ _ rfl
  have HB : Hid (Below w.heap.size w Wa) := by unfold Hid; rw [← hWa]; exact one_al _ _
  have B1 := hide (H1.out.on HB.out)
  have B2 := hide (H2.out.on HB.out)
  clear hWa H1 H2
  have f0 := FH.out.cell 0
  have b10 := B1.out.cell 0
  have b11 := B1.out.cell 1
  have b12 := B1.out.cell 2
  have b13 := B1.out.cell 3
  have b1f := B1.out.free
  have b20 := B2.out.cell 0
  have b2f := B2.out.free
  simp at f0 b10 b11 b12 b13 b20
  have hne1 : r1 ≠ w.heap.size := by omega
  have hne2 : r1 ≠ r2 := by omega
  have hne3 : r2 ≠ r1 := by omega
  have hne4 : w.heap.size ≠ r1 := by omega
  go_region
  have ht1 := fun (W : World) (k : Nat) (u : Value) => Touch.setB r1 W k u
  have E1 := hide ((((B1.out.set (k := 0) (.int .i64 0) (by simp)).set (k := 1) (.slice none 0 0) (by simp)).set (k := 2) (.slice none 0 0) (by simp)).set (k := 3) (.slice none 0 0) (by simp))
  have E2 := hide ((((B2.out.setFar (p := ⟨r1, 0, none⟩) hne2 (.int .i64 0)).setFar (p := ⟨r1, 1, none⟩) hne2 (.slice none 0 0)).setFar (p := ⟨r1, 2, none⟩) hne2 (.slice none 0 0)).setFar (p := ⟨r1, 3, none⟩) hne2 (.slice none 0 0))
  have EB : Hid (Below r1 w ((((Wa.setCell ⟨r1, 0, none⟩ (.int .i64 0)).setCell ⟨r1, 1, none⟩ (.slice none 0 0)).setCell ⟨r1, 2, none⟩ (.slice none 0 0)).setCell ⟨r1, 3, none⟩ (.slice none 0 0))) := below_sets4 (HB.out.mono (Nat.le_of_lt hl1)) (Nat.le_refl _) _ _ _ _
  clear f0 b10 b11 b12 b13 b1f b20 b2f B1 B2 HB FH ht1
  generalize (((Wa.setCell ⟨r1, 0, none⟩ (.int .i64 0)).setCell ⟨r1, 1, none⟩ (.slice none 0 0)).setCell ⟨r1, 2, none⟩ (.slice none 0 0)).setCell ⟨r1, 3, none⟩ (.slice none 0 0) = Wb at *
  have F1 := (E1.out.setFar (p := ⟨r2, 0, none⟩) hne3 (.iface 122 (.agg #[.int .i64 c]))).drew
  have F2 := (E2.out.set (k := 0) (.iface 122 (.agg #[.int .i64 c])) (by simp)).drew
  have FB := (EB.out.setCell (p := ⟨r2, 0, none⟩) (Nat.le_of_lt h12) (.iface 122 (.agg #[.int .i64 c]))).drew
  change bodyPostS _ _ _ _ _ _ _ _ _
  simp [bodyPostS, results, Tryz.results81]
  exact ⟨FB, F1, F2⟩
end Go.Proofs.YtaogpeebencnoaaGreatDoor
