import Derived.Test.YtjkkbkdpoebfaaaGreatV31
import Derived.Maps.AppendAt
namespace Go.Proofs.YtjkkbkdpoebfaaaGreat
open Go.RowKit Go.Deep

theorem run_append_none {P : Program} (w : World) (t ty e : TypeId) (i : TypeInfo) (ht : P.underlying t = some (.slice e)) (hi : P.info? e = some i) (g c : Nat) : (Builtin.append_ #[t, t] ty #[.slice (some ⟨g, 0, none⟩) 0 0, .slice none 0 c]).run P w = .ok (.slice (some ⟨g, 0, none⟩) 0 0) w := by
  simp [Builtin.append_, run_underlying ht, sizeOf, typeInfo, hi, Builtin.lenOf, run_firstCells_none, storeCells]
/-- append([]T{}, x...) of whatever list -/
theorem wpList_append_two {P : Program} {w : World} {ops : Array Oper} {rest : List Oper} {o : Oper} {a : Act} {Q : Exit → Act → World → Prop} (hgd : o.guard = none) (s x : Operand) (t : TypeId)
    (ho : o.op = .call { callee := .builtin .append, args := #[s, x], argTypes := #[t, t] })
    (base : Nat) (e : TypeId) (i : TypeInfo) (z : Value) (size bytes : Nat) (ht : P.underlying t = some (.slice e)) (hi : P.info? e = some i) (hz : i.zero = some z)
    (hsize : i.size = size) (hby : i.bytes = bytes) (hzs : z.cells.size = size) (hsz : 0 < size)
    (g : Nat) (hs : a.eval s = .slice (some ⟨g, 0, none⟩) 0 0) (hown : w.ownsRow base e size (.slice (some ⟨g, 0, none⟩) 0 0) 0 [])
    (ao : Option Addr) (m c : Nat) (news : List Value) (hx : a.eval x = .slice ao m c) (hl : news.length = m * size) (hm : ao = none → m = 0) (hnews : ∀ ad, ao = some ad → ∀ j u, news[j]? = some u → w.cell? (ad.add j) = some u) (h1 : ∀ u ∈ news, u.oneCell' = true)
    (h63 : m ≤ maxLen) (hbytes : m * bytes ≤ 140737488355328) (hbase : base ≤ w.heap.size)
    (h : ∀ v' w', w'.ownsRow base e size v' m news → w.grownBy w' (some g) → (v'.ownBlock = some g ∨ v'.ownBlock = some w.heap.size) → wpList P ops Q rest (a.put o.dst v') w') :
    wpList P ops Q (o :: rest) a w := by
  cases ao with
  | none =>
    have hm0 := hm rfl
    subst hm0
    have hn : news = [] := List.length_eq_zero_iff.1 (by rw [hl, Nat.zero_mul])
    subst hn
    refine wpList_plain hgd fun K hK => ?_
    have hr := run_append_none (P := P) w t o.type e i ht hi g c
    unfold Oper.wp execOp
    simp only [ho, resolve, invoke, builtin, Sem.run_bind, Sem.run_pure, Result.andThen_ok, List.map_toArray, List.map_cons, List.map_nil, hs, hx, hr]
    exact hK _ _ (h _ _ hown ⟨rfl, rfl, rfl, Nat.le_refl _, fun _ _ _ => rfl⟩ (Or.inl rfl))
  | some ad =>
    refine wpList_append_own_at w hgd s x t ho base e i z size bytes ht hi hz hsize hby hzs hsz _ 0 [] hs hown ad m c news hx hl (hnews ad rfl) h1 (by omega) (by rw [Nat.zero_add]; exact hbytes) hbase ?_
    intro v' w' hown hgrow _ hat
    rw [Nat.zero_add, List.nil_append] at hown
    exact h v' w' hown hgrow hat
theorem flatF_one : ∀ (fs : List (Value × Fd)), (∀ y ∈ fs, ∃ a n c, y.1 = .slice a n c) → ∀ u ∈ flatC fdC fs, u.oneCell' = true
  | [], _, u, hu => by cases hu
  | (wv, f) :: fs, h, u, hu => by
    rcases List.mem_append.1 hu with h1 | h1
    · obtain ⟨a, n, c, e⟩ := h (wv, f) (by simp)
      have e' : wv = .slice a n c := e
      subst e'
      exact all_one f a n c u h1
    · exact flatF_one fs (fun y hy => h y (List.mem_cons_of_mem _ hy)) u h1
theorem flatC_kind : ∀ (L : List SX) (i : Nat) (hi : i < L.length) (s : ByteArray), (flatC shC L).set (i * 2) (.string s) = flatC shC (L.set i ⟨L[i].fv, s, L[i].fs⟩)
  | [], i, hi, s => by simp at hi
  | x :: L, 0, _, s => by simp [flatC, shC]
  | x :: L, i + 1, hi, s => by
    have ih := flatC_kind L i (by simpa using hi) s
    rw [show (i + 1) * 2 = i * 2 + 1 + 1 by omega]
    simp only [flatC, shC, List.cons_append, List.nil_append, List.set_cons_succ, List.getElem_cons_succ]
    rw [ih]
theorem flatC_fields : ∀ (L : List SX) (i : Nat) (hi : i < L.length) (fv : Value) (fs : List (Value × Fd)), (flatC shC L).set (i * 2 + 1) fv = flatC shC (L.set i ⟨fv, L[i].kd, fs⟩)
  | [], i, hi, _, _ => by simp at hi
  | x :: L, 0, _, _, _ => by simp [flatC, shC]
  | x :: L, i + 1, hi, fv, fs => by
    have ih := flatC_fields L i (by simpa using hi) fv fs
    rw [show (i + 1) * 2 + 1 = i * 2 + 1 + 1 + 1 by omega]
    simp only [flatC, shC, List.cons_append, List.nil_append, List.set_cons_succ, List.getElem_cons_succ]
    rw [ih]
theorem flatC_same : ∀ (L : List SX) (i : Nat) (hi : i < L.length) (fs : List (Value × Fd)), flatC shC (L.set i ⟨L[i].fv, L[i].kd, fs⟩) = flatC shC L
  | [], i, hi, _ => by simp at hi
  | x :: L, 0, _, _ => by simp [flatC, shC]
  | x :: L, i + 1, hi, fs => by
    have ih := flatC_same L i (by simpa using hi) fs
    simp only [flatC, List.set_cons_succ, List.getElem_cons_succ]
    rw [ih]
/-- one field of a row is another -/
theorem flatF_set (fs : List (Value × Fd)) (k : Nat) (hk : k < fs.length) (y : Value × Fd) (cs : List Value) (_hl : cs.length = (flatC fdC fs).length) (h : ∀ j, cs[j]? = if k * 11 ≤ j ∧ j < k * 11 + 11 then (fdC y)[j - k * 11]? else (flatC fdC fs)[j]?) : cs = flatC fdC (fs.set k y) := by
  have hlen := flatC_len fdC 11 fdC_len fs
  apply List.ext_getElem?
  intro j
  rw [h j]
  by_cases hj : j < fs.length * 11
  · have hi : j / 11 < fs.length := by omega
    have e : j = j / 11 * 11 + j % 11 := by omega
    have hm : j % 11 < 11 := Nat.mod_lt _ (by omega)
    have h1 := flatC_at fdC 11 fdC_len (fs.set k y) (j / 11) (j % 11) (by rw [List.length_set]; exact hi) hm
    rw [← e] at h1
    rw [h1]
    by_cases hjk : j / 11 = k
    · rw [if_pos (by omega)]
      subst hjk
      rw [show j - j / 11 * 11 = j % 11 by omega]
      simp
    · rw [if_neg (by omega), List.getElem_set_ne (by omega)]
      have h2 := flatC_at fdC 11 fdC_len fs (j / 11) (j % 11) hi hm
      rw [← e] at h2
      exact h2
  · have h3 := flatC_len fdC 11 fdC_len (fs.set k y)
    rw [List.length_set] at h3
    rw [if_neg (by omega), List.getElem?_eq_none (by omega), List.getElem?_eq_none (by omega)]

/-- shapes of one's own, each with a row of fields of its own; words in old memory -/
structure SpR (lo B : Nat) (v : Value) (L : List SX) (W : World) : Prop where
  row : W.ownsRow B 45 2 v L.length (flatC shC L)
  kd : ∀ x ∈ L, x.kd.size ≤ 1000
  n : ∀ x ∈ L, x.fs.length ≤ 10
  own : ∀ x ∈ L, W.ownsRow B 56 11 x.fv x.fs.length (flatC fdC x.fs)
  inn : ∀ x ∈ L, ∀ y ∈ x.fs, FdP (fun k => lo ≤ k ∧ k < B) W y
  ap : ∀ x ∈ L, ∀ k, x.fv.ownBlock = some k → v.ownBlock ≠ some k
  dj : ∀ i j (hi : i < L.length) (hj : j < L.length), i ≠ j → ∀ k, L[i].fv.ownBlock = some k → L[j].fv.ownBlock ≠ some k
  bw : lo ≤ B ∧ B ≤ W.heap.size
section
variable {lo B : Nat} {v : Value} {L : List SX} {W W' : World}
theorem SpR.toG (h : SpR lo B v L W) : ShsG lo v L W := by
  have hb := h.bw
  refine ⟨owns_lo h.row hb.1, fun x hx => ⟨fun k => (lo ≤ k ∧ k < B) ∨ x.fv.ownBlock = some k, ⟨h.kd x hx, h.n x hx, owns_lo (h.own x hx) (Nat.zero_le _), fun k hk => Or.inr hk, fun y hy => ⟨(h.inn x hx y hy).1, (h.inn x hx y hy).2.mono fun _ hk => Or.inl hk⟩⟩, fun k hk => ?_⟩⟩
  rcases hk with hk | hk
  · exact ⟨hk.1, by omega, fun e => by have := (owns_lt h.row e).2; omega⟩
  · have h1 := owns_lt (h.own x hx) hk
    exact ⟨by omega, h1.1, h.ap x hx k hk⟩
theorem SpR.keep (h : SpR lo B v L W) (hk : ∀ k, lo ≤ k → k < W.heap.size → W'.heap[k]? = W.heap[k]?) (hs : W.heap.size ≤ W'.heap.size) : SpR lo B v L W' := by
  have hb := h.bw
  exact ⟨owns_kept h.row fun k hv => hk k (by have := (owns_lt h.row hv).2; omega) (owns_lt h.row hv).1, h.kd, h.n, fun x hx => owns_kept (h.own x hx) fun k hv => hk k (by have := (owns_lt (h.own x hx) hv).2; omega) (owns_lt (h.own x hx) hv).1, fun x hx y hy => fd_keeps _ _ _ _ (h.inn x hx y hy) fun k hK => hk k hK.1 (by omega), h.ap, h.dj, hb.1, Nat.le_trans hb.2 hs⟩
theorem SpR.tch {ρ : Nat} (h : SpR lo B v L W) (ht : Tch ρ W W') (hl : ρ < lo) : SpR lo B v L W' := h.keep (fun k h1 h2 => ht.block k h2 (by omega)) ht.size
theorem SpR.below (h : SpR lo B v L W) (hb : Below W.heap.size W W') : SpR lo B v L W' := h.keep (fun k _ h2 => hb.block k h2) hb.size
theorem SpR.form (h : SpR lo B v L W) : ∃ a c, v = .slice a L.length c := owns_form h.row
theorem SpR.made (W : World) (g : Nat) (hg : W.heap.size = g) (hl : lo ≤ g) : SpR lo g (.slice (some ⟨g, 0, none⟩) 0 0) [] (W.alloc (.cells #[] 45)) := by
  subst hg
  exact ⟨World.ownsRow_made (base := W.heap.size) (e := 45) (size := 2) W #[] 0 (Nat.le_refl _) (Nat.zero_le _) (by simp), (fun x hx => by cases hx), (fun x hx => by cases hx), (fun x hx => by cases hx), (fun x hx => by cases hx), (fun x hx => by cases hx), (fun i j hi => by simp at hi), hl, by simp⟩
/-- one more shape -/
theorem SpR.app {g cap : Nat} (h : SpR lo B v L W) (x : SX) (hkd : x.kd.size ≤ 1000) (hn : x.fs.length ≤ 10) (ho : W.ownsRow B 56 11 x.fv x.fs.length (flatC fdC x.fs)) (hi : ∀ y ∈ x.fs, FdP (fun k => lo ≤ k ∧ k < B) W y) (hap : ∀ k, x.fv.ownBlock = some k → v.ownBlock ≠ some k) (hdj : ∀ y ∈ L, ∀ k, x.fv.ownBlock = some k → y.fv.ownBlock ≠ some k)
    (hown : W'.ownsRow B 45 2 (.slice (some ⟨g, 0, none⟩) (L.length + 1) cap) (L.length + 1) (flatC shC L ++ shC x)) (hg : W.grownBy W' v.ownBlock) (hat : v.ownBlock = some g ∨ g = W.heap.size) : SpR lo B (.slice (some ⟨g, 0, none⟩) (L.length + 1) cap) (L ++ [x]) W' := by
  have hb := h.bw
  have hall : ∀ z ∈ L ++ [x], W.ownsRow B 56 11 z.fv z.fs.length (flatC fdC z.fs) ∧ ∀ k, z.fv.ownBlock = some k → v.ownBlock ≠ some k := fun z hz => by
    rcases List.mem_append.1 hz with hz | hz
    · exact ⟨h.own z hz, h.ap z hz⟩
    · rw [List.mem_singleton.1 hz]; exact ⟨ho, hap⟩
  have hne : ∀ k, B ≤ k → k < W.heap.size → v.ownBlock ≠ some k → W'.heap[k]? = W.heap[k]? := fun k _ h2 h3 => hg.block k h2 fun e => h3 e.symm
  have hlow : ∀ k, k < B → W'.heap[k]? = W.heap[k]? := fun k hk => hg.block k (by omega) fun e => by have := (owns_lt h.row e.symm).2; omega
  refine ⟨by rw [List.length_append, flatC_app]; simpa [flatC] using hown, fun z hz => ?_, fun z hz => ?_, fun z hz => ?_, fun z hz y hy => ?_, fun z hz k hk e => ?_, fun i j hi hj hij k h1 h2 => ?_, hb.1, Nat.le_trans hb.2 hg.size⟩
  · rcases List.mem_append.1 hz with hz | hz
    · exact h.kd z hz
    · rw [List.mem_singleton.1 hz]; exact hkd
  · rcases List.mem_append.1 hz with hz | hz
    · exact h.n z hz
    · rw [List.mem_singleton.1 hz]; exact hn
  · have h1 := hall z hz
    exact owns_kept h1.1 fun k hk => hne k (owns_lt h1.1 hk).2 (owns_lt h1.1 hk).1 (h1.2 k hk)
  · have h1 : FdP (fun k => lo ≤ k ∧ k < B) W y := by
      rcases List.mem_append.1 hz with hz | hz
      · exact h.inn z hz y hy
      · rw [List.mem_singleton.1 hz] at hy; exact hi y hy
    exact fd_keeps _ _ _ _ h1 fun k hk => hlow k hk.2
  · have h1 := hall z hz
    have e' := own_at e
    subst e'
    rcases hat with hat | hat
    · exact h1.2 g hk hat
    · have := (owns_lt h1.1 hk).1; omega
  · rw [List.length_append, List.length_singleton] at hi hj
    by_cases hi' : i < L.length
    · rw [List.getElem_append_left hi'] at h1
      by_cases hj' : j < L.length
      · rw [List.getElem_append_left hj'] at h2
        exact h.dj i j hi' hj' hij k h1 h2
      · have e : j = L.length := by omega
        subst e
        have h3 : (L ++ [x])[L.length] = x := by simp
        rw [h3] at h2
        exact hdj _ (List.getElem_mem hi') k h2 h1
    · have e : i = L.length := by omega
      subst e
      have h3 : (L ++ [x])[L.length] = x := by simp
      rw [h3] at h1
      have hj' : j < L.length := by omega
      rw [List.getElem_append_left hj'] at h2
      exact hdj _ (List.getElem_mem hj') k h1 h2
/-- the fields of one of them are others -/
theorem SpR.turn (h : SpR lo B v L W) (i : Nat) (hi : i < L.length) (fv : Value) (fs : List (Value × Fd)) (hn : fs.length ≤ 10)
    (hrow : W'.ownsRow B 45 2 v L.length (flatC shC (L.set i ⟨fv, L[i].kd, fs⟩))) (ho : W'.ownsRow B 56 11 fv fs.length (flatC fdC fs)) (hin : ∀ y ∈ fs, FdP (fun k => lo ≤ k ∧ k < B) W' y)
    (hfv : ∀ k, fv.ownBlock = some k → L[i].fv.ownBlock = some k ∨ W.heap.size ≤ k)
    (hk : ∀ k, k < W.heap.size → lo ≤ k → v.ownBlock ≠ some k → L[i].fv.ownBlock ≠ some k → W'.heap[k]? = W.heap[k]?) (hs : W.heap.size ≤ W'.heap.size) : SpR lo B v (L.set i ⟨fv, L[i].kd, fs⟩) W' := by
  have hb := h.bw
  have hx := List.getElem_mem hi
  have hfo : ∀ k, fv.ownBlock = some k → v.ownBlock ≠ some k := fun k hk e => by
    rcases hfv k hk with h1 | h1
    · exact h.ap _ hx k h1 e
    · have := (owns_lt h.row e).1; omega
  have hidx : ∀ z ∈ L.set i ⟨fv, L[i].kd, fs⟩, z = ⟨fv, L[i].kd, fs⟩ ∨ ∃ j, ∃ hj : j < L.length, j ≠ i ∧ z = L[j] := fun z hz => by
    obtain ⟨j, hj, rfl⟩ := List.getElem_of_mem hz
    rw [List.length_set] at hj
    by_cases e : i = j
    · subst e; exact Or.inl (by simp)
    · exact Or.inr ⟨j, hj, fun e' => e e'.symm, by rw [List.getElem_set_ne e]⟩
  refine ⟨by rw [List.length_set]; exact hrow, fun z hz => ?_, fun z hz => ?_, fun z hz => ?_, fun z hz y hy => ?_, fun z hz k hzk => ?_, fun a b ha hb' hab k h1 h2 => ?_, hb.1, Nat.le_trans hb.2 hs⟩
  · rcases hidx z hz with rfl | ⟨j, hj, _, rfl⟩
    · exact (h.kd L[i] hx : L[i].kd.size ≤ 1000)
    · exact h.kd _ (List.getElem_mem hj)
  · rcases hidx z hz with rfl | ⟨j, hj, _, rfl⟩
    · exact hn
    · exact h.n _ (List.getElem_mem hj)
  · rcases hidx z hz with rfl | ⟨j, hj, hji, rfl⟩
    · exact ho
    · have h1 := h.own _ (List.getElem_mem hj)
      exact owns_kept h1 fun k hv => hk k (owns_lt h1 hv).1 (by have := (owns_lt h1 hv).2; omega) (h.ap _ (List.getElem_mem hj) k hv) (fun e => h.dj i j hi hj (fun e => hji e.symm) k e hv)
  · rcases hidx z hz with rfl | ⟨j, hj, _, rfl⟩
    · exact hin y hy
    · exact fd_keeps _ _ _ _ (h.inn _ (List.getElem_mem hj) y hy) fun k hK => hk k (by omega) hK.1 (fun e => by have := (owns_lt h.row e).2; omega) (fun e => by have := (owns_lt (h.own _ hx) e).2; omega)
  · rcases hidx z hz with rfl | ⟨j, hj, _, rfl⟩
    · exact hfo k hzk
    · exact h.ap _ (List.getElem_mem hj) k hzk
  · rw [List.length_set] at ha hb'
    by_cases e1 : i = a
    · subst e1
      rw [List.getElem_set_self] at h1
      rw [List.getElem_set_ne hab] at h2
      rcases hfv k h1 with h3 | h3
      · exact h.dj i b hi hb' hab k h3 h2
      · have := (owns_lt (h.own _ (List.getElem_mem hb')) h2).1; omega
    · rw [List.getElem_set_ne e1] at h1
      by_cases e2 : i = b
      · subst e2
        rw [List.getElem_set_self] at h2
        rcases hfv k h2 with h3 | h3
        · exact h.dj a i ha hi hab k h1 h3
        · have := (owns_lt (h.own _ (List.getElem_mem ha)) h1).1; omega
      · rw [List.getElem_set_ne e2] at h2
        exact h.dj a b ha hb' hab k h1 h2
/-- one field is spoilt, with words wherever -/
theorem SpR.spoil (h : SpR lo B v L W) (i : Nat) (hi : i < L.length) (fs : List (Value × Fd)) (hn : fs.length ≤ 10) (ho : W'.ownsRow B 56 11 L[i].fv fs.length (flatC fdC fs))
    (hk : ∀ k, k < W.heap.size → lo ≤ k → L[i].fv.ownBlock ≠ some k → W'.heap[k]? = W.heap[k]?) (hs : W.heap.size ≤ W'.heap.size) (hin : ∀ y ∈ fs, y ∈ L[i].fs ∨ FdP (fun k => (lo ≤ k ∧ k < B) ∨ (W.heap.size ≤ k ∧ k < W'.heap.size)) W' y) : ShsG lo v (L.set i ⟨L[i].fv, L[i].kd, fs⟩) W' := by
  have hb := h.bw
  have hx := List.getElem_mem hi
  have hrow : W'.ownsRow B 45 2 v L.length (flatC shC L) := owns_kept h.row fun k hv => hk k (owns_lt h.row hv).1 (by have := (owns_lt h.row hv).2; omega) (fun e => h.ap _ hx k e hv)
  have hold : ∀ j (hj : j < L.length), ∀ y ∈ L[j].fs, FdP (fun k => (lo ≤ k ∧ k < B) ∨ (W.heap.size ≤ k ∧ k < W'.heap.size)) W' y := fun j hj y hy => by
    have h1 := fd_keeps _ _ W' _ (h.inn _ (List.getElem_mem hj) y hy) fun k hK => hk k (by omega) hK.1 (fun e => by have := (owns_lt (h.own _ hx) e).2; omega)
    exact ⟨h1.1, h1.2.mono fun _ hK => Or.inl hK⟩
  refine ⟨by rw [List.length_set, flatC_same L i hi]; exact owns_lo hrow hb.1, fun z hz => ?_⟩
  obtain ⟨j, hj, rfl⟩ := List.getElem_of_mem hz
  rw [List.length_set] at hj
  refine ⟨fun k => ((lo ≤ k ∧ k < B) ∨ (W.heap.size ≤ k ∧ k < W'.heap.size)) ∨ L[j].fv.ownBlock = some k, ?_, fun k hK => ?_⟩
  · by_cases e : i = j
    · subst e
      rw [List.getElem_set_self]
      exact ⟨(h.kd L[i] hx : L[i].kd.size ≤ 1000), hn, owns_lo ho (Nat.zero_le _), fun k hK => Or.inr hK, fun y hy => by
        have h1 : FdP (fun k => (lo ≤ k ∧ k < B) ∨ (W.heap.size ≤ k ∧ k < W'.heap.size)) W' y := by
          rcases hin y hy with h1 | h1
          · exact hold i hi y h1
          · exact h1
        exact ⟨h1.1, h1.2.mono fun _ hK => Or.inl hK⟩⟩
    · rw [List.getElem_set_ne e]
      have h1 := h.own _ (List.getElem_mem hj)
      exact ⟨h.kd _ (List.getElem_mem hj), h.n _ (List.getElem_mem hj), owns_lo (owns_kept h1 fun k hv => hk k (owns_lt h1 hv).1 (by have := (owns_lt h1 hv).2; omega) (fun e' => h.dj i j hi hj e k e' hv)) (Nat.zero_le _), fun k hK => Or.inr hK, fun y hy => by
        have h2 := hold j hj y hy
        exact ⟨h2.1, h2.2.mono fun _ hK => Or.inl hK⟩⟩
  · rcases hK with (hK | hK) | hK
    · exact ⟨hK.1, by omega, fun e => by have := (owns_lt h.row e).2; omega⟩
    · exact ⟨by omega, hK.2, fun e => by have := (owns_lt h.row e).1; omega⟩
    · have h1 := owns_lt (h.own _ (List.getElem_mem hj)) hK
      exact ⟨by omega, by omega, h.ap _ (List.getElem_mem hj) k hK⟩
end
end Go.Proofs.YtjkkbkdpoebfaaaGreat
