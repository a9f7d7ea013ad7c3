import Derived.Test.YtoklnkojacdciaaM42
import Derived.Deep.OwnRows
import Derived.Maps.Own
import Derived.Maps.Views
import Derived.WideKeyEntry
import Derived.DeepKeys4
import Derived.Maps.RangeWalk
import Derived.Maps.OwnOps
namespace Go.Proofs.Ytoklnkojacdciaa
open Go.RowKit Go.Deep Go.Maps Go.ChangeMaps Go.MapKept
open Go.WideElems (Fit)

theorem owns_same {H : Type} {P : Program} {w w' : World} {k : TypeId} {R : Value → Option (DataW H × List MemPlace)} {b n : Nat} {D : DataW H} (h : w.ownsMap P k R b n D) (hb : w'.heap[b]? = w.heap[b]?) : w'.ownsMap P k R b n D := by
  obtain ⟨es, clock, h1, h2, h3, h4⟩ := h
  exact ⟨es, clock, hb.trans h1, h2, h3, h4⟩

/-- 'm[k] += v': the entry is made or found, then stored into; the element may be asked for on either side of the first. -/
theorem entry_own {H : Type} {P : Program} {w : World} {t k e : TypeId} {q : IntKind} (L : WideMaps.KeyLaw P k) (ht : P.underlying t = some (.map k e)) (he : P.underlying e = some (.int q))
    (hz : ∀ u : World, (zeroValue e).run P u = .ok (.int q 0) u) {b n : Nat} {D : DataW H} (h : w.ownsMap P k (plainElem P e) b n D) (hn : n < maxLen) {key : Value} {kl : Lit} (hkey : keyOf P k key = some kl) :
    ∃ (c : Int) (v0 : Value) (st : Nat) (w1 : World), (Instr.mapEntry t (.map (some b)) key).run P w = .ok (.tuple #[v0, goInt st]) w1 ∧ D.atKey kl (.lit (.int q 0)) = .lit (.int q c) ∧ (Lit.int q c).wf = true ∧
      (Instr.lookup t (.map (some b)) key false).run P w = .ok (.int q c) w ∧ (Instr.lookup t (.map (some b)) key false).run P w1 = .ok (.int q c) w1 ∧ w.grownBy w1 (some b) ∧ w1.heap.size = w.heap.size ∧
      ∀ (val : Int), (Lit.int q val).wf = true → ∃ w2, (Instr.entryStore t (.map (some b)) (goInt st) (.int q val)).run P w1 = .ok () w2 ∧ w2.ownsMap P k (plainElem P e) b (n + 1) (D.put kl (.lit (.int q val))) ∧ w.grownBy w2 (some b) ∧ w2.heap.size = w.heap.size := by
  have K : Keyed P k := Keyed.of_law L
  have hw0 : (Lit.int q 0).wf = true := by cases q <;> decide
  obtain ⟨c, hl, hat, hwc⟩ := h.lookup_int K ht he (hz w) hkey
  have hup := h.update K ht hn hkey (plainElem_int (H := H) he hw0)
  have hups : ∀ val : Int, (Lit.int q val).wf = true → _ := fun val hv => h.update K ht hn hkey (plainElem_int (H := H) he hv)
  have h' := h
  obtain ⟨es, clock, hb, F, hs, hD⟩ := h
  obtain ⟨v0, st, es1, clock1, hrun, -, hst⟩ := WideElems.entry_then_store L ht hz hb F hkey
  have hone : (setBlock w b (.map es1 clock1)).heap[b]? = some (.map es1 clock1) := heap_setBlock_same hb _
  have hgr : ∀ o, w.grownBy (setBlock w b o) (some b) := fun o => ⟨rfl, rfl, rfl, by simp [setBlock], fun i _ hi => heap_setBlock_other hb _ (fun e => hi (by rw [e]))⟩
  have hlook : (Instr.lookup t (.map (some b)) key false).run P (setBlock w b (.map es1 clock1)) = .ok (.int q c) (setBlock w b (.map es1 clock1)) := by
    rcases L.find w hkey es.toList F.keys with ⟨h1, h2⟩ | ⟨j, e0, h1, h2, h3⟩
    · have hm : (Instr.mapEntry t (.map (some b)) key).run P w = .ok (.tuple #[.int q 0, goInt clock]) (setBlock w b (.map (es.push ⟨key, .int q 0, clock⟩) (clock + 1))) := by
        simp [Instr.mapEntry, run_underlying ht, MapKept.run_getObj_map hb, L.check w false hkey, h1, hz, MapKept.run_setObj_map _ hb, Result.andThen, setBlock]
      have hu : (Instr.mapUpdate t (.map (some b)) key (.int q 0)).run P w = .ok () (setBlock w b (.map (es.push ⟨key, .int q 0, clock⟩) (clock + 1))) := by
        simp [Instr.mapUpdate, run_underlying ht, MapKept.run_getObj_map hb, L.check w false hkey, h1, MapKept.run_setObj_map _ hb, Result.andThen, setBlock]
      obtain ⟨w', hr', ho', -⟩ := hup
      rw [hu] at hr'
      rw [hm] at hrun
      have e1 : setBlock w b (.map (es.push ⟨key, .int q 0, clock⟩) (clock + 1)) = setBlock w b (.map es1 clock1) := by injection hrun
      have e2 : setBlock w b (.map (es.push ⟨key, .int q 0, clock⟩) (clock + 1)) = w' := by injection hr'
      rw [← e2, e1] at ho'
      obtain ⟨c', hl', hat', -⟩ := ho'.lookup_int K ht he (hz _) hkey
      have hc0 : c = 0 := by
        have hlk : (Instr.lookup t (.map (some b)) key false).run P w = .ok (.int q 0) w := by
          simp [Instr.lookup, run_underlying ht, MapKept.run_getObj_map hb, L.check w _ hkey, h1, hz, Result.andThen]
        rw [hl] at hlk
        injection hlk with e
        injection e
      rw [atKey_put_same (by rw [hD]; exact ⟨_, rfl⟩) (K.key hkey)] at hat'
      have : c' = 0 := by
        injection hat' with e
        injection e with _ e
        exact e.symm
      rw [hc0, ← this]
      exact hl'
    · have hj : es[j]? = some e0 := by simpa using h2
      have hsame : es.modify j (fun e => { e with key := key }) = es := by
        apply Array.ext'
        rw [Array.toList_modify]
        apply List.ext_getElem?
        intro i
        rw [List.getElem?_modify]
        by_cases ij : j = i
        · subst ij
          rw [h2]
          simp [← h3]
        · simp [ij]
      have hm : (Instr.mapEntry t (.map (some b)) key).run P w = .ok (.tuple #[e0.val, goInt e0.born]) (setBlock w b (.map es clock)) := by
        simp [Instr.mapEntry, run_underlying ht, MapKept.run_getObj_map hb, L.check w false hkey, h1, hj, h3, L.stays w hkey, hsame, MapKept.run_setObj_map _ hb, Result.andThen, setBlock]
      rw [hm] at hrun
      have e1 : setBlock w b (.map es clock) = setBlock w b (.map es1 clock1) := by injection hrun
      have ho : (setBlock w b (.map es1 clock1)).ownsMap P k (plainElem P e) b n D := by
        rw [← e1]
        exact owns_same h' ((heap_setBlock_same hb _).trans hb.symm)
      obtain ⟨c', hl', hat', -⟩ := ho.lookup_int K ht he (hz _) hkey
      rw [hat] at hat'
      have : c = c' := by
        injection hat' with e
        injection e with _ e
      rw [this]
      exact hl'
  refine ⟨c, v0, st, _, hrun, hat, hwc, hl, hlook, hgr _, by simp [setBlock], fun val hv => ?_⟩
  obtain ⟨es', clock', hrs, hmu⟩ := hst _ (.int q val) hone
  obtain ⟨w', hr', ho', hg'⟩ := hups val hv
  rw [hmu] at hr'
  have e2 : setBlock w b (.map es' clock') = w' := by injection hr'
  refine ⟨_, hrs, owns_same ho' ?_, ?_, by simp [setBlock]⟩
  · rw [heap_setBlock_same hone, ← e2, heap_setBlock_same hb]
  · exact (hgr _).trans ⟨rfl, rfl, rfl, by simp [setBlock], fun i _ hi => heap_setBlock_other hone _ (fun e => hi (by rw [e]))⟩
theorem ranges_kept_below {w wr w1 : World} {r : Nat} (h : Below w.heap.size w wr) (hg : wr.grownBy w1 (some r)) (hr : w.heap.size ≤ r) : Below w.heap.size w w1 := by
  have hz := h.size
  exact h.trans ⟨hg.os, hg.tape, hg.output, hg.size, fun k hk => hg.block k (by omega) (fun e => by have := Option.some.inj e; omega)⟩
/-- a key of a number and a text -/
def ixL (n : Int) (a : ByteArray) : Lit := .string (keyBytes [.int .i64 n, .string a.data.toList])
structure NumKey (P : Program) (k : TypeId) : Prop where
  ex : ∃ f0 f1 : Field, P.underlying k = some (.struct #[f0, f1]) ∧ P.underlying f0.type = some (.int .i64) ∧ P.underlying f1.type = some .string ∧ P.cellsOf f0.type = 1 ∧ P.cellsOf f1.type = 1 ∧ f0.offset = 0 ∧ f1.offset = 1 ∧ f0.name ≠ "_" ∧ f1.name ≠ "_"
  ty : P.keyType k = true
  cs : P.cellsOf k = 2
  sz : 0 < P.types.size
theorem NumKey.mk' {P : Program} {k : TypeId} (h : NumKey P k) {n : Int} {b : ByteArray} (ha : (Lit.int .i64 n).wf = true) (hb : b.size ≤ maxLen) : keyOf P k (.agg #[.int .i64 n, .string b]) = some (ixL n b) := by
  obtain ⟨f0, f1, hu, h0, h1, k0, k1, o0, o1, n0, n1⟩ := h.ex
  obtain ⟨n, hn⟩ : ∃ n, P.types.size = n + 1 := ⟨P.types.size - 1, by have := h.sz; omega⟩
  simp [keyOf, hu, h.ty, Value.formed, h.cs, hn, Program.keyLits, h0, h1, k0, k1, Value.cells, ha, hb, ixL, o0, o1, n0, n1]
theorem NumKey.wide {P : Program} {k : TypeId} (h : NumKey P k) : (match P.underlying k with | some (.array _ _) | some (.struct _) => true | _ => false) = true := by
  obtain ⟨f0, f1, hu, -⟩ := h.ex
  rw [hu]
theorem NumKey.inj {P : Program} {k : TypeId} (h : NumKey P k) (K : WideMaps.KeyLaw P k) {n n' : Int} {b b' : ByteArray} (ha : (Lit.int .i64 n).wf = true) (hb : b.size ≤ maxLen) (ha' : (Lit.int .i64 n').wf = true) (hb' : b'.size ≤ maxLen) (e : ixL n b = ixL n' b') : n = n' ∧ b = b' := by
  have e := K.inj (h.mk' ha hb) (e ▸ h.mk' ha' hb')
  simpa using e
theorem slNum : NumKey Try.prog 114 :=
  ⟨⟨_, _, Try.underlying114, by kernel_rfl, by kernel_rfl, by kernel_rfl, by kernel_rfl, rfl, rfl, by decide, by decide⟩, by kernel_rfl, by kernel_rfl, of_decide_eq_true (by kernel_rfl)⟩
theorem slLaid : laidOutB Try.prog = true := by kernel_rfl
theorem slRow : (114 : TypeId) < Try.prog.types.size := of_decide_eq_true (by kernel_rfl)
theorem slAt : Try.prog.keyTypeAt 2 114 = true := by kernel_rfl
set_option maxRecDepth 100000 in
theorem slLaw : WideMaps.KeyLaw Try.prog 114 := deep_law_laid slLaid (by decide) slRow slAt slNum.wide
theorem slZero (w : World) : (zeroValue 3).run Try.prog w = .ok (.int .i64 0) w := by kernel_rfl
theorem isKey_sl (n : Int) (a : ByteArray) : WideAt.IsKeyLit (ixL n a) := trivial
theorem sl_wf {n : Int} (h0 : 0 ≤ n) (h1 : n ≤ 1000000) : (Lit.int .i64 n).wf = true := by
  have e1 : IntKind.i64.min = -9223372036854775808 := by decide
  have e2 : IntKind.i64.max = 9223372036854775807 := by decide
  show (decide (IntKind.i64.min ≤ n) && decide (n ≤ IntKind.i64.max)) = true
  rw [e1, e2, Bool.and_eq_true, decide_eq_true_iff, decide_eq_true_iff]
  omega
theorem sl_ne {n n' : Int} {b b' : ByteArray} (h0 : 0 ≤ n) (h1 : n ≤ 1000000) (h0' : 0 ≤ n') (h1' : n' ≤ 1000000) (hb : b.size ≤ maxLen) (hb' : b'.size ≤ maxLen) (h : ¬ (n = n' ∧ b = b')) : ixL n b ≠ ixL n' b' := fun e =>
  h (slNum.inj slLaw (sl_wf h0 h1) hb (sl_wf h0' h1') hb' e)

/-! how often a slot stands among some -/
def ct (T : List Rs) (n : Int) (a : ByteArray) : Nat := T.countP fun s => decide (s.ba = n ∧ s.tx = a)
theorem ct_append (A B : List Rs) (n : Int) (a : ByteArray) : ct (A ++ B) n a = ct A n a + ct B n a := List.countP_append ..
theorem ct_one (s : Rs) (n : Int) (a : ByteArray) : ct [s] n a = if s.ba = n ∧ s.tx = a then 1 else 0 := by
  unfold ct
  by_cases h : s.ba = n ∧ s.tx = a
  · rw [if_pos h, List.countP_cons_of_pos (by simpa using h)]; rfl
  · rw [if_neg h, List.countP_cons_of_neg (by simpa using h)]; rfl
theorem ct_le (T : List Rs) (n : Int) (a : ByteArray) : ct T n a ≤ T.length := List.countP_le_length
theorem ct_two {n n' : Int} {a a' : ByteArray} (h : ¬ (n = n' ∧ a = a')) : ∀ T : List Rs, ct T n a + ct T n' a' ≤ T.length
  | [] => by simp [ct]
  | s :: T => by
    have ih := ct_two h T
    rw [show s :: T = [s] ++ T from rfl, ct_append, ct_append, ct_one, ct_one, List.length_append]
    by_cases h1 : s.ba = n ∧ s.tx = a
    · rw [if_pos h1, if_neg (fun h2 => h ⟨h1.1.symm.trans h2.1, h1.2.symm.trans h2.2⟩)]
      simp only [List.length_singleton]; omega
    · rw [if_neg h1]
      by_cases h2 : s.ba = n' ∧ s.tx = a'
      · rw [if_pos h2]; simp only [List.length_singleton]; omega
      · rw [if_neg h2]; simp only [List.length_singleton]; omega
structure CntOk (T : List Rs) (D : DataW Unit) : Prop where
  isMap : IsMap D
  sums : ∀ (n : Int) (a : ByteArray), 0 ≤ n → n ≤ 1000000 → a.size ≤ maxLen → D.atKey (ixL n a) (.lit (.int .i64 0)) = .lit (.int .i64 (ct T n a))
theorem CntOk.start : CntOk [] (.map [] : DataW Unit) := ⟨⟨[], rfl⟩, fun _ _ _ _ _ => rfl⟩
theorem CntOk.step {T : List Rs} {D : DataW Unit} (h : CntOk T D) {s : Rs} (h0 : 0 ≤ s.ba) (h1 : s.ba ≤ 1000000) (h2 : s.tx.size ≤ maxLen) :
    CntOk (T ++ [s]) (D.put (ixL s.ba s.tx) (.lit (.int .i64 ((ct T s.ba s.tx : Int) + 1)))) := by
  refine ⟨h.isMap.put _ _, fun n a g0 g1 g2 => ?_⟩
  rw [ct_append, ct_one]
  by_cases e : s.ba = n ∧ s.tx = a
  · obtain ⟨e1, e2⟩ := e
    rw [if_pos ⟨e1, e2⟩, ← e1, ← e2, atKey_put_same h.isMap (isKey_sl _ _)]
    simp
  · rw [if_neg e, atKey_put_other (sl_ne g0 g1 h0 h1 g2 h2 (fun e' => e ⟨e'.1.symm, e'.2.symm⟩)), h.sums n a g0 g1 g2, Nat.add_zero]

/-! what most have at a place -/
def slotAt (x : Rr) (ix : Int) : Option Rs := if 1 ≤ ix then x.sf.sl[(ix - 1).toNat]? else none
def slotsOf (R : List Rr) (ix : Int) : List Rs := R.filterMap fun x => slotAt x ix
def majB (R : List Rr) (ix : Int) (s : Rs) : Bool := decide (s.ba ≠ 0) && decide (R.length < 2 * ct (slotsOf R ix) s.ba s.tx)
def majR (R : List Rr) (ix : Int) : Option ByteArray := ((slotsOf R ix).find? (majB R ix)).map (·.tx)
theorem slots_len (R : List Rr) (ix : Int) : (slotsOf R ix).length ≤ R.length := List.length_filterMap_le ..
theorem slots_snoc (R : List Rr) (ix : Int) (x : Rr) : slotsOf (R ++ [x]) ix = slotsOf R ix ++ (slotAt x ix).toList := by
  unfold slotsOf
  rw [List.filterMap_append]
  congr 1
theorem slots_take {R : List Rr} {ix : Int} {k : Nat} (hk : k < R.length) : slotsOf (R.take (k + 1)) ix = slotsOf (R.take k) ix ++ (slotAt R[k] ix).toList := by
  rw [List.take_succ_eq_append_getElem hk, slots_snoc]
theorem slots_split (R : List Rr) (ix : Int) (k : Nat) : slotsOf R ix = slotsOf (R.take k) ix ++ slotsOf (R.drop k) ix := by
  conv => lhs; rw [← List.take_append_drop k R]
  exact List.filterMap_append ..
theorem maj_some {R : List Rr} {ix : Int} {s : Rs} (hs : s ∈ slotsOf R ix) (h : majB R ix s = true) : majR R ix = some s.tx := by
  unfold majR
  cases hf : (slotsOf R ix).find? (majB R ix) with
  | none => exact absurd h (by have := List.find?_eq_none.1 hf s hs; simpa using this)
  | some t =>
    have ht := List.find?_some hf
    unfold majB at h ht
    rw [Bool.and_eq_true, decide_eq_true_iff, decide_eq_true_iff] at h ht
    by_cases e : s.ba = t.ba ∧ s.tx = t.tx
    · rw [Option.map_some, e.2]
    · have := ct_two e (slotsOf R ix)
      have := slots_len R ix
      omega
theorem maj_none {R : List Rr} {ix : Int} (h : ∀ s ∈ slotsOf R ix, majB R ix s = false) : majR R ix = none := by
  unfold majR
  rw [List.find?_eq_none.2 (fun s hs => by rw [h s hs]; simp)]
  rfl
/-- nobody has come to more than half so far -/
def noHit (T : List Rs) (n : Nat) : Prop := ∀ j (h : j < T.length), ¬ (0 < T[j].ba ∧ n < 2 * ct (T.take (j + 1)) T[j].ba T[j].tx)
theorem noHit.snoc {T : List Rs} {n : Nat} {s : Rs} (h : noHit T n) (hs : ¬ (0 < s.ba ∧ n < 2 * ct (T ++ [s]) s.ba s.tx)) : noHit (T ++ [s]) n := fun j hj => by
  by_cases e : j < T.length
  · rw [List.getElem_append_left e, List.take_append_of_le_length (by omega)]
    exact h j e
  · have ej : j = T.length := by simp at hj; omega
    subst ej
    rw [List.getElem_concat_length (by rfl), List.take_of_length_le (by simp)]
    exact hs
theorem last_hit {T : List Rs} {n : Int} {a : ByteArray} : ∀ m, m ≤ T.length → 0 < ct (T.take m) n a → ∃ j, ∃ h : j < T.length, T[j].ba = n ∧ T[j].tx = a ∧ ct (T.take (j + 1)) n a = ct (T.take m) n a
  | 0, _, h => by simp [ct] at h
  | m + 1, hm, h => by
    have e := List.take_succ_eq_append_getElem (show m < T.length by omega)
    by_cases hs : T[m].ba = n ∧ T[m].tx = a
    · exact ⟨m, by omega, hs.1, hs.2, rfl⟩
    · have hc : ct (T.take (m + 1)) n a = ct (T.take m) n a := by rw [e, ct_append, ct_one, if_neg hs, Nat.add_zero]
      rw [hc] at h ⊢
      exact last_hit m (by omega) h
theorem noHit.none {R : List Rr} {ix : Int} (h : noHit (slotsOf R ix) R.length) (h0 : ∀ s ∈ slotsOf R ix, 0 ≤ s.ba) : majR R ix = none := maj_none fun s hs => by
  cases q : majB R ix s with
  | false => rfl
  | true =>
    unfold majB at q
    rw [Bool.and_eq_true, decide_eq_true_iff, decide_eq_true_iff] at q
    have hc : 0 < ct ((slotsOf R ix).take (slotsOf R ix).length) s.ba s.tx := by rw [List.take_length]; omega
    obtain ⟨j, hj, e1, e2, e3⟩ := last_hit _ (Nat.le_refl _) hc
    rw [List.take_length] at e3
    have := h j hj
    rw [e1, e2, e3] at this
    have h1 := h0 s hs
    exact absurd ⟨by omega, q.2⟩ this
theorem hit_some {R : List Rr} {ix : Int} {k : Nat} {s : Rs} {T : List Rs} (hT : slotsOf (R.take k) ix = T ++ [s]) (h0 : 0 < s.ba) (h : R.length < 2 * ct (T ++ [s]) s.ba s.tx) : majR R ix = some s.tx := by
  have e := slots_split R ix k
  rw [hT] at e
  refine maj_some (by rw [e]; simp) ?_
  unfold majB
  rw [e, ct_append, Bool.and_eq_true, decide_eq_true_iff, decide_eq_true_iff]
  exact ⟨by omega, by omega⟩
def majV (o : Option ByteArray) : Array Value := match o with
  | some t => #[.string t, .bool true]
  | none => #[.string ⟨#[]⟩, .bool false]
end Go.Proofs.Ytoklnkojacdciaa
