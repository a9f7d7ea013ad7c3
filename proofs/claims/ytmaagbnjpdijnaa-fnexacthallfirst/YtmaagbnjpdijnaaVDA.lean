import Derived.Test.YtmaagbnjpdijnaaVCC
import Derived.Test.YtmaagbnjpdijnaaVS11
import Derived.Test.YtmaagbnjpdijnaaVK25
import Derived.Deep.AppendLies
import Derived.Deep.Upon
import Derived.Deep.RegionWith
import Derived.Deep.RegionHeld3
import Derived.Deep.DeepCutAuto
import Derived.Test.YtmaagbnjpdijnaaVA1
import Derived.Test.YtmaagbnjpdijnaaVM2
import Derived.Test.YtmaagbnjpdijnaaVA2
import Derived.Test.YtmaagbnjpdijnaaVB1
namespace Go.Proofs.Ytmaagbnjpdijnaa
open Go.RowKit Go.Deep

end Go.Proofs.Ytmaagbnjpdijnaa

namespace Go.Proofs.Ytmaagbnjpdijnaa
open Go.RowKit Go.Deep

set_option maxRecDepth 20000 in
theorem append_strs (W : World) (g : Nat) (src : Value) (L : List ByteArray) (ty : TypeId) (hs : StrsAt W src L) (hn : L.length ≤ 1048576) (hg : W.heap.size = g) :
    ∃ v' w', (Builtin.append_ #[60, 60] ty #[.slice (some ⟨g, 0, none⟩) 0 0, src]).run Try.prog (W.alloc (.cells #[] 9)) = .ok v' w' ∧ Below W.heap.size W w' ∧ StrsOwn W.heap.size w'.heap.size w' v' L := by
  subst hg
  obtain ⟨i0, hi, hz0, hz1, hz2⟩ := info_parts Try.info9
  have hA : Below W.heap.size W (W.alloc (.cells #[] 9)) := (Below.refl _ _).alloc (Nat.le_refl _) _
  rcases hs with ⟨a, cap, rfl, rfl⟩ | ⟨b, off, cap, rfl, hne, hm, hbw, hc, hsz⟩
  · refine ⟨.slice (some ⟨W.heap.size, 0, none⟩) 0 0, _, run_append_nothing _ 60 60 ty 9 i0 Try.underlying60 hi _ 0 0 (Nat.le_refl _) _ ?_, hA, Or.inl ⟨_, _, rfl, rfl⟩⟩
    cases a with
    | none => exact Src.ofNil _ Try.underlying60 _
    | some ad => exact Src.ofSlice _ Try.underlying60 ad 0 cap [] (by simp) (fun j u h => by simp at h) (fun u h => by simp at h)
  · have hown := World.ownsRow_made (base := W.heap.size) (e := 9) (size := 1) W #[] 0 (Nat.le_refl _) (Nat.zero_le _) (by simp)
    obtain ⟨g, cap', w', hr, h2, h3, h4, h5⟩ := run_append_lies (P := Try.prog) (W.alloc (.cells #[] 9)) 60 ty W.heap.size 9 i0 (.string ⟨#[]⟩) 1 16 Try.underlying60 hi hz0 hz1 hz2 rfl (by omega) _ 0 [] hown ⟨b, off, none⟩ L.length cap (L.map Value.string) (by simp) (fun j u hj => by
        obtain ⟨hj1, hj2⟩ := List.getElem?_eq_some_iff.1 hj
        simp only [List.length_map] at hj1
        rw [Go.WideShapes.add_plain, hA.cell (p := ⟨b, off + j, none⟩) hbw, hc j hj1, ← hj2]
        simp) (fun u hu => by obtain ⟨s, _, rfl⟩ := List.mem_map.1 hu; rfl) (List.length_pos_iff.2 hne) (by rw [Nat.zero_add]; exact hm) (by omega) (by simp) (W.heap.size + 1) (by simp)
    rw [Nat.zero_add] at hr h2
    have hob : (Value.slice (some (⟨W.heap.size, 0, none⟩ : Addr)) 0 0).ownBlock = some W.heap.size := rfl
    rw [hob] at h3 h4
    have hB : Below W.heap.size W w' := hA.trans ⟨h3.os, h3.tape, h3.output, h3.size, fun k hk => h3.block k (by simp; omega) (by simp; omega)⟩
    refine ⟨_, w', hr, hB, Or.inr ⟨g, 0, cap', rfl, hne, hm, h5, fun i hi => ?_, hsz, ?_, h5, fun i => ?_⟩⟩
    · have := h2.cells (g := g) rfl i (.string L[i]) (by simp [hi])
      rw [Go.WideShapes.add_plain] at this
      exact this
    · rcases h4 with h4 | h4
      · have : W.heap.size = g := by simpa using h4
        omega
      · omega
    · rcases h2.2 with ⟨h, _⟩ | ⟨g', cap2, cur, hv, _, hh, _⟩
      · cases h
      · have e : g = g' := by injection hv with e1 _ _; injection e1 with e2; injection e2
        subst e
        simp [World.frozen?, hh]

/-- AN append WHOSE RUN IS KNOWN -/
theorem wpList_append_run {P : Program} {w w' : World} {v v1 v2 : Value} {ops : Array Oper} {rest : List Oper} {o : Oper} {a : Act} {Q : Exit → Act → World → Prop} (hgd : o.guard = none) (s x : Operand) (t : TypeId)
    (ho : o.op = .call { callee := .builtin .append, args := #[s, x], argTypes := #[t, t] }) (hs : a.eval s = v1) (hx : a.eval x = v2) (hr : (Builtin.append_ #[t, t] o.type #[v1, v2]).run P w = .ok v w')
    (h : wpList P ops Q rest (a.put o.dst v) w') : wpList P ops Q (o :: rest) a w := by
  refine wpList_plain hgd fun K hK => ?_
  unfold Oper.wp execOp
  simp only [ho, resolve, invoke, builtin, Sem.run_bind, Sem.run_pure, Result.andThen_ok, List.map_toArray, List.map_cons, List.map_nil, hs, hx, hr]
  exact hK _ _ h

section
variable (kind nm team : ByteArray) (vv hv : Value) (en : Bool) (ver : Int) (V Ho : List ByteArray) (w : World)
set_option maxRecDepth 20000 in
set_option maxHeartbeats 1000000 in
theorem l2Copy_any (hV : StrsAt w vv V) (hH : StrsAt w hv Ho) (n1 : V.length ≤ 1048576) (n2 : Ho.length ≤ 1048576) :
    Calls Try.prog 83 #[.agg #[.string kind, .string nm, .string team, vv, .bool en, hv, .int .i64 ver]] w
      fun e w' => ∃ v' h', e = .returned (.agg #[.string kind, .string nm, .string team, v', .bool en, h', .int .i64 ver]) ∧ Below w.heap.size w w' ∧ ObjOwn w.heap.size w' v' h' V Ho := by
  have HV := hide hV
  have HH := hide hH
  obtain ⟨a, n, cap, rfl⟩ := hV.form
  obtain ⟨a', n', cap', rfl⟩ := hH.form
  clear hV hH
  have HW : ∀ o o', Hid (Below w.heap.size w ((w.alloc o).alloc o')) := fun o o' => ((Below.refl _ _).alloc (Nat.le_refl _) _).alloc (by simp) _
  obtain ⟨v1, w1, hap, hb, hs⟩ := append_strs ((w.alloc (.cells #[.string kind, .string nm, .string team, .slice a n cap, .bool en, .slice a' n' cap', .int .i64 ver] 128)).alloc (.cells #[.string ⟨#[]⟩, .string ⟨#[]⟩, .string ⟨#[]⟩, .slice none 0 0, .bool false, .slice none 0 0, .int .i64 0] 128)) (w.heap.size + 1 + 1) (.slice a n cap) V 60 (HV.out.below (HW _ _).out) n1 (by simp)
  obtain ⟨a1, cap1, rfl⟩ := hs.form
  have HS : Hid (StrsOwn (w.heap.size + 2) w1.heap.size w1 (.slice a1 V.length cap1) V) := hs.wide (by simp) (Nat.le_refl _)
  have hz : w.heap.size + 1 < w1.heap.size := by have := hb.size; simp at this; omega
  obtain ⟨hc, hf⟩ := bcell hb
  have HB : Hid (Below w.heap.size w w1) := (HW _ _).out.trans (hb.mono (by simp; omega))
  clear hb hs
  have hz0 : w.heap.size < w1.heap.size := by omega
  have g0 : ∀ i, w1.cell? ⟨w.heap.size, i, none⟩ = (#[.string kind, .string nm, .string team, .slice a n cap, .bool en, .slice a' n' cap', .int .i64 ver] : Array Value)[i]? := fun i => by
    rw [hc _ _ (by simp; omega), ((Below.refl (w.alloc (.cells #[.string kind, .string nm, .string team, .slice a n cap, .bool en, .slice a' n' cap', .int .i64 ver] 128)).heap.size _).alloc (Nat.le_refl _) _).cell (p := ⟨w.heap.size, i, none⟩) (by simp)]; simp
  have g1 : ∀ i, w1.cell? ⟨w.heap.size + 1, i, none⟩ = (#[.string ⟨#[]⟩, .string ⟨#[]⟩, .string ⟨#[]⟩, .slice none 0 0, .bool false, .slice none 0 0, .int .i64 0] : Array Value)[i]? := fun i => by
    rw [hc _ _ (by simp)]
    simp
  have gf0 : ∀ i, w1.frozen? ⟨w.heap.size, i, none⟩ = false := fun i => by rw [hf _ _ (by simp; omega)]; simp
  have gf1 : ∀ i, w1.frozen? ⟨w.heap.size + 1, i, none⟩ = false := fun i => by rw [hf _ _ (by simp)]; simp
  clear hc hf
  have hX : Hid (Below w.heap.size w (w1.setCell ⟨w.heap.size, 3, none⟩ (.slice a1 V.length cap1))) := HB.out.setCell (Nat.le_refl _) _
  have hXs : (w1.setCell ⟨w.heap.size, 3, none⟩ (.slice a1 V.length cap1)).heap.size = w1.heap.size := by simp [World.setCell]
  have HS' := hide (HS.out.setCell (p := ⟨w.heap.size, 3, none⟩) (by simp only []; omega) (.slice a1 V.length cap1))
  obtain ⟨v2, w2, hap2, hb2, hs2⟩ := append_strs (w1.setCell ⟨w.heap.size, 3, none⟩ (.slice a1 V.length cap1)) w1.heap.size (.slice a' n' cap') Ho 60 (HH.out.below hX.out) n2 hXs
  obtain ⟨a2, cap2, rfl⟩ := hs2.form
  have HS2 : Hid (StrsOwn (w.heap.size + 2) w1.heap.size w2 (.slice a1 V.length cap1) V) := HS'.out.below hb2
  have HH2 : Hid (StrsOwn w1.heap.size w2.heap.size w2 (.slice a2 Ho.length cap2) Ho) := by unfold Hid; rw [← hXs]; exact hs2
  have hz2 : w.heap.size + 1 < w2.heap.size := by have := hb2.size; rw [hXs] at this; omega
  have hz3 : w1.heap.size ≤ w2.heap.size := by have := hb2.size; rw [hXs] at this; exact this
  have HB2 : Hid (Below w.heap.size w w2) := hX.out.trans (hb2.mono hX.out.size)
  have hc2 : ∀ b o, b < w1.heap.size → w2.cell? ⟨b, o, none⟩ = (w1.setCell ⟨w.heap.size, 3, none⟩ (.slice a1 V.length cap1)).cell? ⟨b, o, none⟩ := fun b o h => hb2.cell (p := ⟨b, o, none⟩) (by rw [hXs]; exact h)
  have hf2 : ∀ b o, b < w1.heap.size → w2.frozen? ⟨b, o, none⟩ = (w1.setCell ⟨w.heap.size, 3, none⟩ (.slice a1 V.length cap1)).frozen? ⟨b, o, none⟩ := fun b o h => hb2.frozen (p := ⟨b, o, none⟩) (by rw [hXs]; exact h)
  clear hb2 hs2 hXs
  have k3 : w2.cell? ⟨w.heap.size, 3, none⟩ = some (.slice a1 V.length cap1) := by rw [hc2 _ _ hz0]; exact World.cell?_setCell_same' _ _ _ (by rw [g0]; rfl)
  have k' : ∀ i, i ≠ 3 → w2.cell? ⟨w.heap.size, i, none⟩ = (#[.string kind, .string nm, .string team, .slice a n cap, .bool en, .slice a' n' cap', .int .i64 ver] : Array Value)[i]? := fun i hi => by rw [hc2 _ _ hz0, cell_set_ne0 _ _ _ _ _ (fun e => hi e.symm), g0]
  have k0 : w2.cell? ⟨w.heap.size, 0, none⟩ = some (.string kind) := k' 0 (by omega)
  have k1 : w2.cell? ⟨w.heap.size, 1, none⟩ = some (.string nm) := k' 1 (by omega)
  have k2 : w2.cell? ⟨w.heap.size, 2, none⟩ = some (.string team) := k' 2 (by omega)
  have k4 : w2.cell? ⟨w.heap.size, 4, none⟩ = some (.bool en) := k' 4 (by omega)
  have k5 : w2.cell? ⟨w.heap.size, 5, none⟩ = some (.slice a' n' cap') := k' 5 (by omega)
  have k6 : w2.cell? ⟨w.heap.size, 6, none⟩ = some (.int .i64 ver) := k' 6 (by omega)
  have j' : ∀ i, w2.cell? ⟨w.heap.size + 1, i, none⟩ = (#[.string ⟨#[]⟩, .string ⟨#[]⟩, .string ⟨#[]⟩, .slice none 0 0, .bool false, .slice none 0 0, .int .i64 0] : Array Value)[i]? := fun i => by rw [hc2 _ _ hz, show (w1.setCell ⟨w.heap.size, 3, none⟩ (.slice a1 V.length cap1)).cell? ⟨w.heap.size + 1, i, none⟩ = w1.cell? ⟨w.heap.size + 1, i, none⟩ from by apply World.cell?_setCell_other; simp, g1]
  have j0 : w2.cell? ⟨w.heap.size + 1, 0, none⟩ = some (.string ⟨#[]⟩) := j' 0
  have j1 : w2.cell? ⟨w.heap.size + 1, 1, none⟩ = some (.string ⟨#[]⟩) := j' 1
  have j2 : w2.cell? ⟨w.heap.size + 1, 2, none⟩ = some (.string ⟨#[]⟩) := j' 2
  have j3 : w2.cell? ⟨w.heap.size + 1, 3, none⟩ = some (.slice none 0 0) := j' 3
  have j4 : w2.cell? ⟨w.heap.size + 1, 4, none⟩ = some (.bool false) := j' 4
  have j5 : w2.cell? ⟨w.heap.size + 1, 5, none⟩ = some (.slice none 0 0) := j' 5
  have j6 : w2.cell? ⟨w.heap.size + 1, 6, none⟩ = some (.int .i64 0) := j' 6
  have fz0 : ∀ o, w2.frozen? ⟨w.heap.size, o, none⟩ = false := fun o => by rw [hf2 _ _ hz0, World.frozen?_setCell]; exact gf0 o
  have fz1 : ∀ o, w2.frozen? ⟨w.heap.size + 1, o, none⟩ = false := fun o => by rw [hf2 _ _ hz, World.frozen?_setCell]; exact gf1 o
  clear hc2 hf2 k' j'
  go_enter Try.func83, Try.ntmps83
  go_wp2_with (first | (at_builtin; refine wpList_append_run rfl (.tmp 3) (.tmp 5) 60 rfl rfl rfl hap ?_) | (at_builtin; refine wpList_append_run rfl (.tmp 8) (.tmp 10) 60 rfl rfl rfl hap2 ?_))
  refine bodyPost_ret (v := .agg #[.string kind, .string nm, .string team, .slice a1 V.length cap1, .bool en, .slice a2 Ho.length cap2, .int .i64 ver]) (by simp [results, Try.results83, go_sem, j0, j1, j2, j3, j4, j5, j6]) rfl ⟨_, _, rfl, ?_, w1.heap.size, by omega, by simp only [World.setCell, Array.size_modify]; exact hz3, ?_, ?_⟩
  · repeat (refine Below.setCell ?_ (by simp only []; omega) _)
    exact HB2.out
  · refine StrsOwn.wide (lo := w.heap.size + 2) (hi := w1.heap.size) ?_ (by omega) (Nat.le_refl _)
    repeat (refine StrsOwn.setCell ?_ (by simp only []; omega) _)
    exact HS2.out
  · refine StrsOwn.wide (lo := w1.heap.size) (hi := w2.heap.size) ?_ (Nat.le_refl _) (by simp [World.setCell])
    repeat (refine StrsOwn.setCell ?_ (by simp only []; omega) _)
    exact HH2.out
end
end Go.Proofs.Ytmaagbnjpdijnaa

namespace Go.Proofs.Ytmaagbnjpdijnaa
open Go.RowKit Go.Deep

/-- what is not set gets the default -/
def fillV (V : List ByteArray) (Fs : List Fd) : List ByteArray := List.zipWith (fun v (f : Fd) => if v.toList.isEmpty = true then f.df else v) V Fs
theorem fillV_len {V : List ByteArray} {Fs : List Fd} (h : Fs.length = V.length) : (fillV V Fs).length = V.length := by simp [fillV, h]
theorem fillV_get {V : List ByteArray} {Fs : List Fd} {i : Nat} (hv : i < V.length) (hf : i < Fs.length) : (fillV V Fs)[i]? = some (if V[i].toList.isEmpty = true then Fs[i].df else V[i]) := by
  simp [fillV, List.getElem?_zipWith, hv, hf]

/-- the first k are filled -/
def FillTo (V : List ByteArray) (Fs : List Fd) (k : Nat) (L : List ByteArray) : Prop :=
  L.length = V.length ∧ (∀ i, i < k → L[i]? = (fillV V Fs)[i]?) ∧ ∀ i, k ≤ i → L[i]? = V[i]?
theorem FillTo.zero (V : List ByteArray) (Fs : List Fd) : FillTo V Fs 0 V := ⟨rfl, fun i h => by omega, fun _ _ => rfl⟩
theorem FillTo.at {V : List ByteArray} {Fs : List Fd} {k : Nat} {L : List ByteArray} (h : FillTo V Fs k L) (hk : k < V.length) (hk' : k < L.length) : L[k] = V[k] := by
  have := h.2.2 k (Nat.le_refl _)
  rw [List.getElem?_eq_getElem hk', List.getElem?_eq_getElem hk] at this
  exact Option.some.inj this
theorem FillTo.same {V : List ByteArray} {Fs : List Fd} {k : Nat} {L : List ByteArray} (h : FillTo V Fs k L) (hk : k < V.length) (hf : k < Fs.length) (he : V[k].toList.isEmpty = false) : FillTo V Fs (k + 1) L := by
  refine ⟨h.1, fun i hi => ?_, fun i hi => h.2.2 i (by omega)⟩
  by_cases e : i = k
  · subst e; rw [h.2.2 i (Nat.le_refl _), fillV_get hk hf, List.getElem?_eq_getElem hk]; simp [he]
  · exact h.2.1 i (by omega)
theorem FillTo.put {V : List ByteArray} {Fs : List Fd} {k : Nat} {L : List ByteArray} (h : FillTo V Fs k L) (hk : k < V.length) (hf : k < Fs.length) (he : V[k].toList.isEmpty = true) : FillTo V Fs (k + 1) (L.set k Fs[k].df) := by
  refine ⟨by rw [List.length_set]; exact h.1, fun i hi => ?_, fun i hi => ?_⟩
  · by_cases e : i = k
    · subst e; rw [fillV_get hk hf, List.getElem?_set_self (by rw [h.1]; exact hk)]; simp [he]
    · rw [List.getElem?_set_ne (by omega)]; exact h.2.1 i (by omega)
  · rw [List.getElem?_set_ne (by omega)]; exact h.2.2 i (by omega)
theorem FillTo.done {V : List ByteArray} {Fs : List Fd} {k : Nat} {L : List ByteArray} (h : FillTo V Fs k L) (hl : Fs.length = V.length) (hk : Fs.length ≤ k) : L = fillV V Fs := by
  apply List.ext_getElem?
  intro i
  by_cases e : i < k
  · exact h.2.1 i e
  · rw [List.getElem?_eq_none (by rw [h.1]; omega), List.getElem?_eq_none (by rw [fillV_len hl]; omega)]

theorem StrsOwn.put {lo hi : Nat} {w : World} {b off cap n : Nat} {L : List ByteArray} (h : StrsOwn lo hi w (.slice (some ⟨b, off, none⟩) n cap) L) {k : Nat} (hk : k < L.length) {s : ByteArray} (hs : s.size ≤ maxLen) :
    StrsOwn lo hi (w.setCell ⟨b, off + k, none⟩ (.string s)) (.slice (some ⟨b, off, none⟩) n cap) (L.set k s) := by
  rcases h with ⟨a, cap', h, rfl⟩ | ⟨b', off', cap', h1, h2, h3, h4, h5, h6, h7, h8, h9⟩
  · simp at hk
  · injection h1 with e1 e2 e3
    injection e1 with e1
    injection e1 with q1 q2 q3
    subst q1 q2 e2 e3
    refine Or.inr ⟨b, off, cap, by rw [List.length_set], ?_, by rw [List.length_set]; exact h3, by simpa [World.setCell] using h4, fun i hi' => ?_, fun t ht => ?_, h7, h8, fun i => by rw [World.frozen?_setCell]; exact h9 i⟩
    · intro e; have := congrArg List.length e; rw [List.length_set] at this; simp at this; exact h2 this
    · have hi2 : i < L.length := by rw [List.length_set] at hi'; exact hi'
      by_cases e : i = k
      · subst e; rw [cell_set_eq _ _ _ _ (h5 i hi2)]; simp
      · rw [cell_set_ne0 _ _ _ _ _ (by omega), h5 i hi2, List.getElem_set_ne (by omega)]
    · rcases List.mem_or_eq_of_mem_set ht with ht | rfl
      · exact h6 t ht
      · exact hs
/-- where there is something, it lies in a block -/
theorem StrsOwn.full {lo hi : Nat} {w : World} {a : Option Addr} {n cap : Nat} {L : List ByteArray} (h : StrsOwn lo hi w (.slice a n cap) L) (hL : 0 < L.length) :
    ∃ b off, a = some ⟨b, off, none⟩ ∧ n = L.length ∧ b < w.heap.size ∧ lo ≤ b ∧ b < hi ∧ (∀ i (h : i < L.length), w.cell? ⟨b, off + i, none⟩ = some (.string L[i])) ∧ ∀ i, w.frozen? ⟨b, off + i, none⟩ = false := by
  rcases h with ⟨a', cap', h, rfl⟩ | ⟨b', off', cap', h1, h2, h3, h4, h5, h6, h7, h8, h9⟩
  · simp at hL
  · injection h1 with e1 e2 e3
    exact ⟨b', off', e1, e2, h4, h7, h8, h5, h9⟩
theorem FdsAt.full' {lo : Nat} {w : World} {a : Option Addr} {n cap : Nat} {Fs : List Fd} (h : FdsAt lo w (.slice a n cap) Fs) (hL : 0 < Fs.length) :
    ∃ b off, a = some ⟨b, off, none⟩ ∧ b < w.heap.size ∧ ∀ i (h : i < Fs.length), FdSize Fs[i] ∧ ∃ wv, FdCells w b (off + i * 11) Fs[i] wv ∧ StrsIn lo w wv Fs[i].words := by
  rcases h with ⟨a', cap', h, rfl⟩ | ⟨b', off', cap', h1, h2, h3, h4, h5, h6, h7⟩
  · simp at hL
  · injection h1 with e1 e2 e3
    exact ⟨b', off', e1, h4, h7⟩

theorem new_cell (X : World) (cs : Array Value) (t : TypeId) (g i : Nat) (hg : X.heap.size = g) : (X.alloc (.cells cs t)).cell? ⟨g, i, none⟩ = cs[i]? := by subst hg; simp
theorem new_free (X : World) (cs : Array Value) (t : TypeId) (g i : Nat) (hg : X.heap.size = g) : (X.alloc (.cells cs t)).frozen? ⟨g, i, none⟩ = false := by subst hg; simp

section
variable (kd kind nm team : ByteArray) (vv hv fv : Value) (en : Bool) (ver : Int) (V Ho : List ByteArray) (Fs : List Fd) (w : World) (lo : Nat)
end
end Go.Proofs.Ytmaagbnjpdijnaa

namespace Go.Proofs.Ytmaagbnjpdijnaa
open Go.RowKit Go.Deep

theorem StrsAt.form' {w : World} {v : Value} {L : List ByteArray} (h : StrsAt w v L) : ∃ a cap, v = .slice a L.length cap := by
  rcases h with ⟨a, cap, h, rfl⟩ | ⟨b, off, cap, h, _⟩
  · exact ⟨a, cap, h⟩
  · exact ⟨_, cap, h⟩

section
variable (kind nm team : ByteArray) (vv hv sv : Value) (en : Bool) (ver : Int) (V Ho : List ByteArray) (Ss : List Sh) (w : World) (lo : Nat)
end
end Go.Proofs.Ytmaagbnjpdijnaa

namespace Go.Proofs.Ytmaagbnjpdijnaa
open Go.RowKit Go.Deep

theorem ShsAt.full' {lo : Nat} {w : World} {a : Option Addr} {n cap : Nat} {Ss : List Sh} (h : ShsAt lo w (.slice a n cap) Ss) (hL : 0 < Ss.length) :
    ∃ b off, a = some ⟨b, off, none⟩ ∧ b < w.heap.size ∧ ∀ i (h : i < Ss.length), Ss[i].kind.size ≤ maxLen ∧ ∃ fv, w.cell? ⟨b, off + i * 2, none⟩ = some (.string Ss[i].kind) ∧ w.cell? ⟨b, off + i * 2 + 1, none⟩ = some fv ∧ FdsAt lo w fv Ss[i].fields := by
  rcases h with ⟨a', cap', h, rfl⟩ | ⟨b', off', cap', h1, h2, h3, h4, h5, h7⟩
  · simp at hL
  · injection h1 with e1 e2 e3
    exact ⟨b', off', e1, h4, h7⟩

section
variable (kind nm team : ByteArray) (vv hv sv : Value) (en : Bool) (ver : Int) (V Ho : List ByteArray) (Ss : List Sh) (w : World) (lo : Nat)

end
end Go.Proofs.Ytmaagbnjpdijnaa

namespace Go.Proofs.Ytmaagbnjpdijnaa
open Go.RowKit Go.Deep

section
variable (kind nm team : ByteArray) (vv hv sv : Value) (en : Bool) (ver : Int) (V Ho : List ByteArray) (Ss : List Sh) (w : World) (lo : Nat)
end
end Go.Proofs.Ytmaagbnjpdijnaa

namespace Go.Proofs.Ytmaagbnjpdijnaa
open Go.RowKit Go.Deep

section
variable (kind nm team : ByteArray) (vv hv sv : Value) (en : Bool) (ver : Int) (V Ho : List ByteArray) (Ss : List Sh) (w : World) (lo : Nat)
end
end Go.Proofs.Ytmaagbnjpdijnaa

namespace Go.Proofs.Ytmaagbnjpdijnaa
open Go.RowKit Go.Deep

/-- a variable of its own block: what its cells hold -/
structure Box (w : World) (β : Nat) (cs : Array Value) : Prop where
  lt : β < w.heap.size
  cell : ∀ i, w.cell? ⟨β, i, none⟩ = cs[i]?
  free : ∀ i, w.frozen? ⟨β, i, none⟩ = false

theorem Box.new (X : World) (cs : Array Value) (t : TypeId) (β : Nat) (h : X.heap.size = β) : Box (X.alloc (.cells cs t)) β cs := ⟨by subst h; simp, fun i => new_cell _ _ _ _ _ h, fun i => new_free _ _ _ _ _ h⟩
theorem Box.below {w w' : World} {β B : Nat} {cs : Array Value} (h : Box w β cs) (hb : Below B w w') (hB : β < B) : Box w' β cs :=
  ⟨Nat.lt_of_lt_of_le h.lt hb.size, fun i => by rw [hb.cell (p := ⟨β, i, none⟩) hB]; exact h.cell i, fun i => by rw [hb.frozen (p := ⟨β, i, none⟩) hB]; exact h.free i⟩
theorem Box.on {w w' : World} {β : Nat} {cs : Array Value} (h : Box w β cs) (hb : Below w.heap.size w w') : Box w' β cs := h.below hb h.lt
theorem Box.drew {w : World} {β : Nat} {cs : Array Value} (h : Box w β cs) : Box w.drew β cs := ⟨h.lt, h.cell, h.free⟩
theorem Box.touch {w w' : World} {β lo hi : Nat} {cs : Array Value} (h : Box w β cs) (hb : Touch lo hi w w') (ho : β < lo ∨ hi ≤ β) : Box w' β cs :=
  ⟨Nat.lt_of_lt_of_le h.lt hb.size, fun i => by rw [hb.cell (p := ⟨β, i, none⟩) h.lt ho]; exact h.cell i, fun i => by rw [hb.frozen (p := ⟨β, i, none⟩) h.lt ho]; exact h.free i⟩
theorem Box.set {w : World} {β k : Nat} {cs : Array Value} (h : Box w β cs) (u : Value) (hk : k < cs.size) : Box (w.setCell ⟨β, k, none⟩ u) β (cs.set k u) := by
  refine ⟨by simpa [World.setCell] using h.lt, fun i => ?_, fun i => by rw [World.frozen?_setCell]; exact h.free i⟩
  rw [Array.getElem?_set]
  by_cases hi : k = i
  · subst hi
    rw [if_pos rfl]
    have : (w.cell? ⟨β, k, none⟩) = some cs[k] := by rw [h.cell]; simp
    exact World.cell?_setCell_same' _ _ _ (by rw [this]; rfl)
  · rw [if_neg hi, cell_set_ne0 _ _ _ _ _ hi]; exact h.cell i
theorem Box.setFar {w : World} {β : Nat} {cs : Array Value} (h : Box w β cs) {p : Addr} (hp : p.block ≠ β) (u : Value) : Box (w.setCell p u) β cs :=
  ⟨by simpa [World.setCell] using h.lt, fun i => by rw [World.cell?_setCell_far _ _ _ _ hp]; exact h.cell i, fun i => by rw [World.frozen?_setCell]; exact h.free i⟩

/-- the cells of a block are as they were, and what was there ahead of the call -/
abbrev Held (w : World) (cs : Array Value) (W : World) : Prop := (∀ i, W.cell? ⟨w.heap.size, i, none⟩ = cs[i]?) ∧ w.heap.size < W.heap.size ∧ Hid (Below w.heap.size w W ∧ ∀ i, W.frozen? ⟨w.heap.size, i, none⟩ = false)
theorem Held.box {w W : World} {cs : Array Value} (h : Held w cs W) : Box W w.heap.size cs := ⟨h.2.1, h.1, h.2.2.out.2⟩
theorem Held.mk' {w W : World} {cs : Array Value} (h : Box W w.heap.size cs) (hb : Below w.heap.size w W) : Held w cs W := ⟨h.cell, h.lt, hb, h.free⟩
theorem Held.shs {w W : World} {cs : Array Value} (h : Held w cs W) {lo : Nat} {v : Value} {Ss : List Sh} (hs : ShsAt lo w v Ss) : ShsAt lo W v Ss := hs.below h.2.2.out.1
theorem Held.drew {w W : World} {cs : Array Value} (h : Box W w.heap.size cs) (hb : Below w.heap.size w W) : Held w cs W.drew := Held.mk' ⟨h.lt, h.cell, h.free⟩ hb.drew
theorem Held.on {w W W' : World} {cs : Array Value} (h : Held w cs W) (hb : Below W.heap.size W W') : Held w cs W' := Held.mk' (h.box.on hb) (h.2.2.out.1.trans (hb.mono h.2.2.out.1.size))
theorem Held.alloc {w W : World} {cs : Array Value} (h : Held w cs W) (o : Obj) : Held w cs (W.alloc o) := h.on ((Below.refl _ _).alloc (Nat.le_refl _) _)
theorem Held.set {w W : World} {cs : Array Value} {p : Addr} (h : Held w cs W) (hp : w.heap.size < p.block) (u : Value) : Held w cs (W.setCell p u) := Held.mk' (h.box.setFar (by omega) _) (h.2.2.out.1.setCell (by omega) _)

theorem one_al (X : World) (o : Obj) : Below X.heap.size X (X.alloc o) := (Below.refl _ _).alloc (Nat.le_refl _) _
theorem bt {a b c : World} (h : Below a.heap.size a b) (k : Below b.heap.size b c) : Below a.heap.size a c := h.trans (k.mono h.size)
theorem ShsW.below {lo hi : Nat} {w w' : World} {v : Value} {n : Nat} (h : ShsW lo hi w v n) (hb : Below w.heap.size w w') : ShsW lo hi w' v n := by
  rcases h with h | ⟨b, off, cap, m, h1, h2, h3, h4, h5, h6, h7, h8, h9⟩
  · exact Or.inl h
  · exact Or.inr ⟨b, off, cap, m, h1, h2, h3, h4, h5, h6, h7, h8, h9.below hb⟩

/-- two variables' cells are as they were, and what was there when the region began -/
abbrev Held2 (W0 : World) (b1 : Nat) (cs1 : Array Value) (b2 : Nat) (cs2 : Array Value) (W : World) : Prop :=
  (∀ i, W.cell? ⟨b1, i, none⟩ = cs1[i]?) ∧ (∀ i, W.cell? ⟨b2, i, none⟩ = cs2[i]?) ∧ Hid (Below W0.heap.size W0 W ∧ b1 < W0.heap.size ∧ b2 < W0.heap.size)
theorem Held2.drew {W0 : World} {b1 b2 : Nat} {cs1 cs2 : Array Value} (h1 : Box W0 b1 cs1) (h2 : Box W0 b2 cs2) : Held2 W0 b1 cs1 b2 cs2 W0.drew := ⟨h1.cell, h2.cell, (Below.refl _ _).drew, h1.lt, h2.lt⟩
theorem Held2.on {W0 W W' : World} {b1 b2 : Nat} {cs1 cs2 : Array Value} (h : Held2 W0 b1 cs1 b2 cs2 W) (hb : Below W.heap.size W W') : Held2 W0 b1 cs1 b2 cs2 W' := by
  obtain ⟨h1, h2, h3, h4, h5⟩ := h
  have := h3.size
  exact ⟨fun i => (hb.cell (p := ⟨b1, i, none⟩) (by simp only []; omega)).trans (h1 i), fun i => (hb.cell (p := ⟨b2, i, none⟩) (by simp only []; omega)).trans (h2 i), bt h3 hb, h4, h5⟩
end Go.Proofs.Ytmaagbnjpdijnaa


