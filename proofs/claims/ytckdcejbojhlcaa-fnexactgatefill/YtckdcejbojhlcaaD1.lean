import Derived.Test.YtckdcejbojhlcaaK5
import Derived.Test.YtckdcejbojhlcaaC3
import Derived.Deep.AppendLies
import Derived.Deep.Upon
namespace Go.Proofs.Ytckdcejbojhlcaa
open Go.RowKit Go.Deep

set_option maxRecDepth 20000 in
theorem append_strs (W : World) (g : Nat) (src : Value) (L : List ByteArray) (ty : TypeId) (hs : StrsAt W src L) (hn : L.length ≤ 1048576) (hg : W.heap.size = g) :
    ∃ v' w', (Builtin.append_ #[22, 22] ty #[.slice (some ⟨g, 0, none⟩) 0 0, src]).run Try.prog (W.alloc (.cells #[] 9)) = .ok v' w' ∧ Below W.heap.size W w' ∧ StrsOwn W.heap.size w'.heap.size w' v' L := by
  subst hg
  obtain ⟨i0, hi, hz0, hz1, hz2⟩ := info_parts Try.info9
  have hA : Below W.heap.size W (W.alloc (.cells #[] 9)) := (Below.refl _ _).alloc (Nat.le_refl _) _
  rcases hs with ⟨a, cap, rfl, rfl⟩ | ⟨b, off, cap, rfl, hne, hm, hbw, hc, hsz⟩
  · refine ⟨.slice (some ⟨W.heap.size, 0, none⟩) 0 0, _, run_append_nothing _ 22 22 ty 9 i0 Try.underlying22 hi _ 0 0 (Nat.le_refl _) _ ?_, hA, Or.inl ⟨_, _, rfl, rfl⟩⟩
    cases a with
    | none => exact Src.ofNil _ Try.underlying22 _
    | some ad => exact Src.ofSlice _ Try.underlying22 ad 0 cap [] (by simp) (fun j u h => by simp at h) (fun u h => by simp at h)
  · have hown := World.ownsRow_made (base := W.heap.size) (e := 9) (size := 1) W #[] 0 (Nat.le_refl _) (Nat.zero_le _) (by simp)
    obtain ⟨g, cap', w', hr, h2, h3, h4, h5⟩ := run_append_lies (P := Try.prog) (W.alloc (.cells #[] 9)) 22 ty W.heap.size 9 i0 (.string ⟨#[]⟩) 1 16 Try.underlying22 hi hz0 hz1 hz2 rfl (by omega) _ 0 [] hown ⟨b, off, none⟩ L.length cap (L.map Value.string) (by simp) (fun j u hj => by
        obtain ⟨hj1, hj2⟩ := List.getElem?_eq_some_iff.1 hj
        simp only [List.length_map] at hj1
        rw [Go.WideShapes.add_plain, hA.cell (p := ⟨b, off + j, none⟩) hbw, hc j hj1, ← hj2]
        simp) (fun u hu => by obtain ⟨s, _, rfl⟩ := List.mem_map.1 hu; rfl) (List.length_pos_iff.2 hne) (by rw [Nat.zero_add]; exact hm) (by omega) (by simp) (W.heap.size + 1) (by simp)
    rw [Nat.zero_add] at hr h2
    have hob : (Value.slice (some (⟨W.heap.size, 0, none⟩ : Addr)) 0 0).ownBlock = some W.heap.size := rfl
    rw [hob] at h3 h4
    have hB : Below W.heap.size W w' := hA.trans ⟨h3.os, h3.tape, h3.output, h3.size, fun k hk => h3.block k (by simp; omega) (by simp; omega)⟩
    refine ⟨_, w', hr, hB, Or.inr ⟨g, 0, cap', rfl, hne, hm, h5, fun i hi => ?_, hsz, ?_, h5, fun i => ?_⟩⟩
    · have := h2.cells (g := g) rfl i (.string L[i]) (by simp [hi])
      rw [Go.WideShapes.add_plain] at this
      exact this
    · rcases h4 with h4 | h4
      · have : W.heap.size = g := by simpa using h4
        omega
      · omega
    · rcases h2.2 with ⟨h, _⟩ | ⟨g', cap2, cur, hv, _, hh, _⟩
      · cases h
      · have e : g = g' := by injection hv with e1 _ _; injection e1 with e2; injection e2
        subst e
        simp [World.frozen?, hh]

/-- AN append WHOSE RUN IS KNOWN -/
theorem wpList_append_run {P : Program} {w w' : World} {v v1 v2 : Value} {ops : Array Oper} {rest : List Oper} {o : Oper} {a : Act} {Q : Exit → Act → World → Prop} (hgd : o.guard = none) (s x : Operand) (t : TypeId)
    (ho : o.op = .call { callee := .builtin .append, args := #[s, x], argTypes := #[t, t] }) (hs : a.eval s = v1) (hx : a.eval x = v2) (hr : (Builtin.append_ #[t, t] o.type #[v1, v2]).run P w = .ok v w')
    (h : wpList P ops Q rest (a.put o.dst v) w') : wpList P ops Q (o :: rest) a w := by
  refine wpList_plain hgd fun K hK => ?_
  unfold Oper.wp execOp
  simp only [ho, resolve, invoke, builtin, Sem.run_bind, Sem.run_pure, Result.andThen_ok, List.map_toArray, List.map_cons, List.map_nil, hs, hx, hr]
  exact hK _ _ h

section
variable (kind nm team : ByteArray) (vv hv : Value) (en : Bool) (ver : Int) (V Ho : List ByteArray) (w : World)
set_option maxRecDepth 20000 in
set_option maxHeartbeats 1000000 in
theorem l2Copy_any (hV : StrsAt w vv V) (hH : StrsAt w hv Ho) (n1 : V.length ≤ 1048576) (n2 : Ho.length ≤ 1048576) :
    Calls Try.prog 39 #[.agg #[.string kind, .string nm, .string team, vv, .bool en, hv, .int .i64 ver]] w
      fun e w' => ∃ v' h', e = .returned (.agg #[.string kind, .string nm, .string team, v', .bool en, h', .int .i64 ver]) ∧ Below w.heap.size w w' ∧ ObjOwn w.heap.size w' v' h' V Ho := by
  have HV := hide hV
  have HH := hide hH
  obtain ⟨a, n, cap, rfl⟩ := hV.form
  obtain ⟨a', n', cap', rfl⟩ := hH.form
  clear hV hH
  have HW : ∀ o o', Hid (Below w.heap.size w ((w.alloc o).alloc o')) := fun o o' => ((Below.refl _ _).alloc (Nat.le_refl _) _).alloc (by simp) _
  obtain ⟨v1, w1, hap, hb, hs⟩ := append_strs ((w.alloc (.cells #[.string kind, .string nm, .string team, .slice a n cap, .bool en, .slice a' n' cap', .int .i64 ver] 41)).alloc (.cells #[.string ⟨#[]⟩, .string ⟨#[]⟩, .string ⟨#[]⟩, .slice none 0 0, .bool false, .slice none 0 0, .int .i64 0] 41)) (w.heap.size + 1 + 1) (.slice a n cap) V 22 (HV.out.below (HW _ _).out) n1 (by simp)
  obtain ⟨a1, cap1, rfl⟩ := hs.form
  have HS : Hid (StrsOwn (w.heap.size + 2) w1.heap.size w1 (.slice a1 V.length cap1) V) := hs.wide (by simp) (Nat.le_refl _)
  have hz : w.heap.size + 1 < w1.heap.size := by have := hb.size; simp at this; omega
  obtain ⟨hc, hf⟩ := bcell hb
  have HB : Hid (Below w.heap.size w w1) := (HW _ _).out.trans (hb.mono (by simp; omega))
  clear hb hs
  have hz0 : w.heap.size < w1.heap.size := by omega
  have g0 : ∀ i, w1.cell? ⟨w.heap.size, i, none⟩ = (#[.string kind, .string nm, .string team, .slice a n cap, .bool en, .slice a' n' cap', .int .i64 ver] : Array Value)[i]? := fun i => by
    rw [hc _ _ (by simp; omega), ((Below.refl (w.alloc (.cells #[.string kind, .string nm, .string team, .slice a n cap, .bool en, .slice a' n' cap', .int .i64 ver] 41)).heap.size _).alloc (Nat.le_refl _) _).cell (p := ⟨w.heap.size, i, none⟩) (by simp)]; simp
  have g1 : ∀ i, w1.cell? ⟨w.heap.size + 1, i, none⟩ = (#[.string ⟨#[]⟩, .string ⟨#[]⟩, .string ⟨#[]⟩, .slice none 0 0, .bool false, .slice none 0 0, .int .i64 0] : Array Value)[i]? := fun i => by
    rw [hc _ _ (by simp)]
    simp
  have gf0 : ∀ i, w1.frozen? ⟨w.heap.size, i, none⟩ = false := fun i => by rw [hf _ _ (by simp; omega)]; simp
  have gf1 : ∀ i, w1.frozen? ⟨w.heap.size + 1, i, none⟩ = false := fun i => by rw [hf _ _ (by simp)]; simp
  clear hc hf
  have hX : Hid (Below w.heap.size w (w1.setCell ⟨w.heap.size, 3, none⟩ (.slice a1 V.length cap1))) := HB.out.setCell (Nat.le_refl _) _
  have hXs : (w1.setCell ⟨w.heap.size, 3, none⟩ (.slice a1 V.length cap1)).heap.size = w1.heap.size := by simp [World.setCell]
  have HS' := hide (HS.out.setCell (p := ⟨w.heap.size, 3, none⟩) (by simp only []; omega) (.slice a1 V.length cap1))
  obtain ⟨v2, w2, hap2, hb2, hs2⟩ := append_strs (w1.setCell ⟨w.heap.size, 3, none⟩ (.slice a1 V.length cap1)) w1.heap.size (.slice a' n' cap') Ho 22 (HH.out.below hX.out) n2 hXs
  obtain ⟨a2, cap2, rfl⟩ := hs2.form
  have HS2 : Hid (StrsOwn (w.heap.size + 2) w1.heap.size w2 (.slice a1 V.length cap1) V) := HS'.out.below hb2
  have HH2 : Hid (StrsOwn w1.heap.size w2.heap.size w2 (.slice a2 Ho.length cap2) Ho) := by unfold Hid; rw [← hXs]; exact hs2
  have hz2 : w.heap.size + 1 < w2.heap.size := by have := hb2.size; rw [hXs] at this; omega
  have hz3 : w1.heap.size ≤ w2.heap.size := by have := hb2.size; rw [hXs] at this; exact this
  have HB2 : Hid (Below w.heap.size w w2) := hX.out.trans (hb2.mono hX.out.size)
  have hc2 : ∀ b o, b < w1.heap.size → w2.cell? ⟨b, o, none⟩ = (w1.setCell ⟨w.heap.size, 3, none⟩ (.slice a1 V.length cap1)).cell? ⟨b, o, none⟩ := fun b o h => hb2.cell (p := ⟨b, o, none⟩) (by rw [hXs]; exact h)
  have hf2 : ∀ b o, b < w1.heap.size → w2.frozen? ⟨b, o, none⟩ = (w1.setCell ⟨w.heap.size, 3, none⟩ (.slice a1 V.length cap1)).frozen? ⟨b, o, none⟩ := fun b o h => hb2.frozen (p := ⟨b, o, none⟩) (by rw [hXs]; exact h)
  clear hb2 hs2 hXs
  have k3 : w2.cell? ⟨w.heap.size, 3, none⟩ = some (.slice a1 V.length cap1) := by rw [hc2 _ _ hz0]; exact World.cell?_setCell_same' _ _ _ (by rw [g0]; rfl)
  have k' : ∀ i, i ≠ 3 → w2.cell? ⟨w.heap.size, i, none⟩ = (#[.string kind, .string nm, .string team, .slice a n cap, .bool en, .slice a' n' cap', .int .i64 ver] : Array Value)[i]? := fun i hi => by rw [hc2 _ _ hz0, cell_set_ne0 _ _ _ _ _ (fun e => hi e.symm), g0]
  have k0 : w2.cell? ⟨w.heap.size, 0, none⟩ = some (.string kind) := k' 0 (by omega)
  have k1 : w2.cell? ⟨w.heap.size, 1, none⟩ = some (.string nm) := k' 1 (by omega)
  have k2 : w2.cell? ⟨w.heap.size, 2, none⟩ = some (.string team) := k' 2 (by omega)
  have k4 : w2.cell? ⟨w.heap.size, 4, none⟩ = some (.bool en) := k' 4 (by omega)
  have k5 : w2.cell? ⟨w.heap.size, 5, none⟩ = some (.slice a' n' cap') := k' 5 (by omega)
  have k6 : w2.cell? ⟨w.heap.size, 6, none⟩ = some (.int .i64 ver) := k' 6 (by omega)
  have j' : ∀ i, w2.cell? ⟨w.heap.size + 1, i, none⟩ = (#[.string ⟨#[]⟩, .string ⟨#[]⟩, .string ⟨#[]⟩, .slice none 0 0, .bool false, .slice none 0 0, .int .i64 0] : Array Value)[i]? := fun i => by rw [hc2 _ _ hz, show (w1.setCell ⟨w.heap.size, 3, none⟩ (.slice a1 V.length cap1)).cell? ⟨w.heap.size + 1, i, none⟩ = w1.cell? ⟨w.heap.size + 1, i, none⟩ from by apply World.cell?_setCell_other; simp, g1]
  have j0 : w2.cell? ⟨w.heap.size + 1, 0, none⟩ = some (.string ⟨#[]⟩) := j' 0
  have j1 : w2.cell? ⟨w.heap.size + 1, 1, none⟩ = some (.string ⟨#[]⟩) := j' 1
  have j2 : w2.cell? ⟨w.heap.size + 1, 2, none⟩ = some (.string ⟨#[]⟩) := j' 2
  have j3 : w2.cell? ⟨w.heap.size + 1, 3, none⟩ = some (.slice none 0 0) := j' 3
  have j4 : w2.cell? ⟨w.heap.size + 1, 4, none⟩ = some (.bool false) := j' 4
  have j5 : w2.cell? ⟨w.heap.size + 1, 5, none⟩ = some (.slice none 0 0) := j' 5
  have j6 : w2.cell? ⟨w.heap.size + 1, 6, none⟩ = some (.int .i64 0) := j' 6
  have fz0 : ∀ o, w2.frozen? ⟨w.heap.size, o, none⟩ = false := fun o => by rw [hf2 _ _ hz0, World.frozen?_setCell]; exact gf0 o
  have fz1 : ∀ o, w2.frozen? ⟨w.heap.size + 1, o, none⟩ = false := fun o => by rw [hf2 _ _ hz, World.frozen?_setCell]; exact gf1 o
  clear hc2 hf2 k' j'
  go_enter Try.func39, Try.ntmps39
  go_wp2_with (first | (at_builtin; refine wpList_append_run rfl (.tmp 3) (.tmp 5) 22 rfl rfl rfl hap ?_) | (at_builtin; refine wpList_append_run rfl (.tmp 8) (.tmp 10) 22 rfl rfl rfl hap2 ?_))
  refine bodyPost_ret (v := .agg #[.string kind, .string nm, .string team, .slice a1 V.length cap1, .bool en, .slice a2 Ho.length cap2, .int .i64 ver]) (by simp [results, Try.results39, go_sem, j0, j1, j2, j3, j4, j5, j6]) rfl ⟨_, _, rfl, ?_, w1.heap.size, by omega, by simp only [World.setCell, Array.size_modify]; exact hz3, ?_, ?_⟩
  · repeat (refine Below.setCell ?_ (by simp only []; omega) _)
    exact HB2.out
  · refine StrsOwn.wide (lo := w.heap.size + 2) (hi := w1.heap.size) ?_ (by omega) (Nat.le_refl _)
    repeat (refine StrsOwn.setCell ?_ (by simp only []; omega) _)
    exact HS2.out
  · refine StrsOwn.wide (lo := w1.heap.size) (hi := w2.heap.size) ?_ (Nat.le_refl _) (by simp [World.setCell])
    repeat (refine StrsOwn.setCell ?_ (by simp only []; omega) _)
    exact HH2.out
end
end Go.Proofs.Ytckdcejbojhlcaa
