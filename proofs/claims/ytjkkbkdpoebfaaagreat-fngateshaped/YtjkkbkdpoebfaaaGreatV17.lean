import Derived.Test.YtjkkbkdpoebfaaaGreatV15
import Derived.Test.YtjkkbkdpoebfaaaGreatV16
import Derived.Deep.AppendLies
import Derived.Deep.Upon
import Derived.Deep.RegionWith
import Derived.Deep.RegionHeld3
import Derived.Deep.DeepCutAuto
namespace Go.Proofs.YtjkkbkdpoebfaaaGreat
open Go.RowKit Go.Deep

/-- what gateOkShapeOf tells: the first of the kind, where the shapes are ok -/
def okShapeOf (Ss : List Sh) (s : ByteArray) : Option Sh := if shapesB Ss = true then shOf Ss s else none
def OkShape (lo : Nat) (Ss : List Sh) (s : ByteArray) (e : Ending) (w' : World) : Prop :=
  (∃ x fv, okShapeOf Ss s = some x ∧ e = .returned (.tuple #[.agg #[.string x.kind, fv], .bool true]) ∧ FdsAt lo w' fv x.fields) ∨
  (okShapeOf Ss s = none ∧ e = .returned (.tuple #[.agg #[.string ⟨#[]⟩, .slice none 0 0], .bool false]))

set_option maxHeartbeats 400000 in
theorem shapeOf0_any (lo : Nat) (v : Value) (Ss : List Sh) (s : ByteArray) (w0 w : World) (hv : ShsAt lo w0 v Ss) (h0 : Below w0.heap.size w0 w) :
    Calls Tryz.prog 32 #[v, .string s] w fun e w' => Below w.heap.size w w' ∧ ShapeOf lo Ss s e w0 := by
  by_cases hL : Ss = []
  · subst hL
    obtain ⟨a, cap, rfl⟩ := hv.form
    clear hv
    go_enter Tryz.func32, Tryz.ntmps32
    go_wp2
    go_loop [10] (fun i => i = .int .i64 0) (fun _ => 0)
    case atStart => rfl
    case round =>
      subst hrel
      go_wp2
      refine bodyPost_ret (v := .tuple #[.agg #[.string ⟨#[]⟩, .slice none 0 0], .bool false]) (by simp [results, Tryz.results32, go_sem]) rfl ⟨?_, Or.inr ⟨rfl, rfl⟩⟩
      exact (Below.refl _ _).alloc (Nat.le_refl _) _
  · obtain ⟨b, off, cap, rfl, hm, hbw, hc⟩ := hv.full hL
    clear hv
    have H0 := hide h0
    clear h0
    unfold maxLen at hm
    have hA : ∀ (o : Obj) (wr : World), Below (w.heap.size + 1) (w.alloc o) wr → Below w.heap.size w wr := fun o wr h => ((Below.refl _ _).alloc (Nat.le_refl _) o).trans (h.mono (by omega))
    go_enter Tryz.func32, Tryz.ntmps32
    go_wp2
    go_loopw [10] (fun i wr => ∃ k : Nat, i = .int .i64 k ∧ k ≤ Ss.length ∧ Below (w.heap.size + 1) (w.alloc (.cells #[.string ⟨#[]⟩, .slice none 0 0] 45)) wr ∧ ∀ i (h : i < Ss.length), i < k → (Ss[i].kind.toList == s.toList) = false) (fun i _ => Ss.length - (intOf i).toNat)
    case atStart => exact ⟨0, rfl, by omega, Below.refl _ _, fun i _ h => by omega⟩
    case round =>
      obtain ⟨k, rfl, hk, hb, hall⟩ := hrel
      have HA := hide hall
      clear hall
      have hz : w.heap.size < wr.heap.size := by have := hb.size; simp at this; omega
      have hB : Hid (Below w.heap.size w wr) := hA _ _ hb
      have hB0 : Hid (Below w0.heap.size w0 wr) := H0.out.trans (hB.out.mono H0.out.size)
      have q0 : wr.cell? ⟨w.heap.size, 0, none⟩ = some (.string ⟨#[]⟩) := by rw [hb.cell (p := ⟨w.heap.size, _, none⟩) (by simp)]; simp
      have q1 : wr.cell? ⟨w.heap.size, 1, none⟩ = some (.slice none 0 0) := by rw [hb.cell (p := ⟨w.heap.size, _, none⟩) (by simp)]; simp
      have qf : ∀ o, wr.frozen? ⟨w.heap.size, o, none⟩ = false := fun o => by rw [hb.frozen (p := ⟨w.heap.size, _, none⟩) (by simp)]; simp
      have HBB := hide hb
      clear hb
      by_cases hlt : k < Ss.length
      · obtain ⟨_, fv, c0, c1, hst⟩ := hc k hlt
        have e0 : wr.cell? ⟨b, off + k * 2, none⟩ = some (.string Ss[k].kind) := by rw [hB0.out.cell (p := ⟨b, _, none⟩) hbw]; exact c0
        have e1 : wr.cell? ⟨b, off + k * 2 + 1, none⟩ = some fv := by rw [hB0.out.cell (p := ⟨b, _, none⟩) hbw]; exact c1
        obtain ⟨a1, cap1, rfl⟩ := hst.form
        have HST := hide hst
        clear c0 c1 hst
        by_cases he : (Ss[k].kind.toList == s.toList) = true
        · go_wp2
          have HF : Below w.heap.size w (((wr.setCell ⟨w.heap.size, 0, none⟩ (.string Ss[k].kind)).setCell ⟨w.heap.size, 1, none⟩ (.slice a1 Ss[k].fields.length cap1)).alloc (.cells #[.string Ss[k].kind, .slice a1 Ss[k].fields.length cap1] 45)) :=
            ((hB.out.setCell (Nat.le_refl _) _).setCell (Nat.le_refl _) _).alloc (by simp [World.setCell]; omega) _
          have hold : ∀ (X : World) (o : Obj) (j : Nat), w.heap.size < X.heap.size → (X.alloc o).cell? ⟨w.heap.size, j, none⟩ = X.cell? ⟨w.heap.size, j, none⟩ := fun X o j h => ((Below.refl X.heap.size X).alloc (Nat.le_refl _) o).cell (p := ⟨w.heap.size, j, none⟩) h
          have f0 : (((wr.setCell ⟨w.heap.size, 0, none⟩ (.string Ss[k].kind)).setCell ⟨w.heap.size, 1, none⟩ (.slice a1 Ss[k].fields.length cap1)).alloc (.cells #[.string Ss[k].kind, .slice a1 Ss[k].fields.length cap1] 45)).cell? ⟨w.heap.size, 0, none⟩ = some (.string Ss[k].kind) := by
            rw [hold _ _ _ (by simpa [World.setCell] using hz), cell_set_ne _ _ _ _ (by simp), cell_set_eq _ _ _ _ q0]
          have f1 : (((wr.setCell ⟨w.heap.size, 0, none⟩ (.string Ss[k].kind)).setCell ⟨w.heap.size, 1, none⟩ (.slice a1 Ss[k].fields.length cap1)).alloc (.cells #[.string Ss[k].kind, .slice a1 Ss[k].fields.length cap1] 45)).cell? ⟨w.heap.size, 1, none⟩ = some (.slice a1 Ss[k].fields.length cap1) := by
            rw [hold _ _ _ (by simpa [World.setCell] using hz), cell_set_eq _ _ _ _ (by rw [cell_set_ne _ _ _ _ (by simp)]; exact q1)]
          exact bodyPost_ret (v := .tuple #[.agg #[.string Ss[k].kind, .slice a1 Ss[k].fields.length cap1], .bool true]) (by simp [results, Tryz.results32, go_sem, f0, f1]) rfl ⟨HF, Or.inl ⟨Ss[k], _, shOf_some hlt he HA.out, rfl, HST.out⟩⟩
        · have he' : (Ss[k].kind.toList == s.toList) = false := by simpa using he
          clear he
          go_wp2
          go_roundw
          case rel => exact ⟨k + 1, by go_num, by omega, HBB.out.alloc (by omega) _, fun i h h' => by
                        by_cases e : i = k
                        · subst e; exact he'
                        · exact HA.out i h (by omega)⟩
          case measure => simp [intOf]; omega
      · go_wp2
        refine bodyPost_ret (v := .tuple #[.agg #[.string ⟨#[]⟩, .slice none 0 0], .bool false]) (by simp [results, Tryz.results32, go_sem, q0, q1]) rfl ⟨?_, Or.inr ⟨shOf_none fun i h => HA.out i h (by omega), rfl⟩⟩
        exact (hB.out.setCell (Nat.le_refl _) _).setCell (Nat.le_refl _) _

end Go.Proofs.YtjkkbkdpoebfaaaGreat

namespace Go.Proofs.YtjkkbkdpoebfaaaGreat
open Go.RowKit Go.Deep

set_option maxRecDepth 20000 in
theorem append_strs (W : World) (g : Nat) (src : Value) (L : List ByteArray) (ty : TypeId) (hs : StrsAt W src L) (hn : L.length ≤ 1048576) (hg : W.heap.size = g) :
    ∃ v' w', (Builtin.append_ #[25, 25] ty #[.slice (some ⟨g, 0, none⟩) 0 0, src]).run Tryz.prog (W.alloc (.cells #[] 9)) = .ok v' w' ∧ Below W.heap.size W w' ∧ StrsOwn W.heap.size w'.heap.size w' v' L := by
  subst hg
  obtain ⟨i0, hi, hz0, hz1, hz2⟩ := info_parts Tryz.info9
  have hA : Below W.heap.size W (W.alloc (.cells #[] 9)) := (Below.refl _ _).alloc (Nat.le_refl _) _
  rcases hs with ⟨a, cap, rfl, rfl⟩ | ⟨b, off, cap, rfl, hne, hm, hbw, hc, hsz⟩
  · refine ⟨.slice (some ⟨W.heap.size, 0, none⟩) 0 0, _, run_append_nothing _ 25 25 ty 9 i0 Tryz.underlying25 hi _ 0 0 (Nat.le_refl _) _ ?_, hA, Or.inl ⟨_, _, rfl, rfl⟩⟩
    cases a with
    | none => exact Src.ofNil _ Tryz.underlying25 _
    | some ad => exact Src.ofSlice _ Tryz.underlying25 ad 0 cap [] (by simp) (fun j u h => by simp at h) (fun u h => by simp at h)
  · have hown := World.ownsRow_made (base := W.heap.size) (e := 9) (size := 1) W #[] 0 (Nat.le_refl _) (Nat.zero_le _) (by simp)
    obtain ⟨g, cap', w', hr, h2, h3, h4, h5⟩ := run_append_lies (P := Tryz.prog) (W.alloc (.cells #[] 9)) 25 ty W.heap.size 9 i0 (.string ⟨#[]⟩) 1 16 Tryz.underlying25 hi hz0 hz1 hz2 rfl (by omega) _ 0 [] hown ⟨b, off, none⟩ L.length cap (L.map Value.string) (by simp) (fun j u hj => by
        obtain ⟨hj1, hj2⟩ := List.getElem?_eq_some_iff.1 hj
        simp only [List.length_map] at hj1
        rw [Go.WideShapes.add_plain, hA.cell (p := ⟨b, off + j, none⟩) hbw, hc j hj1, ← hj2]
        simp) (fun u hu => by obtain ⟨s, _, rfl⟩ := List.mem_map.1 hu; rfl) (List.length_pos_iff.2 hne) (by rw [Nat.zero_add]; exact hm) (by omega) (by simp) (W.heap.size + 1) (by simp)
    rw [Nat.zero_add] at hr h2
    have hob : (Value.slice (some (⟨W.heap.size, 0, none⟩ : Addr)) 0 0).ownBlock = some W.heap.size := rfl
    rw [hob] at h3 h4
    have hB : Below W.heap.size W w' := hA.trans ⟨h3.os, h3.tape, h3.output, h3.size, fun k hk => h3.block k (by simp; omega) (by simp; omega)⟩
    refine ⟨_, w', hr, hB, Or.inr ⟨g, 0, cap', rfl, hne, hm, h5, fun i hi => ?_, hsz, ?_, h5, fun i => ?_⟩⟩
    · have := h2.cells (g := g) rfl i (.string L[i]) (by simp [hi])
      rw [Go.WideShapes.add_plain] at this
      exact this
    · rcases h4 with h4 | h4
      · have : W.heap.size = g := by simpa using h4
        omega
      · omega
    · rcases h2.2 with ⟨h, _⟩ | ⟨g', cap2, cur, hv, _, hh, _⟩
      · cases h
      · have e : g = g' := by injection hv with e1 _ _; injection e1 with e2; injection e2
        subst e
        simp [World.frozen?, hh]

/-- AN append WHOSE RUN IS KNOWN -/
theorem wpList_append_run {P : Program} {w w' : World} {v v1 v2 : Value} {ops : Array Oper} {rest : List Oper} {o : Oper} {a : Act} {Q : Exit → Act → World → Prop} (hgd : o.guard = none) (s x : Operand) (t : TypeId)
    (ho : o.op = .call { callee := .builtin .append, args := #[s, x], argTypes := #[t, t] }) (hs : a.eval s = v1) (hx : a.eval x = v2) (hr : (Builtin.append_ #[t, t] o.type #[v1, v2]).run P w = .ok v w')
    (h : wpList P ops Q rest (a.put o.dst v) w') : wpList P ops Q (o :: rest) a w := by
  refine wpList_plain hgd fun K hK => ?_
  unfold Oper.wp execOp
  simp only [ho, resolve, invoke, builtin, Sem.run_bind, Sem.run_pure, Result.andThen_ok, List.map_toArray, List.map_cons, List.map_nil, hs, hx, hr]
  exact hK _ _ h

section
variable (kind nm team : ByteArray) (vv hv : Value) (en : Bool) (ver : Int) (V Ho : List ByteArray) (w : World)
set_option maxRecDepth 20000 in
set_option maxHeartbeats 1000000 in
theorem l2Copy_any (hV : StrsAt w vv V) (hH : StrsAt w hv Ho) (n1 : V.length ≤ 1048576) (n2 : Ho.length ≤ 1048576) :
    Calls Tryz.prog 21 #[.agg #[.string kind, .string nm, .string team, vv, .bool en, hv, .int .i64 ver]] w
      fun e w' => ∃ v' h', e = .returned (.agg #[.string kind, .string nm, .string team, v', .bool en, h', .int .i64 ver]) ∧ Below w.heap.size w w' ∧ ObjOwn w.heap.size w' v' h' V Ho := by
  have HV := hide hV
  have HH := hide hH
  obtain ⟨a, n, cap, rfl⟩ := hV.form
  obtain ⟨a', n', cap', rfl⟩ := hH.form
  clear hV hH
  have HW : ∀ o o', Hid (Below w.heap.size w ((w.alloc o).alloc o')) := fun o o' => ((Below.refl _ _).alloc (Nat.le_refl _) _).alloc (by simp) _
  obtain ⟨v1, w1, hap, hb, hs⟩ := append_strs ((w.alloc (.cells #[.string kind, .string nm, .string team, .slice a n cap, .bool en, .slice a' n' cap', .int .i64 ver] 27)).alloc (.cells #[.string ⟨#[]⟩, .string ⟨#[]⟩, .string ⟨#[]⟩, .slice none 0 0, .bool false, .slice none 0 0, .int .i64 0] 27)) (w.heap.size + 1 + 1) (.slice a n cap) V 25 (HV.out.below (HW _ _).out) n1 (by simp)
  obtain ⟨a1, cap1, rfl⟩ := hs.form
  have HS : Hid (StrsOwn (w.heap.size + 2) w1.heap.size w1 (.slice a1 V.length cap1) V) := hs.wide (by simp) (Nat.le_refl _)
  have hz : w.heap.size + 1 < w1.heap.size := by have := hb.size; simp at this; omega
  obtain ⟨hc, hf⟩ := bcell hb
  have HB : Hid (Below w.heap.size w w1) := (HW _ _).out.trans (hb.mono (by simp; omega))
  clear hb hs
  have hz0 : w.heap.size < w1.heap.size := by omega
  have g0 : ∀ i, w1.cell? ⟨w.heap.size, i, none⟩ = (#[.string kind, .string nm, .string team, .slice a n cap, .bool en, .slice a' n' cap', .int .i64 ver] : Array Value)[i]? := fun i => by
    rw [hc _ _ (by simp; omega), ((Below.refl (w.alloc (.cells #[.string kind, .string nm, .string team, .slice a n cap, .bool en, .slice a' n' cap', .int .i64 ver] 27)).heap.size _).alloc (Nat.le_refl _) _).cell (p := ⟨w.heap.size, i, none⟩) (by simp)]; simp
  have g1 : ∀ i, w1.cell? ⟨w.heap.size + 1, i, none⟩ = (#[.string ⟨#[]⟩, .string ⟨#[]⟩, .string ⟨#[]⟩, .slice none 0 0, .bool false, .slice none 0 0, .int .i64 0] : Array Value)[i]? := fun i => by
    rw [hc _ _ (by simp)]
    simp
  have gf0 : ∀ i, w1.frozen? ⟨w.heap.size, i, none⟩ = false := fun i => by rw [hf _ _ (by simp; omega)]; simp
  have gf1 : ∀ i, w1.frozen? ⟨w.heap.size + 1, i, none⟩ = false := fun i => by rw [hf _ _ (by simp)]; simp
  clear hc hf
  have hX : Hid (Below w.heap.size w (w1.setCell ⟨w.heap.size, 3, none⟩ (.slice a1 V.length cap1))) := HB.out.setCell (Nat.le_refl _) _
  have hXs : (w1.setCell ⟨w.heap.size, 3, none⟩ (.slice a1 V.length cap1)).heap.size = w1.heap.size := by simp [World.setCell]
  have HS' := hide (HS.out.setCell (p := ⟨w.heap.size, 3, none⟩) (by simp only []; omega) (.slice a1 V.length cap1))
  obtain ⟨v2, w2, hap2, hb2, hs2⟩ := append_strs (w1.setCell ⟨w.heap.size, 3, none⟩ (.slice a1 V.length cap1)) w1.heap.size (.slice a' n' cap') Ho 25 (HH.out.below hX.out) n2 hXs
  obtain ⟨a2, cap2, rfl⟩ := hs2.form
  have HS2 : Hid (StrsOwn (w.heap.size + 2) w1.heap.size w2 (.slice a1 V.length cap1) V) := HS'.out.below hb2
  have HH2 : Hid (StrsOwn w1.heap.size w2.heap.size w2 (.slice a2 Ho.length cap2) Ho) := by unfold Hid; rw [← hXs]; exact hs2
  have hz2 : w.heap.size + 1 < w2.heap.size := by have := hb2.size; rw [hXs] at this; omega
  have hz3 : w1.heap.size ≤ w2.heap.size := by have := hb2.size; rw [hXs] at this; exact this
  have HB2 : Hid (Below w.heap.size w w2) := hX.out.trans (hb2.mono hX.out.size)
  have hc2 : ∀ b o, b < w1.heap.size → w2.cell? ⟨b, o, none⟩ = (w1.setCell ⟨w.heap.size, 3, none⟩ (.slice a1 V.length cap1)).cell? ⟨b, o, none⟩ := fun b o h => hb2.cell (p := ⟨b, o, none⟩) (by rw [hXs]; exact h)
  have hf2 : ∀ b o, b < w1.heap.size → w2.frozen? ⟨b, o, none⟩ = (w1.setCell ⟨w.heap.size, 3, none⟩ (.slice a1 V.length cap1)).frozen? ⟨b, o, none⟩ := fun b o h => hb2.frozen (p := ⟨b, o, none⟩) (by rw [hXs]; exact h)
  clear hb2 hs2 hXs
  have k3 : w2.cell? ⟨w.heap.size, 3, none⟩ = some (.slice a1 V.length cap1) := by rw [hc2 _ _ hz0]; exact World.cell?_setCell_same' _ _ _ (by rw [g0]; rfl)
  have k' : ∀ i, i ≠ 3 → w2.cell? ⟨w.heap.size, i, none⟩ = (#[.string kind, .string nm, .string team, .slice a n cap, .bool en, .slice a' n' cap', .int .i64 ver] : Array Value)[i]? := fun i hi => by rw [hc2 _ _ hz0, cell_set_ne0 _ _ _ _ _ (fun e => hi e.symm), g0]
  have k0 : w2.cell? ⟨w.heap.size, 0, none⟩ = some (.string kind) := k' 0 (by omega)
  have k1 : w2.cell? ⟨w.heap.size, 1, none⟩ = some (.string nm) := k' 1 (by omega)
  have k2 : w2.cell? ⟨w.heap.size, 2, none⟩ = some (.string team) := k' 2 (by omega)
  have k4 : w2.cell? ⟨w.heap.size, 4, none⟩ = some (.bool en) := k' 4 (by omega)
  have k5 : w2.cell? ⟨w.heap.size, 5, none⟩ = some (.slice a' n' cap') := k' 5 (by omega)
  have k6 : w2.cell? ⟨w.heap.size, 6, none⟩ = some (.int .i64 ver) := k' 6 (by omega)
  have j' : ∀ i, w2.cell? ⟨w.heap.size + 1, i, none⟩ = (#[.string ⟨#[]⟩, .string ⟨#[]⟩, .string ⟨#[]⟩, .slice none 0 0, .bool false, .slice none 0 0, .int .i64 0] : Array Value)[i]? := fun i => by rw [hc2 _ _ hz, show (w1.setCell ⟨w.heap.size, 3, none⟩ (.slice a1 V.length cap1)).cell? ⟨w.heap.size + 1, i, none⟩ = w1.cell? ⟨w.heap.size + 1, i, none⟩ from by apply World.cell?_setCell_other; simp, g1]
  have j0 : w2.cell? ⟨w.heap.size + 1, 0, none⟩ = some (.string ⟨#[]⟩) := j' 0
  have j1 : w2.cell? ⟨w.heap.size + 1, 1, none⟩ = some (.string ⟨#[]⟩) := j' 1
  have j2 : w2.cell? ⟨w.heap.size + 1, 2, none⟩ = some (.string ⟨#[]⟩) := j' 2
  have j3 : w2.cell? ⟨w.heap.size + 1, 3, none⟩ = some (.slice none 0 0) := j' 3
  have j4 : w2.cell? ⟨w.heap.size + 1, 4, none⟩ = some (.bool false) := j' 4
  have j5 : w2.cell? ⟨w.heap.size + 1, 5, none⟩ = some (.slice none 0 0) := j' 5
  have j6 : w2.cell? ⟨w.heap.size + 1, 6, none⟩ = some (.int .i64 0) := j' 6
  have fz0 : ∀ o, w2.frozen? ⟨w.heap.size, o, none⟩ = false := fun o => by rw [hf2 _ _ hz0, World.frozen?_setCell]; exact gf0 o
  have fz1 : ∀ o, w2.frozen? ⟨w.heap.size + 1, o, none⟩ = false := fun o => by rw [hf2 _ _ hz, World.frozen?_setCell]; exact gf1 o
  clear hc2 hf2 k' j'
  go_enter Tryz.func21, Tryz.ntmps21
  go_wp2_with (first | (at_builtin; refine wpList_append_run rfl (.tmp 3) (.tmp 5) 25 rfl rfl rfl hap ?_) | (at_builtin; refine wpList_append_run rfl (.tmp 8) (.tmp 10) 25 rfl rfl rfl hap2 ?_))
  refine bodyPost_ret (v := .agg #[.string kind, .string nm, .string team, .slice a1 V.length cap1, .bool en, .slice a2 Ho.length cap2, .int .i64 ver]) (by simp [results, Tryz.results21, go_sem, j0, j1, j2, j3, j4, j5, j6]) rfl ⟨_, _, rfl, ?_, w1.heap.size, by omega, by simp only [World.setCell, Array.size_modify]; exact hz3, ?_, ?_⟩
  · repeat (refine Below.setCell ?_ (by simp only []; omega) _)
    exact HB2.out
  · refine StrsOwn.wide (lo := w.heap.size + 2) (hi := w1.heap.size) ?_ (by omega) (Nat.le_refl _)
    repeat (refine StrsOwn.setCell ?_ (by simp only []; omega) _)
    exact HS2.out
  · refine StrsOwn.wide (lo := w1.heap.size) (hi := w2.heap.size) ?_ (Nat.le_refl _) (by simp [World.setCell])
    repeat (refine StrsOwn.setCell ?_ (by simp only []; omega) _)
    exact HH2.out
end
end Go.Proofs.YtjkkbkdpoebfaaaGreat

namespace Go.Proofs.YtjkkbkdpoebfaaaGreat
open Go.RowKit Go.Deep

/-- what is not set gets the default -/
def fillV (V : List ByteArray) (Fs : List Fd) : List ByteArray := List.zipWith (fun v (f : Fd) => if v.toList.isEmpty = true then f.df else v) V Fs
theorem fillV_len {V : List ByteArray} {Fs : List Fd} (h : Fs.length = V.length) : (fillV V Fs).length = V.length := by simp [fillV, h]
theorem fillV_get {V : List ByteArray} {Fs : List Fd} {i : Nat} (hv : i < V.length) (hf : i < Fs.length) : (fillV V Fs)[i]? = some (if V[i].toList.isEmpty = true then Fs[i].df else V[i]) := by
  simp [fillV, List.getElem?_zipWith, hv, hf]

/-- the first k are filled -/
def FillTo (V : List ByteArray) (Fs : List Fd) (k : Nat) (L : List ByteArray) : Prop :=
  L.length = V.length ∧ (∀ i, i < k → L[i]? = (fillV V Fs)[i]?) ∧ ∀ i, k ≤ i → L[i]? = V[i]?
theorem FillTo.zero (V : List ByteArray) (Fs : List Fd) : FillTo V Fs 0 V := ⟨rfl, fun i h => by omega, fun _ _ => rfl⟩
theorem FillTo.at {V : List ByteArray} {Fs : List Fd} {k : Nat} {L : List ByteArray} (h : FillTo V Fs k L) (hk : k < V.length) (hk' : k < L.length) : L[k] = V[k] := by
  have := h.2.2 k (Nat.le_refl _)
  rw [List.getElem?_eq_getElem hk', List.getElem?_eq_getElem hk] at this
  exact Option.some.inj this
theorem FillTo.same {V : List ByteArray} {Fs : List Fd} {k : Nat} {L : List ByteArray} (h : FillTo V Fs k L) (hk : k < V.length) (hf : k < Fs.length) (he : V[k].toList.isEmpty = false) : FillTo V Fs (k + 1) L := by
  refine ⟨h.1, fun i hi => ?_, fun i hi => h.2.2 i (by omega)⟩
  by_cases e : i = k
  · subst e; rw [h.2.2 i (Nat.le_refl _), fillV_get hk hf, List.getElem?_eq_getElem hk]; simp [he]
  · exact h.2.1 i (by omega)
theorem FillTo.put {V : List ByteArray} {Fs : List Fd} {k : Nat} {L : List ByteArray} (h : FillTo V Fs k L) (hk : k < V.length) (hf : k < Fs.length) (he : V[k].toList.isEmpty = true) : FillTo V Fs (k + 1) (L.set k Fs[k].df) := by
  refine ⟨by rw [List.length_set]; exact h.1, fun i hi => ?_, fun i hi => ?_⟩
  · by_cases e : i = k
    · subst e; rw [fillV_get hk hf, List.getElem?_set_self (by rw [h.1]; exact hk)]; simp [he]
    · rw [List.getElem?_set_ne (by omega)]; exact h.2.1 i (by omega)
  · rw [List.getElem?_set_ne (by omega)]; exact h.2.2 i (by omega)
theorem FillTo.done {V : List ByteArray} {Fs : List Fd} {k : Nat} {L : List ByteArray} (h : FillTo V Fs k L) (hl : Fs.length = V.length) (hk : Fs.length ≤ k) : L = fillV V Fs := by
  apply List.ext_getElem?
  intro i
  by_cases e : i < k
  · exact h.2.1 i e
  · rw [List.getElem?_eq_none (by rw [h.1]; omega), List.getElem?_eq_none (by rw [fillV_len hl]; omega)]

theorem StrsOwn.put {lo hi : Nat} {w : World} {b off cap n : Nat} {L : List ByteArray} (h : StrsOwn lo hi w (.slice (some ⟨b, off, none⟩) n cap) L) {k : Nat} (hk : k < L.length) {s : ByteArray} (hs : s.size ≤ maxLen) :
    StrsOwn lo hi (w.setCell ⟨b, off + k, none⟩ (.string s)) (.slice (some ⟨b, off, none⟩) n cap) (L.set k s) := by
  rcases h with ⟨a, cap', h, rfl⟩ | ⟨b', off', cap', h1, h2, h3, h4, h5, h6, h7, h8, h9⟩
  · simp at hk
  · injection h1 with e1 e2 e3
    injection e1 with e1
    injection e1 with q1 q2 q3
    subst q1 q2 e2 e3
    refine Or.inr ⟨b, off, cap, by rw [List.length_set], ?_, by rw [List.length_set]; exact h3, by simpa [World.setCell] using h4, fun i hi' => ?_, fun t ht => ?_, h7, h8, fun i => by rw [World.frozen?_setCell]; exact h9 i⟩
    · intro e; have := congrArg List.length e; rw [List.length_set] at this; simp at this; exact h2 this
    · have hi2 : i < L.length := by rw [List.length_set] at hi'; exact hi'
      by_cases e : i = k
      · subst e; rw [cell_set_eq _ _ _ _ (h5 i hi2)]; simp
      · rw [cell_set_ne0 _ _ _ _ _ (by omega), h5 i hi2, List.getElem_set_ne (by omega)]
    · rcases List.mem_or_eq_of_mem_set ht with ht | rfl
      · exact h6 t ht
      · exact hs
/-- where there is something, it lies in a block -/
theorem StrsOwn.full {lo hi : Nat} {w : World} {a : Option Addr} {n cap : Nat} {L : List ByteArray} (h : StrsOwn lo hi w (.slice a n cap) L) (hL : 0 < L.length) :
    ∃ b off, a = some ⟨b, off, none⟩ ∧ n = L.length ∧ b < w.heap.size ∧ lo ≤ b ∧ b < hi ∧ (∀ i (h : i < L.length), w.cell? ⟨b, off + i, none⟩ = some (.string L[i])) ∧ ∀ i, w.frozen? ⟨b, off + i, none⟩ = false := by
  rcases h with ⟨a', cap', h, rfl⟩ | ⟨b', off', cap', h1, h2, h3, h4, h5, h6, h7, h8, h9⟩
  · simp at hL
  · injection h1 with e1 e2 e3
    exact ⟨b', off', e1, e2, h4, h7, h8, h5, h9⟩
theorem FdsAt.full' {lo : Nat} {w : World} {a : Option Addr} {n cap : Nat} {Fs : List Fd} (h : FdsAt lo w (.slice a n cap) Fs) (hL : 0 < Fs.length) :
    ∃ b off, a = some ⟨b, off, none⟩ ∧ b < w.heap.size ∧ ∀ i (h : i < Fs.length), FdSize Fs[i] ∧ ∃ wv, FdCells w b (off + i * 11) Fs[i] wv ∧ StrsIn lo w wv Fs[i].words := by
  rcases h with ⟨a', cap', h, rfl⟩ | ⟨b', off', cap', h1, h2, h3, h4, h5, h6, h7⟩
  · simp at hL
  · injection h1 with e1 e2 e3
    exact ⟨b', off', e1, h4, h7⟩

theorem new_cell (X : World) (cs : Array Value) (t : TypeId) (g i : Nat) (hg : X.heap.size = g) : (X.alloc (.cells cs t)).cell? ⟨g, i, none⟩ = cs[i]? := by subst hg; simp
theorem new_free (X : World) (cs : Array Value) (t : TypeId) (g i : Nat) (hg : X.heap.size = g) : (X.alloc (.cells cs t)).frozen? ⟨g, i, none⟩ = false := by subst hg; simp

section
variable (kd kind nm team : ByteArray) (vv hv fv : Value) (en : Bool) (ver : Int) (V Ho : List ByteArray) (Fs : List Fd) (w : World) (lo : Nat)
set_option maxRecDepth 20000 in
set_option maxHeartbeats 2000000 in
theorem fillObj_any (hV : StrsAt w vv V) (hH : StrsAt w hv Ho) (hF : FdsAt lo w fv Fs) (n1 : V.length ≤ 1048576) (n2 : Ho.length ≤ 1048576) (hl : Fs.length = V.length) :
    Calls Tryz.prog 27 #[.agg #[.string kd, fv], .agg #[.string kind, .string nm, .string team, vv, .bool en, hv, .int .i64 ver]] w
      fun e w' => ∃ v' h', e = .returned (.agg #[.string kind, .string nm, .string team, v', .bool en, h', .int .i64 ver]) ∧ Below w.heap.size w w' ∧ ObjOwn w.heap.size w' v' h' (fillV V Fs) Ho := by
  have HV := hide hV
  have HH := hide hH
  have HF := hide hF
  obtain ⟨a, n, cap, rfl⟩ := hV.form
  obtain ⟨a', n', cap', rfl⟩ := hH.form
  obtain ⟨a1, cap1, rfl⟩ := hF.form
  have HL := hide hl
  have hfn : Fs.length ≤ 1048576 := by omega
  clear hV hH hF hl
  have HW : ∀ o o' o'', Hid (Below w.heap.size w (((w.alloc o).alloc o').alloc o'')) := fun o o' o'' => (((Below.refl _ _).alloc (Nat.le_refl _) _).alloc (by simp) _).alloc (by simp; omega) _
  go_enter Tryz.func27, Tryz.ntmps27
  go_wp2_with fail
  refine (copyObj_any _ _ _ _ _ _ _ V Ho _ (HV.out.below (HW _ _ _).out) (HH.out.below (HW _ _ _).out) n1 n2).mono ?_
  rintro e w1 ⟨v1, h1, rfl, hb, hs⟩
  obtain ⟨mid, hlo, hmid, hs1, hs2⟩ := hs
  obtain ⟨a2, cap2, rfl⟩ := hs1.form
  obtain ⟨a3, cap3, rfl⟩ := hs2.form
  have hz : w.heap.size + 2 < w1.heap.size := by have := hb.size; simp at this; omega
  have hlo' : w.heap.size + 3 ≤ mid := by simpa using hlo
  obtain ⟨hc, hf⟩ := bcell hb
  have HB : Hid (Below w.heap.size w w1) := (HW _ _ _).out.trans (hb.mono (by simp; omega))
  have HS1 : Hid (StrsOwn (w.heap.size + 3) mid w1 (.slice a2 V.length cap2) V) := hs1.wide (by simp) (Nat.le_refl _)
  have HS2 := hide hs2
  have g0 : ∀ i, w1.cell? ⟨w.heap.size, i, none⟩ = (#[.string kd, .slice a1 Fs.length cap1] : Array Value)[i]? := fun i => by
    rw [hc _ _ (by simp; omega), (((Below.refl (w.alloc (.cells #[.string kd, .slice a1 Fs.length cap1] 45)).heap.size _).alloc (Nat.le_refl _) _).alloc (by simp) _).cell (p := ⟨w.heap.size, i, none⟩) (by simp)]; simp
  have g2 : ∀ i, w1.cell? ⟨w.heap.size + 1 + 1, i, none⟩ = (#[.string ⟨#[]⟩, .string ⟨#[]⟩, .string ⟨#[]⟩, .slice none 0 0, .bool false, .slice none 0 0, .int .i64 0] : Array Value)[i]? := fun i => by
    rw [hc _ _ (by simp)]; exact new_cell _ _ _ _ _ (by simp)
  have gf2 : ∀ i, w1.frozen? ⟨w.heap.size + 1 + 1, i, none⟩ = false := fun i => by rw [hf _ _ (by simp)]; exact new_free _ _ _ _ _ (by simp)
  have G2 := hide g2
  have GF2 := hide gf2
  have hz0 : w.heap.size < w1.heap.size := by omega
  clear hb hs1 hs2 hc hf g2 gf2 hlo
  go_wp2
  have hA : Below w1.heap.size w1 (w1.alloc (.cells #[.string kind, .string nm, .string team, .slice a2 V.length cap2, .bool en, .slice a3 Ho.length cap3, .int .i64 ver] 27)) := (Below.refl _ _).alloc (Nat.le_refl _) _
  have hN : ∀ i, (w1.alloc (.cells #[.string kind, .string nm, .string team, .slice a2 V.length cap2, .bool en, .slice a3 Ho.length cap3, .int .i64 ver] 27)).cell? ⟨w1.heap.size, i, none⟩ = (#[.string kind, .string nm, .string team, .slice a2 V.length cap2, .bool en, .slice a3 Ho.length cap3, .int .i64 ver] : Array Value)[i]? := fun i => new_cell _ _ _ _ _ rfl
  have hNs : (w1.alloc (.cells #[.string kind, .string nm, .string team, .slice a2 V.length cap2, .bool en, .slice a3 Ho.length cap3, .int .i64 ver] 27)).heap.size = w1.heap.size + 1 := by simp
  generalize hW1 : w1.alloc (.cells #[.string kind, .string nm, .string team, .slice a2 V.length cap2, .bool en, .slice a3 Ho.length cap3, .int .i64 ver] 27) = W1 at hA hN hNs ⊢
  clear hW1
  have HA := hide hA
  have HN := hide hN
  clear hA hN g0
  go_loopw [13] (fun i wr => ∃ (k : Nat) (L : List ByteArray), i = .int .i64 k ∧ k ≤ Fs.length ∧ FillTo V Fs k L ∧ StrsOwn (w.heap.size + 3) mid wr (.slice a2 V.length cap2) L ∧ Touch (w.heap.size + 3) mid W1 wr) (fun i _ => Fs.length - (intOf i).toNat)
  case atStart => exact ⟨0, V, rfl, by omega, FillTo.zero _ _, HS1.out.below HA.out, Touch.refl _ _ _⟩
  case round =>
    obtain ⟨k, L, rfl, hk, hfill, hso, htc⟩ := hrel
    have HFT := hide hfill
    have HSO := hide hso
    have HT := hide htc
    clear hfill hso htc
    have hszr : w1.heap.size < wr.heap.size := by have := HT.out.size; omega
    have HBr : Hid (Below w.heap.size w wr) := HB.out.trans ((HA.out.mono (by omega)).trans ((HT.out.under (by omega)).mono (by omega)))
    have hO : ∀ i, wr.cell? ⟨w1.heap.size, i, none⟩ = (#[.string kind, .string nm, .string team, .slice a2 V.length cap2, .bool en, .slice a3 Ho.length cap3, .int .i64 ver] : Array Value)[i]? := fun i => by
      rw [HT.out.cell (p := ⟨w1.heap.size, i, none⟩) (by simp only []; omega) (by simp only []; omega)]; exact HN.out i
    by_cases hlt : k < Fs.length
    · have hlv : k < V.length := by have := HL.out; omega
      have hlL : k < L.length := by rw [HFT.out.1]; exact hlv
      obtain ⟨fb, foff, rfl, hfb, hfc⟩ := HF.out.full' (by omega)
      obtain ⟨hsz, wv, hcell, hst⟩ := hfc k hlt
      obtain ⟨c0, c1, c2, c3, c4, c5, c6, c7, c8, c9, c10⟩ := hcell.below HBr.out hfb
      obtain ⟨wa, wn, wcap, rfl⟩ := hst.form
      obtain ⟨vb, voff, rfl, _, hvb, hv1, hv2, hvc, hvf⟩ := HSO.out.full (by omega)
      have hvk := hvc k hlL
      rw [HFT.out.at hlv hlL] at hvk
      have hvfk := hvf k
      clear hcell hst hvc hvf hfc
      cases he : V[k].toList.isEmpty with
      | true =>
        have HFT2 := hide (HFT.out.put hlv hlt he)
        have HP : ∀ o, Hid (StrsOwn (w.heap.size + 3) mid ((wr.setCell ⟨vb, voff + k, none⟩ (.string Fs[k].df)).alloc o) (.slice (some ⟨vb, voff, none⟩) V.length cap2) (L.set k Fs[k].df)) := fun o => (HSO.out.put hlL hsz.s9).below ((Below.refl _ _).alloc (Nat.le_refl _) o)
        have HTT : ∀ o, Hid (Touch (w.heap.size + 3) mid W1 ((wr.setCell ⟨vb, voff + k, none⟩ (.string Fs[k].df)).alloc o)) := fun o => (HT.out.trans (Touch.setCell _ _ _ _ _ ⟨hv1, hv2⟩)).trans (Touch.below ((Below.refl _ _).alloc (Nat.le_refl _) o))
        clear hsz
        go_wp2
        go_roundw
        case rel => exact ⟨k + 1, _, by go_num, by omega, HFT2.out, (HP _).out, (HTT _).out⟩
        case measure => simp [intOf]; omega
      | false =>
        have HFT2 := hide (HFT.out.same hlv hlt he)
        have HP : ∀ o, Hid (StrsOwn (w.heap.size + 3) mid (wr.alloc o) (.slice (some ⟨vb, voff, none⟩) V.length cap2) L) := fun o => (HSO.out.below ((Below.refl _ _).alloc (Nat.le_refl _) o))
        have HTT : ∀ o, Hid (Touch (w.heap.size + 3) mid W1 (wr.alloc o)) := fun o => (HT.out.trans (Touch.below ((Below.refl _ _).alloc (Nat.le_refl _) o)))
        clear hsz
        go_wp2
        go_roundw
        case rel => exact ⟨k + 1, _, by go_num, by omega, HFT2.out, (HP _).out, (HTT _).out⟩
        case measure => simp [intOf]; omega
    · have HE : Hid (L = fillV V Fs) := HFT.out.done HL.out (by omega)
      have hR : ∀ i, wr.cell? ⟨w.heap.size + 1 + 1, i, none⟩ = (#[.string ⟨#[]⟩, .string ⟨#[]⟩, .string ⟨#[]⟩, .slice none 0 0, .bool false, .slice none 0 0, .int .i64 0] : Array Value)[i]? := fun i => by
        rw [HT.out.cell (p := ⟨w.heap.size + 1 + 1, i, none⟩) (by simp only []; omega) (by simp only []; omega), HA.out.cell (p := ⟨w.heap.size + 1 + 1, i, none⟩) (by simp only []; omega)]; exact G2.out i
      have hRf : ∀ i, wr.frozen? ⟨w.heap.size + 1 + 1, i, none⟩ = false := fun i => by
        rw [HT.out.frozen (p := ⟨w.heap.size + 1 + 1, i, none⟩) (by simp only []; omega) (by simp only []; omega), HA.out.frozen (p := ⟨w.heap.size + 1 + 1, i, none⟩) (by simp only []; omega)]; exact GF2.out i
      have HH2 : Hid (StrsOwn mid w1.heap.size wr (.slice a3 Ho.length cap3) Ho) := (HS2.out.below HA.out).touch HT.out (Or.inr (Nat.le_refl _))
      have r0 : wr.cell? ⟨w.heap.size + 1 + 1, 0, none⟩ = some (.string ⟨#[]⟩) := hR 0
      have r1 : wr.cell? ⟨w.heap.size + 1 + 1, 1, none⟩ = some (.string ⟨#[]⟩) := hR 1
      have r2 : wr.cell? ⟨w.heap.size + 1 + 1, 2, none⟩ = some (.string ⟨#[]⟩) := hR 2
      have r3 : wr.cell? ⟨w.heap.size + 1 + 1, 3, none⟩ = some (.slice none 0 0) := hR 3
      have r4 : wr.cell? ⟨w.heap.size + 1 + 1, 4, none⟩ = some (.bool false) := hR 4
      have r5 : wr.cell? ⟨w.heap.size + 1 + 1, 5, none⟩ = some (.slice none 0 0) := hR 5
      have r6 : wr.cell? ⟨w.heap.size + 1 + 1, 6, none⟩ = some (.int .i64 0) := hR 6
      clear hR
      go_wp2
      refine bodyPost_ret (v := .agg #[.string kind, .string nm, .string team, .slice a2 V.length cap2, .bool en, .slice a3 Ho.length cap3, .int .i64 ver]) (by simp [results, Tryz.results27, go_sem, r0, r1, r2, r3, r4, r5, r6]) rfl ⟨_, _, rfl, ?_, mid, by omega, by simp only [World.setCell, Array.size_modify]; omega, ?_, ?_⟩
      · repeat (refine Below.setCell ?_ (by simp only []; omega) _)
        exact HBr.out
      · rw [← HE.out]
        refine StrsOwn.wide (lo := w.heap.size + 3) (hi := mid) ?_ (by omega) (Nat.le_refl _)
        repeat (refine StrsOwn.setCell ?_ (by simp only []; omega) _)
        exact HSO.out
      · refine StrsOwn.wide (lo := mid) (hi := w1.heap.size) ?_ (Nat.le_refl _) (by simp only [World.setCell, Array.size_modify]; omega)
        repeat (refine StrsOwn.setCell ?_ (by simp only []; omega) _)
        exact HH2.out
end
end Go.Proofs.YtjkkbkdpoebfaaaGreat

namespace Go.Proofs.YtjkkbkdpoebfaaaGreat
open Go.RowKit Go.Deep

/-- the values that GateFill gives -/
def goalV (Ss : List Sh) (kind : ByteArray) (V : List ByteArray) : List ByteArray :=
  match okShapeOf Ss kind with
  | some x => if x.fields.length = V.length then fillV V x.fields else V
  | none => V
theorem goalV_none {Ss : List Sh} {kind : ByteArray} {V : List ByteArray} (h : okShapeOf Ss kind = none) : goalV Ss kind V = V := by unfold goalV; rw [h]
theorem goalV_ne {Ss : List Sh} {kind : ByteArray} {V : List ByteArray} {x : Sh} (h : okShapeOf Ss kind = some x) (hl : x.fields.length ≠ V.length) : goalV Ss kind V = V := by unfold goalV; rw [h]; exact if_neg hl
theorem goalV_eq {Ss : List Sh} {kind : ByteArray} {V : List ByteArray} {x : Sh} (h : okShapeOf Ss kind = some x) (hl : x.fields.length = V.length) : goalV Ss kind V = fillV V x.fields := by unfold goalV; rw [h]; exact if_pos hl

theorem StrsAt.form' {w : World} {v : Value} {L : List ByteArray} (h : StrsAt w v L) : ∃ a cap, v = .slice a L.length cap := by
  rcases h with ⟨a, cap, h, rfl⟩ | ⟨b, off, cap, h, _⟩
  · exact ⟨a, cap, h⟩
  · exact ⟨_, cap, h⟩

theorem cell_alloc_lt (X : World) (o : Obj) (b i : Nat) (h : b < X.heap.size) : (X.alloc o).cell? ⟨b, i, none⟩ = X.cell? ⟨b, i, none⟩ := ((Below.refl X.heap.size X).alloc (Nat.le_refl _) o).cell (p := ⟨b, i, none⟩) h
theorem free_alloc_lt (X : World) (o : Obj) (b i : Nat) (h : b < X.heap.size) : (X.alloc o).frozen? ⟨b, i, none⟩ = X.frozen? ⟨b, i, none⟩ := ((Below.refl X.heap.size X).alloc (Nat.le_refl _) o).frozen (p := ⟨b, i, none⟩) h

section
variable (kind nm team : ByteArray) (vv hv sv : Value) (en : Bool) (ver : Int) (V Ho : List ByteArray) (Ss : List Sh) (w : World) (lo : Nat)
end
end Go.Proofs.YtjkkbkdpoebfaaaGreat

namespace Go.Proofs.YtjkkbkdpoebfaaaGreat
open Go.RowKit Go.Deep

set_option maxHeartbeats 400000 in
theorem l1ShapeK_any (lo : Nat) (v : Value) (Ss : List Sh) (s : ByteArray) (w : World) (hv : ShsAt lo w v Ss) :
    Calls Tryz.prog 57 #[v, .string s] w fun e w' => w' = w ∧ ((∃ k : Nat, k < Ss.length ∧ e = .returned (.int .i64 k) ∧ shOf Ss s = Ss[k]?) ∨ (e = .returned (.int .i64 (-1)) ∧ shOf Ss s = none)) := by
  by_cases hL : Ss = []
  · subst hL
    obtain ⟨a, cap, rfl⟩ := hv.form
    clear hv
    go_enter Tryz.func57, Tryz.ntmps57
    go_wp2
    go_loop [5] (fun i => i = .int .i64 0) (fun _ => 0)
    case atStart => rfl
    case round =>
      subst hrel
      go_wp2
      go_ret
      exact ⟨rfl, rfl, rfl⟩
  · obtain ⟨b, off, cap, rfl, hm, hbw, hc⟩ := hv.full hL
    clear hv
    unfold maxLen at hm
    go_enter Tryz.func57, Tryz.ntmps57
    go_wp2
    go_loop [5] (fun i => ∃ k : Nat, i = .int .i64 k ∧ k ≤ Ss.length ∧ ∀ i (h : i < Ss.length), i < k → (Ss[i].kind.toList == s.toList) = false) (fun i => Ss.length - (intOf i).toNat)
    case atStart => exact ⟨0, rfl, by omega, fun i _ h => by omega⟩
    case round =>
      obtain ⟨k, rfl, hk, hall⟩ := hrel
      have HA := hide hall
      clear hall
      by_cases hlt : k < Ss.length
      · obtain ⟨_, fv, hck, _, _⟩ := hc k hlt
        by_cases he : (Ss[k].kind.toList == s.toList) = true
        · go_wp2
          go_ret
          exact ⟨rfl, Or.inl ⟨k, hlt, rfl, by rw [shOf_some hlt he HA.out, List.getElem?_eq_getElem hlt]⟩⟩
        · have he' : (Ss[k].kind.toList == s.toList) = false := by simpa using he
          clear he
          go_wp2
          go_round
          case rel => exact ⟨k + 1, by go_num, by omega, fun i h h' => by
                        by_cases e : i = k
                        · subst e; exact he'
                        · exact HA.out i h (by omega)⟩
          case measure => simp [intOf]; omega
      · go_wp2
        go_ret
        exact ⟨rfl, Or.inr ⟨rfl, shOf_none fun i h => HA.out i h (by omega)⟩⟩

theorem ShsAt.full' {lo : Nat} {w : World} {a : Option Addr} {n cap : Nat} {Ss : List Sh} (h : ShsAt lo w (.slice a n cap) Ss) (hL : 0 < Ss.length) :
    ∃ b off, a = some ⟨b, off, none⟩ ∧ b < w.heap.size ∧ ∀ i (h : i < Ss.length), Ss[i].kind.size ≤ maxLen ∧ ∃ fv, w.cell? ⟨b, off + i * 2, none⟩ = some (.string Ss[i].kind) ∧ w.cell? ⟨b, off + i * 2 + 1, none⟩ = some fv ∧ FdsAt lo w fv Ss[i].fields := by
  rcases h with ⟨a', cap', h, rfl⟩ | ⟨b', off', cap', h1, h2, h3, h4, h5, h7⟩
  · simp at hL
  · injection h1 with e1 e2 e3
    exact ⟨b', off', e1, h4, h7⟩

section
variable (kind nm team : ByteArray) (vv hv sv : Value) (en : Bool) (ver : Int) (V Ho : List ByteArray) (Ss : List Sh) (w : World) (lo : Nat)

/-- what l2Fields tells -/
def L2F (lo : Nat) (Ss : List Sh) (kind : ByteArray) (n : Nat) (e : Ending) (w : World) : Prop :=
  (∃ x fv, shOf Ss kind = some x ∧ x.fields.length = n ∧ e = .returned (.tuple #[fv, .bool true]) ∧ FdsAt lo w fv x.fields) ∨
  ((∀ x, shOf Ss kind = some x → x.fields.length ≠ n) ∧ ∃ a cap, e = .returned (.tuple #[.slice a 0 cap, .bool false]))

set_option maxRecDepth 20000 in
set_option maxHeartbeats 2000000 in
theorem l2Fields_any (w0 : World) (hS : ShsAt lo w0 sv Ss) (h0 : Below w0.heap.size w0 w) (hV : StrsAt w vv V) (hH : StrsAt w hv Ho) :
    Calls Tryz.prog 63 #[sv, .agg #[.string kind, .string nm, .string team, vv, .bool en, hv, .int .i64 ver]] w
      fun e w' => Below w.heap.size w w' ∧ L2F lo Ss kind V.length e w0 := by
  have HV := hide hV
  have HH := hide hH
  have HS := hide hS
  obtain ⟨a, cap, rfl⟩ := hV.form'
  obtain ⟨a', cap', rfl⟩ := hH.form'
  obtain ⟨a1, cap1, rfl⟩ := hS.form
  have H0 := hide h0
  clear hV hH hS h0
  have HW : ∀ o, Hid (Below w.heap.size w (w.alloc o)) := fun o => (Below.refl _ _).alloc (Nat.le_refl _) _
  go_enter Tryz.func63, Tryz.ntmps63
  go_wp2_with fail
  refine (l1ShapeK_any lo _ Ss kind _ (HS.out.below (H0.out.trans ((HW _).out.mono H0.out.size)))).mono ?_
  rintro e w1 ⟨rfl, ⟨k, hk, rfl, hsh⟩ | ⟨rfl, hsh⟩⟩
  · have HSH := hide hsh
    clear hsh
    obtain ⟨b, off, rfl, hbw0, hc⟩ := HS.out.full' (by omega)
    have hbw : b < w.heap.size := Nat.lt_of_lt_of_le hbw0 H0.out.size
    obtain ⟨_, fv, d0, d1, hst⟩ := hc k hk
    obtain ⟨fa, fcap, rfl⟩ := hst.form
    have HST := hide hst
    have d1' : ∀ o, (w.alloc o).cell? ⟨b, off + k * 2 + 1, none⟩ = some (.slice fa Ss[k].fields.length fcap) := fun o => by rw [cell_alloc_lt _ _ _ _ hbw, H0.out.cell (p := ⟨b, _, none⟩) hbw0]; exact d1
    clear d0 d1 hst hc
    have hxk : Ss[k]? = some Ss[k] := List.getElem?_eq_getElem hk
    by_cases hl : Ss[k].fields.length = V.length
    · have HL := hide hl
      have hne : ((Ss[k].fields.length : Int) != (V.length : Int)) = false := by rw [hl]; simp
      have HQ : Hid (shOf Ss kind = some Ss[k]) := HSH.out.trans hxk
      clear hl hxk HSH
      go_wp2
      go_quiet (fail)
      go_wp2
      refine bodyPost_ret (v := .tuple #[.slice fa Ss[k].fields.length fcap, .bool true]) (by simp [results, Tryz.results63, go_sem]) rfl ⟨below_drewN (HW _).out _, Or.inl ⟨Ss[k], _, HQ.out, HL.out, rfl, HST.out⟩⟩
    · have hne : ((Ss[k].fields.length : Int) != (V.length : Int)) = true := by simp; omega
      have HQ : Hid (∀ x, shOf Ss kind = some x → x.fields.length ≠ V.length) := fun x hx => by
        rw [HSH.out, hxk] at hx
        rw [← Option.some.inj hx]
        exact hl
      clear hl hxk HSH
      go_wp2
      go_quiet (fail)
      go_wp2
      refine bodyPost_ret (v := .tuple #[.slice (some ⟨w.heap.size + 1, 0, none⟩) 0 0, .bool false]) (by simp [results, Tryz.results63, go_sem]) rfl ⟨?_, Or.inr ⟨HQ.out, _, _, rfl⟩⟩
      exact (below_drewN (HW _).out _).alloc (by simp) _
  · have HQ : Hid (∀ x, shOf Ss kind = some x → x.fields.length ≠ V.length) := fun x hx => by rw [hsh] at hx; cases hx
    clear hsh
    go_wp2
    go_quiet (fail)
    go_wp2
    refine bodyPost_ret (v := .tuple #[.slice (some ⟨w.heap.size + 1, 0, none⟩) 0 0, .bool false]) (by simp [results, Tryz.results63, go_sem]) rfl ⟨?_, Or.inr ⟨HQ.out, _, _, rfl⟩⟩
    exact (below_drewN (HW _).out _).alloc (by simp) _
end
end Go.Proofs.YtjkkbkdpoebfaaaGreat

namespace Go.Proofs.YtjkkbkdpoebfaaaGreat
open Go.RowKit Go.Deep

/-- the values that l2Fill gives -/
def fillS (Ss : List Sh) (kind : ByteArray) (V : List ByteArray) : List ByteArray :=
  match shOf Ss kind with
  | some x => if x.fields.length = V.length then fillV V x.fields else V
  | none => V
theorem fillS_no {Ss : List Sh} {kind : ByteArray} {V : List ByteArray} (h : ∀ x, shOf Ss kind = some x → x.fields.length ≠ V.length) : fillS Ss kind V = V := by
  unfold fillS
  cases hx : shOf Ss kind with
  | none => rfl
  | some x => exact if_neg (h x hx)
theorem fillS_yes {Ss : List Sh} {kind : ByteArray} {V : List ByteArray} {x : Sh} (h : shOf Ss kind = some x) (hl : x.fields.length = V.length) : fillS Ss kind V = fillV V x.fields := by unfold fillS; rw [h]; exact if_pos hl

section
variable (kind nm team : ByteArray) (vv hv sv : Value) (en : Bool) (ver : Int) (V Ho : List ByteArray) (Ss : List Sh) (w : World) (lo : Nat)
set_option maxRecDepth 20000 in
set_option maxHeartbeats 2000000 in
theorem l2Fill_any (hS : ShsAt lo w sv Ss) (hV : StrsAt w vv V) (hH : StrsAt w hv Ho) (n1 : V.length ≤ 1048576) (n2 : Ho.length ≤ 1048576) :
    Calls Tryz.prog 38 #[sv, .agg #[.string kind, .string nm, .string team, vv, .bool en, hv, .int .i64 ver]] w
      fun e w' => ∃ v' h', e = .returned (.agg #[.string kind, .string nm, .string team, v', .bool en, h', .int .i64 ver]) ∧ Below w.heap.size w w' ∧ ObjOwn w.heap.size w' v' h' (fillS Ss kind V) Ho := by
  have HV := hide hV
  have HH := hide hH
  have HS := hide hS
  obtain ⟨a, cap, rfl⟩ := hV.form'
  obtain ⟨a', cap', rfl⟩ := hH.form'
  obtain ⟨a1, cap1, rfl⟩ := hS.form
  clear hV hH hS
  have HW : ∀ o o', Hid (Below w.heap.size w ((w.alloc o).alloc o')) := fun o o' => ((Below.refl _ _).alloc (Nat.le_refl _) _).alloc (by simp) _
  go_enter Tryz.func38, Tryz.ntmps38
  go_wp2_with fail
  refine (l2Copy_any _ _ _ _ _ _ _ V Ho _ (HV.out.below (HW _ _).out) (HH.out.below (HW _ _).out) n1 n2).mono ?_
  rintro e w1 ⟨v1, h1, rfl, hb, mid, hlo, hmid, hs1, hs2⟩
  obtain ⟨a2, cap2, rfl⟩ := hs1.form
  obtain ⟨a3, cap3, rfl⟩ := hs2.form
  have hz : w.heap.size + 1 < w1.heap.size := by have := hb.size; simp at this; omega
  have hz0 : w.heap.size < w1.heap.size := by omega
  have hlo' : w.heap.size + 2 ≤ mid := by simpa using hlo
  obtain ⟨hc, hf⟩ := bcell hb
  have HB : Hid (Below w.heap.size w w1) := (HW _ _).out.trans (hb.mono (by simp; omega))
  have HS1 : Hid (StrsOwn (w.heap.size + 2) mid w1 (.slice a2 V.length cap2) V) := hs1.wide (by simp) (Nat.le_refl _)
  have HS2 := hide hs2
  have g0 : ∀ i, w1.cell? ⟨w.heap.size, i, none⟩ = (#[.string kind, .string nm, .string team, .slice a V.length cap, .bool en, .slice a' Ho.length cap', .int .i64 ver] : Array Value)[i]? := fun i => by
    rw [hc _ _ (by simp; omega), cell_alloc_lt _ _ _ _ (by simp)]; exact new_cell _ _ _ _ _ rfl
  have G1 : Hid (∀ i, w1.cell? ⟨w.heap.size + 1, i, none⟩ = (#[.string ⟨#[]⟩, .string ⟨#[]⟩, .string ⟨#[]⟩, .slice none 0 0, .bool false, .slice none 0 0, .int .i64 0] : Array Value)[i]?) := fun i => by
    rw [hc _ _ (by simp)]; exact new_cell _ _ _ _ _ (by simp)
  have GF1 : Hid (∀ i, w1.frozen? ⟨w.heap.size + 1, i, none⟩ = false) := fun i => by rw [hf _ _ (by simp)]; exact new_free _ _ _ _ _ (by simp)
  clear hb hs1 hs2 hc hf hlo
  go_wp2_with fail
  have HX : ∀ o, Hid (Below w.heap.size w (w1.alloc o)) := fun o => HB.out.alloc (by omega) _
  refine (l2Fields_any _ _ _ _ _ _ _ _ V Ho Ss _ lo w HS.out (HX _).out (HV.out.below (HX _).out) (HH.out.below (HX _).out)).mono ?_
  rintro e w2 ⟨hb2, hl2⟩
  have hz2 : w1.heap.size < w2.heap.size := by have := hb2.size; simp at this; omega
  have HB2 : Hid (Below w.heap.size w w2) := (HX _).out.trans (hb2.mono (HX _).out.size)
  have hO : ∀ i, w2.cell? ⟨w1.heap.size, i, none⟩ = (#[.string kind, .string nm, .string team, .slice a2 V.length cap2, .bool en, .slice a3 Ho.length cap3, .int .i64 ver] : Array Value)[i]? := fun i => by
    rw [hb2.cell (p := ⟨w1.heap.size, i, none⟩) (by simp)]; exact new_cell _ _ _ _ _ rfl
  have G2 : Hid (∀ i, w2.cell? ⟨w.heap.size + 1, i, none⟩ = (#[.string ⟨#[]⟩, .string ⟨#[]⟩, .string ⟨#[]⟩, .slice none 0 0, .bool false, .slice none 0 0, .int .i64 0] : Array Value)[i]?) := fun i => by
    rw [hb2.cell (p := ⟨w.heap.size + 1, i, none⟩) (by simp; omega), cell_alloc_lt _ _ _ _ hz]; exact G1.out i
  have GF2 : Hid (∀ i, w2.frozen? ⟨w.heap.size + 1, i, none⟩ = false) := fun i => by
    rw [hb2.frozen (p := ⟨w.heap.size + 1, i, none⟩) (by simp; omega), free_alloc_lt _ _ _ _ hz]; exact GF1.out i
  have HA : ∀ o, Hid (Below w1.heap.size w1 (w1.alloc o)) := fun o => (Below.refl _ _).alloc (Nat.le_refl _) _
  have HV2 : Hid (StrsOwn (w.heap.size + 2) mid w2 (.slice a2 V.length cap2) V) := (HS1.out.below (HA _).out).below hb2
  have HH2 : Hid (StrsOwn mid w1.heap.size w2 (.slice a3 Ho.length cap3) Ho) := (HS2.out.below (HA _).out).below hb2
  clear hb2 g0 G1 GF1 HS1 HS2
  rcases hl2 with ⟨x, fv, hx, hl, rfl, hfd⟩ | ⟨hno, fa, fcap, rfl⟩
  · obtain ⟨fa, fcap, rfl⟩ := hfd.form
    have HFD := hide hfd
    have HG : Hid (fillS Ss kind V = fillV V x.fields) := fillS_yes hx hl
    have HL := hide hl
    have hfn : x.fields.length ≤ 1048576 := by omega
    have HO := hide hO
    clear hfd hx hl hO
    go_wp2
    go_loopw [8] (fun i wr => ∃ (k : Nat) (L : List ByteArray), i = .int .i64 k ∧ k ≤ x.fields.length ∧ FillTo V x.fields k L ∧ StrsOwn (w.heap.size + 2) mid wr (.slice a2 V.length cap2) L ∧ Touch (w.heap.size + 2) mid w2 wr) (fun i _ => x.fields.length - (intOf i).toNat)
    case atStart => exact ⟨0, V, rfl, by omega, FillTo.zero _ _, HV2.out, Touch.refl _ _ _⟩
    case round =>
      obtain ⟨k, L, rfl, hk, hfill, hso, htc⟩ := hrel
      have HFT := hide hfill
      have HSO := hide hso
      have HT := hide htc
      clear hfill hso htc
      have hszr : w1.heap.size < wr.heap.size := by have := HT.out.size; omega
      have HBr : Hid (Below w.heap.size w wr) := HB2.out.trans ((HT.out.under (by omega)).mono (by omega))
      have hO : ∀ i, wr.cell? ⟨w1.heap.size, i, none⟩ = (#[.string kind, .string nm, .string team, .slice a2 V.length cap2, .bool en, .slice a3 Ho.length cap3, .int .i64 ver] : Array Value)[i]? := fun i => by
        rw [HT.out.cell (p := ⟨w1.heap.size, i, none⟩) (by simp only []; omega) (by simp only []; omega)]; exact HO.out i
      by_cases hlt : k < x.fields.length
      · have hlv : k < V.length := by have := HL.out; omega
        have hlL : k < L.length := by rw [HFT.out.1]; exact hlv
        obtain ⟨fb, foff, rfl, hfb, hfc⟩ := HFD.out.full' (by omega)
        obtain ⟨hsz, wv, hcell, hst⟩ := hfc k hlt
        have c9 := (hcell.below HBr.out hfb).c9
        obtain ⟨vb, voff, rfl, _, hvb, hv1, hv2, hvc, hvf⟩ := HSO.out.full (by omega)
        have hvk := hvc k hlL
        rw [HFT.out.at hlv hlL] at hvk
        have hvfk := hvf k
        clear hcell hst hvc hvf hfc
        cases he : V[k].toList.isEmpty with
        | true =>
          have HFT2 := hide (HFT.out.put hlv hlt he)
          go_wp2
          go_region
          go_wp2
          go_roundw
          case rel => exact ⟨k + 1, _, by go_num, by omega, HFT2.out, (HSO.out.put hlL hsz.s9).below (Below.refl _ _).drew, (HT.out.trans (Touch.setCell _ _ _ _ _ ⟨hv1, hv2⟩)).trans (Touch.below (Below.refl _ _).drew)⟩
          case measure => simp [intOf]; omega
        | false =>
          have HFT2 := hide (HFT.out.same hlv hlt he)
          go_wp2
          go_roundw
          case rel => exact ⟨k + 1, _, by go_num, by omega, HFT2.out, HSO.out, HT.out⟩
          case measure => simp [intOf]; omega
      · have HE : Hid (L = fillV V x.fields) := HFT.out.done HL.out (by omega)
        have hR : ∀ i, wr.cell? ⟨w.heap.size + 1, i, none⟩ = (#[.string ⟨#[]⟩, .string ⟨#[]⟩, .string ⟨#[]⟩, .slice none 0 0, .bool false, .slice none 0 0, .int .i64 0] : Array Value)[i]? := fun i => by
          rw [HT.out.cell (p := ⟨w.heap.size + 1, i, none⟩) (by simp only []; omega) (by simp only []; omega)]; exact G2.out i
        have hRf : ∀ i, wr.frozen? ⟨w.heap.size + 1, i, none⟩ = false := fun i => by
          rw [HT.out.frozen (p := ⟨w.heap.size + 1, i, none⟩) (by simp only []; omega) (by simp only []; omega)]; exact GF2.out i
        have HH3 : Hid (StrsOwn mid w1.heap.size wr (.slice a3 Ho.length cap3) Ho) := HH2.out.touch HT.out (Or.inr (Nat.le_refl _))
        have r0 : wr.cell? ⟨w.heap.size + 1, 0, none⟩ = some (.string ⟨#[]⟩) := hR 0
        have r1 : wr.cell? ⟨w.heap.size + 1, 1, none⟩ = some (.string ⟨#[]⟩) := hR 1
        have r2 : wr.cell? ⟨w.heap.size + 1, 2, none⟩ = some (.string ⟨#[]⟩) := hR 2
        have r3 : wr.cell? ⟨w.heap.size + 1, 3, none⟩ = some (.slice none 0 0) := hR 3
        have r4 : wr.cell? ⟨w.heap.size + 1, 4, none⟩ = some (.bool false) := hR 4
        have r5 : wr.cell? ⟨w.heap.size + 1, 5, none⟩ = some (.slice none 0 0) := hR 5
        have r6 : wr.cell? ⟨w.heap.size + 1, 6, none⟩ = some (.int .i64 0) := hR 6
        clear hR
        go_wp2
        refine bodyPost_ret (v := .agg #[.string kind, .string nm, .string team, .slice a2 V.length cap2, .bool en, .slice a3 Ho.length cap3, .int .i64 ver]) (by simp [results, Tryz.results38, go_sem, r0, r1, r2, r3, r4, r5, r6]) rfl ⟨_, _, rfl, ?_, mid, by omega, by simp only [World.setCell, Array.size_modify]; omega, ?_, ?_⟩
        · repeat (refine Below.setCell ?_ (by simp only []; omega) _)
          exact HBr.out
        · rw [HG.out, ← HE.out]
          refine StrsOwn.wide (lo := w.heap.size + 2) (hi := mid) ?_ (by omega) (Nat.le_refl _)
          repeat (refine StrsOwn.setCell ?_ (by simp only []; omega) _)
          exact HSO.out
        · refine StrsOwn.wide (lo := mid) (hi := w1.heap.size) ?_ (Nat.le_refl _) (by simp only [World.setCell, Array.size_modify]; omega)
          repeat (refine StrsOwn.setCell ?_ (by simp only []; omega) _)
          exact HH3.out
  · have HG : Hid (fillS Ss kind V = V) := fillS_no hno
    have hR := G2.out
    have hRf := GF2.out
    have r0 : w2.cell? ⟨w.heap.size + 1, 0, none⟩ = some (.string ⟨#[]⟩) := hR 0
    have r1 : w2.cell? ⟨w.heap.size + 1, 1, none⟩ = some (.string ⟨#[]⟩) := hR 1
    have r2 : w2.cell? ⟨w.heap.size + 1, 2, none⟩ = some (.string ⟨#[]⟩) := hR 2
    have r3 : w2.cell? ⟨w.heap.size + 1, 3, none⟩ = some (.slice none 0 0) := hR 3
    have r4 : w2.cell? ⟨w.heap.size + 1, 4, none⟩ = some (.bool false) := hR 4
    have r5 : w2.cell? ⟨w.heap.size + 1, 5, none⟩ = some (.slice none 0 0) := hR 5
    have r6 : w2.cell? ⟨w.heap.size + 1, 6, none⟩ = some (.int .i64 0) := hR 6
    clear hR
    go_wp2
    refine bodyPost_ret (v := .agg #[.string kind, .string nm, .string team, .slice a2 V.length cap2, .bool en, .slice a3 Ho.length cap3, .int .i64 ver]) (by simp [results, Tryz.results38, go_sem, r0, r1, r2, r3, r4, r5, r6]) rfl ⟨_, _, rfl, ?_, mid, by omega, by simp only [World.setCell, Array.size_modify]; omega, ?_, ?_⟩
    · repeat (refine Below.setCell ?_ (by simp only []; omega) _)
      exact HB2.out
    · rw [HG.out]
      refine StrsOwn.wide (lo := w.heap.size + 2) (hi := mid) ?_ (by omega) (Nat.le_refl _)
      repeat (refine StrsOwn.setCell ?_ (by simp only []; omega) _)
      exact HV2.out
    · refine StrsOwn.wide (lo := mid) (hi := w1.heap.size) ?_ (Nat.le_refl _) (by simp only [World.setCell, Array.size_modify]; omega)
      repeat (refine StrsOwn.setCell ?_ (by simp only []; omega) _)
      exact HH2.out
end
end Go.Proofs.YtjkkbkdpoebfaaaGreat

namespace Go.Proofs.YtjkkbkdpoebfaaaGreat
open Go.RowKit Go.Deep

theorem goalV_bad {Ss : List Sh} {kind : ByteArray} {V : List ByteArray} (h : shapesB Ss = false) : goalV Ss kind V = V := goalV_none (by unfold okShapeOf; rw [h]; rfl)
theorem goalV_good {Ss : List Sh} {kind : ByteArray} {V : List ByteArray} (h : shapesB Ss = true) : goalV Ss kind V = fillS Ss kind V := by unfold goalV fillS okShapeOf; rw [h]; rfl

section
variable (kind nm team : ByteArray) (vv hv sv : Value) (en : Bool) (ver : Int) (V Ho : List ByteArray) (Ss : List Sh) (w : World) (lo : Nat)
end
end Go.Proofs.YtjkkbkdpoebfaaaGreat

namespace Go.Proofs.YtjkkbkdpoebfaaaGreat
open Go.RowKit Go.Deep

theorem goalV_len (Ss : List Sh) (kind : ByteArray) (V : List ByteArray) : (goalV Ss kind V).length = V.length := by
  cases h : okShapeOf Ss kind with
  | none => rw [goalV_none h]
  | some x =>
    by_cases hl : x.fields.length = V.length
    · rw [goalV_eq h hl, fillV_len hl]
    · rw [goalV_ne h hl]

/-- a variable of its own block: what its cells hold -/
structure Box (w : World) (β : Nat) (cs : Array Value) : Prop where
  lt : β < w.heap.size
  cell : ∀ i, w.cell? ⟨β, i, none⟩ = cs[i]?
  free : ∀ i, w.frozen? ⟨β, i, none⟩ = false

theorem Box.new (X : World) (cs : Array Value) (t : TypeId) (β : Nat) (h : X.heap.size = β) : Box (X.alloc (.cells cs t)) β cs := ⟨by subst h; simp, fun i => new_cell _ _ _ _ _ h, fun i => new_free _ _ _ _ _ h⟩
theorem Box.below {w w' : World} {β B : Nat} {cs : Array Value} (h : Box w β cs) (hb : Below B w w') (hB : β < B) : Box w' β cs :=
  ⟨Nat.lt_of_lt_of_le h.lt hb.size, fun i => by rw [hb.cell (p := ⟨β, i, none⟩) hB]; exact h.cell i, fun i => by rw [hb.frozen (p := ⟨β, i, none⟩) hB]; exact h.free i⟩
theorem Box.on {w w' : World} {β : Nat} {cs : Array Value} (h : Box w β cs) (hb : Below w.heap.size w w') : Box w' β cs := h.below hb h.lt
theorem Box.drew {w : World} {β : Nat} {cs : Array Value} (h : Box w β cs) : Box w.drew β cs := ⟨h.lt, h.cell, h.free⟩
theorem Box.touch {w w' : World} {β lo hi : Nat} {cs : Array Value} (h : Box w β cs) (hb : Touch lo hi w w') (ho : β < lo ∨ hi ≤ β) : Box w' β cs :=
  ⟨Nat.lt_of_lt_of_le h.lt hb.size, fun i => by rw [hb.cell (p := ⟨β, i, none⟩) h.lt ho]; exact h.cell i, fun i => by rw [hb.frozen (p := ⟨β, i, none⟩) h.lt ho]; exact h.free i⟩
theorem Box.set {w : World} {β k : Nat} {cs : Array Value} (h : Box w β cs) (u : Value) (hk : k < cs.size) : Box (w.setCell ⟨β, k, none⟩ u) β (cs.set k u) := by
  refine ⟨by simpa [World.setCell] using h.lt, fun i => ?_, fun i => by rw [World.frozen?_setCell]; exact h.free i⟩
  rw [Array.getElem?_set]
  by_cases hi : k = i
  · subst hi
    rw [if_pos rfl]
    have : (w.cell? ⟨β, k, none⟩) = some cs[k] := by rw [h.cell]; simp
    exact World.cell?_setCell_same' _ _ _ (by rw [this]; rfl)
  · rw [if_neg hi, cell_set_ne0 _ _ _ _ _ hi]; exact h.cell i
theorem Box.setFar {w : World} {β : Nat} {cs : Array Value} (h : Box w β cs) {p : Addr} (hp : p.block ≠ β) (u : Value) : Box (w.setCell p u) β cs :=
  ⟨by simpa [World.setCell] using h.lt, fun i => by rw [World.cell?_setCell_far _ _ _ _ hp]; exact h.cell i, fun i => by rw [World.frozen?_setCell]; exact h.free i⟩

/-- the cells of a block are as they were, and what was there ahead of the call -/
abbrev Held (w : World) (cs : Array Value) (W : World) : Prop := (∀ i, W.cell? ⟨w.heap.size, i, none⟩ = cs[i]?) ∧ w.heap.size < W.heap.size ∧ Hid (Below w.heap.size w W ∧ ∀ i, W.frozen? ⟨w.heap.size, i, none⟩ = false)
theorem Held.box {w W : World} {cs : Array Value} (h : Held w cs W) : Box W w.heap.size cs := ⟨h.2.1, h.1, h.2.2.out.2⟩
theorem Held.mk' {w W : World} {cs : Array Value} (h : Box W w.heap.size cs) (hb : Below w.heap.size w W) : Held w cs W := ⟨h.cell, h.lt, hb, h.free⟩
theorem Held.shs {w W : World} {cs : Array Value} (h : Held w cs W) {lo : Nat} {v : Value} {Ss : List Sh} (hs : ShsAt lo w v Ss) : ShsAt lo W v Ss := hs.below h.2.2.out.1
theorem Held.strs {w W : World} {cs : Array Value} (h : Held w cs W) {v : Value} {L : List ByteArray} (hs : StrsAt w v L) : StrsAt W v L := hs.below h.2.2.out.1
theorem Held.drew {w W : World} {cs : Array Value} (h : Box W w.heap.size cs) (hb : Below w.heap.size w W) : Held w cs W.drew := Held.mk' ⟨h.lt, h.cell, h.free⟩ hb.drew
theorem Held.on {w W W' : World} {cs : Array Value} (h : Held w cs W) (hb : Below W.heap.size W W') : Held w cs W' := Held.mk' (h.box.on hb) (h.2.2.out.1.trans (hb.mono h.2.2.out.1.size))
theorem Held.alloc {w W : World} {cs : Array Value} (h : Held w cs W) (o : Obj) : Held w cs (W.alloc o) := h.on ((Below.refl _ _).alloc (Nat.le_refl _) _)
theorem Held.set {w W : World} {cs : Array Value} {p : Addr} (h : Held w cs W) (hp : w.heap.size < p.block) (u : Value) : Held w cs (W.setCell p u) := Held.mk' (h.box.setFar (by omega) _) (h.2.2.out.1.setCell (by omega) _)

theorem below_al {X Y : World} {o : Obj} (h : Below (X.alloc o).heap.size (X.alloc o) Y) : Below X.heap.size X Y := ((Below.refl _ _).alloc (Nat.le_refl _) _).trans (h.mono (by simp))
theorem al_below {X Y : World} (h : Below X.heap.size X Y) (o : Obj) : Below X.heap.size X (Y.alloc o) := h.alloc h.size o
theorem one_al (X : World) (o : Obj) : Below X.heap.size X (X.alloc o) := (Below.refl _ _).alloc (Nat.le_refl _) _
theorem Held.swap {w W : World} {cs : Array Value} {o : Obj} (h : Held w cs (W.alloc o)) (hl : w.heap.size < W.heap.size) (o' : Obj) : Held w cs (W.alloc o') := by
  have hb := h.2.2.out.1
  exact Held.alloc (Held.mk' ⟨hl, fun i => ((one_al W o).cell (p := ⟨w.heap.size, i, none⟩) hl).symm.trans (h.1 i), fun i => ((one_al W o).frozen (p := ⟨w.heap.size, i, none⟩) hl).symm.trans (h.2.2.out.2 i)⟩ ⟨hb.os, hb.tape, hb.output, by omega, fun k hk => (Below.heap_alloc W o k (by omega)).symm.trans (hb.block k hk)⟩) _

/-- a variable that holds an answer, whose two lists lie in memory -/
def AnsAt (w : World) (β : Nat) (kind nm team : ByteArray) (en : Bool) (ver : Int) (G Ho : List ByteArray) : Prop :=
  ∃ a5 cap5 a6 cap6, Box w β #[.string kind, .string nm, .string team, .slice a5 G.length cap5, .bool en, .slice a6 Ho.length cap6, .int .i64 ver] ∧ StrsOwn 0 w.heap.size w (.slice a5 G.length cap5) G ∧ StrsOwn 0 w.heap.size w (.slice a6 Ho.length cap6) Ho
theorem bt {a b c : World} (h : Below a.heap.size a b) (k : Below b.heap.size b c) : Below a.heap.size a c := h.trans (k.mono h.size)
theorem drew_on {X Y : World} (h : Below X.drew.heap.size X.drew Y) : Below X.heap.size X Y := ((Below.refl X.heap.size X).drew).trans (h.mono (Nat.le_refl _))
theorem al_drew_on {X Y : World} {o : Obj} (h : Below (X.alloc o).drew.heap.size (X.alloc o).drew Y) : Below X.heap.size X Y := below_al (drew_on h)

theorem ans_new {W : World} {lo mid : Nat} {a5 a6 : Option Addr} {cap5 cap6 : Nat} {G Ho : List ByteArray} (kind nm team : ByteArray) (en : Bool) (ver : Int) (h5 : StrsOwn lo mid W (.slice a5 G.length cap5) G) (h6 : StrsOwn mid W.heap.size W (.slice a6 Ho.length cap6) Ho) (hm : mid ≤ W.heap.size) :
    AnsAt (W.alloc (.cells #[.string kind, .string nm, .string team, .slice a5 G.length cap5, .bool en, .slice a6 Ho.length cap6, .int .i64 ver] 27)) W.heap.size kind nm team en ver G Ho :=
  ⟨a5, cap5, a6, cap6, Box.new _ _ _ _ rfl, (h5.below (one_al _ _)).wide (Nat.zero_le _) (by simp; omega), (h6.below (one_al _ _)).wide (Nat.zero_le _) (by simp)⟩

theorem ans_set {W : World} {β lo mid : Nat} {a5 a6 : Option Addr} {cap5 cap6 : Nat} {G Ho : List ByteArray} (kind nm team : ByteArray) (en : Bool) (ver : Int) {d0 d1 d2 d3 d4 d5 d6 : Value} (hx : Box W β #[d0, d1, d2, d3, d4, d5, d6]) (h5 : StrsOwn lo mid W (.slice a5 G.length cap5) G) (h6 : StrsOwn mid W.heap.size W (.slice a6 Ho.length cap6) Ho) (hb : β < lo) (hl : lo ≤ mid) (hm : mid ≤ W.heap.size) :
    AnsAt (((((((W.setCell ⟨β, 0, none⟩ (.string kind)).setCell ⟨β, 1, none⟩ (.string nm)).setCell ⟨β, 2, none⟩ (.string team)).setCell ⟨β, 3, none⟩ (.slice a5 G.length cap5)).setCell ⟨β, 4, none⟩ (.bool en)).setCell ⟨β, 5, none⟩ (.slice a6 Ho.length cap6)).setCell ⟨β, 6, none⟩ (.int .i64 ver)) β kind nm team en ver G Ho := by
  refine ⟨a5, cap5, a6, cap6, ((((((hx.set (k := 0) _ (by simp)).set (k := 1) _ (by simp)).set (k := 2) _ (by simp)).set (k := 3) _ (by simp)).set (k := 4) _ (by simp)).set (k := 5) _ (by simp)).set (k := 6) _ (by simp), ?_, ?_⟩
  · refine StrsOwn.wide (lo := lo) (hi := mid) ?_ (Nat.zero_le _) (by simp only [World.setCell, Array.size_modify]; omega)
    repeat (refine StrsOwn.setCell ?_ (by simpa using hb) _)
    exact h5
  · refine StrsOwn.wide (lo := mid) (hi := W.heap.size) ?_ (Nat.zero_le _) (by simp only [World.setCell, Array.size_modify]; omega)
    repeat (refine StrsOwn.setCell ?_ (by simp only []; omega) _)
    exact h6
theorem below_set7 {W X : World} {β B : Nat} {c0 c1 c2 c3 c4 c5 c6 : Value} (h : Below B X W) (hb : B ≤ β) :
    Below B X (((((((W.setCell ⟨β, 0, none⟩ c0).setCell ⟨β, 1, none⟩ c1).setCell ⟨β, 2, none⟩ c2).setCell ⟨β, 3, none⟩ c3).setCell ⟨β, 4, none⟩ c4).setCell ⟨β, 5, none⟩ c5).setCell ⟨β, 6, none⟩ c6) := by
  repeat (refine Below.setCell ?_ (by simpa using hb) _)
  exact h
theorem ShsW.below {lo hi : Nat} {w w' : World} {v : Value} {n : Nat} (h : ShsW lo hi w v n) (hb : Below w.heap.size w w') : ShsW lo hi w' v n := by
  rcases h with h | ⟨b, off, cap, m, h1, h2, h3, h4, h5, h6, h7, h8, h9⟩
  · exact Or.inl h
  · exact Or.inr ⟨b, off, cap, m, h1, h2, h3, h4, h5, h6, h7, h8, h9.below hb⟩

/-- two variables' cells are as they were, and what was there when the region began -/
abbrev Held2 (W0 : World) (b1 : Nat) (cs1 : Array Value) (b2 : Nat) (cs2 : Array Value) (W : World) : Prop :=
  (∀ i, W.cell? ⟨b1, i, none⟩ = cs1[i]?) ∧ (∀ i, W.cell? ⟨b2, i, none⟩ = cs2[i]?) ∧ Hid (Below W0.heap.size W0 W ∧ b1 < W0.heap.size ∧ b2 < W0.heap.size)
theorem Held2.drew {W0 : World} {b1 b2 : Nat} {cs1 cs2 : Array Value} (h1 : Box W0 b1 cs1) (h2 : Box W0 b2 cs2) : Held2 W0 b1 cs1 b2 cs2 W0.drew := ⟨h1.cell, h2.cell, (Below.refl _ _).drew, h1.lt, h2.lt⟩
theorem Held2.on {W0 W W' : World} {b1 b2 : Nat} {cs1 cs2 : Array Value} (h : Held2 W0 b1 cs1 b2 cs2 W) (hb : Below W.heap.size W W') : Held2 W0 b1 cs1 b2 cs2 W' := by
  obtain ⟨h1, h2, h3, h4, h5⟩ := h
  have := h3.size
  exact ⟨fun i => (hb.cell (p := ⟨b1, i, none⟩) (by simp only []; omega)).trans (h1 i), fun i => (hb.cell (p := ⟨b2, i, none⟩) (by simp only []; omega)).trans (h2 i), bt h3 hb, h4, h5⟩
theorem Held2.base {W0 W : World} {b1 b2 : Nat} {cs1 cs2 : Array Value} (h : Held2 W0 b1 cs1 b2 cs2 W) : Below W0.heap.size W0 W := h.2.2.out.1
end Go.Proofs.YtjkkbkdpoebfaaaGreat
namespace Go.Proofs.YtjkkbkdpoebfaaaGreat
open Go.RowKit Go.Deep

/-- of what there was, nothing but block ρ may have changed -/
structure Tch (ρ : Nat) (w w' : World) : Prop where
  os : w'.os = w.os
  tape : w'.tape = w.tape
  output : w'.output = w.output
  size : w.heap.size ≤ w'.heap.size
  block : ∀ k, k < w.heap.size → k ≠ ρ → w'.heap[k]? = w.heap[k]?
theorem Tch.refl (ρ : Nat) (w : World) : Tch ρ w w := ⟨rfl, rfl, rfl, Nat.le_refl _, fun _ _ _ => rfl⟩
theorem Tch.trans {ρ : Nat} {a b c : World} (h : Tch ρ a b) (k : Tch ρ b c) : Tch ρ a c :=
  ⟨k.os.trans h.os, k.tape.trans h.tape, k.output.trans h.output, Nat.le_trans h.size k.size, fun j hj hn => (k.block j (Nat.lt_of_lt_of_le hj h.size) hn).trans (h.block j hj hn)⟩
theorem Tch.below {ρ : Nat} {a b : World} (h : Below a.heap.size a b) : Tch ρ a b := ⟨h.os, h.tape, h.output, h.size, fun k hk _ => h.block k hk⟩
theorem Tch.setCell (ρ : Nat) (w : World) (i : Nat) (u : Value) : Tch ρ w (w.setCell ⟨ρ, i, none⟩ u) :=
  ⟨rfl, rfl, rfl, by simp [World.setCell], fun k _ hn => Below.heap_setCell w ⟨ρ, i, none⟩ u k hn⟩
theorem Tch.cell {ρ : Nat} {w w' : World} (h : Tch ρ w w') {p : Addr} (hp : p.block < w.heap.size) (hn : p.block ≠ ρ) : w'.cell? p = w.cell? p := World.cell?_of_block (h.block _ hp hn)
theorem Tch.frozen {ρ : Nat} {w w' : World} (h : Tch ρ w w') {p : Addr} (hp : p.block < w.heap.size) (hn : p.block ≠ ρ) : w'.frozen? p = w.frozen? p := World.frozen?_of_block (h.block _ hp hn)
theorem Tch.under {ρ B : Nat} {a b : World} (h : Tch ρ a b) (hB : B ≤ ρ) (hs : B ≤ a.heap.size) : Below B a b := ⟨h.os, h.tape, h.output, h.size, fun k hk => h.block k (by omega) (by omega)⟩
theorem Tch.box {ρ β : Nat} {w w' : World} {cs : Array Value} (h : Tch ρ w w') (hb : Box w β cs) (hn : β ≠ ρ) : Box w' β cs :=
  ⟨Nat.lt_of_lt_of_le hb.lt h.size, fun i => (h.cell (p := ⟨β, i, none⟩) hb.lt hn).trans (hb.cell i), fun i => (h.frozen (p := ⟨β, i, none⟩) hb.lt hn).trans (hb.free i)⟩

/-- the bytes of a code; they lie below block ρ -/
def CodeAt (ρ : Nat) (w : World) (v : Value) (bs : List UInt8) : Prop :=
  (∃ (a : Option Addr) (cap : Nat), v = .slice a 0 cap ∧ bs = []) ∨
  ∃ (b off cap : Nat), v = .slice (some ⟨b, off, none⟩) bs.length cap ∧ bs ≠ [] ∧ bs.length ≤ 2000 ∧ b < ρ ∧ ∀ i (h : i < bs.length), w.cell? ⟨b, off + i, none⟩ = some (.int .u8 (bs[i].toNat : Int))
theorem CodeAt.form {ρ : Nat} {w : World} {v : Value} {bs : List UInt8} (h : CodeAt ρ w v bs) : ∃ a cap, v = .slice a bs.length cap := by
  rcases h with ⟨a, cap, h, rfl⟩ | ⟨b, off, cap, h, _⟩
  · exact ⟨a, cap, h⟩
  · exact ⟨_, cap, h⟩
theorem CodeAt.tch {ρ : Nat} {w w' : World} {v : Value} {bs : List UInt8} (h : CodeAt ρ w v bs) (ht : Tch ρ w w') (hρ : ρ ≤ w.heap.size) : CodeAt ρ w' v bs := by
  rcases h with h | ⟨b, off, cap, h1, h2, h3, h4, h5⟩
  · exact Or.inl h
  · exact Or.inr ⟨b, off, cap, h1, h2, h3, h4, fun i hi => (ht.cell (p := ⟨b, off + i, none⟩) (by show b < _; omega) (by show b ≠ ρ; omega)).trans (h5 i hi)⟩
/-- a reader at block ρ, at place p of a code -/
structure Rd (w : World) (ρ p : Nat) (bs : List UInt8) : Prop where
  lt : ρ < w.heap.size
  code : ∃ v, w.cell? ⟨ρ, 0, none⟩ = some v ∧ CodeAt ρ w v bs
  place : w.cell? ⟨ρ, 1, none⟩ = some (.int .i64 p)
  free : ∀ i, w.frozen? ⟨ρ, i, none⟩ = false
theorem Rd.below {w w' : World} {ρ p : Nat} {bs : List UInt8} (h : Rd w ρ p bs) (hb : Below w.heap.size w w') : Rd w' ρ p bs := by
  obtain ⟨v, h1, h2⟩ := h.code
  have ht : Tch ρ w w' := Tch.below hb
  exact ⟨Nat.lt_of_lt_of_le h.lt hb.size, ⟨v, (hb.cell (p := ⟨ρ, 0, none⟩) h.lt).trans h1, h2.tch ht (Nat.le_of_lt h.lt)⟩, (hb.cell (p := ⟨ρ, 1, none⟩) h.lt).trans h.place, fun i => (hb.frozen (p := ⟨ρ, i, none⟩) h.lt).trans (h.free i)⟩
theorem Rd.step {w : World} {ρ p : Nat} {bs : List UInt8} (h : Rd w ρ p bs) (q : Nat) : Rd (w.setCell ⟨ρ, 1, none⟩ (.int .i64 q)) ρ q bs := by
  obtain ⟨v, h1, h2⟩ := h.code
  refine ⟨by simpa [World.setCell] using h.lt, ⟨v, ?_, h2.tch (Tch.setCell ρ w 1 _) (Nat.le_of_lt h.lt)⟩, ?_, fun i => ?_⟩
  · rw [show (w.setCell ⟨ρ, 1, none⟩ (.int .i64 q)).cell? ⟨ρ, 0, none⟩ = w.cell? ⟨ρ, 0, none⟩ from by apply World.cell?_setCell_other; simp]; exact h1
  · apply World.cell?_setCell_same; exact h.place
  · rw [World.frozen?_setCell]; exact h.free i
theorem xor_i64_nat (a b : Nat) (ha : a < 4611686018427387904) (hb : b < 4611686018427387904) : bits .xor .i64 (a : Int) (b : Int) = ((a ^^^ b : Nat) : Int) := by
  have hx : a ^^^ b < 2 ^ 62 := Nat.xor_lt_two_pow (by omega) (by omega)
  have h1 : (BitVec.ofInt 64 (a : Int)).toNat = a := by
    rw [BitVec.ofInt_natCast, BitVec.toNat_ofNat]; exact Nat.mod_eq_of_lt (by omega)
  have h2 : (BitVec.ofInt 64 (b : Int)).toNat = b := by
    rw [BitVec.ofInt_natCast, BitVec.toNat_ofNat]; exact Nat.mod_eq_of_lt (by omega)
  show IntKind.i64.wrap ((BitVec.ofInt 64 (a : Int) ^^^ BitVec.ofInt 64 (b : Int)).toNat : Int) = _
  rw [BitVec.toNat_xor, h1, h2, IntKind.wrap_i64]
  omega
theorem mod_in (x n : Int) (_hx : 0 ≤ x) (hn : 1 ≤ n) : 0 ≤ x % n ∧ x % n < n := ⟨Int.emod_nonneg _ (by omega), Int.emod_lt_of_pos _ (by omega)⟩

set_option maxRecDepth 20000 in
set_option maxHeartbeats 2000000 in
theorem pick_any (ρ p : Nat) (bs : List UInt8) (n : Int) (w : World) (h : Rd w ρ p bs) (hp : p ≤ 1000000000) (hn : 1 ≤ n) (hn2 : n ≤ 100000000) :
    Calls Tryz.prog 47 #[.pointer (some ⟨ρ, 0, none⟩), .int .i64 n] w fun e w' => ∃ x : Int, e = .returned (.int .i64 x) ∧ 0 ≤ x ∧ x < n ∧ Rd w' ρ (p + 1) bs ∧ Tch ρ w w' := by
  have HS : Hid (Rd (w.setCell ⟨ρ, 1, none⟩ (.int .i64 ((p + 1 : Nat) : Int))) ρ (p + 1) bs) := h.step (p + 1)
  have HT : Hid (Tch ρ w (w.setCell ⟨ρ, 1, none⟩ (.int .i64 ((p + 1 : Nat) : Int)))) := Tch.setCell _ _ _ _
  obtain ⟨v, hv, hc⟩ := h.code
  have hpl := h.place
  have hfr := h.free
  have hlt := h.lt
  obtain ⟨a, cap, rfl⟩ := hc.form
  have hc' := HS.out.code
  clear h
  have hcast : ((p + 1 : Nat) : Int) = (p : Int) + 1 := by omega
  rw [hcast] at HS HT hc'
  by_cases h0 : bs = []
  · subst h0
    go_enter Tryz.func47, Tryz.ntmps47
    go_wp2
    go_ret
    exact ⟨0, rfl, by omega, by omega, HS.out, HT.out⟩
  · obtain ⟨b, off, rfl, hbρ, hlen, hcell⟩ : ∃ b off, a = some ⟨b, off, none⟩ ∧ b < ρ ∧ bs.length ≤ 2000 ∧ ∀ i (h : i < bs.length), w.cell? ⟨b, off + i, none⟩ = some (.int .u8 (bs[i].toNat : Int)) := by
      rcases hc with ⟨_, _, _, e⟩ | ⟨b, off, cap', h1, h2, h3, h4, h5⟩
      · exact absurd e h0
      · injection h1 with e1
        exact ⟨b, off, e1, h4, h3, h5⟩
    have hpos : 0 < bs.length := List.length_pos_iff.2 h0
    have hbl : ((bs.length : Int) == 0) = false := by rw [beq_eq_false_iff_ne]; omega
    have hne : ¬ (b = ρ) := by omega
    have hne2 : ¬ (ρ = b) := by omega
    clear hc hc'
    by_cases hk : p < bs.length
    · have ck := hcell p hk
      have hwb := wrap64_byte bs[p]
      have HM := hide (mod_in (bs[p].toNat : Int) n (by omega) hn)
      go_enter Tryz.func47, Tryz.ntmps47
      go_wp2
      go_ret
      exact ⟨_, rfl, HM.out.1, HM.out.2, HS.out, HT.out⟩
    · have hm1 : p % bs.length < bs.length := Nat.mod_lt _ hpos
      have hm2 : (p * 7 + 3) % bs.length < bs.length := Nat.mod_lt _ hpos
      have ck1 := hcell _ hm1
      have ck2 := hcell _ hm2
      have hwb1 := wrap64_byte bs[p % bs.length]
      have hwb2 := wrap64_byte bs[(p * 7 + 3) % bs.length]
      have hb1 := (bs[p % bs.length]).toNat_lt
      have hb2 := (bs[(p * 7 + 3) % bs.length]).toNat_lt
      have ht1 : (p : Int).tmod (bs.length : Int) = ((p % bs.length : Nat) : Int) := by rw [Int.tmod_eq_emod_of_nonneg (by omega)]; exact (Int.natCast_emod _ _).symm
      have ht2 : ((p : Int) * 7 + 3).tmod (bs.length : Int) = (((p * 7 + 3) % bs.length : Nat) : Int) := by rw [Int.tmod_eq_emod_of_nonneg (by omega)]; rw [Int.natCast_emod]; rfl
      have hdv : (p : Int) / (bs.length : Int) = ((p / bs.length : Nat) : Int) := rfl
      have hdb : p / bs.length ≤ p := Nat.div_le_self _ _
      generalize hq1 : p % bs.length = i1 at *
      generalize hq2 : (p * 7 + 3) % bs.length = i2 at *
      generalize hq3 : p / bs.length = i3 at *
      generalize hy1 : (bs[i1]).toNat = y1 at *
      generalize hy2 : (bs[i2]).toNat = y2 at *
      clear hcell hq1 hq2 hq3 hy1 hy2
      go_enter Tryz.func47, Tryz.ntmps47
      go_wp2
      go_quiet (fail)
      obtain ⟨X, hX, hXb⟩ : ∃ X : Nat, (y1 : Int) * 131 + (y2 : Int) * 1117 + (p : Int) * 29 + (i3 : Int) * 53 = (X : Int) ∧ X < 4611686018427387904 := ⟨y1 * 131 + y2 * 1117 + p * 29 + i3 * 53, by omega, by omega⟩
      rw [hX]
      have hxr : bits .xor .i64 (X : Int) ((X : Int) / 64) = ((X ^^^ X / 64 : Nat) : Int) := xor_i64_nat X (X / 64) hXb (by omega)
      have HM := hide (mod_in ((X ^^^ X / 64 : Nat) : Int) n (by omega) hn)
      generalize X ^^^ X / 64 = Y at *
      clear hX
      go_wp2
      go_ret
      exact ⟨_, rfl, HM.out.1, HM.out.2, HS.out.below (below_drewN (Below.refl _ _) _), HT.out.trans (Tch.below (below_drewN (Below.refl _ _) _))⟩
end Go.Proofs.YtjkkbkdpoebfaaaGreat
namespace Go.Proofs.YtjkkbkdpoebfaaaGreat
open Go.RowKit Go.Deep

/-- THE SIX CELLS OF A MEND, from place o of block b on. -/
structure MdCells (w : World) (b o : Nat) (m : Md) : Prop where
  c0 : w.cell? ⟨b, o, none⟩ = some (.string m.kind)
  c1 : w.cell? ⟨b, o + 1, none⟩ = some (.string m.field)
  c2 : w.cell? ⟨b, o + 2, none⟩ = some (.string m.wh)
  c3 : w.cell? ⟨b, o + 3, none⟩ = some (.string m.is)
  c4 : w.cell? ⟨b, o + 4, none⟩ = some (.string m.put)
  c5 : w.cell? ⟨b, o + 5, none⟩ = some (.string m.fr)
structure MdSize (m : Md) : Prop where
  s0 : m.kind.size ≤ maxLen
  s1 : m.field.size ≤ maxLen
  s2 : m.wh.size ≤ maxLen
  s3 : m.is.size ≤ maxLen
  s4 : m.put.size ≤ maxLen
  s5 : m.fr.size ≤ maxLen
theorem MdCells.below {w w' : World} {b o : Nat} {m : Md} (h : MdCells w b o m) (hb : Below w.heap.size w w') (hlt : b < w.heap.size) : MdCells w' b o m := by
  have e : ∀ o, w'.cell? ⟨b, o, none⟩ = w.cell? ⟨b, o, none⟩ := fun o => hb.cell (p := ⟨b, o, none⟩) hlt
  exact ⟨by rw [e]; exact h.c0, by rw [e]; exact h.c1, by rw [e]; exact h.c2, by rw [e]; exact h.c3, by rw [e]; exact h.c4, by rw [e]; exact h.c5⟩
/-- A []GateMend THAT HOLDS Ms; its cells lie from block lo on. -/
def MdsAt (lo : Nat) (w : World) (v : Value) (Ms : List Md) : Prop :=
  (∃ (a : Option Addr) (cap : Nat), v = .slice a 0 cap ∧ Ms = []) ∨
  ∃ (b off cap : Nat), v = .slice (some ⟨b, off, none⟩) Ms.length cap ∧ Ms ≠ [] ∧ Ms.length ≤ maxLen ∧ b < w.heap.size ∧ lo ≤ b ∧ Ms.length ≤ cap ∧
    ∀ i (h : i < Ms.length), MdSize Ms[i] ∧ MdCells w b (off + i * 6) Ms[i]
theorem MdsAt.below {lo : Nat} {w w' : World} {v : Value} {Ms : List Md} (h : MdsAt lo w v Ms) (hb : Below w.heap.size w w') : MdsAt lo w' v Ms := by
  rcases h with h | ⟨b, off, cap, h1, h2, h3, h4, h5, h6, h7⟩
  · exact Or.inl h
  · refine Or.inr ⟨b, off, cap, h1, h2, h3, Nat.lt_of_lt_of_le h4 hb.size, h5, h6, fun i hi => ?_⟩
    obtain ⟨hs, hc⟩ := h7 i hi
    exact ⟨hs, hc.below hb h4⟩
theorem MdsAt.mono {lo lo' : Nat} {w : World} {v : Value} {Ms : List Md} (h : MdsAt lo w v Ms) (hl : lo' ≤ lo) : MdsAt lo' w v Ms := by
  rcases h with h | ⟨b, off, cap, h1, h2, h3, h4, h5, h6, h7⟩
  · exact Or.inl h
  · exact Or.inr ⟨b, off, cap, h1, h2, h3, h4, Nat.le_trans hl h5, h6, h7⟩
theorem MdsAt.form {lo : Nat} {w : World} {v : Value} {Ms : List Md} (h : MdsAt lo w v Ms) : ∃ a cap, v = .slice a Ms.length cap := by
  rcases h with ⟨a, cap, h, rfl⟩ | ⟨b, off, cap, h, _⟩
  · exact ⟨a, cap, h⟩
  · exact ⟨_, cap, h⟩
theorem MdsAt.full {lo : Nat} {w : World} {v : Value} {Ms : List Md} (h : MdsAt lo w v Ms) (hne : Ms ≠ []) : ∃ (b off cap : Nat), v = .slice (some ⟨b, off, none⟩) Ms.length cap ∧ Ms.length ≤ maxLen ∧ b < w.heap.size ∧ Ms.length ≤ cap ∧
    ∀ i (h : i < Ms.length), MdSize Ms[i] ∧ MdCells w b (off + i * 6) Ms[i] := by
  rcases h with ⟨_, _, _, h⟩ | ⟨b, off, cap, h1, _, h3, h4, _, h6, h7⟩
  · exact absurd h hne
  · exact ⟨b, off, cap, h1, h3, h4, h6, h7⟩
theorem MdsAt.full' {lo : Nat} {w : World} {a : Option Addr} {n cap : Nat} {Ms : List Md} (h : MdsAt lo w (.slice a n cap) Ms) (hL : 0 < Ms.length) :
    ∃ b off, a = some ⟨b, off, none⟩ ∧ b < w.heap.size ∧ ∀ i (h : i < Ms.length), MdSize Ms[i] ∧ MdCells w b (off + i * 6) Ms[i] := by
  rcases h with ⟨a', cap', h, rfl⟩ | ⟨b', off', cap', h1, h2, h3, h4, h5, h6, h7⟩
  · simp at hL
  · injection h1 with e1 e2 e3
    exact ⟨b', off', e1, h4, h7⟩

abbrev Md.agg (m : Md) : Value := .agg #[.string m.kind, .string m.field, .string m.wh, .string m.is, .string m.put, .string m.fr]

end Go.Proofs.YtjkkbkdpoebfaaaGreat

namespace Go.Proofs.YtjkkbkdpoebfaaaGreat
open Go.RowKit Go.Deep

/-- a number that tells a place, or that there is none -/
def placeI (Fs : List Fd) (s : ByteArray) : Int := if plOf Fs s < Fs.length then (plOf Fs s : Int) else -1
theorem placeI_yes {Fs : List Fd} {s : ByteArray} {k : Nat} (hk : k < Fs.length) (h : (Fs[k].nm.toList == s.toList) = true) (hall : ∀ i (h : i < Fs.length), i < k → (Fs[i].nm.toList == s.toList) = false) : placeI Fs s = k := by
  unfold placeI; rw [plOf_at hk h hall, if_pos hk]
theorem placeI_no {Fs : List Fd} {s : ByteArray} (hall : ∀ i (h : i < Fs.length), (Fs[i].nm.toList == s.toList) = false) : placeI Fs s = -1 := by
  unfold placeI; rw [plOf_no hall, if_neg (Nat.lt_irrefl _)]
theorem placeI_lt {Fs : List Fd} {s : ByteArray} (h : plOf Fs s < Fs.length) : placeI Fs s = plOf Fs s := if_pos h
theorem placeI_ge {Fs : List Fd} {s : ByteArray} (h : ¬ plOf Fs s < Fs.length) : placeI Fs s = -1 := if_neg h

set_option maxHeartbeats 1000000 in
theorem l3Field_any (lo : Nat) (v : Value) (Fs : List Fd) (s : ByteArray) (w : World) (hv : FdsAt lo w v Fs) :
    Calls Tryz.prog 60 #[v, .string s] w fun e w' => e = .returned (.int .i64 (placeI Fs s)) ∧ w' = w := by
  by_cases hL : Fs = []
  · subst hL
    obtain ⟨a, cap, rfl⟩ := nil_form hv
    clear hv
    go_enter Tryz.func60, Tryz.ntmps60
    go_wp2
    go_loop [5] (fun i => i = .int .i64 0) (fun _ => 0)
    case atStart => rfl
    case round =>
      subst hrel
      go_wp2
      go_ret
      exact ⟨rfl, rfl⟩
  · obtain ⟨b, off, cap, rfl, hm, hbw, _, hc⟩ := hv.full hL
    clear hv
    unfold maxLen at hm
    go_enter Tryz.func60, Tryz.ntmps60
    go_wp2
    go_loop [5] (fun i => ∃ k : Nat, i = .int .i64 k ∧ k ≤ Fs.length ∧ ∀ i (h : i < Fs.length), i < k → (Fs[i].nm.toList == s.toList) = false) (fun i => Fs.length - (intOf i).toNat)
    case atStart => exact ⟨0, rfl, by omega, fun i _ h => by omega⟩
    case round =>
      obtain ⟨k, rfl, hk, hall⟩ := hrel
      have HA := hide hall
      clear hall
      by_cases hlt : k < Fs.length
      · obtain ⟨_, wv, hcell, _⟩ := hc k hlt
        have c0 := hcell.c0
        clear hcell
        by_cases he : (Fs[k].nm.toList == s.toList) = true
        · go_wp2
          go_ret
          exact ⟨by rw [placeI_yes hlt he HA.out]; rfl, rfl⟩
        · have he' : (Fs[k].nm.toList == s.toList) = false := by simpa using he
          clear he
          go_wp2
          go_round
          case rel => exact ⟨k + 1, by go_num, by omega, fun i h h' => by
                        by_cases e : i = k
                        · subst e; exact he'
                        · exact HA.out i h (by omega)⟩
          case measure => simp [intOf]; omega
      · go_wp2
        go_ret
        exact ⟨by rw [placeI_no fun i h => HA.out i h (by omega)]; rfl, rfl⟩

set_option maxHeartbeats 1000000 in
theorem l3Plain_any (lo : Nat) (v : Value) (Fs : List Fd) (s : ByteArray) (w : World) (hv : FdsAt lo w v Fs) :
    Calls Tryz.prog 58 #[v, .string s] w fun e w' => e = .returned (.bool (plainB Fs s)) ∧ w' = w := by
  have HV := hide hv
  by_cases hp : plOf Fs s < Fs.length
  · obtain ⟨b, off, cap, rfl, hm, hbw, _, hc⟩ := hv.full (by intro e; rw [e] at hp; simp at hp)
    clear hv
    unfold maxLen at hm
    obtain ⟨_, wv, hcell, _⟩ := hc _ hp
    have c1 := hcell.c1
    have HQ : Hid (plainB Fs s = !(Fs[plOf Fs s].kd == 4)) := plain_at hp
    have HP : Hid (placeI Fs s = plOf Fs s) := placeI_lt hp
    clear hcell hc
    go_enter Tryz.func58, Tryz.ntmps58
    go_wp2_with fail
    refine (l3Field_any lo _ Fs s _ HV.out).mono ?_
    rintro e w1 ⟨rfl, rfl⟩
    rw [HP.out]
    cases hk : (Fs[plOf Fs s].kd == 4) with
    | true =>
      have HQ2 : Hid (plainB Fs s = false) := by unfold Hid; rw [HQ.out, hk]; rfl
      have e4 : Fs[plOf Fs s].kd = 4 := by simpa using hk
      rw [e4] at c1
      clear e4 hk HQ HP
      go_wp2
      go_ret
      exact ⟨ret_bool HQ2.out.symm, rfl⟩
    | false =>
      have HQ2 : Hid (plainB Fs s = true) := by unfold Hid; rw [HQ.out, hk]; rfl
      have e4 : ¬ Fs[plOf Fs s].kd = 4 := by simpa using hk
      clear hk HQ HP
      go_wp2
      go_ret
      exact ⟨ret_bool (by rw [HQ2.out]; simp [e4]), rfl⟩
  · obtain ⟨a, cap, rfl⟩ := hv.form
    clear hv
    have HQ : Hid (plainB Fs s = false) := plain_no hp
    have HP : Hid (placeI Fs s = -1) := placeI_ge hp
    go_enter Tryz.func58, Tryz.ntmps58
    go_wp2_with fail
    refine (l3Field_any lo _ Fs s _ HV.out).mono ?_
    rintro e w1 ⟨rfl, rfl⟩
    rw [HP.out]
    clear HP hp
    go_wp2
    go_ret
    exact ⟨ret_bool HQ.out.symm, rfl⟩
end Go.Proofs.YtjkkbkdpoebfaaaGreat

namespace Go.Proofs.YtjkkbkdpoebfaaaGreat
open Go.RowKit Go.Deep

theorem hasB_mem {L : List ByteArray} {s : ByteArray} : hasB L s = true ↔ s ∈ L := by
  unfold hasB
  rw [List.any_eq_true]
  constructor
  · rintro ⟨x, hx, h⟩; rw [bytes_eq] at h; subst h; exact hx
  · exact fun h => ⟨s, h, bytes_refl _⟩
theorem hasB_not {L : List ByteArray} {s : ByteArray} (h : hasB L s = false) : s ∉ L := fun hm => by rw [hasB_mem.2 hm] at h; cases h
/-- all that the mends of a field read is in a row -/
def readyB (Ms : List Md) (kind field : ByteArray) (row : List ByteArray) : Bool := (readsOf kind Ms field).all (hasB row)
theorem ready_all {Ms : List Md} {kind field : ByteArray} {row : List ByteArray} : readyB Ms kind field row = true ↔ ∀ r ∈ readsOf kind Ms field, r ∈ row := by
  unfold readyB
  rw [List.all_eq_true]
  exact ⟨fun h r hr => hasB_mem.1 (h r hr), fun h r hr => hasB_mem.2 (h r hr)⟩
/-- .. of one mend -/
def rdy1 (kind field : ByteArray) (row : List ByteArray) (m : Md) : Bool := !forB kind field m || ((m.wh.toList.isEmpty || hasB row m.wh) && (m.fr.toList.isEmpty || hasB row m.fr))
theorem ready_of {Ms : List Md} {kind field : ByteArray} {row : List ByteArray} (h : ∀ i (h : i < Ms.length), rdy1 kind field row Ms[i] = true) : readyB Ms kind field row = true := by
  rw [ready_all]
  intro r hr
  obtain ⟨m, hm, hf, hrd⟩ := mem_readsOf.1 hr
  obtain ⟨i, hi, rfl⟩ := List.getElem_of_mem hm
  have := h i hi
  unfold rdy1 at this
  rw [hf] at this
  simp only [Bool.not_true, Bool.false_or, Bool.and_eq_true, Bool.or_eq_true] at this
  unfold rdOf at hrd
  rcases List.mem_append.1 hrd with h1 | h1
  · by_cases he : Ms[i].wh.toList.isEmpty = true
    · rw [if_pos he] at h1; cases h1
    · rw [if_neg he] at h1
      rw [List.mem_singleton.1 h1]
      rcases this.1 with h2 | h2
      · exact absurd h2 he
      · exact hasB_mem.1 h2
  · by_cases he : Ms[i].fr.toList.isEmpty = true
    · rw [if_pos he] at h1; cases h1
    · rw [if_neg he] at h1
      rw [List.mem_singleton.1 h1]
      rcases this.2 with h2 | h2
      · exact absurd h2 he
      · exact hasB_mem.1 h2
theorem ready_not {Ms : List Md} {kind field : ByteArray} {row : List ByteArray} {i : Nat} (hi : i < Ms.length) (h : rdy1 kind field row Ms[i] = false) : readyB Ms kind field row = false := by
  cases hr : readyB Ms kind field row with
  | false => rfl
  | true =>
    rw [ready_all] at hr
    have hf : forB kind field Ms[i] = true := by
      cases hf : forB kind field Ms[i] with
      | true => rfl
      | false => unfold rdy1 at h; rw [hf] at h; cases h
    have key : ∀ r ∈ rdOf Ms[i], hasB row r = true := fun r hrr => hasB_mem.2 (hr r (mem_readsOf.2 ⟨Ms[i], List.getElem_mem hi, hf, hrr⟩))
    have hx : rdy1 kind field row Ms[i] = true := by
      unfold rdy1
      simp only [hf, Bool.not_true, Bool.false_or, Bool.and_eq_true, Bool.or_eq_true]
      refine ⟨?_, ?_⟩
      · cases hw : Ms[i].wh.toList.isEmpty with
        | true => exact Or.inl rfl
        | false => exact Or.inr (key _ (rd_wh hw))
      · cases hw : Ms[i].fr.toList.isEmpty with
        | true => exact Or.inl rfl
        | false => exact Or.inr (key _ (rd_fr hw))
    rw [hx] at h; cases h

set_option maxHeartbeats 4000000 in
theorem l3Ready_any (lo : Nat) (v rv : Value) (Ms : List Md) (kind field : ByteArray) (row : List ByteArray) (w : World) (hv : MdsAt lo w v Ms) (hr : StrsAt w rv row) :
    Calls Tryz.prog 62 #[v, .string kind, .string field, rv] w fun e w' => e = .returned (.bool (readyB Ms kind field row)) ∧ Below w.heap.size w w' := by
  have HR := hide hr
  obtain ⟨ra, rn, rcap, rfl⟩ := hr.form
  clear hr
  by_cases hL : Ms = []
  · subst hL
    obtain ⟨a, cap, rfl⟩ := hv.form
    clear hv
    have HQ : Hid (readyB [] kind field row = true) := rfl
    go_enter Tryz.func62, Tryz.ntmps62
    go_wp2
    go_loop [9] (fun i => i = .int .i64 0) (fun _ => 0)
    case atStart => rfl
    case round =>
      subst hrel
      go_wp2
      go_ret
      exact ⟨ret_bool HQ.out.symm, Below.refl _ _⟩
  obtain ⟨b, off, cap, rfl, hm, hbw, _, hc⟩ := hv.full hL
  clear hv
  unfold maxLen at hm
  go_enter Tryz.func62, Tryz.ntmps62
  go_wp2
  go_loopw [9] (fun i wr => ∃ k : Nat, i = .int .i64 k ∧ k ≤ Ms.length ∧ Below w.heap.size w wr ∧ ∀ i (h : i < Ms.length), i < k → rdy1 kind field row Ms[i] = true) (fun i _ => Ms.length - (intOf i).toNat)
  case atStart => exact ⟨0, rfl, by omega, Below.refl _ _, fun i _ h => by omega⟩
  case round =>
    obtain ⟨k, rfl, hk, hb, hall⟩ := hrel
    have HA := hide hall
    have HB := hide hb
    clear hall hb
    by_cases hlt : k < Ms.length
    · obtain ⟨_, hcell⟩ := hc k hlt
      obtain ⟨c0, c1, c2, c3, c4, c5⟩ := hcell.below HB.out hbw
      clear hcell
      have HB1 : ∀ o, Hid (Below w.heap.size w (wr.alloc o)) := fun o => HB.out.alloc HB.out.size _
      have HNX : Hid (rdy1 kind field row Ms[k] = true → ∀ i (h : i < Ms.length), i < k + 1 → rdy1 kind field row Ms[i] = true) := fun h i hi hik => by
        by_cases e : i = k
        · subst e; exact h
        · exact HA.out i hi (by omega)
      cases hk1 : (Ms[k].kind.toList == kind.toList) with
      | false =>
        go_wp2
        go_roundw
        case rel => exact ⟨k + 1, by go_num, by omega, (HB1 _).out, HNX.out (by unfold rdy1 forB; simp [hk1])⟩
        case measure => simp [intOf]; omega
      | true =>
        cases hf1 : (Ms[k].field.toList == field.toList) with
        | false =>
          go_wp2
          go_roundw
          case rel => exact ⟨k + 1, by go_num, by omega, (HB1 _).out, HNX.out (by unfold rdy1 forB; simp [hk1, hf1])⟩
          case measure => simp [intOf]; omega
        | true =>
          cases hwe : Ms[k].wh.toList.isEmpty with
          | true =>
            cases hfe : Ms[k].fr.toList.isEmpty with
            | true =>
              go_wp2
              go_roundw
              case rel => exact ⟨k + 1, by go_num, by omega, (HB1 _).out, HNX.out (by unfold rdy1 forB; simp [hk1, hf1, hwe, hfe])⟩
              case measure => simp [intOf]; omega
            | false =>
              go_wp2_with fail
              refine (l1Has_any _ row Ms[k].fr _ (HR.out.below (HB1 _).out)).mono ?_
              rintro e w1 ⟨rfl, rfl⟩
              cases hfh : hasB row Ms[k].fr with
              | true =>
                go_wp2
                go_roundw
                case rel => exact ⟨k + 1, by go_num, by omega, (HB1 _).out, HNX.out (by unfold rdy1 forB; simp [hk1, hf1, hwe, hfe, hfh])⟩
                case measure => simp [intOf]; omega
              | false =>
                go_wp2
                go_ret
                exact ⟨ret_bool (ready_not hlt (by unfold rdy1 forB; simp [hk1, hf1, hwe, hfe, hfh])).symm, (HB1 _).out⟩
          | false =>
            go_wp2_with fail
            refine (l1Has_any _ row Ms[k].wh _ (HR.out.below (HB1 _).out)).mono ?_
            rintro e w1 ⟨rfl, rfl⟩
            cases hwh : hasB row Ms[k].wh with
            | false =>
              go_wp2
              go_ret
              exact ⟨ret_bool (ready_not hlt (by unfold rdy1 forB; simp [hk1, hf1, hwe, hwh])).symm, (HB1 _).out⟩
            | true =>
              cases hfe : Ms[k].fr.toList.isEmpty with
              | true =>
                go_wp2
                go_roundw
                case rel => exact ⟨k + 1, by go_num, by omega, (HB1 _).out, HNX.out (by unfold rdy1 forB; simp [hk1, hf1, hwe, hwh, hfe])⟩
                case measure => simp [intOf]; omega
              | false =>
                go_wp2_with fail
                refine (l1Has_any _ row Ms[k].fr _ (HR.out.below (HB1 _).out)).mono ?_
                rintro e w1 ⟨rfl, rfl⟩
                cases hfh : hasB row Ms[k].fr with
                | true =>
                  go_wp2
                  go_roundw
                  case rel => exact ⟨k + 1, by go_num, by omega, (HB1 _).out, HNX.out (by unfold rdy1 forB; simp [hk1, hf1, hwe, hwh, hfe, hfh])⟩
                  case measure => simp [intOf]; omega
                | false =>
                  go_wp2
                  go_ret
                  exact ⟨ret_bool (ready_not hlt (by unfold rdy1 forB; simp [hk1, hf1, hwe, hwh, hfe, hfh])).symm, (HB1 _).out⟩
    · go_wp2
      go_ret
      exact ⟨ret_bool (ready_of fun i h => HA.out i h (by omega)).symm, HB.out⟩
end Go.Proofs.YtjkkbkdpoebfaaaGreat

namespace Go.Proofs.YtjkkbkdpoebfaaaGreat
open Go.RowKit Go.Deep

/-- A []string THAT THE CALL MADE ITSELF: its block lies from base on, with room behind. -/
structure OwnS (base : Nat) (W : World) (v : Value) (R : List ByteArray) : Prop where
  row : W.ownsRow base 9 1 v R.length (R.map Value.string)
  sz : ∀ s ∈ R, s.size ≤ maxLen
theorem OwnS.form {base : Nat} {W : World} {v : Value} {R : List ByteArray} (h : OwnS base W v R) : ∃ a cap, v = .slice a R.length cap := by
  rcases h.row.2 with ⟨hv, hn⟩ | ⟨g, cap, cur, hv, _⟩
  · rw [hn]; exact ⟨_, _, hv⟩
  · exact ⟨_, _, hv⟩
theorem OwnS.below {base : Nat} {W W' : World} {v : Value} {R : List ByteArray} (h : OwnS base W v R) (hb : Below W.heap.size W W') : OwnS base W' v R := by
  refine ⟨⟨h.row.1, ?_⟩, h.sz⟩
  rcases h.row.2 with hv | ⟨g, cap, cur, hv, h1, h2, h3⟩
  · exact Or.inl hv
  · have hg : g < W.heap.size := by
      rcases Nat.lt_or_ge g W.heap.size with h | h
      · exact h
      · rw [Array.getElem?_eq_none h] at h2; cases h2
    exact Or.inr ⟨g, cap, cur, hv, h1, by rw [hb.block g hg]; exact h2, h3⟩
theorem OwnS.strs {base : Nat} {W : World} {v : Value} {R : List ByteArray} (h : OwnS base W v R) : StrsAt W v R := by
  rcases h.row.2 with ⟨hv, hn⟩ | ⟨g, cap, cur, hv, h1, h2, h3, h4, h5, h6⟩
  · exact Or.inl ⟨none, 0, hv, List.length_eq_zero_iff.1 hn⟩
  · by_cases hR : R = []
    · subst hR; exact Or.inl ⟨_, _, hv, rfl⟩
    · have hg : g < W.heap.size := by
        rcases Nat.lt_or_ge g W.heap.size with h | h
        · exact h
        · rw [Array.getElem?_eq_none h] at h2; cases h2
      refine Or.inr ⟨g, 0, cap, hv, hR, Nat.le_trans h3 h4, hg, fun i hi => ?_, h.sz⟩
      rw [Nat.zero_add, cell_of_row W g i cur 9 (0, 0) h2]
      have : (cur.toList.take (R.length * 1))[i]? = (R.map Value.string)[i]? := by rw [h6]
      rw [List.getElem?_take_of_lt (by omega)] at this
      simpa [hi] using this
theorem OwnS.mono {base base' : Nat} {W : World} {v : Value} {R : List ByteArray} (h : OwnS base W v R) (hb : base' ≤ base) : OwnS base' W v R := by
  refine ⟨⟨h.row.1, ?_⟩, h.sz⟩
  rcases h.row.2 with hv | ⟨g, cap, cur, hv, h1, h2⟩
  · exact Or.inl hv
  · exact Or.inr ⟨g, cap, cur, hv, Nat.le_trans hb h1, h2⟩
theorem OwnS.nil (base : Nat) (W : World) : OwnS base W (.slice none 0 0) [] := ⟨World.ownsRow_nil _ _ _ _, fun s h => by simp at h⟩
theorem OwnS.made {base : Nat} (W : World) (g : Nat) (hg : W.heap.size = g) (hb : base ≤ g) : OwnS base (W.alloc (.cells #[] 9)) (.slice (some ⟨g, 0, none⟩) 0 0) [] := by
  subst hg
  exact ⟨World.ownsRow_made (base := base) (e := 9) (size := 1) W #[] 0 hb (Nat.zero_le _) (by simp), fun s h => by simp at h⟩
theorem OwnS.grown {base : Nat} {W w' : World} {v : Value} {R : List ByteArray} (h : OwnS base W v R) (hg : W.grownBy w' v.ownBlock) (hb : base ≤ W.heap.size) : Below base W w' := by
  refine ⟨hg.os, hg.tape, hg.output, hg.size, fun k hk => hg.block k (by omega) ?_⟩
  rcases h.row.2 with ⟨hv, _⟩ | ⟨g, cap, cur, hv, h1, _⟩
  · rw [hv]; intro e; cases e
  · rw [hv]; intro e
    have : k = g := by simpa [Value.ownBlock] using e
    omega
theorem OwnS.snoc {base : Nat} {W w' : World} {v v' : Value} {R : List ByteArray} {s : ByteArray} (h : OwnS base W v R) (hown : w'.ownsRow base 9 1 v' (R.length + 1) (R.map Value.string ++ [.string s])) (hs : s.size ≤ maxLen) : OwnS base w' v' (R ++ [s]) := by
  refine ⟨by rw [List.length_append, List.map_append]; exact hown, fun t ht => ?_⟩
  rcases List.mem_append.1 ht with h1 | h1
  · exact h.sz t h1
  · rw [List.mem_singleton.1 h1]; exact hs
theorem cell_new1 (X : World) (g : Nat) (u : Value) (t : TypeId) (hg : X.heap.size = g) : ∀ j x, [u][j]? = some x → (X.alloc (.cells #[u] t)).cell? ((⟨g, 0, none⟩ : Addr).add j) = some x := by
  subst hg
  intro j x hj
  rw [Go.WideShapes.add_plain, Nat.zero_add]
  cases j with
  | zero => simp at hj; subst hj; simp
  | succ j => simp at hj
theorem one_oneCell (s : ByteArray) : ∀ u ∈ [Value.string s], u.oneCell' = true := fun u hu => by rw [List.mem_singleton.1 hu]; rfl

/-- none of the first k can be put behind the row -/
def NoneYet (Fs : List Fd) (rd : ByteArray → List ByteArray) (R : List ByteArray) (k : Nat) : Prop := ∀ i (h : i < Fs.length), i < k → Fs[i].nm ∈ R ∨ ¬ ∀ r ∈ rd Fs[i].nm, r ∈ R
theorem NoneYet.stuck {Fs : List Fd} {rd : ByteArray → List ByteArray} {R : List ByteArray} {k : Nat} (h : NoneYet Fs rd R k) (hk : Fs.length ≤ k) : Stuck (namesF Fs) rd R := by
  intro x hx hn
  obtain ⟨i, hi, rfl⟩ := mem_namesF.1 hx
  rcases h i hi (by omega) with h1 | h1
  · exact absurd h1 hn
  · exact h1
theorem NoneYet.succ {Fs : List Fd} {rd : ByteArray → List ByteArray} {R : List ByteArray} {k : Nat} (h : NoneYet Fs rd R k) (hk : k < Fs.length) (hx : Fs[k].nm ∈ R ∨ ¬ ∀ r ∈ rd Fs[k].nm, r ∈ R) : NoneYet Fs rd R (k + 1) := by
  intro i hi hik
  by_cases e : i = k
  · subst e; exact hx
  · exact h i hi (by omega)
theorem names_len (Fs : List Fd) : (namesF Fs).length = Fs.length := by simp [namesF]
theorem good_len {Fs : List Fd} {rd : ByteArray → List ByteArray} {R : List ByteArray} (h : Good (namesF Fs) rd R) : R.length ≤ Fs.length := by
  have := List.Nodup.length_le_of_subset h.nodup h.sub
  rwa [names_len] at this

/-- WHAT l3Row GIVES -/
def RowOf (x : Sh) (Ms : List Md) (R : List ByteArray) : Prop :=
  Good (namesF x.fields) (readsOf x.kind Ms) R ∧ R.length ≤ x.fields.length ∧ (R.length = x.fields.length ↔ shapeRowB Ms x = true)
theorem RowOf.mk' {x : Sh} {Ms : List Md} {R : List ByteArray} {n : Nat} (hg : Good (namesF x.fields) (readsOf x.kind Ms) R) (hn : x.fields.length ≤ n) (h : R.length = n ∨ Stuck (namesF x.fields) (readsOf x.kind Ms) R) : RowOf x Ms R := by
  have hl := good_len hg
  refine ⟨hg, hl, fun e => rowB_yes hg (by rw [names_len]; omega), fun hb => ?_⟩
  rcases h with h | h
  · omega
  · rcases Nat.lt_or_ge R.length x.fields.length with hlt | hge
    · unfold shapeRowB at hb
      rw [rowB_no h (by rw [names_len]; exact hlt)] at hb; cases hb
    · omega
end Go.Proofs.YtjkkbkdpoebfaaaGreat
