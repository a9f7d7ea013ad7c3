import Derived.Test.YtlnlodleokobeaaBP1
import Derived.Deep.AppendLies
import Derived.Test.YtlnlodleokobeaaBDA
import Derived.Test.YtlnlodleokobeaaBM2
import Derived.Test.YtlnlodleokobeaaBSA
import Derived.Test.YtlnlodleokobeaaBKA
import Derived.Test.YtlnlodleokobeaaBK1
import Derived.Test.YtlnlodleokobeaaBWB
import Derived.Test.YtlnlodleokobeaaBC2
import Derived.Test.YtlnlodleokobeaaBWA
namespace Go.Proofs.Ytlnlodleokobeaa
open Go.RowKit Go.Deep

/-- THE SIX CELLS OF A MEND, from place o of block b on. -/
structure MdCells (w : World) (b o : Nat) (m : Md) : Prop where
  c0 : w.cell? ⟨b, o, none⟩ = some (.string m.kind)
  c1 : w.cell? ⟨b, o + 1, none⟩ = some (.string m.field)
  c2 : w.cell? ⟨b, o + 2, none⟩ = some (.string m.wh)
  c3 : w.cell? ⟨b, o + 3, none⟩ = some (.string m.is)
  c4 : w.cell? ⟨b, o + 4, none⟩ = some (.string m.put)
  c5 : w.cell? ⟨b, o + 5, none⟩ = some (.string m.fr)
structure MdSize (m : Md) : Prop where
  s0 : m.kind.size ≤ maxLen
  s1 : m.field.size ≤ maxLen
  s2 : m.wh.size ≤ maxLen
  s3 : m.is.size ≤ maxLen
  s4 : m.put.size ≤ maxLen
  s5 : m.fr.size ≤ maxLen
theorem MdCells.below {w w' : World} {b o : Nat} {m : Md} (h : MdCells w b o m) (hb : Below w.heap.size w w') (hlt : b < w.heap.size) : MdCells w' b o m := by
  have e : ∀ o, w'.cell? ⟨b, o, none⟩ = w.cell? ⟨b, o, none⟩ := fun o => hb.cell (p := ⟨b, o, none⟩) hlt
  exact ⟨by rw [e]; exact h.c0, by rw [e]; exact h.c1, by rw [e]; exact h.c2, by rw [e]; exact h.c3, by rw [e]; exact h.c4, by rw [e]; exact h.c5⟩
/-- A []GateMend THAT HOLDS Ms; its cells lie from block lo on. -/
def MdsAt (lo : Nat) (w : World) (v : Value) (Ms : List Md) : Prop :=
  (∃ (a : Option Addr) (cap : Nat), v = .slice a 0 cap ∧ Ms = []) ∨
  ∃ (b off cap : Nat), v = .slice (some ⟨b, off, none⟩) Ms.length cap ∧ Ms ≠ [] ∧ Ms.length ≤ maxLen ∧ b < w.heap.size ∧ lo ≤ b ∧ Ms.length ≤ cap ∧
    ∀ i (h : i < Ms.length), MdSize Ms[i] ∧ MdCells w b (off + i * 6) Ms[i]
theorem MdsAt.below {lo : Nat} {w w' : World} {v : Value} {Ms : List Md} (h : MdsAt lo w v Ms) (hb : Below w.heap.size w w') : MdsAt lo w' v Ms := by
  rcases h with h | ⟨b, off, cap, h1, h2, h3, h4, h5, h6, h7⟩
  · exact Or.inl h
  · refine Or.inr ⟨b, off, cap, h1, h2, h3, Nat.lt_of_lt_of_le h4 hb.size, h5, h6, fun i hi => ?_⟩
    obtain ⟨hs, hc⟩ := h7 i hi
    exact ⟨hs, hc.below hb h4⟩
theorem MdsAt.mono {lo lo' : Nat} {w : World} {v : Value} {Ms : List Md} (h : MdsAt lo w v Ms) (hl : lo' ≤ lo) : MdsAt lo' w v Ms := by
  rcases h with h | ⟨b, off, cap, h1, h2, h3, h4, h5, h6, h7⟩
  · exact Or.inl h
  · exact Or.inr ⟨b, off, cap, h1, h2, h3, h4, Nat.le_trans hl h5, h6, h7⟩
theorem MdsAt.form {lo : Nat} {w : World} {v : Value} {Ms : List Md} (h : MdsAt lo w v Ms) : ∃ a cap, v = .slice a Ms.length cap := by
  rcases h with ⟨a, cap, h, rfl⟩ | ⟨b, off, cap, h, _⟩
  · exact ⟨a, cap, h⟩
  · exact ⟨_, cap, h⟩
theorem MdsAt.full {lo : Nat} {w : World} {v : Value} {Ms : List Md} (h : MdsAt lo w v Ms) (hne : Ms ≠ []) : ∃ (b off cap : Nat), v = .slice (some ⟨b, off, none⟩) Ms.length cap ∧ Ms.length ≤ maxLen ∧ b < w.heap.size ∧ Ms.length ≤ cap ∧
    ∀ i (h : i < Ms.length), MdSize Ms[i] ∧ MdCells w b (off + i * 6) Ms[i] := by
  rcases h with ⟨_, _, _, h⟩ | ⟨b, off, cap, h1, _, h3, h4, _, h6, h7⟩
  · exact absurd h hne
  · exact ⟨b, off, cap, h1, h3, h4, h6, h7⟩
theorem MdsAt.full' {lo : Nat} {w : World} {a : Option Addr} {n cap : Nat} {Ms : List Md} (h : MdsAt lo w (.slice a n cap) Ms) (hL : 0 < Ms.length) :
    ∃ b off, a = some ⟨b, off, none⟩ ∧ b < w.heap.size ∧ ∀ i (h : i < Ms.length), MdSize Ms[i] ∧ MdCells w b (off + i * 6) Ms[i] := by
  rcases h with ⟨a', cap', h, rfl⟩ | ⟨b', off', cap', h1, h2, h3, h4, h5, h6, h7⟩
  · simp at hL
  · injection h1 with e1 e2 e3
    exact ⟨b', off', e1, h4, h7⟩

abbrev Md.agg (m : Md) : Value := .agg #[.string m.kind, .string m.field, .string m.wh, .string m.is, .string m.put, .string m.fr]

set_option maxHeartbeats 1000000 in
theorem szMend_any (k f h i p r : ByteArray) (left : Int) (w : World) (h0 : 0 ≤ left) (h1 : left ≤ 1048576)
    (s0 : k.size ≤ maxLen) (s1 : f.size ≤ maxLen) (s2 : h.size ≤ maxLen) (s3 : i.size ≤ maxLen) (s4 : p.size ≤ maxLen) (s5 : r.size ≤ maxLen) :
    Calls Try.prog 49 #[.agg #[.string k, .string f, .string h, .string i, .string p, .string r], .int .i64 left] w
      fun e w' => ∃ r : Int, e = .returned (.int .i64 r) ∧ Below w.heap.size w w' ∧ -1 ≤ r ∧ r ≤ left := by
  unfold maxLen at s0 s1 s2 s3 s4 s5
  have HW : ∀ o, Hid (Below w.heap.size w (w.alloc o)) := fun o => (Below.refl _ _).alloc (Nat.le_refl _) _
  go_enter Try.func49, Try.ntmps49
  go_wp2
  all_goals go_ret
  all_goals exact ⟨_, rfl, (HW _).out, by omega, by omega⟩

set_option maxHeartbeats 1000000 in
theorem szMds_any (lo : Nat) (v : Value) (Ms : List Md) (left : Int) (w : World) (h0 : 0 ≤ left) (h1 : left ≤ 1048576) (hv : MdsAt lo w v Ms) :
    Calls Try.prog 19 #[v, .int .i64 left] w fun e w' => ∃ r : Int, e = .returned (.int .i64 r) ∧ Below w.heap.size w w' ∧ SzOk Ms.length left r := by
  rcases hv with ⟨a, cap, rfl, rfl⟩ | ⟨b, off, cap, rfl, hne, hm, hbw, _, _, hc⟩
  · go_enter Try.func19, Try.ntmps19
    go_wp2
    go_loop [1, 5] (fun l i => ∃ r : Int, l = .int .i64 r ∧ 0 ≤ r ∧ r ≤ left ∧ i = .int .i64 0) (fun _ _ => 0)
    case atStart => exact ⟨_, rfl, by omega, by omega, rfl⟩
    case round =>
      obtain ⟨r, rfl, hr0, hr1, rfl⟩ := hrel
      go_wp2
      go_ret
      exact ⟨r, rfl, Below.refl _ _, by omega, by omega, fun _ => by simp; omega⟩
  · unfold maxLen at hm
    by_cases hle : (Ms.length : Int) ≤ left
    · go_enter Try.func19, Try.ntmps19
      go_wp2
      go_loopw [1, 5] (fun l i wr => ∃ (r : Int) (k : Nat), l = .int .i64 r ∧ 0 ≤ r ∧ r ≤ left ∧ i = .int .i64 k ∧ k ≤ Ms.length ∧ Below w.heap.size w wr) (fun _ i _ => Ms.length - (intOf i).toNat)
      case atStart => exact ⟨_, 0, rfl, by omega, by omega, rfl, by omega, Below.refl _ _⟩
      case round =>
        obtain ⟨r, k, rfl, hr0, hr1, rfl, hk, hb⟩ := hrel
        by_cases hlt : k < Ms.length
        · obtain ⟨hsz, hcell⟩ := hc k hlt
          obtain ⟨c0, c1, c2, c3, c4, c5⟩ := hcell.below hb hbw
          go_wp2_with fail
          refine (szMend_any _ _ _ _ _ _ _ _ hr0 (by omega) hsz.s0 hsz.s1 hsz.s2 hsz.s3 hsz.s4 hsz.s5).mono ?_
          rintro e w1 ⟨r1, rfl, hb1, q0, q1⟩
          have hB : Hid (Below w.heap.size w w1) := hb.trans (hb1.mono hb.size)
          clear hb1 c0 c1 c2 c3 c4 c5 hb
          go_wp2
          all_goals first
            | (go_roundw
               case rel => exact ⟨_, k + 1, rfl, by omega, by omega, by go_num, by omega, hB.out⟩
               case measure => simp [intOf]; omega)
            | (go_ret
               exact ⟨-1, rfl, hB.out, by omega, by omega, fun h => by omega⟩)
        · go_wp2
          go_ret
          exact ⟨r, rfl, hb, by omega, by omega, fun _ => hle⟩
    · go_enter Try.func19, Try.ntmps19
      go_wp2
      go_ret
      exact ⟨-1, rfl, Below.refl _ _, by omega, by omega, fun h => by omega⟩

set_option maxHeartbeats 1000000 in
theorem toMend_any (k f h i p r : ByteArray) (w : World) :
    Calls Try.prog 54 #[.agg #[.string k, .string f, .string h, .string i, .string p, .string r]] w
      fun e w' => e = .returned (.agg #[.string k, .string f, .string h, .string i, .string p, .string r]) ∧ Below w.heap.size w w' := by
  go_enter Try.func54, Try.ntmps54
  go_wp2
  refine bodyPost_ret (v := .agg #[.string k, .string f, .string h, .string i, .string p, .string r]) (by simp [results, Try.results54, go_sem]) rfl ⟨rfl, ?_⟩
  repeat (refine Below.setCell ?_ (by simp only []; omega) _)
  exact (((Below.refl _ _).alloc (Nat.le_refl _) _).alloc (by simp) _).alloc (by simp; omega) _

set_option maxHeartbeats 1000000 in
theorem eqMend_same (k f h i p r : ByteArray) (w : World) :
    Calls Try.prog 60 #[.agg #[.string k, .string f, .string h, .string i, .string p, .string r], .agg #[.string k, .string f, .string h, .string i, .string p, .string r]] w
      fun e w' => e = .returned (.bool true) ∧ Below w.heap.size w w' := by
  go_enter Try.func60, Try.ntmps60
  go_wp2
  go_ret
  exact ⟨rfl, ((Below.refl _ _).alloc (Nat.le_refl _) _).alloc (by simp) _⟩

set_option maxHeartbeats 1000000 in
theorem eqMds_same (lo lo' : Nat) (v v' : Value) (Ms : List Md) (w : World) (hv : MdsAt lo w v Ms) (hv' : MdsAt lo' w v' Ms) :
    Calls Try.prog 30 #[v, v'] w fun e w' => e = .returned (.bool true) ∧ Below w.heap.size w w' := by
  by_cases hL : Ms = []
  · subst hL
    obtain ⟨a, cap, rfl⟩ := hv.form
    obtain ⟨a', cap', rfl⟩ := hv'.form
    clear hv hv'
    go_enter Try.func30, Try.ntmps30
    go_wp2
    go_loop [5] (fun i => i = .int .i64 0) (fun _ => 0)
    case atStart => rfl
    case round =>
      subst hrel
      go_wp2
      go_ret
      exact ⟨rfl, Below.refl _ _⟩
  · obtain ⟨b, off, cap, rfl, hm, hbw, _, hc⟩ := hv.full hL
    obtain ⟨b', off', cap', rfl, _, hbw', _, hc'⟩ := hv'.full hL
    clear hv hv'
    unfold maxLen at hm
    go_enter Try.func30, Try.ntmps30
    go_wp2
    go_loopw [5] (fun i wr => ∃ k : Nat, i = .int .i64 k ∧ k ≤ Ms.length ∧ Below w.heap.size w wr) (fun i _ => Ms.length - (intOf i).toNat)
    case atStart => exact ⟨0, rfl, by omega, Below.refl _ _⟩
    case round =>
      obtain ⟨k, rfl, hk, hb⟩ := hrel
      by_cases hlt : k < Ms.length
      · obtain ⟨_, hcell⟩ := hc k hlt
        obtain ⟨_, hcell'⟩ := hc' k hlt
        obtain ⟨c0, c1, c2, c3, c4, c5⟩ := hcell.below hb hbw
        obtain ⟨d0, d1, d2, d3, d4, d5⟩ := hcell'.below hb hbw'
        clear hcell hcell'
        have HB := hide hb
        clear hb
        go_wp2
        go_region_with (go_at_call 60; refine (eqMend_same _ _ _ _ _ _ _).mono ?_; rintro e w1 ⟨rfl, hb1⟩; have hB : Hid (Below w.heap.size w w1) := (HB.out.drew).trans (hb1.mono HB.out.size); clear hb1)
        all_goals go_wp2
        all_goals go_roundw
        all_goals first
          | (case rel => exact ⟨k + 1, by go_num, by omega, hB.out⟩)
          | (case measure => simp [intOf]; omega)
      · go_wp2
        go_ret
        exact ⟨rfl, hb⟩
end Go.Proofs.Ytlnlodleokobeaa

namespace Go.Proofs.Ytlnlodleokobeaa
open Go.RowKit Go.Deep

end Go.Proofs.Ytlnlodleokobeaa

namespace Go.Proofs.Ytlnlodleokobeaa
open Go.RowKit Go.Deep

end Go.Proofs.Ytlnlodleokobeaa

namespace Go.Proofs.Ytlnlodleokobeaa
open Go.RowKit Go.Deep

/-- A []string THAT THE CALL MADE ITSELF: its block lies from base on, with room behind. -/
structure OwnS (base : Nat) (W : World) (v : Value) (R : List ByteArray) : Prop where
  row : W.ownsRow base 9 1 v R.length (R.map Value.string)
  sz : ∀ s ∈ R, s.size ≤ maxLen
theorem OwnS.form {base : Nat} {W : World} {v : Value} {R : List ByteArray} (h : OwnS base W v R) : ∃ a cap, v = .slice a R.length cap := by
  rcases h.row.2 with ⟨hv, hn⟩ | ⟨g, cap, cur, hv, _⟩
  · rw [hn]; exact ⟨_, _, hv⟩
  · exact ⟨_, _, hv⟩
theorem OwnS.below {base : Nat} {W W' : World} {v : Value} {R : List ByteArray} (h : OwnS base W v R) (hb : Below W.heap.size W W') : OwnS base W' v R := by
  refine ⟨⟨h.row.1, ?_⟩, h.sz⟩
  rcases h.row.2 with hv | ⟨g, cap, cur, hv, h1, h2, h3⟩
  · exact Or.inl hv
  · have hg : g < W.heap.size := by
      rcases Nat.lt_or_ge g W.heap.size with h | h
      · exact h
      · rw [Array.getElem?_eq_none h] at h2; cases h2
    exact Or.inr ⟨g, cap, cur, hv, h1, by rw [hb.block g hg]; exact h2, h3⟩
theorem OwnS.mono {base base' : Nat} {W : World} {v : Value} {R : List ByteArray} (h : OwnS base W v R) (hb : base' ≤ base) : OwnS base' W v R := by
  refine ⟨⟨h.row.1, ?_⟩, h.sz⟩
  rcases h.row.2 with hv | ⟨g, cap, cur, hv, h1, h2⟩
  · exact Or.inl hv
  · exact Or.inr ⟨g, cap, cur, hv, Nat.le_trans hb h1, h2⟩
theorem OwnS.nil (base : Nat) (W : World) : OwnS base W (.slice none 0 0) [] := ⟨World.ownsRow_nil _ _ _ _, fun s h => by simp at h⟩
theorem names_len (Fs : List Fd) : (namesF Fs).length = Fs.length := by simp [namesF]
theorem good_len {Fs : List Fd} {rd : ByteArray → List ByteArray} {R : List ByteArray} (h : Good (namesF Fs) rd R) : R.length ≤ Fs.length := by
  have := List.Nodup.length_le_of_subset h.nodup h.sub
  rwa [names_len] at this

/-- WHAT l3Row GIVES -/
def RowOf (x : Sh) (Ms : List Md) (R : List ByteArray) : Prop :=
  Good (namesF x.fields) (readsOf x.kind Ms) R ∧ R.length ≤ x.fields.length ∧ (R.length = x.fields.length ↔ shapeRowB Ms x = true)
theorem RowOf.mk' {x : Sh} {Ms : List Md} {R : List ByteArray} {n : Nat} (hg : Good (namesF x.fields) (readsOf x.kind Ms) R) (hn : x.fields.length ≤ n) (h : R.length = n ∨ Stuck (namesF x.fields) (readsOf x.kind Ms) R) : RowOf x Ms R := by
  have hl := good_len hg
  refine ⟨hg, hl, fun e => rowB_yes hg (by rw [names_len]; omega), fun hb => ?_⟩
  rcases h with h | h
  · omega
  · rcases Nat.lt_or_ge R.length x.fields.length with hlt | hge
    · unfold shapeRowB at hb
      rw [rowB_no h (by rw [names_len]; exact hlt)] at hb; cases hb
    · omega
end Go.Proofs.Ytlnlodleokobeaa


