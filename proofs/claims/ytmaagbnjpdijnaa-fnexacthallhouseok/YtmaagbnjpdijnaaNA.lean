import Derived.Test.YtmaagbnjpdijnaaP1
import Derived.Deep.AppendLies
namespace Go.Proofs.Ytmaagbnjpdijnaa
open Go.RowKit Go.Deep

/-- THE SIX CELLS OF A MEND, from place o of block b on. -/
structure MdCells (w : World) (b o : Nat) (m : Md) : Prop where
  c0 : w.cell? ⟨b, o, none⟩ = some (.string m.kind)
  c1 : w.cell? ⟨b, o + 1, none⟩ = some (.string m.field)
  c2 : w.cell? ⟨b, o + 2, none⟩ = some (.string m.wh)
  c3 : w.cell? ⟨b, o + 3, none⟩ = some (.string m.is)
  c4 : w.cell? ⟨b, o + 4, none⟩ = some (.string m.put)
  c5 : w.cell? ⟨b, o + 5, none⟩ = some (.string m.fr)
structure MdSize (m : Md) : Prop where
  s0 : m.kind.size ≤ maxLen
  s1 : m.field.size ≤ maxLen
  s2 : m.wh.size ≤ maxLen
  s3 : m.is.size ≤ maxLen
  s4 : m.put.size ≤ maxLen
  s5 : m.fr.size ≤ maxLen
theorem MdCells.below {w w' : World} {b o : Nat} {m : Md} (h : MdCells w b o m) (hb : Below w.heap.size w w') (hlt : b < w.heap.size) : MdCells w' b o m := by
  have e : ∀ o, w'.cell? ⟨b, o, none⟩ = w.cell? ⟨b, o, none⟩ := fun o => hb.cell (p := ⟨b, o, none⟩) hlt
  exact ⟨by rw [e]; exact h.c0, by rw [e]; exact h.c1, by rw [e]; exact h.c2, by rw [e]; exact h.c3, by rw [e]; exact h.c4, by rw [e]; exact h.c5⟩
/-- A []GateMend THAT HOLDS Ms; its cells lie from block lo on. -/
def MdsAt (lo : Nat) (w : World) (v : Value) (Ms : List Md) : Prop :=
  (∃ (a : Option Addr) (cap : Nat), v = .slice a 0 cap ∧ Ms = []) ∨
  ∃ (b off cap : Nat), v = .slice (some ⟨b, off, none⟩) Ms.length cap ∧ Ms ≠ [] ∧ Ms.length ≤ maxLen ∧ b < w.heap.size ∧ lo ≤ b ∧ Ms.length ≤ cap ∧
    ∀ i (h : i < Ms.length), MdSize Ms[i] ∧ MdCells w b (off + i * 6) Ms[i]
theorem MdsAt.below {lo : Nat} {w w' : World} {v : Value} {Ms : List Md} (h : MdsAt lo w v Ms) (hb : Below w.heap.size w w') : MdsAt lo w' v Ms := by
  rcases h with h | ⟨b, off, cap, h1, h2, h3, h4, h5, h6, h7⟩
  · exact Or.inl h
  · refine Or.inr ⟨b, off, cap, h1, h2, h3, Nat.lt_of_lt_of_le h4 hb.size, h5, h6, fun i hi => ?_⟩
    obtain ⟨hs, hc⟩ := h7 i hi
    exact ⟨hs, hc.below hb h4⟩
theorem MdsAt.mono {lo lo' : Nat} {w : World} {v : Value} {Ms : List Md} (h : MdsAt lo w v Ms) (hl : lo' ≤ lo) : MdsAt lo' w v Ms := by
  rcases h with h | ⟨b, off, cap, h1, h2, h3, h4, h5, h6, h7⟩
  · exact Or.inl h
  · exact Or.inr ⟨b, off, cap, h1, h2, h3, h4, Nat.le_trans hl h5, h6, h7⟩
theorem MdsAt.form {lo : Nat} {w : World} {v : Value} {Ms : List Md} (h : MdsAt lo w v Ms) : ∃ a cap, v = .slice a Ms.length cap := by
  rcases h with ⟨a, cap, h, rfl⟩ | ⟨b, off, cap, h, _⟩
  · exact ⟨a, cap, h⟩
  · exact ⟨_, cap, h⟩
theorem MdsAt.full {lo : Nat} {w : World} {v : Value} {Ms : List Md} (h : MdsAt lo w v Ms) (hne : Ms ≠ []) : ∃ (b off cap : Nat), v = .slice (some ⟨b, off, none⟩) Ms.length cap ∧ Ms.length ≤ maxLen ∧ b < w.heap.size ∧ Ms.length ≤ cap ∧
    ∀ i (h : i < Ms.length), MdSize Ms[i] ∧ MdCells w b (off + i * 6) Ms[i] := by
  rcases h with ⟨_, _, _, h⟩ | ⟨b, off, cap, h1, _, h3, h4, _, h6, h7⟩
  · exact absurd h hne
  · exact ⟨b, off, cap, h1, h3, h4, h6, h7⟩
theorem MdsAt.full' {lo : Nat} {w : World} {a : Option Addr} {n cap : Nat} {Ms : List Md} (h : MdsAt lo w (.slice a n cap) Ms) (hL : 0 < Ms.length) :
    ∃ b off, a = some ⟨b, off, none⟩ ∧ b < w.heap.size ∧ ∀ i (h : i < Ms.length), MdSize Ms[i] ∧ MdCells w b (off + i * 6) Ms[i] := by
  rcases h with ⟨a', cap', h, rfl⟩ | ⟨b', off', cap', h1, h2, h3, h4, h5, h6, h7⟩
  · simp at hL
  · injection h1 with e1 e2 e3
    exact ⟨b', off', e1, h4, h7⟩

abbrev Md.agg (m : Md) : Value := .agg #[.string m.kind, .string m.field, .string m.wh, .string m.is, .string m.put, .string m.fr]

set_option maxHeartbeats 1000000 in
theorem eqMend_same (k f h i p r : ByteArray) (w : World) :
    Calls Try.prog 67 #[.agg #[.string k, .string f, .string h, .string i, .string p, .string r], .agg #[.string k, .string f, .string h, .string i, .string p, .string r]] w
      fun e w' => e = .returned (.bool true) ∧ Below w.heap.size w w' := by
  go_enter Try.func67, Try.ntmps67
  go_wp2
  go_ret
  exact ⟨rfl, ((Below.refl _ _).alloc (Nat.le_refl _) _).alloc (by simp) _⟩

set_option maxHeartbeats 1000000 in
theorem eqMds_same (lo lo' : Nat) (v v' : Value) (Ms : List Md) (w : World) (hv : MdsAt lo w v Ms) (hv' : MdsAt lo' w v' Ms) :
    Calls Try.prog 33 #[v, v'] w fun e w' => e = .returned (.bool true) ∧ Below w.heap.size w w' := by
  by_cases hL : Ms = []
  · subst hL
    obtain ⟨a, cap, rfl⟩ := hv.form
    obtain ⟨a', cap', rfl⟩ := hv'.form
    clear hv hv'
    go_enter Try.func33, Try.ntmps33
    go_wp2
    go_loop [5] (fun i => i = .int .i64 0) (fun _ => 0)
    case atStart => rfl
    case round =>
      subst hrel
      go_wp2
      go_ret
      exact ⟨rfl, Below.refl _ _⟩
  · obtain ⟨b, off, cap, rfl, hm, hbw, _, hc⟩ := hv.full hL
    obtain ⟨b', off', cap', rfl, _, hbw', _, hc'⟩ := hv'.full hL
    clear hv hv'
    unfold maxLen at hm
    go_enter Try.func33, Try.ntmps33
    go_wp2
    go_loopw [5] (fun i wr => ∃ k : Nat, i = .int .i64 k ∧ k ≤ Ms.length ∧ Below w.heap.size w wr) (fun i _ => Ms.length - (intOf i).toNat)
    case atStart => exact ⟨0, rfl, by omega, Below.refl _ _⟩
    case round =>
      obtain ⟨k, rfl, hk, hb⟩ := hrel
      by_cases hlt : k < Ms.length
      · obtain ⟨_, hcell⟩ := hc k hlt
        obtain ⟨_, hcell'⟩ := hc' k hlt
        obtain ⟨c0, c1, c2, c3, c4, c5⟩ := hcell.below hb hbw
        obtain ⟨d0, d1, d2, d3, d4, d5⟩ := hcell'.below hb hbw'
        clear hcell hcell'
        have HB := hide hb
        clear hb
        go_wp2
        go_region_with (go_at_call 67; refine (eqMend_same _ _ _ _ _ _ _).mono ?_; rintro e w1 ⟨rfl, hb1⟩; have hB : Hid (Below w.heap.size w w1) := (HB.out.drew).trans (hb1.mono HB.out.size); clear hb1)
        all_goals go_wp2
        all_goals go_roundw
        all_goals first
          | (case rel => exact ⟨k + 1, by go_num, by omega, hB.out⟩)
          | (case measure => simp [intOf]; omega)
      · go_wp2
        go_ret
        exact ⟨rfl, hb⟩
end Go.Proofs.Ytmaagbnjpdijnaa

namespace Go.Proofs.Ytmaagbnjpdijnaa
open Go.RowKit Go.Deep

/-- a number that tells a place, or that there is none -/
def placeI (Fs : List Fd) (s : ByteArray) : Int := if plOf Fs s < Fs.length then (plOf Fs s : Int) else -1
theorem placeI_yes {Fs : List Fd} {s : ByteArray} {k : Nat} (hk : k < Fs.length) (h : (Fs[k].nm.toList == s.toList) = true) (hall : ∀ i (h : i < Fs.length), i < k → (Fs[i].nm.toList == s.toList) = false) : placeI Fs s = k := by
  unfold placeI; rw [plOf_at hk h hall, if_pos hk]
theorem placeI_no {Fs : List Fd} {s : ByteArray} (hall : ∀ i (h : i < Fs.length), (Fs[i].nm.toList == s.toList) = false) : placeI Fs s = -1 := by
  unfold placeI; rw [plOf_no hall, if_neg (Nat.lt_irrefl _)]
theorem placeI_lt {Fs : List Fd} {s : ByteArray} (h : plOf Fs s < Fs.length) : placeI Fs s = plOf Fs s := if_pos h
theorem placeI_ge {Fs : List Fd} {s : ByteArray} (h : ¬ plOf Fs s < Fs.length) : placeI Fs s = -1 := if_neg h

end Go.Proofs.Ytmaagbnjpdijnaa

namespace Go.Proofs.Ytmaagbnjpdijnaa
open Go.RowKit Go.Deep

theorem hasB_mem {L : List ByteArray} {s : ByteArray} : hasB L s = true ↔ s ∈ L := by
  unfold hasB
  rw [List.any_eq_true]
  constructor
  · rintro ⟨x, hx, h⟩; rw [bytes_eq] at h; subst h; exact hx
  · exact fun h => ⟨s, h, bytes_refl _⟩
theorem hasB_not {L : List ByteArray} {s : ByteArray} (h : hasB L s = false) : s ∉ L := fun hm => by rw [hasB_mem.2 hm] at h; cases h
/-- all that the mends of a field read is in a row -/
def readyB (Ms : List Md) (kind field : ByteArray) (row : List ByteArray) : Bool := (readsOf kind Ms field).all (hasB row)
theorem ready_all {Ms : List Md} {kind field : ByteArray} {row : List ByteArray} : readyB Ms kind field row = true ↔ ∀ r ∈ readsOf kind Ms field, r ∈ row := by
  unfold readyB
  rw [List.all_eq_true]
  exact ⟨fun h r hr => hasB_mem.1 (h r hr), fun h r hr => hasB_mem.2 (h r hr)⟩
/-- .. of one mend -/
def rdy1 (kind field : ByteArray) (row : List ByteArray) (m : Md) : Bool := !forB kind field m || ((m.wh.toList.isEmpty || hasB row m.wh) && (m.fr.toList.isEmpty || hasB row m.fr))
theorem ready_of {Ms : List Md} {kind field : ByteArray} {row : List ByteArray} (h : ∀ i (h : i < Ms.length), rdy1 kind field row Ms[i] = true) : readyB Ms kind field row = true := by
  rw [ready_all]
  intro r hr
  obtain ⟨m, hm, hf, hrd⟩ := mem_readsOf.1 hr
  obtain ⟨i, hi, rfl⟩ := List.getElem_of_mem hm
  have := h i hi
  unfold rdy1 at this
  rw [hf] at this
  simp only [Bool.not_true, Bool.false_or, Bool.and_eq_true, Bool.or_eq_true] at this
  unfold rdOf at hrd
  rcases List.mem_append.1 hrd with h1 | h1
  · by_cases he : Ms[i].wh.toList.isEmpty = true
    · rw [if_pos he] at h1; cases h1
    · rw [if_neg he] at h1
      rw [List.mem_singleton.1 h1]
      rcases this.1 with h2 | h2
      · exact absurd h2 he
      · exact hasB_mem.1 h2
  · by_cases he : Ms[i].fr.toList.isEmpty = true
    · rw [if_pos he] at h1; cases h1
    · rw [if_neg he] at h1
      rw [List.mem_singleton.1 h1]
      rcases this.2 with h2 | h2
      · exact absurd h2 he
      · exact hasB_mem.1 h2
theorem ready_not {Ms : List Md} {kind field : ByteArray} {row : List ByteArray} {i : Nat} (hi : i < Ms.length) (h : rdy1 kind field row Ms[i] = false) : readyB Ms kind field row = false := by
  cases hr : readyB Ms kind field row with
  | false => rfl
  | true =>
    rw [ready_all] at hr
    have hf : forB kind field Ms[i] = true := by
      cases hf : forB kind field Ms[i] with
      | true => rfl
      | false => unfold rdy1 at h; rw [hf] at h; cases h
    have key : ∀ r ∈ rdOf Ms[i], hasB row r = true := fun r hrr => hasB_mem.2 (hr r (mem_readsOf.2 ⟨Ms[i], List.getElem_mem hi, hf, hrr⟩))
    have hx : rdy1 kind field row Ms[i] = true := by
      unfold rdy1
      simp only [hf, Bool.not_true, Bool.false_or, Bool.and_eq_true, Bool.or_eq_true]
      refine ⟨?_, ?_⟩
      · cases hw : Ms[i].wh.toList.isEmpty with
        | true => exact Or.inl rfl
        | false => exact Or.inr (key _ (rd_wh hw))
      · cases hw : Ms[i].fr.toList.isEmpty with
        | true => exact Or.inl rfl
        | false => exact Or.inr (key _ (rd_fr hw))
    rw [hx] at h; cases h

end Go.Proofs.Ytmaagbnjpdijnaa

namespace Go.Proofs.Ytmaagbnjpdijnaa
open Go.RowKit Go.Deep

/-- A []string THAT THE CALL MADE ITSELF: its block lies from base on, with room behind. -/
structure OwnS (base : Nat) (W : World) (v : Value) (R : List ByteArray) : Prop where
  row : W.ownsRow base 9 1 v R.length (R.map Value.string)
  sz : ∀ s ∈ R, s.size ≤ maxLen
theorem OwnS.form {base : Nat} {W : World} {v : Value} {R : List ByteArray} (h : OwnS base W v R) : ∃ a cap, v = .slice a R.length cap := by
  rcases h.row.2 with ⟨hv, hn⟩ | ⟨g, cap, cur, hv, _⟩
  · rw [hn]; exact ⟨_, _, hv⟩
  · exact ⟨_, _, hv⟩
theorem OwnS.below {base : Nat} {W W' : World} {v : Value} {R : List ByteArray} (h : OwnS base W v R) (hb : Below W.heap.size W W') : OwnS base W' v R := by
  refine ⟨⟨h.row.1, ?_⟩, h.sz⟩
  rcases h.row.2 with hv | ⟨g, cap, cur, hv, h1, h2, h3⟩
  · exact Or.inl hv
  · have hg : g < W.heap.size := by
      rcases Nat.lt_or_ge g W.heap.size with h | h
      · exact h
      · rw [Array.getElem?_eq_none h] at h2; cases h2
    exact Or.inr ⟨g, cap, cur, hv, h1, by rw [hb.block g hg]; exact h2, h3⟩
theorem OwnS.strs {base : Nat} {W : World} {v : Value} {R : List ByteArray} (h : OwnS base W v R) : StrsAt W v R := by
  rcases h.row.2 with ⟨hv, hn⟩ | ⟨g, cap, cur, hv, h1, h2, h3, h4, h5, h6⟩
  · exact Or.inl ⟨none, 0, hv, List.length_eq_zero_iff.1 hn⟩
  · by_cases hR : R = []
    · subst hR; exact Or.inl ⟨_, _, hv, rfl⟩
    · have hg : g < W.heap.size := by
        rcases Nat.lt_or_ge g W.heap.size with h | h
        · exact h
        · rw [Array.getElem?_eq_none h] at h2; cases h2
      refine Or.inr ⟨g, 0, cap, hv, hR, Nat.le_trans h3 h4, hg, fun i hi => ?_, h.sz⟩
      rw [Nat.zero_add, cell_of_row W g i cur 9 (0, 0) h2]
      have : (cur.toList.take (R.length * 1))[i]? = (R.map Value.string)[i]? := by rw [h6]
      rw [List.getElem?_take_of_lt (by omega)] at this
      simpa [hi] using this
theorem OwnS.mono {base base' : Nat} {W : World} {v : Value} {R : List ByteArray} (h : OwnS base W v R) (hb : base' ≤ base) : OwnS base' W v R := by
  refine ⟨⟨h.row.1, ?_⟩, h.sz⟩
  rcases h.row.2 with hv | ⟨g, cap, cur, hv, h1, h2⟩
  · exact Or.inl hv
  · exact Or.inr ⟨g, cap, cur, hv, Nat.le_trans hb h1, h2⟩
theorem OwnS.nil (base : Nat) (W : World) : OwnS base W (.slice none 0 0) [] := ⟨World.ownsRow_nil _ _ _ _, fun s h => by simp at h⟩
theorem OwnS.made {base : Nat} (W : World) (g : Nat) (hg : W.heap.size = g) (hb : base ≤ g) : OwnS base (W.alloc (.cells #[] 9)) (.slice (some ⟨g, 0, none⟩) 0 0) [] := by
  subst hg
  exact ⟨World.ownsRow_made (base := base) (e := 9) (size := 1) W #[] 0 hb (Nat.zero_le _) (by simp), fun s h => by simp at h⟩
theorem OwnS.grown {base : Nat} {W w' : World} {v : Value} {R : List ByteArray} (h : OwnS base W v R) (hg : W.grownBy w' v.ownBlock) (hb : base ≤ W.heap.size) : Below base W w' := by
  refine ⟨hg.os, hg.tape, hg.output, hg.size, fun k hk => hg.block k (by omega) ?_⟩
  rcases h.row.2 with ⟨hv, _⟩ | ⟨g, cap, cur, hv, h1, _⟩
  · rw [hv]; intro e; cases e
  · rw [hv]; intro e
    have : k = g := by simpa [Value.ownBlock] using e
    omega
theorem OwnS.snoc {base : Nat} {W w' : World} {v v' : Value} {R : List ByteArray} {s : ByteArray} (h : OwnS base W v R) (hown : w'.ownsRow base 9 1 v' (R.length + 1) (R.map Value.string ++ [.string s])) (hs : s.size ≤ maxLen) : OwnS base w' v' (R ++ [s]) := by
  refine ⟨by rw [List.length_append, List.map_append]; exact hown, fun t ht => ?_⟩
  rcases List.mem_append.1 ht with h1 | h1
  · exact h.sz t h1
  · rw [List.mem_singleton.1 h1]; exact hs
theorem cell_new1 (X : World) (g : Nat) (u : Value) (t : TypeId) (hg : X.heap.size = g) : ∀ j x, [u][j]? = some x → (X.alloc (.cells #[u] t)).cell? ((⟨g, 0, none⟩ : Addr).add j) = some x := by
  subst hg
  intro j x hj
  rw [Go.WideShapes.add_plain, Nat.zero_add]
  cases j with
  | zero => simp at hj; subst hj; simp
  | succ j => simp at hj
theorem one_oneCell (s : ByteArray) : ∀ u ∈ [Value.string s], u.oneCell' = true := fun u hu => by rw [List.mem_singleton.1 hu]; rfl

/-- none of the first k can be put behind the row -/
def NoneYet (Fs : List Fd) (rd : ByteArray → List ByteArray) (R : List ByteArray) (k : Nat) : Prop := ∀ i (h : i < Fs.length), i < k → Fs[i].nm ∈ R ∨ ¬ ∀ r ∈ rd Fs[i].nm, r ∈ R
theorem NoneYet.stuck {Fs : List Fd} {rd : ByteArray → List ByteArray} {R : List ByteArray} {k : Nat} (h : NoneYet Fs rd R k) (hk : Fs.length ≤ k) : Stuck (namesF Fs) rd R := by
  intro x hx hn
  obtain ⟨i, hi, rfl⟩ := mem_namesF.1 hx
  rcases h i hi (by omega) with h1 | h1
  · exact absurd h1 hn
  · exact h1
theorem NoneYet.succ {Fs : List Fd} {rd : ByteArray → List ByteArray} {R : List ByteArray} {k : Nat} (h : NoneYet Fs rd R k) (hk : k < Fs.length) (hx : Fs[k].nm ∈ R ∨ ¬ ∀ r ∈ rd Fs[k].nm, r ∈ R) : NoneYet Fs rd R (k + 1) := by
  intro i hi hik
  by_cases e : i = k
  · subst e; exact hx
  · exact h i hi (by omega)
theorem names_len (Fs : List Fd) : (namesF Fs).length = Fs.length := by simp [namesF]
theorem good_len {Fs : List Fd} {rd : ByteArray → List ByteArray} {R : List ByteArray} (h : Good (namesF Fs) rd R) : R.length ≤ Fs.length := by
  have := List.Nodup.length_le_of_subset h.nodup h.sub
  rwa [names_len] at this

/-- WHAT l3Row GIVES -/
def RowOf (x : Sh) (Ms : List Md) (R : List ByteArray) : Prop :=
  Good (namesF x.fields) (readsOf x.kind Ms) R ∧ R.length ≤ x.fields.length ∧ (R.length = x.fields.length ↔ shapeRowB Ms x = true)
theorem RowOf.mk' {x : Sh} {Ms : List Md} {R : List ByteArray} {n : Nat} (hg : Good (namesF x.fields) (readsOf x.kind Ms) R) (hn : x.fields.length ≤ n) (h : R.length = n ∨ Stuck (namesF x.fields) (readsOf x.kind Ms) R) : RowOf x Ms R := by
  have hl := good_len hg
  refine ⟨hg, hl, fun e => rowB_yes hg (by rw [names_len]; omega), fun hb => ?_⟩
  rcases h with h | h
  · omega
  · rcases Nat.lt_or_ge R.length x.fields.length with hlt | hge
    · unfold shapeRowB at hb
      rw [rowB_no h (by rw [names_len]; exact hlt)] at hb; cases hb
    · omega
end Go.Proofs.Ytmaagbnjpdijnaa


