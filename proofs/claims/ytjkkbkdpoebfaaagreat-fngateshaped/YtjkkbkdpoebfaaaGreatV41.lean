import Derived.Test.YtjkkbkdpoebfaaaGreatV25
namespace Go.Proofs.YtjkkbkdpoebfaaaGreat
open Go.RowKit Go.Deep

theorem allS_stop {L : List ByteArray} {p : ByteArray → Bool} {k : Nat} (h : k < L.length) (hp : p L[k] = false) : L.all p = false := by
  rw [List.all_eq_false]; exact ⟨L[k], List.getElem_mem h, by simp [hp]⟩
theorem allS_end {L : List ByteArray} {p : ByteArray → Bool} (h : ∀ i (h : i < L.length), p L[i] = true) : L.all p = true := by
  rw [List.all_eq_true]
  intro x hx
  obtain ⟨i, hi, rfl⟩ := List.getElem_of_mem hx
  exact h i hi

set_option maxHeartbeats 1000000 in
theorem allAmong_any (rv wv : Value) (row L : List ByteArray) (w : World) (hr : StrsAt w rv row) (hv : StrsAt w wv L) :
    Calls Tryz.prog 99 #[rv, wv] w fun e w' => e = .returned (.bool (L.all (hasB row))) ∧ w' = w := by
  have HR := hide hr
  obtain ⟨ra, rn, rcap, rfl⟩ := hr.form
  clear hr
  rcases hv with ⟨a, cap, rfl, rfl⟩ | ⟨b, off, cap, rfl, hne, hm, hbw, hc, hsz⟩
  · go_enter Tryz.func99, Tryz.ntmps99
    go_wp2
    go_loop [9] (fun i => i = .int .i64 0) (fun _ => 0)
    case atStart => rfl
    case round =>
      subst hrel
      go_wp2
      go_ret
      exact ⟨rfl, rfl⟩
  · unfold maxLen at hm
    go_enter Tryz.func99, Tryz.ntmps99
    go_wp2
    go_loop [9] (fun i => ∃ k : Nat, i = .int .i64 k ∧ k ≤ L.length ∧ ∀ i (h : i < L.length), i < k → hasB row L[i] = true) (fun i => L.length - (intOf i).toNat)
    case atStart => exact ⟨0, rfl, by omega, fun i _ h => by omega⟩
    case round =>
      obtain ⟨k, rfl, hk, hall⟩ := hrel
      have HA := hide hall
      clear hall
      by_cases hlt : k < L.length
      · have hck := hc k hlt
        go_wp2_with fail
        refine (contains_any _ row L[k] _ HR.out).mono ?_
        rintro e w1 ⟨rfl, rfl⟩
        cases hh : hasB row L[k] with
        | false =>
          go_wp2
          go_ret
          exact ⟨ret_bool (allS_stop hlt hh).symm, rfl⟩
        | true =>
          go_wp2
          go_round
          case rel => exact ⟨k + 1, by go_num, by omega, fun i h h' => by
                        by_cases e : i = k
                        · subst e; exact hh
                        · exact HA.out i h (by omega)⟩
          case measure => simp [intOf]; omega
      · go_wp2
        go_ret
        exact ⟨ret_bool (allS_end fun i h => HA.out i h (by omega)).symm, rfl⟩

/-- what a mend reads, the first j of the two -/
def rdP (m : Md) (j : Nat) : List ByteArray := if j = 0 then [] else if j = 1 then (if m.wh.toList.isEmpty = true then [] else [m.wh]) else rdOf m
theorem rdP_len (m : Md) (j : Nat) : (rdP m j).length ≤ 2 := by
  unfold rdP rdOf
  split
  · simp
  · split
    · split <;> simp
    · rw [List.length_append]; split <;> split <;> simp
theorem reads_cons (kind field : ByteArray) (m : Md) (Ms : List Md) : readsOf kind (m :: Ms) field = (if forB kind field m = true then rdOf m else []) ++ readsOf kind Ms field := by
  unfold readsOf
  by_cases h : forB kind field m = true <;> simp [h]
theorem reads_len (kind field : ByteArray) (Ms : List Md) : (readsOf kind Ms field).length ≤ 2 * Ms.length := by
  induction Ms with
  | nil => simp [readsOf_nil]
  | cons m Ms ih =>
    have h2 : (rdOf m).length ≤ 2 := by unfold rdOf; rw [List.length_append]; split <;> split <;> simp
    rw [reads_cons, List.length_append, List.length_cons]
    by_cases h : forB kind field m = true
    · rw [if_pos h]; omega
    · rw [if_neg h]; simp only [List.length_nil]; omega
theorem own_eq {base : Nat} {W : World} {v : Value} {R R' : List ByteArray} (h : OwnS base W v R) (e : R = R') : OwnS base W v R' := e ▸ h
theorem reads_take {kind field : ByteArray} {Ms : List Md} {k : Nat} (hk : k < Ms.length) : readsOf kind (Ms.take (k + 1)) field = readsOf kind (Ms.take k) field ++ (if forB kind field Ms[k] = true then rdOf Ms[k] else []) := by
  rw [List.take_succ_eq_append_getElem hk, readsOf_snoc]

theorem index_zero (W : World) (x y : ByteArray) : (Instr.index 142 (.agg #[.string x, .string y]) (.int .i64 0)).run Tryz.prog W = .ok (.string x) W := by
  kernel_rfl
theorem index_one (W : World) (x y : ByteArray) : (Instr.index 142 (.agg #[.string x, .string y]) (.int .i64 1)).run Tryz.prog W = .ok (.string y) W := by
  kernel_rfl

set_option maxRecDepth 20000 in
set_option maxHeartbeats 4000000 in
theorem readFor_any (lo : Nat) (v : Value) (Ms : List Md) (kind field : ByteArray) (w : World) (hv : MdsAt lo w v Ms) (hn : Ms.length ≤ 1048576) :
    Calls Tryz.prog 77 #[.string kind, .string field, v] w fun e w' => ∃ v', e = .returned v' ∧ Below w.heap.size w w' ∧ OwnS w.heap.size w' v' (readsOf kind Ms field) := by
  obtain ⟨i0, hi, hz0, hz1, hz2⟩ := info_parts Tryz.info9
  have HI := hide (And.intro hi (And.intro hz0 (And.intro hz1 hz2)))
  clear hi hz0 hz1 hz2
  have HV := hide hv
  obtain ⟨a, cap, rfl⟩ := hv.form
  clear hv
  go_enter Tryz.func77, Tryz.ntmps77
  go_wp2
  go_loopw [7, 14] (fun r i wr => ∃ k : Nat, i = .int .i64 k ∧ k ≤ Ms.length ∧ Below w.heap.size w wr ∧ OwnS w.heap.size wr r (readsOf kind (Ms.take k) field)) (fun _ i _ => Ms.length - (intOf i).toNat)
  case atStart => exact ⟨0, rfl, by omega, Below.refl _ _, OwnS.nil _ _⟩
  case round =>
    obtain ⟨k, rfl, hk, hb, hown⟩ := hrel
    have HB := hide hb
    have HO := hide hown
    obtain ⟨ra, rcap, rfl⟩ := hown.form
    clear hb hown
    by_cases hlt : k < Ms.length
    · obtain ⟨b, off, rfl, hbw, hc⟩ := HV.out.full' (by omega)
      obtain ⟨hsz, hcell⟩ := hc k hlt
      obtain ⟨c0, c1, c2, c3, c4, c5⟩ := hcell.below HB.out hbw
      clear hcell hc
      have HST := hide (reads_take (kind := kind) (field := field) hlt)
      cases hk1 : (Ms[k].kind.toList == kind.toList) with
      | false =>
        have HF : Hid (readsOf kind (Ms.take (k + 1)) field = readsOf kind (Ms.take k) field) := by unfold Hid; rw [HST.out, if_neg (by unfold forB; simp [hk1]), List.append_nil]
        go_wp2
        go_roundw
        case rel => exact ⟨k + 1, by go_num, by omega, HB.out.alloc HB.out.size _, by rw [HF.out]; exact HO.out.below ((Below.refl _ _).alloc (Nat.le_refl _) _)⟩
        case measure => simp [intOf]; omega
      | true =>
        cases hf1 : (Ms[k].field.toList == field.toList) with
        | false =>
          have HF : Hid (readsOf kind (Ms.take (k + 1)) field = readsOf kind (Ms.take k) field) := by unfold Hid; rw [HST.out, if_neg (by unfold forB; simp [hf1]), List.append_nil]
          go_wp2
          go_roundw
          case rel => exact ⟨k + 1, by go_num, by omega, HB.out.alloc HB.out.size _, by rw [HF.out]; exact HO.out.below ((Below.refl _ _).alloc (Nat.le_refl _) _)⟩
          case measure => simp [intOf]; omega
        | true =>
          have HF : Hid (readsOf kind (Ms.take (k + 1)) field = readsOf kind (Ms.take k) field ++ rdOf Ms[k]) := by unfold Hid; rw [HST.out, if_pos (by unfold forB; simp [hk1, hf1])]
          have HRL : Hid ((readsOf kind (Ms.take k) field).length ≤ 2097152) := by
            have := reads_len kind field (Ms.take k)
            rw [List.length_take] at this
            unfold Hid; omega
          clear HST
          generalize readsOf kind (Ms.take k) field = R0 at *
          have HSZ := hide hsz
          go_wp2
          generalize hW2 : wr.alloc _ = W2
          have HB2 : Hid (Below w.heap.size w W2) := by rw [← hW2]; exact HB.out.alloc HB.out.size _
          have HO2 : Hid (OwnS w.heap.size W2 (.slice ra R0.length rcap) R0) := by rw [← hW2]; exact HO.out.below ((Below.refl _ _).alloc (Nat.le_refl _) _)
          clear hW2 HB HO c0 c1 c2 c3 c4 c5 hk1 hf1
          have hx0 := fun W => index_zero W Ms[k].wh Ms[k].fr
          have hx1 := fun W => index_one W Ms[k].wh Ms[k].fr
          go_loopw [7, 33] (fun r i wr => ∃ j : Nat, j ≤ 2 ∧ i = .int .i64 j ∧ Below w.heap.size w wr ∧ OwnS w.heap.size wr r (R0 ++ rdP Ms[k] j)) (fun _ i _ => 2 - (intOf i).toNat)
          case atStart => exact ⟨0, by omega, rfl, HB2.out, by unfold rdP; simpa using HO2.out⟩
          case round =>
            obtain ⟨j, hj2, rfl, hbj, hoj⟩ := hrel
            have HBj := hide hbj
            have HOj := hide hoj
            have HLj : Hid ((R0 ++ rdP Ms[k] j).length ≤ 2097154) := by
              have := rdP_len Ms[k] j
              have := HRL.out
              unfold Hid; rw [List.length_append]; omega
            obtain ⟨ja, jcap, rfl⟩ := hoj.form
            clear hbj hoj HB2 HO2
            by_cases hj0 : j = 0
            · subst hj0
              cases hwe : Ms[k].wh.toList.isEmpty with
              | true =>
                go_wp2
                go_roundw
                case rel => exact ⟨1, by omega, rfl, HBj.out, own_eq HOj.out (by unfold rdP; simp [hwe])⟩
                case measure => simp [intOf]
              | false =>
                generalize hR1 : R0 ++ rdP Ms[k] 0 = R1 at *
                go_wp2_with (at_builtin; refine wpList_append_lies _ rfl (.tmp 38) (.tmp 40) 25 rfl w.heap.size 9 i0 (.string ⟨#[]⟩) 1 16 Tryz.underlying25 HI.out.1 HI.out.2.1 HI.out.2.2.1 HI.out.2.2.2 rfl (by decide) _ _ _ rfl (HOj.out.below ((Below.refl _ _).alloc (Nat.le_refl _) _)).row ⟨wr.heap.size, 0, none⟩ 1 1 [.string Ms[k].wh] rfl rfl (cell_new1 _ _ _ _ rfl) (one_oneCell _) (by decide) (by have := HLj.out; unfold maxLen; omega) (by have := HLj.out; omega) (by have := HBj.out.size; simp; omega) _ rfl ?_; intro g cap1 w3 hown3 hgrow3 hat3 hlt3)
                go_roundw
                case rel => exact ⟨1, by omega, rfl, (HBj.out.alloc HBj.out.size _).trans ((HOj.out.below ((Below.refl _ _).alloc (Nat.le_refl _) _)).grown hgrow3 (by have := HBj.out.size; simp; omega)), own_eq (HOj.out.snoc hown3 HSZ.out.s2) (by rw [← hR1]; unfold rdP rdOf; simp [hwe])⟩
                case measure => simp [intOf]
            · by_cases hj1 : j = 1
              · subst hj1
                cases hfe : Ms[k].fr.toList.isEmpty with
                | true =>
                  go_wp2
                  go_roundw
                  case rel => exact ⟨2, by omega, rfl, HBj.out, own_eq HOj.out (by unfold rdP rdOf; simp [hfe])⟩
                  case measure => simp [intOf]
                | false =>
                  generalize hR1 : R0 ++ rdP Ms[k] 1 = R1 at *
                  go_wp2_with (at_builtin; refine wpList_append_lies _ rfl (.tmp 38) (.tmp 40) 25 rfl w.heap.size 9 i0 (.string ⟨#[]⟩) 1 16 Tryz.underlying25 HI.out.1 HI.out.2.1 HI.out.2.2.1 HI.out.2.2.2 rfl (by decide) _ _ _ rfl (HOj.out.below ((Below.refl _ _).alloc (Nat.le_refl _) _)).row ⟨wr.heap.size, 0, none⟩ 1 1 [.string Ms[k].fr] rfl rfl (cell_new1 _ _ _ _ rfl) (one_oneCell _) (by decide) (by have := HLj.out; unfold maxLen; omega) (by have := HLj.out; omega) (by have := HBj.out.size; simp; omega) _ rfl ?_; intro g cap1 w3 hown3 hgrow3 hat3 hlt3)
                  go_roundw
                  case rel => exact ⟨2, by omega, rfl, (HBj.out.alloc HBj.out.size _).trans ((HOj.out.below ((Below.refl _ _).alloc (Nat.le_refl _) _)).grown hgrow3 (by have := HBj.out.size; simp; omega)), own_eq (HOj.out.snoc hown3 HSZ.out.s5) (by rw [← hR1]; unfold rdP rdOf; simp [hfe])⟩
                  case measure => simp [intOf]
              · have e : j = 2 := by omega
                subst e
                go_wp2
                exact ⟨⟨k + 1, by go_num, by omega, HBj.out, own_eq HOj.out (by rw [HF.out]; rfl)⟩, by simp [intOf]; omega⟩
    · have e : k = Ms.length := by omega
      subst e
      have HE : Hid (readsOf kind (Ms.take Ms.length) field = readsOf kind Ms field) := by unfold Hid; rw [List.take_length]
      go_wp2
      go_ret
      exact ⟨_, rfl, HB.out, own_eq HO.out HE.out⟩

set_option maxHeartbeats 1000000 in
theorem rowClos_any (lo : Nat) (mv : Value) (Ms : List Md) (kind name : ByteArray) (B1 B2 : Nat) (w : World) (h1 : w.cell? ⟨B1, 0, none⟩ = some (.string kind)) (h2 : w.cell? ⟨B2, 0, none⟩ = some mv) (hv : MdsAt lo w mv Ms) (hn : Ms.length ≤ 1048576) :
    Calls Tryz.prog 76 #[.string name, .pointer (some ⟨B1, 0, none⟩), .pointer (some ⟨B2, 0, none⟩)] w fun e w' => ∃ v', e = .returned v' ∧ Below w.heap.size w w' ∧ OwnS w.heap.size w' v' (readsOf kind Ms name) := by
  have HV := hide hv
  obtain ⟨a, cap, rfl⟩ := hv.form
  clear hv
  go_enter Tryz.func76, Tryz.ntmps76
  go_wp2_with fail
  refine (readFor_any lo _ Ms kind name _ HV.out hn).mono ?_
  rintro e w1 ⟨v1, rfl, hb1, ho1⟩
  have HB1 := hide hb1
  have HO1 := hide ho1
  clear hb1 ho1
  go_wp2
  go_ret
  exact ⟨_, rfl, HB1.out, HO1.out⟩
end Go.Proofs.YtjkkbkdpoebfaaaGreat
namespace Go.Proofs.YtjkkbkdpoebfaaaGreat
open Go.RowKit Go.Deep

def sliceLen : Value → Nat
  | .slice _ n _ => n
  | _ => 0
/-- none of the first k of N can be put behind the row -/
def NoneN (N : List ByteArray) (rd : ByteArray → List ByteArray) (R : List ByteArray) (k : Nat) : Prop := ∀ i (h : i < N.length), i < k → N[i] ∈ R ∨ ¬ ∀ r ∈ rd N[i], r ∈ R
theorem NoneN.stuck {N : List ByteArray} {rd : ByteArray → List ByteArray} {R : List ByteArray} {k : Nat} (h : NoneN N rd R k) (hk : N.length ≤ k) : Stuck N rd R := by
  intro x hx hn
  obtain ⟨i, hi, rfl⟩ := List.getElem_of_mem hx
  rcases h i hi (by omega) with h1 | h1
  · exact absurd h1 hn
  · exact h1
theorem NoneN.succ {N : List ByteArray} {rd : ByteArray → List ByteArray} {R : List ByteArray} {k : Nat} (h : NoneN N rd R k) (hk : k < N.length) (hx : N[k] ∈ R ∨ ¬ ∀ r ∈ rd N[k], r ∈ R) : NoneN N rd R (k + 1) := by
  intro i hi hik
  by_cases e : i = k
  · subst e; exact hx
  · exact h i hi (by omega)
theorem goodN_len {N : List ByteArray} {rd : ByteArray → List ByteArray} {R : List ByteArray} (h : Good N rd R) : R.length ≤ N.length := List.Nodup.length_le_of_subset h.nodup h.sub

/-- how far a pass has come: nothing is new, or the row has grown -/
def Pass (N : List ByteArray) (rd : ByteArray → List ByteArray) (R R' : List ByteArray) (k : Nat) : Prop := (R' = R ∧ NoneN N rd R k) ∨ R.length < R'.length

/-- WHAT gateRow TELLS -/
def GRow (base : Nat) (N : List ByteArray) (rd : ByteArray → List ByteArray) (e : Ending) (w' : World) : Prop :=
  (∃ v R, e = .returned (.tuple #[v, .bool true]) ∧ OwnS base w' v R ∧ Good N rd R ∧ N.length ≤ R.length) ∨
  (rowB N rd = false ∧ e = .returned (.tuple #[.slice none 0 0, .bool false]))

theorem OwnS.room {base : Nat} (W : World) (n g : Nat) (hg : W.heap.size = g) (hb : base ≤ g) (hn : n ≤ maxLen) : OwnS base (W.alloc (.cells (madeCells #[.string ⟨#[]⟩] n) 9)) (.slice (some ⟨g, 0, none⟩) 0 n) [] := by
  subst hg
  exact ⟨World.ownsRow_made (base := base) (e := 9) (size := 1) W _ n hb hn (by rw [size_madeCells, Nat.mul_one]), fun s h => by simp at h⟩

set_option maxRecDepth 20000 in
set_option maxHeartbeats 4000000 in
theorem gateRow_any (lo : Nat) (tv mv : Value) (N : List ByteArray) (Ms : List Md) (kind : ByteArray) (B1 B2 : Nat) (w : World) (ht : StrsAt w tv N) (hnn : N.length ≤ 1048576) (hb1 : B1 < w.heap.size) (hb2 : B2 < w.heap.size)
    (h1 : w.cell? ⟨B1, 0, none⟩ = some (.string kind)) (h2 : w.cell? ⟨B2, 0, none⟩ = some mv) (hv : MdsAt lo w mv Ms) (hn : Ms.length ≤ 1048576) :
    Calls Tryz.prog 75 #[tv, .func (.func 76) #[] #[.pointer (some ⟨B1, 0, none⟩), .pointer (some ⟨B2, 0, none⟩)]] w fun e w' => Below w.heap.size w w' ∧ GRow w.heap.size N (readsOf kind Ms) e w' := by
  obtain ⟨i0, hi, hz0, hz1, hz2⟩ := info_parts Tryz.info9
  have HT := hide ht
  have HV := hide hv
  have H1 := hide h1
  have H2 := hide h2
  obtain ⟨ta, tcap, rfl⟩ := ht.form_len
  clear ht hv h1 h2
  have hmk : ∀ u : World, (Instr.makeSlice 25 (.int .i64 0) (.int .i64 (N.length : Int))).run Tryz.prog u = .ok (.slice (some ⟨u.heap.size, 0, none⟩) 0 N.length) (u.alloc (.cells (madeCells #[.string ⟨#[]⟩] N.length) 9)) := fun u => by
    have h := run_make (P := Tryz.prog) u 25 9 i0 _ Tryz.underlying25 hi hz0 .i64 .i64 0 N.length (by omega) (by omega) (by rw [hz2]; omega) (by omega)
    have ec : (Value.string ⟨#[]⟩).cells = #[.string ⟨#[]⟩] := rfl
    rw [hz1, ec] at h
    simpa using h
  have HI := hide (And.intro hi (And.intro hz0 (And.intro hz1 hz2)))
  clear hi hz0 hz1 hz2
  go_enter Tryz.func75, Tryz.ntmps75
  go_wp2
  clear hmk
  go_loopw [6] (fun r wr => ∃ R : List ByteArray, OwnS w.heap.size wr r R ∧ Below w.heap.size w wr ∧ Good N (readsOf kind Ms) R) (fun r _ => N.length - sliceLen r)
  case atStart => exact ⟨[], OwnS.room w _ _ rfl (Nat.le_refl _) (by unfold maxLen; omega), (Below.refl _ _).alloc (Nat.le_refl _) _, Good.nil⟩
  case round =>
    obtain ⟨R, hown, hb, hgood⟩ := hrel
    have HO := hide hown
    have HB := hide hb
    have HG := hide hgood
    obtain ⟨ra, rcap, rfl⟩ := hown.form
    have hRl : R.length ≤ N.length := goodN_len hgood
    clear hown hb hgood
    by_cases hlt : R.length < N.length
    · go_wp2
      go_loopw [6, 22] (fun r i wr => ∃ (k : Nat) (R' : List ByteArray), i = .int .i64 k ∧ k ≤ N.length ∧ OwnS w.heap.size wr r R' ∧ Below w.heap.size w wr ∧ Good N (readsOf kind Ms) R' ∧ Pass N (readsOf kind Ms) R R' k) (fun _ i _ => N.length - (intOf i).toNat)
      case atStart => exact ⟨0, R, rfl, by omega, HO.out, HB.out, HG.out, Or.inl ⟨rfl, fun i _ h => by omega⟩⟩
      case round =>
        obtain ⟨k, R', rfl, hk, hown, hb, hgood, hpass⟩ := hrel
        have HO' := hide hown
        have HB' := hide hb
        have HG' := hide hgood
        have HP := hide hpass
        obtain ⟨ra', rcap', rfl⟩ := hown.form
        have hRl' : R'.length ≤ N.length := goodN_len hgood
        clear hown hb hgood hpass HO HB
        by_cases hkl : k < N.length
        · obtain ⟨tb, toff, htw, hta, hcN, hszN⟩ : ∃ tb toff, tb < w.heap.size ∧ ta = some ⟨tb, toff, none⟩ ∧ (∀ i (h : i < N.length), w.cell? ⟨tb, toff + i, none⟩ = some (.string N[i])) ∧ ∀ s ∈ N, s.size ≤ maxLen := by
            rcases HT.out with ⟨_, _, _, h⟩ | ⟨b, off, cap, h1, h2, h3, h4, h5, h6⟩
            · rw [h] at hkl; simp at hkl
            · injection h1 with e1 e2 e3; exact ⟨b, off, h4, e1, h5, h6⟩
          subst hta
          have ck : wr.cell? ⟨tb, toff + k, none⟩ = some (.string N[k]) := by rw [HB'.out.cell (p := ⟨tb, _, none⟩) htw]; exact hcN k hkl
          have HSZ : Hid (N[k].size ≤ maxLen) := hszN _ (List.getElem_mem hkl)
          clear hcN hszN
          go_wp2_with fail
          refine (contains_any _ R' N[k] _ HO'.out.strs).mono ?_
          rintro e w1 ⟨rfl, rfl⟩
          cases hh : hasB R' N[k] with
          | true =>
            have HNX : Hid (Pass N (readsOf kind Ms) R R' (k + 1)) := by
              rcases HP.out with ⟨e1, e2⟩ | h
              · subst e1; exact Or.inl ⟨rfl, e2.succ hkl (Or.inl (hasB_mem.1 hh))⟩
              · exact Or.inr h
            go_wp2
            go_roundw
            case rel => exact ⟨k + 1, R', by go_num, by omega, HO'.out, HB'.out, HG'.out, HNX.out⟩
            case measure => simp [intOf]; omega
          | false =>
            go_wp2_with fail
            refine (rowClos_any lo mv Ms kind N[k] B1 B2 _ (by rw [HB'.out.cell (p := ⟨B1, 0, none⟩) hb1]; exact H1.out) (by rw [HB'.out.cell (p := ⟨B2, 0, none⟩) hb2]; exact H2.out) (HV.out.below HB'.out) hn).mono ?_
            rintro e w2 ⟨v2, rfl, hbw2, ho2⟩
            have HO2 := hide (HO'.out.below hbw2)
            have HB2 : Hid (Below w.heap.size w w2) := HB'.out.trans (hbw2.mono HB'.out.size)
            have HS2 := hide ho2.strs
            obtain ⟨va, vcap, rfl⟩ := ho2.form
            clear hbw2 ho2 ck
            go_wp2_with fail
            refine (allAmong_any _ _ R' (readsOf kind Ms N[k]) _ HO2.out.strs HS2.out).mono ?_
            rintro e w3 ⟨rfl, rfl⟩
            cases hrd : (readsOf kind Ms N[k]).all (hasB R') with
            | false =>
              have HNX : Hid (Pass N (readsOf kind Ms) R R' (k + 1)) := by
                rcases HP.out with ⟨e1, e2⟩ | h
                · subst e1; exact Or.inl ⟨rfl, e2.succ hkl (Or.inr fun h => by have := ready_all.2 h; unfold readyB at this; rw [this] at hrd; cases hrd)⟩
                · exact Or.inr h
              go_wp2
              go_roundw
              case rel => exact ⟨k + 1, R', by go_num, by omega, HO2.out, HB2.out, HG'.out, HNX.out⟩
              case measure => simp [intOf]; omega
            | true =>
              have HG1 : Hid (Good N (readsOf kind Ms) (R' ++ [N[k]])) := Good.snoc HG'.out (List.getElem_mem hkl) (hasB_not hh) (ready_all.1 hrd)
              have HNX : Hid (Pass N (readsOf kind Ms) R (R' ++ [N[k]]) (k + 1)) := by
                refine Or.inr ?_
                rw [List.length_append]
                rcases HP.out with ⟨e1, _⟩ | h
                · subst e1; simp
                · simp; omega
              clear hh hrd
              go_wp2_with (at_builtin; refine wpList_append_lies _ rfl (.tmp 37) (.tmp 39) 25 rfl w.heap.size 9 i0 (.string ⟨#[]⟩) 1 16 Tryz.underlying25 HI.out.1 HI.out.2.1 HI.out.2.2.1 HI.out.2.2.2 rfl (by decide) _ _ _ rfl (HO2.out.below ((Below.refl _ _).alloc (Nat.le_refl _) _)).row ⟨w3.heap.size, 0, none⟩ 1 1 [.string N[k]] rfl rfl (cell_new1 _ _ _ _ rfl) (one_oneCell _) (by decide) (by unfold maxLen; omega) (by omega) (by have := HB2.out.size; simp; omega) _ rfl ?_; intro g cap1 w4 hown4 hgrow4 hat4 hlt4)
              go_roundw
              case rel => exact ⟨k + 1, R' ++ [N[k]], by go_num, by omega, HO2.out.snoc hown4 HSZ.out, (HB2.out.alloc HB2.out.size _).trans ((HO2.out.below ((Below.refl _ _).alloc (Nat.le_refl _) _)).grown hgrow4 (by have := HB2.out.size; simp; omega)), HG1.out, HNX.out⟩
              case measure => simp [intOf]; omega
        · by_cases hgr : (R'.length : Int) = (R.length : Int)
          · have HNO : Hid (rowB N (readsOf kind Ms) = false) := by
              rcases HP.out with ⟨e1, e2⟩ | h
              · subst e1; exact rowB_no (e2.stuck (by omega)) hlt
              · omega
            go_wp2
            refine bodyPost_ret (v := .tuple #[.slice none 0 0, .bool false]) (by simp [results, Tryz.results75, go_sem]) rfl ⟨HB'.out, Or.inr ⟨HNO.out, rfl⟩⟩
          · have hgt : R.length < R'.length := by
              rcases HP.out with ⟨e1, e2⟩ | h
              · subst e1; omega
              · exact h
            go_wp2
            exact ⟨⟨R', HO'.out, HB'.out, HG'.out⟩, by simp only [sliceLen]; omega⟩
    · go_wp2
      refine bodyPost_ret (v := .tuple #[.slice ra R.length rcap, .bool true]) (by simp [results, Tryz.results75, go_sem]) rfl ⟨HB.out, Or.inl ⟨_, R, rfl, HO.out, HG.out, by omega⟩⟩

theorem Filled.below {wr w1 : World} {B : Nat} {L : List ByteArray} {k : Nat} (h : Filled wr B L k) (hb : Below wr.heap.size wr w1) : Filled w1 B L k := World.rowIs.of_block h (hb.block B (World.rowIs.lt h))

set_option maxRecDepth 20000 in
set_option maxHeartbeats 4000000 in
theorem fieldRow_any (lo lm : Nat) (fv mv : Value) (x : Sh) (Ms : List Md) (w0 w : World) (hf : FdsAt lo w0 fv x.fields) (h0 : Below w0.heap.size w0 w) (hv : MdsAt lm w mv Ms) (hn : x.fields.length ≤ 1048576) (hm : Ms.length ≤ 1048576) :
    Calls Tryz.prog 43 #[.agg #[.string x.kind, fv], mv] w fun e w' => Below w.heap.size w w' ∧ GRow w.heap.size (namesF x.fields) (readsOf x.kind Ms) e w' := by
  have HF := hide hf
  have H0 := hide h0
  have HV := hide hv
  obtain ⟨a, cap, rfl⟩ := hf.form
  obtain ⟨ma, mcap, rfl⟩ := hv.form
  clear hf hv h0
  have hNl := names_len x.fields
  have hmk : ∀ u : World, (Instr.makeSlice 25 (.int .i64 (x.fields.length : Int)) (.int .i64 (x.fields.length : Int))).run Tryz.prog u = .ok (.slice (some ⟨u.heap.size, 0, none⟩) x.fields.length x.fields.length) (u.alloc (.cells (madeCells #[.string ⟨#[]⟩] x.fields.length) 9)) :=
    fun u => run_make_row' 25 9 (.string ⟨#[]⟩) 16 Tryz.underlying25 Tryz.info9 rfl .i64 .i64 x.fields.length (by omega) (by omega) u
  go_enter Tryz.func43, Tryz.ntmps43
  go_wp2
  clear hmk
  generalize hWa : w.alloc _ = Wa
  have hza : Wa.heap.size = w.heap.size + 1 := by rw [← hWa]; simp
  have HBa : Hid (Below w.heap.size w Wa) := by rw [← hWa]; exact one_al _ _
  have FS : Hid (Box Wa w.heap.size #[.string x.kind, .slice a x.fields.length cap]) := by rw [← hWa]; exact Box.new _ _ _ _ rfl
  clear hWa
  generalize hWb : Wa.alloc _ = Wb
  have hzb : Wb.heap.size = w.heap.size + 1 + 1 := by rw [← hWb]; simp [hza]
  have hbb : Below Wa.heap.size Wa Wb := by rw [← hWb]; exact one_al _ _
  have HBb : Hid (Below w.heap.size w Wb) := HBa.out.trans (hbb.mono (by omega))
  have FS := hide (FS.out.on hbb)
  have FM : Hid (Box Wb (w.heap.size + 1) #[.slice ma Ms.length mcap]) := by rw [← hWb]; exact Box.new _ _ _ _ hza
  clear hWb hbb HBa hza
  have HMD : Hid (Filled (Wb.alloc (.cells (madeCells #[.string ⟨#[]⟩] x.fields.length) 9)) (w.heap.size + 1 + 1) (namesF x.fields) 0) := by
    have := World.rowIs_made Wb (.string ⟨#[]⟩) x.fields.length 9
    rw [hzb, ← hNl] at this
    unfold Hid Filled; rw [hNl] at *
    exact this
  have HSZ : Hid (∀ s ∈ namesF x.fields, s.size ≤ maxLen) := fun s hs => by
    obtain ⟨i, hi, rfl⟩ := mem_namesF.1 hs
    obtain ⟨_, _, _, _, hc⟩ := HF.out.full' (by omega)
    exact (hc i hi).1.s0
  go_loopw [16] (fun i wr => ∃ k : Nat, i = .int .i64 k ∧ k ≤ x.fields.length ∧ Below (w.heap.size + 1 + 1) Wb wr ∧ Filled wr (w.heap.size + 1 + 1) (namesF x.fields) k) (fun i _ => x.fields.length - (intOf i).toNat)
  case atStart => exact ⟨0, rfl, by omega, (Below.refl _ _).alloc (by omega) _, HMD.out⟩
  case round =>
    obtain ⟨k, rfl, hk, hb, hfl⟩ := hrel
    have HB := hide hb
    have HFL := hide hfl
    have HBw : Hid (Below w.heap.size w wr) := HBb.out.trans (hb.mono (by omega))
    have hBl : w.heap.size + 1 + 1 < wr.heap.size := World.rowIs.lt hfl
    clear hb hfl HMD
    by_cases hlt : k < x.fields.length
    · obtain ⟨b, off, rfl, hbw, hc⟩ := HF.out.full' (by omega)
      obtain ⟨_, wv, hcell, hwd⟩ := hc k hlt
      obtain ⟨wa, wn, wcap, rfl⟩ := hwd.form
      obtain ⟨c0, c1, c2, c3, c4, c5, c6, c7, c8, c9, c10⟩ := hcell.below (H0.out.trans (HBw.out.mono H0.out.size)) hbw
      have hbr : b < wr.heap.size := Nat.lt_of_lt_of_le hbw (Nat.le_trans H0.out.size HBw.out.size)
      obtain ⟨ov, hold⟩ := HFL.out.old (by omega : k < (namesF x.fields).length)
      have hfr := HFL.out.frozen
      have HNX : ∀ o, Hid (Filled ((wr.setCell ⟨w.heap.size + 1 + 1, k, none⟩ (.string x.fields[k].nm)).alloc o) (w.heap.size + 1 + 1) (namesF x.fields) (k + 1)) := fun o => by
        have := HFL.out.step (by omega : k < (namesF x.fields).length)
        have e : (namesF x.fields)[k]'(by omega) = x.fields[k].nm := by simp [namesF]
        rw [e] at this
        exact this.below ((Below.refl _ _).alloc (Nat.le_refl _) o)
      clear hcell hc hwd
      go_wp2
      go_roundw
      case rel => exact ⟨k + 1, by go_num, by omega, (HB.out.setCell (Nat.le_refl _) _).alloc (by simp [World.setCell]; omega) _, (HNX _).out⟩
      case measure => simp [intOf]; omega
    · have HST : Hid (StrsAt wr (.slice (some ⟨w.heap.size + 1 + 1, 0, none⟩) x.fields.length x.fields.length) (namesF x.fields)) := by
        by_cases hz : x.fields.length = 0
        · exact Or.inl ⟨_, _, by rw [hz], List.length_eq_zero_iff.1 (by omega)⟩
        · have := (HFL.out.done (by omega) (by intro e; rw [e] at hNl; simp only [List.length_nil] at hNl; omega) (by unfold maxLen; omega) HSZ.out).at
          rw [hNl] at this
          exact this
      have hl0 : w.heap.size < Wb.heap.size := by omega
      have FS := hide (FS.out.below HB.out (by omega))
      have FM := hide (FM.out.below HB.out (by omega))
      go_wp2_with fail
      refine (gateRow_any lm _ _ (namesF x.fields) Ms x.kind w.heap.size (w.heap.size + 1) _ HST.out (by omega) (by omega) (by omega) (FS.out.cell 0) (FM.out.cell 0) (HV.out.below HBw.out) hm).mono ?_
      rintro e w2 ⟨hb2, hgr⟩
      have HB2 : Hid (Below w.heap.size w w2) := HBw.out.trans (hb2.mono HBw.out.size)
      have hle : w.heap.size ≤ wr.heap.size := HBw.out.size
      clear hb2
      rcases hgr with ⟨v2, R, rfl, ho, hg, hl⟩ | ⟨hno, rfl⟩
      · have HO := hide (ho.mono hle)
        have HG := hide hg
        obtain ⟨va, vcap, rfl⟩ := ho.form
        clear ho hg
        go_wp2
        refine bodyPost_ret (v := .tuple #[.slice va R.length vcap, .bool true]) (by simp [results, Tryz.results43, go_sem]) rfl ⟨HB2.out, Or.inl ⟨_, R, rfl, HO.out, HG.out, hl⟩⟩
      · have HN := hide hno
        clear hno
        go_wp2
        refine bodyPost_ret (v := .tuple #[.slice none 0 0, .bool false]) (by simp [results, Tryz.results43, go_sem]) rfl ⟨HB2.out, Or.inr ⟨HN.out, rfl⟩⟩
end Go.Proofs.YtjkkbkdpoebfaaaGreat
