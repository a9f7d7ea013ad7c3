import Derived.Test.YtlnlodleokobeaaGreatAN11
import Derived.Test.YtlnlodleokobeaaGreatADA
import Derived.Test.YtlnlodleokobeaaGreatANA
import Derived.Test.YtlnlodleokobeaaGreatAP1
import Derived.Test.YtlnlodleokobeaaGreatASA
import Derived.Test.YtlnlodleokobeaaGreatAKA
import Derived.Test.YtlnlodleokobeaaGreatAK1
import Derived.Test.YtlnlodleokobeaaGreatAN2
import Derived.Test.YtlnlodleokobeaaGreatAWB
import Derived.Test.YtlnlodleokobeaaGreatAS11
import Derived.Test.YtlnlodleokobeaaGreatAC2
import Derived.Test.YtlnlodleokobeaaGreatAM2
import Derived.Test.YtlnlodleokobeaaGreatAWA
namespace Go.Proofs.YtlnlodleokobeaaGreat
open Go.RowKit Go.Deep

def sliceLen : Value → Nat
  | .slice _ n _ => n
  | _ => 0
/-- none of the first k of N can be put behind the row -/
def NoneN (N : List ByteArray) (rd : ByteArray → List ByteArray) (R : List ByteArray) (k : Nat) : Prop := ∀ i (h : i < N.length), i < k → N[i] ∈ R ∨ ¬ ∀ r ∈ rd N[i], r ∈ R
theorem NoneN.stuck {N : List ByteArray} {rd : ByteArray → List ByteArray} {R : List ByteArray} {k : Nat} (h : NoneN N rd R k) (hk : N.length ≤ k) : Stuck N rd R := by
  intro x hx hn
  obtain ⟨i, hi, rfl⟩ := List.getElem_of_mem hx
  rcases h i hi (by omega) with h1 | h1
  · exact absurd h1 hn
  · exact h1
theorem NoneN.succ {N : List ByteArray} {rd : ByteArray → List ByteArray} {R : List ByteArray} {k : Nat} (h : NoneN N rd R k) (hk : k < N.length) (hx : N[k] ∈ R ∨ ¬ ∀ r ∈ rd N[k], r ∈ R) : NoneN N rd R (k + 1) := by
  intro i hi hik
  by_cases e : i = k
  · subst e; exact hx
  · exact h i hi (by omega)
theorem goodN_len {N : List ByteArray} {rd : ByteArray → List ByteArray} {R : List ByteArray} (h : Good N rd R) : R.length ≤ N.length := List.Nodup.length_le_of_subset h.nodup h.sub

/-- how far a pass has come: nothing is new, or the row has grown -/
def Pass (N : List ByteArray) (rd : ByteArray → List ByteArray) (R R' : List ByteArray) (k : Nat) : Prop := (R' = R ∧ NoneN N rd R k) ∨ R.length < R'.length

/-- WHAT gateRow TELLS -/
def GRow (base : Nat) (N : List ByteArray) (rd : ByteArray → List ByteArray) (e : Ending) (w' : World) : Prop :=
  (∃ v R, e = .returned (.tuple #[v, .bool true]) ∧ OwnS base w' v R ∧ Good N rd R ∧ N.length ≤ R.length) ∨
  (rowB N rd = false ∧ e = .returned (.tuple #[.slice none 0 0, .bool false]))

theorem OwnS.room {base : Nat} (W : World) (n g : Nat) (hg : W.heap.size = g) (hb : base ≤ g) (hn : n ≤ maxLen) : OwnS base (W.alloc (.cells (madeCells #[.string ⟨#[]⟩] n) 9)) (.slice (some ⟨g, 0, none⟩) 0 n) [] := by
  subst hg
  exact ⟨World.ownsRow_made (base := base) (e := 9) (size := 1) W _ n hb hn (by rw [size_madeCells, Nat.mul_one]), fun s h => by simp at h⟩

set_option maxRecDepth 20000 in
set_option maxHeartbeats 4000000 in
theorem gateRow_any (lo : Nat) (tv mv : Value) (N : List ByteArray) (Ms : List Md) (kind : ByteArray) (B1 B2 : Nat) (w : World) (ht : StrsAt w tv N) (hnn : N.length ≤ 1048576) (hb1 : B1 < w.heap.size) (hb2 : B2 < w.heap.size)
    (h1 : w.cell? ⟨B1, 0, none⟩ = some (.string kind)) (h2 : w.cell? ⟨B2, 0, none⟩ = some mv) (hv : MdsAt lo w mv Ms) (hn : Ms.length ≤ 1048576) :
    Calls Tryz.prog 211 #[tv, .func (.func 212) #[] #[.pointer (some ⟨B1, 0, none⟩), .pointer (some ⟨B2, 0, none⟩)]] w fun e w' => Below w.heap.size w w' ∧ GRow w.heap.size N (readsOf kind Ms) e w' := by
  obtain ⟨i0, hi, hz0, hz1, hz2⟩ := info_parts Tryz.info9
  have HT := hide ht
  have HV := hide hv
  have H1 := hide h1
  have H2 := hide h2
  obtain ⟨ta, tcap, rfl⟩ := ht.form_len
  clear ht hv h1 h2
  have hmk : ∀ u : World, (Instr.makeSlice 120 (.int .i64 0) (.int .i64 (N.length : Int))).run Tryz.prog u = .ok (.slice (some ⟨u.heap.size, 0, none⟩) 0 N.length) (u.alloc (.cells (madeCells #[.string ⟨#[]⟩] N.length) 9)) := fun u => by
    have h := run_make (P := Tryz.prog) u 120 9 i0 _ Tryz.underlying120 hi hz0 .i64 .i64 0 N.length (by omega) (by omega) (by rw [hz2]; omega) (by omega)
    have ec : (Value.string ⟨#[]⟩).cells = #[.string ⟨#[]⟩] := rfl
    rw [hz1, ec] at h
    simpa using h
  have HI := hide (And.intro hi (And.intro hz0 (And.intro hz1 hz2)))
  clear hi hz0 hz1 hz2
  go_enter Tryz.func211, Tryz.ntmps211
  go_wp2
  clear hmk
  go_loopw [6] (fun r wr => ∃ R : List ByteArray, OwnS w.heap.size wr r R ∧ Below w.heap.size w wr ∧ Good N (readsOf kind Ms) R) (fun r _ => N.length - sliceLen r)
  case atStart => exact ⟨[], OwnS.room w _ _ rfl (Nat.le_refl _) (by unfold maxLen; omega), (Below.refl _ _).alloc (Nat.le_refl _) _, Good.nil⟩
  case round =>
    obtain ⟨R, hown, hb, hgood⟩ := hrel
    have HO := hide hown
    have HB := hide hb
    have HG := hide hgood
    obtain ⟨ra, rcap, rfl⟩ := hown.form
    have hRl : R.length ≤ N.length := goodN_len hgood
    clear hown hb hgood
    by_cases hlt : R.length < N.length
    · go_wp2
      go_loopw [6, 22] (fun r i wr => ∃ (k : Nat) (R' : List ByteArray), i = .int .i64 k ∧ k ≤ N.length ∧ OwnS w.heap.size wr r R' ∧ Below w.heap.size w wr ∧ Good N (readsOf kind Ms) R' ∧ Pass N (readsOf kind Ms) R R' k) (fun _ i _ => N.length - (intOf i).toNat)
      case atStart => exact ⟨0, R, rfl, by omega, HO.out, HB.out, HG.out, Or.inl ⟨rfl, fun i _ h => by omega⟩⟩
      case round =>
        obtain ⟨k, R', rfl, hk, hown, hb, hgood, hpass⟩ := hrel
        have HO' := hide hown
        have HB' := hide hb
        have HG' := hide hgood
        have HP := hide hpass
        obtain ⟨ra', rcap', rfl⟩ := hown.form
        have hRl' : R'.length ≤ N.length := goodN_len hgood
        clear hown hb hgood hpass HO HB
        by_cases hkl : k < N.length
        · obtain ⟨tb, toff, htw, hta, hcN, hszN⟩ : ∃ tb toff, tb < w.heap.size ∧ ta = some ⟨tb, toff, none⟩ ∧ (∀ i (h : i < N.length), w.cell? ⟨tb, toff + i, none⟩ = some (.string N[i])) ∧ ∀ s ∈ N, s.size ≤ maxLen := by
            rcases HT.out with ⟨_, _, _, h⟩ | ⟨b, off, cap, h1, h2, h3, h4, h5, h6⟩
            · rw [h] at hkl; simp at hkl
            · injection h1 with e1 e2 e3; exact ⟨b, off, h4, e1, h5, h6⟩
          subst hta
          have ck : wr.cell? ⟨tb, toff + k, none⟩ = some (.string N[k]) := by rw [HB'.out.cell (p := ⟨tb, _, none⟩) htw]; exact hcN k hkl
          have HSZ : Hid (N[k].size ≤ maxLen) := hszN _ (List.getElem_mem hkl)
          clear hcN hszN
          go_wp2_with fail
          refine (contains_any _ R' N[k] _ HO'.out.strs).mono ?_
          rintro e w1 ⟨rfl, rfl⟩
          cases hh : hasB R' N[k] with
          | true =>
            have HNX : Hid (Pass N (readsOf kind Ms) R R' (k + 1)) := by
              rcases HP.out with ⟨e1, e2⟩ | h
              · subst e1; exact Or.inl ⟨rfl, e2.succ hkl (Or.inl (hasB_mem.1 hh))⟩
              · exact Or.inr h
            go_wp2
            go_roundw
            case rel => exact ⟨k + 1, R', by go_num, by omega, HO'.out, HB'.out, HG'.out, HNX.out⟩
            case measure => simp [intOf]; omega
          | false =>
            go_wp2_with fail
            refine (rowClos_any lo mv Ms kind N[k] B1 B2 _ (by rw [HB'.out.cell (p := ⟨B1, 0, none⟩) hb1]; exact H1.out) (by rw [HB'.out.cell (p := ⟨B2, 0, none⟩) hb2]; exact H2.out) (HV.out.below HB'.out) hn).mono ?_
            rintro e w2 ⟨v2, rfl, hbw2, ho2⟩
            have HO2 := hide (HO'.out.below hbw2)
            have HB2 : Hid (Below w.heap.size w w2) := HB'.out.trans (hbw2.mono HB'.out.size)
            have HS2 := hide ho2.strs
            obtain ⟨va, vcap, rfl⟩ := ho2.form
            clear hbw2 ho2 ck
            go_wp2_with fail
            refine (allAmong_any _ _ R' (readsOf kind Ms N[k]) _ HO2.out.strs HS2.out).mono ?_
            rintro e w3 ⟨rfl, rfl⟩
            cases hrd : (readsOf kind Ms N[k]).all (hasB R') with
            | false =>
              have HNX : Hid (Pass N (readsOf kind Ms) R R' (k + 1)) := by
                rcases HP.out with ⟨e1, e2⟩ | h
                · subst e1; exact Or.inl ⟨rfl, e2.succ hkl (Or.inr fun h => by have := ready_all.2 h; unfold readyB at this; rw [this] at hrd; cases hrd)⟩
                · exact Or.inr h
              go_wp2
              go_roundw
              case rel => exact ⟨k + 1, R', by go_num, by omega, HO2.out, HB2.out, HG'.out, HNX.out⟩
              case measure => simp [intOf]; omega
            | true =>
              have HG1 : Hid (Good N (readsOf kind Ms) (R' ++ [N[k]])) := Good.snoc HG'.out (List.getElem_mem hkl) (hasB_not hh) (ready_all.1 hrd)
              have HNX : Hid (Pass N (readsOf kind Ms) R (R' ++ [N[k]]) (k + 1)) := by
                refine Or.inr ?_
                rw [List.length_append]
                rcases HP.out with ⟨e1, _⟩ | h
                · subst e1; simp
                · simp; omega
              clear hh hrd
              go_wp2_with (at_builtin; refine wpList_append_lies _ rfl (.tmp 37) (.tmp 39) 120 rfl w.heap.size 9 i0 (.string ⟨#[]⟩) 1 16 Tryz.underlying120 HI.out.1 HI.out.2.1 HI.out.2.2.1 HI.out.2.2.2 rfl (by decide) _ _ _ rfl (HO2.out.below ((Below.refl _ _).alloc (Nat.le_refl _) _)).row ⟨w3.heap.size, 0, none⟩ 1 1 [.string N[k]] rfl rfl (cell_new1 _ _ _ _ rfl) (one_oneCell _) (by decide) (by unfold maxLen; omega) (by omega) (by have := HB2.out.size; simp; omega) _ rfl ?_; intro g cap1 w4 hown4 hgrow4 hat4 hlt4)
              go_roundw
              case rel => exact ⟨k + 1, R' ++ [N[k]], by go_num, by omega, HO2.out.snoc hown4 HSZ.out, (HB2.out.alloc HB2.out.size _).trans ((HO2.out.below ((Below.refl _ _).alloc (Nat.le_refl _) _)).grown hgrow4 (by have := HB2.out.size; simp; omega)), HG1.out, HNX.out⟩
              case measure => simp [intOf]; omega
        · by_cases hgr : (R'.length : Int) = (R.length : Int)
          · have HNO : Hid (rowB N (readsOf kind Ms) = false) := by
              rcases HP.out with ⟨e1, e2⟩ | h
              · subst e1; exact rowB_no (e2.stuck (by omega)) hlt
              · omega
            go_wp2
            refine bodyPost_ret (v := .tuple #[.slice none 0 0, .bool false]) (by simp [results, Tryz.results211, go_sem]) rfl ⟨HB'.out, Or.inr ⟨HNO.out, rfl⟩⟩
          · have hgt : R.length < R'.length := by
              rcases HP.out with ⟨e1, e2⟩ | h
              · subst e1; omega
              · exact h
            go_wp2
            exact ⟨⟨R', HO'.out, HB'.out, HG'.out⟩, by simp only [sliceLen]; omega⟩
    · go_wp2
      refine bodyPost_ret (v := .tuple #[.slice ra R.length rcap, .bool true]) (by simp [results, Tryz.results211, go_sem]) rfl ⟨HB.out, Or.inl ⟨_, R, rfl, HO.out, HG.out, by omega⟩⟩

theorem Filled.below {wr w1 : World} {B : Nat} {L : List ByteArray} {k : Nat} (h : Filled wr B L k) (hb : Below wr.heap.size wr w1) : Filled w1 B L k := World.rowIs.of_block h (hb.block B (World.rowIs.lt h))

set_option maxRecDepth 20000 in
set_option maxHeartbeats 4000000 in
theorem fieldRow_any (lo lm : Nat) (fv mv : Value) (x : Sh) (Ms : List Md) (w0 w : World) (hf : FdsAt lo w0 fv x.fields) (h0 : Below w0.heap.size w0 w) (hv : MdsAt lm w mv Ms) (hn : x.fields.length ≤ 1048576) (hm : Ms.length ≤ 1048576) :
    Calls Tryz.prog 155 #[.agg #[.string x.kind, fv], mv] w fun e w' => Below w.heap.size w w' ∧ GRow w.heap.size (namesF x.fields) (readsOf x.kind Ms) e w' := by
  have HF := hide hf
  have H0 := hide h0
  have HV := hide hv
  obtain ⟨a, cap, rfl⟩ := hf.form
  obtain ⟨ma, mcap, rfl⟩ := hv.form
  clear hf hv h0
  have hNl := names_len x.fields
  have hmk : ∀ u : World, (Instr.makeSlice 120 (.int .i64 (x.fields.length : Int)) (.int .i64 (x.fields.length : Int))).run Tryz.prog u = .ok (.slice (some ⟨u.heap.size, 0, none⟩) x.fields.length x.fields.length) (u.alloc (.cells (madeCells #[.string ⟨#[]⟩] x.fields.length) 9)) :=
    fun u => run_make_row' 120 9 (.string ⟨#[]⟩) 16 Tryz.underlying120 Tryz.info9 rfl .i64 .i64 x.fields.length (by omega) (by omega) u
  go_enter Tryz.func155, Tryz.ntmps155
  go_wp2
  clear hmk
  generalize hWa : w.alloc _ = Wa
  have hza : Wa.heap.size = w.heap.size + 1 := by rw [← hWa]; simp
  have HBa : Hid (Below w.heap.size w Wa) := by rw [← hWa]; exact one_al _ _
  have FS : Hid (Box Wa w.heap.size #[.string x.kind, .slice a x.fields.length cap]) := by rw [← hWa]; exact Box.new _ _ _ _ rfl
  clear hWa
  generalize hWb : Wa.alloc _ = Wb
  have hzb : Wb.heap.size = w.heap.size + 1 + 1 := by rw [← hWb]; simp [hza]
  have hbb : Below Wa.heap.size Wa Wb := by rw [← hWb]; exact one_al _ _
  have HBb : Hid (Below w.heap.size w Wb) := HBa.out.trans (hbb.mono (by omega))
  have FS := hide (FS.out.on hbb)
  have FM : Hid (Box Wb (w.heap.size + 1) #[.slice ma Ms.length mcap]) := by rw [← hWb]; exact Box.new _ _ _ _ hza
  clear hWb hbb HBa hza
  have HMD : Hid (Filled (Wb.alloc (.cells (madeCells #[.string ⟨#[]⟩] x.fields.length) 9)) (w.heap.size + 1 + 1) (namesF x.fields) 0) := by
    have := World.rowIs_made Wb (.string ⟨#[]⟩) x.fields.length 9
    rw [hzb, ← hNl] at this
    unfold Hid Filled; rw [hNl] at *
    exact this
  have HSZ : Hid (∀ s ∈ namesF x.fields, s.size ≤ maxLen) := fun s hs => by
    obtain ⟨i, hi, rfl⟩ := mem_namesF.1 hs
    obtain ⟨_, _, _, _, hc⟩ := HF.out.full' (by omega)
    exact (hc i hi).1.s0
  go_loopw [16] (fun i wr => ∃ k : Nat, i = .int .i64 k ∧ k ≤ x.fields.length ∧ Below (w.heap.size + 1 + 1) Wb wr ∧ Filled wr (w.heap.size + 1 + 1) (namesF x.fields) k) (fun i _ => x.fields.length - (intOf i).toNat)
  case atStart => exact ⟨0, rfl, by omega, (Below.refl _ _).alloc (by omega) _, HMD.out⟩
  case round =>
    obtain ⟨k, rfl, hk, hb, hfl⟩ := hrel
    have HB := hide hb
    have HFL := hide hfl
    have HBw : Hid (Below w.heap.size w wr) := HBb.out.trans (hb.mono (by omega))
    have hBl : w.heap.size + 1 + 1 < wr.heap.size := World.rowIs.lt hfl
    clear hb hfl HMD
    by_cases hlt : k < x.fields.length
    · obtain ⟨b, off, rfl, hbw, hc⟩ := HF.out.full' (by omega)
      obtain ⟨_, wv, hcell, hwd⟩ := hc k hlt
      obtain ⟨wa, wn, wcap, rfl⟩ := hwd.form
      obtain ⟨c0, c1, c2, c3, c4, c5, c6, c7, c8, c9, c10⟩ := hcell.below (H0.out.trans (HBw.out.mono H0.out.size)) hbw
      have hbr : b < wr.heap.size := Nat.lt_of_lt_of_le hbw (Nat.le_trans H0.out.size HBw.out.size)
      obtain ⟨ov, hold⟩ := HFL.out.old (by omega : k < (namesF x.fields).length)
      have hfr := HFL.out.frozen
      have HNX : ∀ o, Hid (Filled ((wr.setCell ⟨w.heap.size + 1 + 1, k, none⟩ (.string x.fields[k].nm)).alloc o) (w.heap.size + 1 + 1) (namesF x.fields) (k + 1)) := fun o => by
        have := HFL.out.step (by omega : k < (namesF x.fields).length)
        have e : (namesF x.fields)[k]'(by omega) = x.fields[k].nm := by simp [namesF]
        rw [e] at this
        exact this.below ((Below.refl _ _).alloc (Nat.le_refl _) o)
      clear hcell hc hwd
      go_wp2
      go_roundw
      case rel => exact ⟨k + 1, by go_num, by omega, (HB.out.setCell (Nat.le_refl _) _).alloc (by simp [World.setCell]; omega) _, (HNX _).out⟩
      case measure => simp [intOf]; omega
    · have HST : Hid (StrsAt wr (.slice (some ⟨w.heap.size + 1 + 1, 0, none⟩) x.fields.length x.fields.length) (namesF x.fields)) := by
        by_cases hz : x.fields.length = 0
        · exact Or.inl ⟨_, _, by rw [hz], List.length_eq_zero_iff.1 (by omega)⟩
        · have := (HFL.out.done (by omega) (by intro e; rw [e] at hNl; simp only [List.length_nil] at hNl; omega) (by unfold maxLen; omega) HSZ.out).at
          rw [hNl] at this
          exact this
      have hl0 : w.heap.size < Wb.heap.size := by omega
      have FS := hide (FS.out.below HB.out (by omega))
      have FM := hide (FM.out.below HB.out (by omega))
      go_wp2_with fail
      refine (gateRow_any lm _ _ (namesF x.fields) Ms x.kind w.heap.size (w.heap.size + 1) _ HST.out (by omega) (by omega) (by omega) (FS.out.cell 0) (FM.out.cell 0) (HV.out.below HBw.out) hm).mono ?_
      rintro e w2 ⟨hb2, hgr⟩
      have HB2 : Hid (Below w.heap.size w w2) := HBw.out.trans (hb2.mono HBw.out.size)
      have hle : w.heap.size ≤ wr.heap.size := HBw.out.size
      clear hb2
      rcases hgr with ⟨v2, R, rfl, ho, hg, hl⟩ | ⟨hno, rfl⟩
      · have HO := hide (ho.mono hle)
        have HG := hide hg
        obtain ⟨va, vcap, rfl⟩ := ho.form
        clear ho hg
        go_wp2
        refine bodyPost_ret (v := .tuple #[.slice va R.length vcap, .bool true]) (by simp [results, Tryz.results155, go_sem]) rfl ⟨HB2.out, Or.inl ⟨_, R, rfl, HO.out, HG.out, hl⟩⟩
      · have HN := hide hno
        clear hno
        go_wp2
        refine bodyPost_ret (v := .tuple #[.slice none 0 0, .bool false]) (by simp [results, Tryz.results155, go_sem]) rfl ⟨HB2.out, Or.inr ⟨HN.out, rfl⟩⟩
end Go.Proofs.YtlnlodleokobeaaGreat

