import Derived.Test.YthfdfdlojfdckaaGreatVNA
import Derived.Test.YthfdfdlojfdckaaGreatVDA
import Derived.Test.YthfdfdlojfdckaaGreatVB1
import Derived.Test.YthfdfdlojfdckaaGreatVP1
import Derived.Test.YthfdfdlojfdckaaGreatVA1
namespace Go.Proofs.YthfdfdlojfdckaaGreat
open Go.RowKit Go.Deep

set_option maxRecDepth 20000 in
set_option maxHeartbeats 4000000 in
theorem l3Row_any (lo lm : Nat) (fv mv : Value) (x : Sh) (Ms : List Md) (w : World) (hf : FdsAt lo w fv x.fields) (hv : MdsAt lm w mv Ms) (hn : x.fields.length ≤ 1048576) :
    Calls Tryz.prog 129 #[.agg #[.string x.kind, fv], mv] w fun e w' => ∃ v R, e = .returned v ∧ Below w.heap.size w w' ∧ OwnS w.heap.size w' v R ∧ RowOf x Ms R := by
  obtain ⟨i0, hi, hz0, hz1, hz2⟩ := info_parts Tryz.info9
  have HF := hide hf
  have HV := hide hv
  obtain ⟨a, cap, rfl⟩ := hf.form
  obtain ⟨ma, mcap, rfl⟩ := hv.form
  clear hf hv
  have HW : ∀ o, Hid (Below w.heap.size w (w.alloc o)) := fun o => (Below.refl _ _).alloc (Nat.le_refl _) _
  go_enter Tryz.func129, Tryz.ntmps129
  go_wp2
  generalize hW0 : w.alloc _ = W0
  have hz0' : W0.heap.size = w.heap.size + 1 := by rw [← hW0]; simp
  have HB0 : Hid (Below w.heap.size w W0) := by rw [← hW0]; exact (HW _).out
  have g0 : ∀ i, W0.cell? ⟨w.heap.size, i, none⟩ = (#[.string x.kind, .slice a x.fields.length cap] : Array Value)[i]? := fun i => by rw [← hW0]; exact new_cell _ _ _ _ _ rfl
  clear hW0
  have HI := hide (And.intro hi (And.intro hz0 (And.intro hz1 hz2)))
  have HG0 := hide g0
  clear g0 hi hz0 hz1 hz2
  go_loopw [5, 6] (fun v i wr => ∃ (n : Nat) (R : List ByteArray), i = .int .i64 n ∧ n ≤ x.fields.length ∧ OwnS (w.heap.size + 1) wr v R ∧ Below (w.heap.size + 1) W0 wr ∧ Good (namesF x.fields) (readsOf x.kind Ms) R ∧ (R.length = n ∨ Stuck (namesF x.fields) (readsOf x.kind Ms) R)) (fun _ i _ => x.fields.length - (intOf i).toNat)
  case atStart => exact ⟨0, [], rfl, by omega, OwnS.made W0 _ hz0' (Nat.le_refl _), (Below.refl _ _).alloc (by omega) _, Good.nil, Or.inl rfl⟩
  case round =>
    obtain ⟨n, R, rfl, hnn, hown, hb, hgood, hcase⟩ := hrel
    have HO := hide hown
    have HB := hide hb
    have HGD := hide hgood
    have HC := hide hcase
    obtain ⟨va, vcap, rfl⟩ := hown.form
    have q1 : wr.cell? ⟨w.heap.size, 1, none⟩ = some (.slice a x.fields.length cap) := by rw [hb.cell (p := ⟨w.heap.size, 1, none⟩) (by simp)]; exact HG0.out 1
    clear hown hb hgood hcase
    by_cases hlt : n < x.fields.length
    · go_wp2
      go_loopw [5, 7] (fun v i wi => ∃ (k : Nat), v = .slice va R.length vcap ∧ i = .int .i64 k ∧ k ≤ x.fields.length ∧ OwnS (w.heap.size + 1) wi v R ∧ Below (w.heap.size + 1) W0 wi ∧ NoneYet x.fields (readsOf x.kind Ms) R k) (fun _ i _ => x.fields.length - (intOf i).toNat)
      case atStart => exact ⟨0, rfl, rfl, by omega, HO.out, HB.out, fun i _ h => by omega⟩
      case round =>
        obtain ⟨k, rfl, rfl, hk, hown, hb, hny⟩ := hrel
        have HOi := hide hown
        have HBi := hide hb
        have HN := hide hny
        have p0 : wr.cell? ⟨w.heap.size, 0, none⟩ = some (.string x.kind) := by rw [hb.cell (p := ⟨w.heap.size, 0, none⟩) (by simp)]; exact HG0.out 0
        have p1 : wr.cell? ⟨w.heap.size, 1, none⟩ = some (.slice a x.fields.length cap) := by rw [hb.cell (p := ⟨w.heap.size, 1, none⟩) (by simp)]; exact HG0.out 1
        have HBw : Hid (Below w.heap.size w wr) := HB0.out.trans (hb.mono (by omega))
        have hzr : w.heap.size + 1 ≤ wr.heap.size := by have := hb.size; omega
        clear hown hb hny q1
        by_cases hkl : k < x.fields.length
        · obtain ⟨fb, fo, rfl, hfb, hfc⟩ := HF.out.full' (by omega)
          obtain ⟨hfs, wv, hcell, _⟩ := hfc k hkl
          have c0 : wr.cell? ⟨fb, fo + k * 11, none⟩ = some (.string x.fields[k].nm) := by rw [HBw.out.cell (p := ⟨fb, _, none⟩) hfb]; exact hcell.c0
          have HSZ := hide hfs.s0
          clear hcell hfc hfs
          go_wp2_with fail
          refine (l1Has_any _ R x.fields[k].nm _ HOi.out.strs).mono ?_
          rintro e w1 ⟨rfl, rfl⟩
          cases hh : hasB R x.fields[k].nm with
          | true =>
            have HNX : Hid (NoneYet x.fields (readsOf x.kind Ms) R (k + 1)) := HN.out.succ hkl (Or.inl (hasB_mem.1 hh))
            go_wp2
            go_roundw
            case rel => exact ⟨k + 1, rfl, by go_num, by omega, HOi.out, HBi.out, HNX.out⟩
            case measure => simp [intOf]; omega
          | false =>
            go_wp2_with fail
            refine (l3Ready_any lm _ _ Ms x.kind x.fields[k].nm R _ (HV.out.below HBw.out) HOi.out.strs).mono ?_
            rintro e w2 ⟨rfl, hb2⟩
            have HO2 := hide (HOi.out.below hb2)
            have HB2 : Hid (Below (w.heap.size + 1) W0 w2) := HBi.out.trans (hb2.mono hzr)
            have hz2 : w.heap.size + 1 ≤ w2.heap.size := by have := hb2.size; omega
            clear hb2 p0 p1 c0
            cases hrd : readyB Ms x.kind x.fields[k].nm R with
            | false =>
              have HNX : Hid (NoneYet x.fields (readsOf x.kind Ms) R (k + 1)) := HN.out.succ hkl (Or.inr fun h => by rw [ready_all.2 h] at hrd; cases hrd)
              go_wp2
              go_roundw
              case rel => exact ⟨k + 1, rfl, by go_num, by omega, HO2.out, HB2.out, HNX.out⟩
              case measure => simp [intOf]; omega
            | true =>
              have HG1 : Hid (Good (namesF x.fields) (readsOf x.kind Ms) (R ++ [x.fields[k].nm])) := Good.snoc HGD.out (mem_namesF.2 ⟨k, hkl, rfl⟩) (hasB_not hh) (ready_all.1 hrd)
              have HC1 : Hid ((R ++ [x.fields[k].nm]).length = n + 1 ∨ Stuck (namesF x.fields) (readsOf x.kind Ms) (R ++ [x.fields[k].nm])) := by
                rcases HC.out with h | h
                · exact Or.inl (by rw [List.length_append, h]; rfl)
                · exact absurd (ready_all.1 hrd) (h _ (mem_namesF.2 ⟨k, hkl, rfl⟩) (hasB_not hh))
              have HRL : Hid (R.length ≤ 1048576) := Nat.le_trans (good_len HGD.out) hn
              clear hh hrd
              go_wp2_with (at_builtin; refine wpList_append_lies _ rfl (.tmp 42) (.tmp 44) 57 rfl (w.heap.size + 1) 9 i0 (.string ⟨#[]⟩) 1 16 Tryz.underlying57 HI.out.1 HI.out.2.1 HI.out.2.2.1 HI.out.2.2.2 rfl (by decide) _ _ _ rfl (HO2.out.below ((Below.refl _ _).alloc (Nat.le_refl _) _)).row ⟨w2.heap.size, 0, none⟩ 1 1 [.string x.fields[k].nm] rfl rfl (cell_new1 _ _ _ _ rfl) (one_oneCell _) (by decide) (by have := HRL.out; unfold maxLen; omega) (by have := HRL.out; omega) (by simp; omega) _ rfl ?_; intro g cap1 w3 hown3 hgrow3 hat3 hlt3)
              exact ⟨⟨n + 1, R ++ [x.fields[k].nm], by go_num, by omega, HO2.out.snoc hown3 HSZ.out, (HB2.out.alloc (by omega) _).trans ((HO2.out.below ((Below.refl _ _).alloc (Nat.le_refl _) _)).grown hgrow3 (by simp; omega)), HG1.out, HC1.out⟩, by simp [intOf]; omega⟩
        · go_wp2
          exact ⟨⟨n + 1, R, by go_num, by omega, HOi.out, HBi.out, HGD.out, Or.inr (HN.out.stuck (by omega))⟩, by simp [intOf]; omega⟩
    · go_wp2
      go_ret
      exact ⟨_, R, rfl, HB0.out.trans (HB.out.mono (by omega)), HO.out.mono (by omega), RowOf.mk' HGD.out (by omega) HC.out⟩
end Go.Proofs.YthfdfdlojfdckaaGreat

