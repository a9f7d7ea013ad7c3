import Derived.Test.YtfbfgljkiikabaaV33
namespace Go.Proofs.Ytfbfgljkiikabaa
open Go.RowKit Go.Deep

set_option maxRecDepth 20000 in
set_option maxHeartbeats 8000000 in
theorem eachMsg_any (lo : Nat) (v : Value) (Xl : List Rm) (w : World) (hv : RmsAt lo w v Xl) (hn : RmsSmall Xl) :
    Calls Try.prog 81 #[v, .func (.func 82) #[] #[]] w fun e w' => ∃ v' L, e = .returned v' ∧ Below w.heap.size w w' ∧ NGRow PM mxL 8 w' w.heap.size w'.heap.size v' L ∧ L.map (·.1) = Xl := by
  have hnil := fun W a n c => Lib.run_eql_slice_nil (P := Try.prog) W 37 92 a n c 0 0 Try.underlying37
  obtain ⟨i0, hi, hz0, hz1, hz2⟩ := info_parts Rm_info
  have HSM := hide hn.2
  have hn1 := hn.1
  clear hn
  have hmk : ∀ u : World, (Instr.makeSlice 37 (.int .i64 (Xl.length : Int)) (.int .i64 (Xl.length : Int))).run Try.prog u = .ok (.slice (some ⟨u.heap.size, 0, none⟩) Xl.length Xl.length) (u.alloc (.cells (madeCells (Value.cells (.agg #[.int .i64 0, .int .i64 0, .int .i64 0, .int .i64 0, .int .i64 0, .int .i64 0, .string ⟨#[]⟩, .slice none 0 0])) (Xl.length * 8)) 92)) := fun u => by
    have h := run_make (P := Try.prog) u 37 92 i0 _ Try.underlying37 hi hz0 .i64 .i64 Xl.length Xl.length (by omega) (by omega) (by rw [hz2]; omega) (by omega)
    rw [hz1] at h
    simpa using h
  clear hi hz0 hz1 hz2
  have HV := hide hv
  obtain ⟨a, cap, rfl⟩ := hv.form
  clear hv
  cases a with
  | none =>
    have h0 : Xl.length = 0 := by
      rcases HV.out with ⟨_, _, _, rfl⟩ | ⟨_, _, _, h1, _⟩
      · rfl
      · injection h1 with e; cases e
    obtain rfl := List.eq_nil_of_length_eq_zero h0
    go_enter Try.func81, Try.ntmps81
    go_wp2
    go_ret
    exact ⟨_, [], rfl, Below.refl _ _, Or.inl ⟨rfl, rfl⟩, rfl⟩
  | some ad =>
  go_enter Try.func81, Try.ntmps81
  go_wp2
  clear hmk hnil
  go_loopw [15] (fun i wr => ∃ (k : Nat) (L : List MX) (c : Nat → Nat × Nat), i = .int .i64 k ∧ k ≤ Xl.length ∧ Below w.heap.size w wr ∧ FR mxL 8 wr w.heap.size (w.heap.size + 1) w.heap.size Xl.length L ∧ Inns PM wr w.heap.size wr.heap.size w.heap.size L c ∧ (∀ i, i < L.length → (c i).2 ≤ wr.heap.size) ∧ L.map (·.1) = Xl.take k) (fun i _ => Xl.length - (intOf i).toNat)
  case atStart => exact ⟨0, [], fun _ => (0, 0), rfl, by omega, one_al _ _, fr_new mxL 8 w _ _ Xl.length (by rw [size_madeCells]) (by unfold maxLen; omega), ⟨fun i hi => by simp at hi, fun i j hi => by simp at hi, fun i hi => by simp at hi⟩, fun i hi => by simp at hi, by simp⟩
  case round =>
    obtain ⟨k, L, c, rfl, hk, hb, hf, hin, htop, hL⟩ := hrel
    have HB := hide hb
    have HF := hide hf
    have HI := hide hin
    have HTP := hide htop
    have HL := hide hL
    have HLl : Hid (L.length = k) := by
      unfold Hid
      have := congrArg List.length hL
      rw [List.length_map, List.length_take] at this
      omega
    clear hb hf hin hL htop
    by_cases hlt : k < Xl.length
    · obtain ⟨b, off, had, hbw, -, hc⟩ := HV.out.full' (by omega)
      injection had with had
      subst had
      obtain ⟨m, hm'⟩ : ∃ m, m = Xl[k] := ⟨_, rfl⟩
      obtain ⟨ms, hr, b0, m0, rfl, hf⟩ := hc k hlt
      rw [← hm'] at hf hr
      have HS : Hid (m.sl.length ≤ 1048576) := by unfold Hid; rw [hm']; exact (HSM.out k hlt).1
      have HFi : Hid (RssAt lo wr (.slice b0 m.sl.length m0) m.sl) := hf.l0.below HB.out
      have HR := rng_below hr HB.out hbw
      have HX := hide hm'
      have s0 : wr.cell? ⟨b, off + k * 8, none⟩ = some (.int .i64 m.kd) := HR 0 _ rfl
      have s1 : wr.cell? ⟨b, off + k * 8 + 1, none⟩ = some (.int .i64 m.fr) := HR 1 _ rfl
      have s2 : wr.cell? ⟨b, off + k * 8 + 2, none⟩ = some (.int .i64 m.tt) := HR 2 _ rfl
      have s3 : wr.cell? ⟨b, off + k * 8 + 3, none⟩ = some (.int .i64 m.ba) := HR 3 _ rfl
      have s4 : wr.cell? ⟨b, off + k * 8 + 4, none⟩ = some (.int .i64 m.ix) := HR 4 _ rfl
      have s5 : wr.cell? ⟨b, off + k * 8 + 5, none⟩ = some (.int .i64 m.kn) := HR 5 _ rfl
      have s6 : wr.cell? ⟨b, off + k * 8 + 6, none⟩ = some (.string m.tx) := HR 6 _ rfl
      have s7 : wr.cell? ⟨b, off + k * 8 + 7, none⟩ = some (.slice b0 m.sl.length m0) := HR 7 _ rfl
      have i0 : (0 : Int) ≤ (k : Int) := by omega
      have i1 : (k : Int) < (Xl.length : Int) := by omega
      clear hc hr hf hm' HR
      go_wp2_with fail
      clear s0 s1 s2 s3 s4 s5 s6 s7
      generalize hWx : wr.alloc _ = Wx
      have hx : Below wr.heap.size wr Wx := by rw [← hWx]; exact one_al _ _
      clear hWx
      refine (copyMsg_any lo m b0 m0 _ (HFi.out.below hx) HS.out).mono ?_
      rintro e w1 ⟨b1, m1, rfl, hb1, hf1⟩
      have hb2 : Below wr.heap.size wr w1 := bt hx hb1
      have HB1 : Hid (Below w.heap.size w w1) := bt HB.out hb2
      have hsz := HB.out.size
      have hsz1 := hb2.size
      have hszx := hx.size
      have hwlt : w.heap.size < wr.heap.size := HF.out.lt
      have HF1 := hide (HF.out.below hb2)
      have HI1 : Hid (Inns PM w1 w.heap.size w1.heap.size w.heap.size (L ++ [(m, b1, m1)]) (cSnoc c L.length (Wx.heap.size, w1.heap.size))) :=
        ((HI.out.below cloM hb2).wide (Nat.le_refl _) hsz1).snoc hf1 (by omega) hb1.size (Nat.le_refl _) (Or.inl (by omega)) (fun i hi => Or.inl (by have := HTP.out i hi; omega))
      have hth : ∀ j, j < Xl.length * 8 → ∃ o, w1.cell? ⟨w.heap.size, j, none⟩ = some o := fun j hj => Option.isSome_iff_exists.1 (HF1.out.th j hj)
      have hfr := HF1.out.fz
      obtain ⟨o0, ho0⟩ := hth (k * 8) (by omega)
      obtain ⟨o1, ho1⟩ := hth (k * 8 + 1) (by omega)
      obtain ⟨o2, ho2⟩ := hth (k * 8 + 2) (by omega)
      obtain ⟨o3, ho3⟩ := hth (k * 8 + 3) (by omega)
      obtain ⟨o4, ho4⟩ := hth (k * 8 + 4) (by omega)
      obtain ⟨o5, ho5⟩ := hth (k * 8 + 5) (by omega)
      obtain ⟨o6, ho6⟩ := hth (k * 8 + 6) (by omega)
      obtain ⟨o7, ho7⟩ := hth (k * 8 + 7) (by omega)
      have HFn : Hid (FR mxL 8 ((((((((w1.setCell ⟨w.heap.size, k * 8, none⟩ (.int .i64 m.kd)).setCell ⟨w.heap.size, k * 8 + 1, none⟩ (.int .i64 m.fr)).setCell ⟨w.heap.size, k * 8 + 2, none⟩ (.int .i64 m.tt)).setCell ⟨w.heap.size, k * 8 + 3, none⟩ (.int .i64 m.ba)).setCell ⟨w.heap.size, k * 8 + 4, none⟩ (.int .i64 m.ix)).setCell ⟨w.heap.size, k * 8 + 5, none⟩ (.int .i64 m.kn)).setCell ⟨w.heap.size, k * 8 + 6, none⟩ (.string m.tx)).setCell ⟨w.heap.size, k * 8 + 7, none⟩ (.slice b1 m.sl.length m1)) w.heap.size (w.heap.size + 1) w.heap.size Xl.length (L ++ [(m, b1, m1)])) := by
        unfold Hid
        have h := HF1.out.put mxL_len (M := [(m, b1, m1)]) (by have := HLl.out; simp; omega)
        rw [Nat.zero_add, HLl.out] at h
        exact h
      have HTT : Hid (Touch w.heap.size (w.heap.size + 1) w1 ((((((((w1.setCell ⟨w.heap.size, k * 8, none⟩ (.int .i64 m.kd)).setCell ⟨w.heap.size, k * 8 + 1, none⟩ (.int .i64 m.fr)).setCell ⟨w.heap.size, k * 8 + 2, none⟩ (.int .i64 m.tt)).setCell ⟨w.heap.size, k * 8 + 3, none⟩ (.int .i64 m.ba)).setCell ⟨w.heap.size, k * 8 + 4, none⟩ (.int .i64 m.ix)).setCell ⟨w.heap.size, k * 8 + 5, none⟩ (.int .i64 m.kn)).setCell ⟨w.heap.size, k * 8 + 6, none⟩ (.string m.tx)).setCell ⟨w.heap.size, k * 8 + 7, none⟩ (.slice b1 m.sl.length m1))) := by
        have h := Touch.sets (lo := w.heap.size) (hi := w.heap.size + 1) (b := w.heap.size) ⟨Nat.le_refl _, Nat.lt_succ_self _⟩ (flatV mxL [(m, b1, m1)]) (k * 8) w1
        exact h
      clear hth hb1 hb2 hf1 hx HF HI HB
      rw [show (rmL m b1 m1).toArray = #[.int .i64 m.kd, .int .i64 m.fr, .int .i64 m.tt, .int .i64 m.ba, .int .i64 m.ix, .int .i64 m.kn, .string m.tx, .slice b1 m.sl.length m1] from rfl]
      go_wp2
      generalize hWn : World.setCell _ _ _ = Wn at *
      clear hWn
      go_roundw
      case rel =>
        have ht := HTT.out
        have hszn := ht.size
        refine ⟨k + 1, L ++ [(m, b1, m1)], _, by go_num, by omega, HB1.out.trans (ht.under (by omega)), HFn.out, ((HI1.out.touch cloM ht (fun i hi => ?_)).wide (Nat.le_refl _) hszn), fun i hi => ?_, by rw [List.map_append, HL.out, List.take_succ_eq_append_getElem hlt, HX.out]; rfl⟩
        · rcases (HI1.out.seg i hi).2.2.2 with h | h
          · exact Or.inr h
          · exact Or.inl h
        · exact Nat.le_trans (HI1.out.seg i hi).2.2.1 hszn
      case measure => simp [intOf]; omega
    · have e : k = Xl.length := by omega
      subst e
      have hl := HLl.out
      go_wp2
      go_ret
      refine ⟨.slice (some ⟨w.heap.size, 0, none⟩) Xl.length Xl.length, L, rfl, HB.out, Or.inr ⟨w.heap.size, c, ⟨w.heap.size, Xl.length, by rw [hl], HF.out⟩, Nat.le_refl _, HF.out.lt, HI.out⟩, by rw [HL.out, List.take_of_length_le (Nat.le_refl _)]⟩
end Go.Proofs.Ytfbfgljkiikabaa
