import Derived.Test.YtfbfgljkiikabaaGreatV37
namespace Go.Proofs.YtfbfgljkiikabaaGreat
open Go.RowKit Go.Deep

/-! impl.recKnows -/
def txSl (L : List Rs) (tx : ByteArray) : Bool := L.any (fun x => x.tx.toList == tx.toList)
set_option maxRecDepth 20000 in
set_option maxHeartbeats 4000000 in
theorem knows1_any (x : Rs) (tb : Nat) (tx : ByteArray) (w : World) (hb : w.cell? ⟨tb, 0, none⟩ = some (.string tx)) (hl : tb < w.heap.size) :
    Calls Tryz.prog 149 #[.agg #[.int .i64 x.ba, .string x.tx], .pointer (some ⟨tb, 0, none⟩)] w fun e w' => e = .returned (.bool (x.tx.toList == tx.toList)) ∧ Below w.heap.size w w' := by
  have g : ∀ o, (w.alloc o).cell? ⟨tb, 0, none⟩ = some (.string tx) := fun o => ((one_al w o).cell (p := ⟨tb, 0, none⟩) hl).trans hb
  have HO : ∀ o, Hid (Below w.heap.size w (w.alloc o)) := fun o => one_al w o
  clear hb
  cases q : (x.tx.toList == tx.toList) with
  | false =>
    go_enter Tryz.func149, Tryz.ntmps149
    go_wp2
    go_ret
    exact ⟨rfl, (HO _).out⟩
  | true =>
    go_enter Tryz.func149, Tryz.ntmps149
    go_wp2
    go_ret
    exact ⟨rfl, (HO _).out⟩
set_option maxRecDepth 20000 in
set_option maxHeartbeats 4000000 in
theorem indexK_any (lo : Nat) (v : Value) (L : List Rs) (tb : Nat) (tx : ByteArray) (w : World) (hv : RssAt lo w v L) (hb : w.cell? ⟨tb, 0, none⟩ = some (.string tx)) (hl : tb < w.heap.size) :
    Calls Tryz.prog 164 #[v, .func (.func 149) #[] #[.pointer (some ⟨tb, 0, none⟩)]] w fun e w' => (∃ r : Int, e = .returned (.int .i64 r) ∧ decide (0 ≤ r) = txSl L tx) ∧ Below w.heap.size w w' := by
  have HV := hide hv
  have HTB := hide hb
  have hm := hv.max
  unfold maxLen at hm
  obtain ⟨a, cap, rfl⟩ := hv.form
  clear hv hb
  have HE : Hid (txSl L tx = L.any (fun x => x.tx.toList == tx.toList)) := rfl
  go_enter Tryz.func164, Tryz.ntmps164
  go_wp2
  go_loopw [8] (fun i wr => ∃ k : Nat, i = .int .i64 k ∧ k ≤ L.length ∧ Below w.heap.size w wr ∧ ∀ j (hj : j < L.length), j < k → (L[j].tx.toList == tx.toList) = false) (fun i _ => L.length - (intOf i).toNat)
  case atStart => exact ⟨0, rfl, by omega, Below.refl _ _, fun j _ h => by omega⟩
  case round =>
    obtain ⟨k, rfl, hk, hb, hall⟩ := hrel
    have HAL := hide hall
    have HB := hide hb
    clear hall hb
    by_cases hlt : k < L.length
    · obtain ⟨b, off, rfl, hbw, -, hc⟩ := (HV.out.below HB.out).full' (by omega)
      obtain ⟨hsz, hcc⟩ := hc k hlt
      obtain ⟨x, hx⟩ : ∃ x, x = L[k] := ⟨_, rfl⟩
      rw [← hx] at hsz hcc
      have HX := hide hx
      obtain ⟨e0, e1⟩ := hcc
      have i0 : (0 : Int) ≤ (k : Int) := by omega
      have i1 : (k : Int) < (L.length : Int) := by omega
      clear hc hsz hx
      go_wp2_with fail
      clear e0 e1
      refine (knows1_any x tb tx wr ((HB.out.cell (p := ⟨tb, 0, none⟩) hl).trans HTB.out) (Nat.lt_of_lt_of_le hl HB.out.size)).mono ?_
      rintro e w1 ⟨rfl, hb1⟩
      have HB1 := hide (bt HB.out hb1)
      clear hb1
      cases q : (x.tx.toList == tx.toList) with
      | true =>
        have HT : Hid (txSl L tx = true) := by unfold Hid; rw [HE.out]; exact any_yes hlt (by rw [← HX.out, q])
        go_wp2
        go_ret
        exact ⟨⟨k, rfl, by rw [HT.out]; simp⟩, HB1.out⟩
      | false =>
        have HQ := hide q
        go_wp2
        go_roundw
        case rel => exact ⟨k + 1, by go_num, by omega, HB1.out, fun j hj hjk => by
                      by_cases e : j = k
                      · subst e; rw [← HX.out]; exact HQ.out
                      · exact HAL.out j hj (by omega)⟩
        case measure => simp [intOf]; omega
    · have HT : Hid (txSl L tx = false) := by unfold Hid; rw [HE.out]; exact any_no (fun i hi => HAL.out i hi (by omega))
      go_wp2
      go_ret
      exact ⟨⟨-1, rfl, by rw [HT.out]; rfl⟩, HB.out⟩
set_option maxRecDepth 20000 in
set_option maxHeartbeats 4000000 in
theorem containsK_any (lo : Nat) (v : Value) (L : List Rs) (tb : Nat) (tx : ByteArray) (w : World) (hv : RssAt lo w v L) (hb : w.cell? ⟨tb, 0, none⟩ = some (.string tx)) (hl : tb < w.heap.size) :
    Calls Tryz.prog 148 #[v, .func (.func 149) #[] #[.pointer (some ⟨tb, 0, none⟩)]] w fun e w' => e = .returned (.bool (txSl L tx)) ∧ Below w.heap.size w w' := by
  have HV := hide hv
  have HTB := hide hb
  obtain ⟨a, cap, rfl⟩ := hv.form
  clear hv hb
  go_enter Tryz.func148, Tryz.ntmps148
  go_wp2_with fail
  refine (indexK_any lo _ L tb tx _ HV.out HTB.out hl).mono ?_
  rintro e w' ⟨⟨r, rfl, hr⟩, hb'⟩
  have HR := hide hr
  have HB := hide hb'
  clear hr hb'
  go_wp2
  go_ret
  exact ⟨ret_bool HR.out, HB.out⟩
set_option maxRecDepth 20000 in
set_option maxHeartbeats 4000000 in
theorem hasText_any (lo : Nat) (v : Value) (L : List Rs) (tx : ByteArray) (w : World) (hv : RssAt lo w v L) :
    Calls Tryz.prog 131 #[v, .string tx] w fun e w' => e = .returned (.bool (txSl L tx)) ∧ Below w.heap.size w w' := by
  have HV := hide hv
  obtain ⟨a, cap, rfl⟩ := hv.form
  clear hv
  go_enter Tryz.func131, Tryz.ntmps131
  go_wp2_with fail
  obtain ⟨wz, hwz, FX, HB⟩ : ∃ wz, wz = w.alloc (.cells #[.string tx] 9) ∧ Hid (Box wz w.heap.size #[.string tx]) ∧ Hid (Below w.heap.size w wz) :=
    ⟨_, rfl, Box.new _ _ _ _ (by simp), one_al _ _⟩
  rw [← hwz]
  clear hwz
  refine (containsK_any lo _ L w.heap.size tx _ (HV.out.below HB.out) (FX.out.cell 0) FX.out.lt).mono ?_
  rintro e w1 ⟨rfl, hb⟩
  have HB1 := hide (bt HB.out hb)
  clear hb
  go_wp2
  go_ret
  exact ⟨rfl, HB1.out⟩
set_option maxRecDepth 20000 in
set_option maxHeartbeats 4000000 in
theorem knows_any (lo : Nat) (D : Rd) (a : Option Addr) (c : Nat) (tx : ByteArray) (w : World) (hv : RssAt lo w (.slice a D.sl.length c) D.sl) (h0 : 0 ≤ D.kn) (h1 : D.kn ≤ (D.sl.length : Int)) :
    Calls Tryz.prog 112 #[.agg #[.int .i64 D.pr, .int .i64 D.kn, .slice a D.sl.length c], .string tx] w fun e w' => e = .returned (.bool (txSl (D.sl.take D.kn.toNat) tx)) ∧ Below w.heap.size w w' := by
  have HV := hide hv
  have hcap : D.sl.length ≤ c := by
    rcases HV.out with ⟨_, _, h1, h2⟩ | ⟨_, _, _, h1, _, _, _, _, h6, _⟩
    · rw [h2]; simp
    · injection h1 with e1 e2 e3
      omega
  have hm := hv.max
  unfold maxLen at hm
  have r2 : D.kn ≤ (c : Int) := by omega
  have HDT : Hid (RssAt lo w (.slice a D.kn.toNat c) (D.sl.take D.kn.toNat)) := hv.takeR _ rfl (by omega)
  clear hv
  go_enter Tryz.func112, Tryz.ntmps112
  go_wp2_with fail
  obtain ⟨wz, hwz, HB⟩ : ∃ wz, wz = w.alloc (.cells #[.int .i64 D.pr, .int .i64 D.kn, .slice a D.sl.length c] 37) ∧ Hid (Below w.heap.size w wz) := ⟨_, rfl, one_al _ _⟩
  rw [← hwz]
  clear hwz
  refine (hasText_any lo _ (D.sl.take D.kn.toNat) tx _ (HDT.out.below HB.out)).mono ?_
  rintro e w1 ⟨rfl, hb⟩
  have HB1 := hide (bt HB.out hb)
  clear hb
  go_wp2
  go_ret
  exact ⟨rfl, HB1.out⟩
end Go.Proofs.YtfbfgljkiikabaaGreat
namespace Go.Proofs.YtfbfgljkiikabaaGreat
open Go.RowKit Go.Deep

set_option maxRecDepth 20000 in
set_option maxHeartbeats 8000000 in
theorem eachAck_any (lo : Nat) (v : Value) (Xl : List Ra) (w : World) (hv : RasAt lo w v Xl) (hn : RasSmall Xl) :
    Calls Tryz.prog 105 #[v, .func (.func 106) #[] #[]] w fun e w' => ∃ v' L, e = .returned v' ∧ Below w.heap.size w w' ∧ NGRow PA axL 2 w' w.heap.size w'.heap.size v' L ∧ L.map (·.1) = Xl := by
  have hnil := fun W a n c => Lib.run_eql_slice_nil (P := Tryz.prog) W 39 112 a n c 0 0 Tryz.underlying39
  obtain ⟨i0, hi, hz0, hz1, hz2⟩ := info_parts Ra_info
  have HSM := hide hn.2
  have hn1 := hn.1
  clear hn
  have hmk : ∀ u : World, (Instr.makeSlice 39 (.int .i64 (Xl.length : Int)) (.int .i64 (Xl.length : Int))).run Tryz.prog u = .ok (.slice (some ⟨u.heap.size, 0, none⟩) Xl.length Xl.length) (u.alloc (.cells (madeCells (Value.cells (.agg #[.int .i64 0, .slice none 0 0])) (Xl.length * 2)) 112)) := fun u => by
    have h := run_make (P := Tryz.prog) u 39 112 i0 _ Tryz.underlying39 hi hz0 .i64 .i64 Xl.length Xl.length (by omega) (by omega) (by rw [hz2]; omega) (by omega)
    rw [hz1] at h
    simpa using h
  clear hi hz0 hz1 hz2
  have HV := hide hv
  obtain ⟨a, cap, rfl⟩ := hv.form
  clear hv
  cases a with
  | none =>
    have h0 : Xl.length = 0 := by
      rcases HV.out with ⟨_, _, _, rfl⟩ | ⟨_, _, _, h1, _⟩
      · rfl
      · injection h1 with e; cases e
    obtain rfl := List.eq_nil_of_length_eq_zero h0
    go_enter Tryz.func105, Tryz.ntmps105
    go_wp2
    go_ret
    exact ⟨_, [], rfl, Below.refl _ _, Or.inl ⟨rfl, rfl⟩, rfl⟩
  | some ad =>
  go_enter Tryz.func105, Tryz.ntmps105
  go_wp2
  clear hmk hnil
  go_loopw [15] (fun i wr => ∃ (k : Nat) (L : List AX) (c : Nat → Nat × Nat), i = .int .i64 k ∧ k ≤ Xl.length ∧ Below w.heap.size w wr ∧ FR axL 2 wr w.heap.size (w.heap.size + 1) w.heap.size Xl.length L ∧ Inns PA wr w.heap.size wr.heap.size w.heap.size L c ∧ (∀ i, i < L.length → (c i).2 ≤ wr.heap.size) ∧ L.map (·.1) = Xl.take k) (fun i _ => Xl.length - (intOf i).toNat)
  case atStart => exact ⟨0, [], fun _ => (0, 0), rfl, by omega, one_al _ _, fr_new axL 2 w _ _ Xl.length (by rw [size_madeCells]) (by unfold maxLen; omega), ⟨fun i hi => by simp at hi, fun i j hi => by simp at hi, fun i hi => by simp at hi⟩, fun i hi => by simp at hi, by simp⟩
  case round =>
    obtain ⟨k, L, c, rfl, hk, hb, hf, hin, htop, hL⟩ := hrel
    have HB := hide hb
    have HF := hide hf
    have HI := hide hin
    have HTP := hide htop
    have HL := hide hL
    have HLl : Hid (L.length = k) := by
      unfold Hid
      have := congrArg List.length hL
      rw [List.length_map, List.length_take] at this
      omega
    clear hb hf hin hL htop
    by_cases hlt : k < Xl.length
    · obtain ⟨b, off, had, hbw, -, hc⟩ := HV.out.full' (by omega)
      injection had with had
      subst had
      obtain ⟨m, hm'⟩ : ∃ m, m = Xl[k] := ⟨_, rfl⟩
      obtain ⟨ms, hr, b0, m0, rfl, hf⟩ := hc k hlt
      rw [← hm'] at hf hr
      have HS : Hid (m.fr.length ≤ 1048576) := by unfold Hid; rw [hm']; exact HSM.out k hlt
      have HFi : Hid (RisAt lo wr (.slice b0 m.fr.length m0) m.fr) := hf.l0.below HB.out
      have HR := rng_below hr HB.out hbw
      have HX := hide hm'
      have s0 : wr.cell? ⟨b, off + k * 2, none⟩ = some (.int .i64 m.ix) := HR 0 _ rfl
      have s1 : wr.cell? ⟨b, off + k * 2 + 1, none⟩ = some (.slice b0 m.fr.length m0) := HR 1 _ rfl
      have i0 : (0 : Int) ≤ (k : Int) := by omega
      have i1 : (k : Int) < (Xl.length : Int) := by omega
      clear hc hr hf hm' HR
      go_wp2_with fail
      clear s0 s1
      generalize hWx : wr.alloc _ = Wx
      have hx : Below wr.heap.size wr Wx := by rw [← hWx]; exact one_al _ _
      clear hWx
      refine (copyAck_any lo m b0 m0 _ (HFi.out.below hx) HS.out).mono ?_
      rintro e w1 ⟨b1, m1, rfl, hb1, hf1⟩
      have hb2 : Below wr.heap.size wr w1 := bt hx hb1
      have HB1 : Hid (Below w.heap.size w w1) := bt HB.out hb2
      have hsz := HB.out.size
      have hsz1 := hb2.size
      have hszx := hx.size
      have hwlt : w.heap.size < wr.heap.size := HF.out.lt
      have HF1 := hide (HF.out.below hb2)
      have HI1 : Hid (Inns PA w1 w.heap.size w1.heap.size w.heap.size (L ++ [(m, b1, m1)]) (cSnoc c L.length (Wx.heap.size, w1.heap.size))) :=
        ((HI.out.below cloA hb2).wide (Nat.le_refl _) hsz1).snoc hf1 (by omega) hb1.size (Nat.le_refl _) (Or.inl (by omega)) (fun i hi => Or.inl (by have := HTP.out i hi; omega))
      have hth : ∀ j, j < Xl.length * 2 → ∃ o, w1.cell? ⟨w.heap.size, j, none⟩ = some o := fun j hj => Option.isSome_iff_exists.1 (HF1.out.th j hj)
      have hfr := HF1.out.fz
      obtain ⟨o0, ho0⟩ := hth (k * 2) (by omega)
      obtain ⟨o1, ho1⟩ := hth (k * 2 + 1) (by omega)
      have HFn : Hid (FR axL 2 ((w1.setCell ⟨w.heap.size, k * 2, none⟩ (.int .i64 m.ix)).setCell ⟨w.heap.size, k * 2 + 1, none⟩ (.slice b1 m.fr.length m1)) w.heap.size (w.heap.size + 1) w.heap.size Xl.length (L ++ [(m, b1, m1)])) := by
        unfold Hid
        have h := HF1.out.put axL_len (M := [(m, b1, m1)]) (by have := HLl.out; simp; omega)
        rw [Nat.zero_add, HLl.out] at h
        exact h
      have HTT : Hid (Touch w.heap.size (w.heap.size + 1) w1 ((w1.setCell ⟨w.heap.size, k * 2, none⟩ (.int .i64 m.ix)).setCell ⟨w.heap.size, k * 2 + 1, none⟩ (.slice b1 m.fr.length m1))) := by
        have h := Touch.sets (lo := w.heap.size) (hi := w.heap.size + 1) (b := w.heap.size) ⟨Nat.le_refl _, Nat.lt_succ_self _⟩ (flatV axL [(m, b1, m1)]) (k * 2) w1
        exact h
      clear hth hb1 hb2 hf1 hx HF HI HB
      rw [show (raL m b1 m1).toArray = #[.int .i64 m.ix, .slice b1 m.fr.length m1] from rfl]
      go_wp2
      generalize hWn : World.setCell _ _ _ = Wn at *
      clear hWn
      go_roundw
      case rel =>
        have ht := HTT.out
        have hszn := ht.size
        refine ⟨k + 1, L ++ [(m, b1, m1)], _, by go_num, by omega, HB1.out.trans (ht.under (by omega)), HFn.out, ((HI1.out.touch cloA ht (fun i hi => ?_)).wide (Nat.le_refl _) hszn), fun i hi => ?_, by rw [List.map_append, HL.out, List.take_succ_eq_append_getElem hlt, HX.out]; rfl⟩
        · rcases (HI1.out.seg i hi).2.2.2 with h | h
          · exact Or.inr h
          · exact Or.inl h
        · exact Nat.le_trans (HI1.out.seg i hi).2.2.1 hszn
      case measure => simp [intOf]; omega
    · have e : k = Xl.length := by omega
      subst e
      have hl := HLl.out
      go_wp2
      go_ret
      refine ⟨.slice (some ⟨w.heap.size, 0, none⟩) Xl.length Xl.length, L, rfl, HB.out, Or.inr ⟨w.heap.size, c, ⟨w.heap.size, Xl.length, by rw [hl], HF.out⟩, Nat.le_refl _, HF.out.lt, HI.out⟩, by rw [HL.out, List.take_of_length_le (Nat.le_refl _)]⟩
end Go.Proofs.YtfbfgljkiikabaaGreat
