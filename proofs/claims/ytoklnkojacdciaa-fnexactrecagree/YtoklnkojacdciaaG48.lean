import Derived.Test.YtoklnkojacdciaaG37
import Derived.Test.YtoklnkojacdciaaG47
namespace Go.Proofs.Ytoklnkojacdciaa
open Go.RowKit Go.Deep

/-! what a recorder knows -/
def txsL (L : List Rs) : List ByteArray := L.map (·.tx)
def bookL (U : Rr) : List ByteArray := if validR U then txsL (U.dk.sl.take U.dk.kn.toNat) else []
theorem valid_knB {U : Rr} (h : validR U = true) : 0 ≤ U.dk.kn ∧ U.dk.kn ≤ (U.dk.sl.length : Int) := by
  unfold validR at h
  simp only [Bool.and_eq_true] at h
  have h2 := h.2.2.2.1
  unfold diskB at h2
  simp only [Bool.and_eq_true] at h2
  have h3 := h2.2.2.1
  unfold inB at h3
  simpa using h3
theorem valid_slB {U : Rr} (h : validR U = true) : U.dk.sl.length ≤ 120 := by
  unfold validR at h
  simp only [Bool.and_eq_true] at h
  have h2 := h.2.2.2.1
  unfold diskB slotsB at h2
  simp only [Bool.and_eq_true, decide_eq_true_eq] at h2
  exact h2.2.1.1
theorem bookL_size {U : Rr} (hz : ∀ i (h : i < U.dk.sl.length), RsSize U.dk.sl[i]) : ∀ i (h : i < (bookL U).length), (bookL U)[i].size ≤ maxLen := by
  unfold bookL
  split
  · intro i hi
    simp only [txsL, List.length_map, List.length_take] at hi
    simp only [txsL, List.getElem_map, List.getElem_take]
    exact (hz i (by omega)).s0
  · intro i hi; simp at hi
theorem bookL_len (U : Rr) : (bookL U).length ≤ U.dk.sl.length := by
  unfold bookL txsL
  split
  · simp
    omega
  · simp
theorem txs_snoc {L : List Rs} {k : Nat} (h : k < L.length) : txsL (L.take k) ++ [L[k].tx] = txsL (L.take (k + 1)) := by
  unfold txsL
  rw [List.take_succ_eq_append_getElem h, List.map_append]
  rfl
set_option maxRecDepth 20000 in
set_option maxHeartbeats 8000000 in
theorem specBook_any (cs : List Value) (U : Rr) (w : World) (h : RrC 0 w cs U) (hn : RrSmall U) :
    Calls Try.prog 46 #[.agg cs.toArray] w fun e w' => ∃ v', e = .returned v' ∧ Below w.heap.size w w' ∧ RtsAt 0 w' v' (bookL U) := by
  have HC := hide h
  have HN := hide hn
  have HS : Hid ((Try.prog.info? 51).map (·.size) = some cs.length) := by unfold Hid; rw [h.len]; exact sizeRr
  have HSZ : Hid (∀ i (h : i < U.dk.sl.length), RsSize U.dk.sl[i]) := by
    obtain ⟨_, _, _, _, _, _, _, _, _, _, _, _, _, _, -, h⟩ := h
    exact h.l1.sizes
  obtain ⟨a0, k0, a1, k1, a2, k2, a3, k3, a4, k4, a5, k5, a6, k6, hcs, hl⟩ := h
  have HL := hide hl.l1
  have c7 : cs[7]? = some (.int .i64 U.dk.kn) := by rw [hcs]; rfl
  have c8 : cs[8]? = some (.slice a1 U.dk.sl.length k1) := by rw [hcs]; rfl
  have HC7 := hide c7
  have HC8 := hide c8
  clear hn hl hcs c7 c8
  have HR0 : Hid (World.rangeAt ((w.alloc (.cells cs.toArray 51)).alloc (.cells #[] 9)) w.heap.size 0 cs) := ((Box.new w _ _ _ rfl).on (one_al _ _)).range rfl
  go_enter Try.func46, Try.ntmps46
  go_wp2_with (with_reducible refine wpList_load_mid (by with_reducible rfl) 51 (.tmp 1) (by with_reducible rfl) w.heap.size 0 (by with_unfolding_all rfl) cs _ HR0.out Try.underlying51 (by with_unfolding_all rfl) HS.out ?_)
  obtain ⟨wz, hwz, FB, HF, HB⟩ : ∃ wz, wz = (w.alloc (.cells cs.toArray 51)).alloc (.cells #[] 9) ∧ Hid (Box wz w.heap.size cs.toArray) ∧ Hid (FR tyL 1 wz (w.heap.size + 1) (w.heap.size + 2) (w.heap.size + 1) 0 []) ∧ Hid (Below w.heap.size w wz) :=
    ⟨_, rfl, (Box.new w _ _ _ rfl).on (one_al _ _), by have h := fr_new tyL 1 (w.alloc (.cells cs.toArray 51)) #[] 9 0 rfl (Nat.zero_le _); simpa [Hid] using h, (one_al _ _).trans ((one_al _ _).mono (by simp))⟩
  rw [← hwz]
  clear hwz HR0
  refine (specValidR_any 0 cs U _ (HC.out.below HB.out) HN.out).mono ?_
  rintro e w1 ⟨rfl, hb⟩
  replace HB : Hid (Below w.heap.size w w1) := bt HB.out hb
  replace FB := hide (FB.out.on hb)
  replace HF := hide (HF.out.below hb)
  clear hb
  cases qv : validR U with
  | false =>
    have HE : Hid (bookL U = []) := by unfold Hid bookL; rw [qv]; rfl
    go_wp2
    go_ret
    exact ⟨_, rfl, HB.out, by rw [HE.out]; exact Or.inl ⟨_, _, rfl, rfl⟩⟩
  | true =>
  have HE : Hid (bookL U = txsL (U.dk.sl.take U.dk.kn.toNat)) := by unfold Hid bookL; rw [qv]; rfl
  have hkn := valid_knB qv
  have hsl := valid_slB qv
  have h0 := hkn.1
  have h1 := hkn.2
  clear hkn
  go_wp2
  go_loopw [3, 4] (fun o i wr => ∃ (k : Nat), i = .int .i64 k ∧ (k : Int) ≤ U.dk.kn ∧ Below w.heap.size w wr ∧ Box wr w.heap.size cs.toArray ∧ ∃ l u, w.heap.size + 1 ≤ l ∧ u ≤ wr.heap.size ∧ FRow tyL 1 wr l u o (txsL (U.dk.sl.take k))) (fun _ i _ => U.dk.sl.length - (intOf i).toNat)
  case atStart => exact ⟨0, rfl, by omega, HB.out, FB.out, w.heap.size + 1, w.heap.size + 2, Nat.le_refl _, by have := HF.out.lt; omega, ⟨w.heap.size + 1, 0, rfl, HF.out⟩⟩
  case round =>
    obtain ⟨k, rfl, hk, hb, hx, l, u, hl, hu, ho⟩ := hrel
    have HBk := hide hb
    have HX := hide hx
    have HO := hide ho
    obtain ⟨gg, cp, hgo, -⟩ := ho
    have hlen : (txsL (U.dk.sl.take k)).length = k := by simp [txsL]; omega
    rw [hlen] at hgo
    subst hgo
    have g7 : wr.cell? ⟨w.heap.size, 7, none⟩ = some (.int .i64 U.dk.kn) := by rw [hx.cell 7, List.getElem?_toArray]; exact HC7.out
    have g8 : wr.cell? ⟨w.heap.size, 8, none⟩ = some (.slice a1 U.dk.sl.length k1) := by rw [hx.cell 8, List.getElem?_toArray]; exact HC8.out
    clear hb hx
    by_cases hlt : (k : Int) < U.dk.kn
    · obtain ⟨b, off, rfl, hbw, -, hc⟩ := (HL.out.below HBk.out).full' (by omega)
      have hkl : k < U.dk.sl.length := by omega
      obtain ⟨hsz, hcc⟩ := hc k hkl
      obtain ⟨x, hx⟩ : ∃ x, x = U.dk.sl[k] := ⟨_, rfl⟩
      rw [← hx] at hsz hcc
      have HXX := hide hx
      obtain ⟨e0, e1⟩ := hcc
      have d1 : decide ((k : Int) < U.dk.kn) = true := decide_eq_true hlt
      have i0 : (0 : Int) ≤ (k : Int) := by omega
      have i1 : (k : Int) < (U.dk.sl.length : Int) := by omega
      clear hc hsz hx
      have HO1 : Hid (∀ o, FRow tyL 1 (wr.alloc o) l u (.slice (some ⟨gg, 0, none⟩) k cp) (txsL (U.dk.sl.take k))) := fun o => HO.out.below (one_al _ o)
      go_wp2_with (at_builtin; refine wpList_fr tyL_len (by decide) Try.underlying47 infoTx rfl (w := wr.alloc _) (lo := l) (hi' := u) (L := txsL (U.dk.sl.take k)) [x.tx] rfl (.tmp 17) (.tmp 25) rfl rfl (HO1.out _) (some ⟨wr.heap.size, 0, none⟩) 1 1 rfl rfl (fun e => by cases e) (fun ad e j u hu => by
          injection e with e
          subst e
          rw [Addr.add_lit, Nat.zero_add, (Box.new wr _ _ _ rfl).cell j]
          simpa [flatV, tyL] using hu) (tyL_one _) (by rw [hlen]; simp; omega) (by decide) ?_; intro v' w' h1 h2; have H1 := hide h1; have H2 := hide h2; clear h1 h2)
      have hsn := txs_snoc hkl
      rw [← HXX.out] at hsn
      have H2n := H2.out
      rw [hsn] at H2n
      have HH2 := hide H2n
      clear H2n hsn H2 d1 e0 e1 g7 g8
      go_roundw
      case rel =>
        have ht := H1.out
        have hsz := ht.size
        simp at hsz
        have hbw' := HBk.out.size
        have hxlt := HX.out.lt
        have hlw : l ≤ (wr.alloc (.cells #[.string x.tx] 9)).heap.size := by simp; obtain ⟨g', c', -, hr⟩ := HO.out; have := hr.bs; have := hr.lt; omega
        refine ⟨k + 1, by go_num, by omega, (bt HBk.out (one_al _ _)).trans ((ht.under hlw).mono (by omega)), Box.below (HX.out.on (one_al _ _)) (ht.under hlw) (by omega), ?_⟩
        rcases HH2.out with h | h
        · exact ⟨l, u, hl, by omega, h⟩
        · exact ⟨_, _, by simp; omega, Nat.le_refl _, h⟩
      case measure => simp [intOf]; omega
    · have d1 : decide ((k : Int) < U.dk.kn) = false := decide_eq_false hlt
      have ek : U.dk.kn.toNat = k := by omega
      have HOb : Hid (RtsAt 0 wr (.slice (some ⟨gg, 0, none⟩) k cp) (bookL U)) := by
        have hsz := bookL_size HSZ.out
        unfold Hid
        rw [HE.out, ek] at hsz ⊢
        exact (HO.out.rts hsz).at.mono (Nat.zero_le _)
      go_wp2
      go_ret
      exact ⟨_, rfl, HBk.out, HOb.out⟩
set_option maxRecDepth 20000 in
set_option maxHeartbeats 8000000 in
theorem bookI_any (lo : Nat) (D : Rd) (a : Option Addr) (c : Nat) (w : World) (hv : RssAt lo w (.slice a D.sl.length c) D.sl) (h0 : 0 ≤ D.kn) (h1 : D.kn ≤ (D.sl.length : Int)) (hn : D.sl.length ≤ 120) :
    Calls Try.prog 82 #[.agg #[.int .i64 D.pr, .int .i64 D.kn, .slice a D.sl.length c]] w fun e w' => ∃ v', e = .returned v' ∧ Below w.heap.size w w' ∧ FRow tyL 1 w' w.heap.size w'.heap.size v' (txsL (D.sl.take D.kn.toNat)) := by
  have HV := hide hv
  have hcap : D.sl.length ≤ c := by
    rcases HV.out with ⟨_, _, h1, h2⟩ | ⟨_, _, _, h1, _, _, _, _, h6, _⟩
    · rw [h2]; simp
    · injection h1 with e1 e2 e3
      omega
  obtain ⟨n, hkn⟩ : ∃ n : Nat, D.kn = (n : Int) := ⟨D.kn.toNat, by omega⟩
  have hnl : n ≤ D.sl.length := by omega
  obtain ⟨i0, hi, hz0, hz1, hz2⟩ := info_parts infoTx
  have hmk : ∀ u : World, (Instr.makeSlice 47 (.int .i64 (n : Int)) (.int .i64 (n : Int))).run Try.prog u = .ok (.slice (some ⟨u.heap.size, 0, none⟩) n n) (u.alloc (.cells (madeCells (Value.cells (.string ⟨#[]⟩)) n) 9)) := fun u => by
    have h := run_make (P := Try.prog) u 47 9 i0 _ Try.underlying47 hi hz0 .i64 .i64 n n (by omega) (by omega) (by rw [hz2]; omega) (by omega)
    rw [hz1] at h
    simpa using h
  clear hi hz0 hz1 hz2 hv
  rw [hkn, Int.toNat_natCast]
  have r1 : (0 : Int) ≤ (n : Int) := by omega
  have r2 : (n : Int) ≤ (c : Int) := by omega
  clear h0 h1 hkn
  go_enter Try.func82, Try.ntmps82
  go_wp2
  clear hmk
  go_loopw [15] (fun i wr => ∃ (k : Nat) (L : List ByteArray), i = .int .i64 k ∧ k ≤ n ∧ Below w.heap.size w wr ∧ FR tyL 1 wr (w.heap.size + 1) (w.heap.size + 2) (w.heap.size + 1) n L ∧ L = txsL (D.sl.take k)) (fun i _ => n - (intOf i).toNat)
  case atStart =>
    refine ⟨0, [], rfl, by omega, bt (one_al _ _) (one_al _ _), ?_, rfl⟩
    have h := fr_new tyL 1 (w.alloc (.cells #[.int .i64 D.pr, .int .i64 (n : Int), .slice a D.sl.length c] 46)) (madeCells #[.string ⟨#[]⟩] n) 9 n (by rw [size_madeCells, Nat.mul_one]) (by unfold maxLen; omega)
    simpa using h
  case round =>
    obtain ⟨k, L, rfl, hk, hb, hf, hL⟩ := hrel
    have HB := hide hb
    have HF := hide hf
    have HLk := hide hL
    have HLl : Hid (L.length = k) := by unfold Hid; rw [hL]; simp [txsL]; omega
    clear hb hf hL
    by_cases hlt : k < n
    · obtain ⟨b, off, rfl, hbw, -, hc⟩ := (HV.out.below HB.out).full' (by omega)
      have hkl : k < D.sl.length := by omega
      obtain ⟨hsz, hcc⟩ := hc k hkl
      obtain ⟨x, hx⟩ : ∃ x, x = D.sl[k] := ⟨_, rfl⟩
      rw [← hx] at hsz hcc
      have HXX := hide hx
      obtain ⟨e0, e1⟩ := hcc
      have i0 : (0 : Int) ≤ (k : Int) := by omega
      have i1 : (k : Int) < (n : Int) := by omega
      clear hc hsz hx
      have hlw : w.heap.size + 1 < wr.heap.size := HF.out.lt
      have y1 : ∀ o, ∃ z, (wr.alloc o).cell? ⟨w.heap.size + 1, k, none⟩ = some z := fun o => Option.isSome_iff_exists.1 ((HF.out.below (one_al _ o)).th k (by omega))
      have yf : ∀ o j, (wr.alloc o).frozen? ⟨w.heap.size + 1, j, none⟩ = false := fun o j => (HF.out.below (one_al _ o)).fz j
      obtain ⟨z, hz⟩ := y1 (.cells #[.int .i64 x.ba, .string x.tx] 114)
      have HFn : Hid (FR tyL 1 ((wr.setCell ⟨w.heap.size + 1, k, none⟩ (.string x.tx)).alloc (.cells #[.int .i64 x.ba, .string x.tx] 114)) (w.heap.size + 1) (w.heap.size + 2) (w.heap.size + 1) n (L ++ [x.tx])) := by
        unfold Hid
        have h := HF.out.put tyL_len (M := [x.tx]) (by have := HLl.out; simp; omega)
        rw [Nat.zero_add, HLl.out, Nat.mul_one] at h
        exact FR.below h (one_al _ _)
      clear y1
      go_wp2
      go_roundw
      case rel =>
        refine ⟨k + 1, L ++ [x.tx], by go_num, by omega, bt (Below.setCell HB.out (by simp only []; omega) _) (one_al _ _), HFn.out, ?_⟩
        rw [HLk.out, HXX.out]
        exact txs_snoc hkl
      case measure => simp [intOf]; omega
    · have e : k = n := by omega
      subst e
      have hl := HLl.out
      have HFo : Hid (FRow tyL 1 wr w.heap.size wr.heap.size (.slice (some ⟨w.heap.size + 1, 0, none⟩) k k) (txsL (D.sl.take k))) := by
        unfold Hid
        rw [← HLk.out]
        exact ⟨w.heap.size + 1, k, by rw [hl], ⟨by omega, HF.out.lt, HF.out.lt, HF.out.le, HF.out.mx, HF.out.th, HF.out.fz, HF.out.rg⟩⟩
      go_wp2
      go_ret
      exact ⟨_, rfl, HB.out, HFo.out⟩
end Go.Proofs.Ytoklnkojacdciaa
