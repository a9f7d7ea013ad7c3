
import Derived.Test.YtobijdenhbpdfaaDoorD13
import Derived.Test.YtobijdenhbpdfaaDoorT8
import Derived.Test.YtobijdenhbpdfaaDoorTC
import Derived.Deep.DeepCutAuto
namespace Go.Proofs.YtobijdenhbpdfaaDoor
open Go.RowKit Go.Deep

set_option maxRecDepth 20000 in
set_option maxHeartbeats 4000000 in
theorem drawAllows_any (v : Value) (bs : List UInt8) (w : World) (hv : CodeIn w v bs) :
    Calls Tryd.prog 10 #[v] w fun e w' => ∃ (tv qv : Value) (q : Ru) (av : Int) (ak at' an : ByteArray), e = .returned (.tuple #[tv, .agg #[qv, .string q.kd, .string q.tm, .string q.pf], .agg #[.int .i64 av, .string ak, .string at', .string an]]) ∧ (∃ a n c, tv = .slice a n c) ∧ (∃ a n c, qv = .slice a n c) ∧ Below w.heap.size w w' := by
  have HV := hide hv
  obtain ⟨va, vcap, rfl⟩ := hv.form
  clear hv
  go_enter Tryd.func10, Tryd.ntmps10
  go_wp2_with fail
  generalize hWz : (World.alloc (w.alloc _) _) = Wz
  have hBz : Below w.heap.size w Wz := by rw [← hWz]; exact (one_al w _).alloc (by simp) _
  have hX1 : Box Wz w.heap.size #[.slice none 0 0, .string ⟨#[]⟩, .string ⟨#[]⟩, .string ⟨#[]⟩] := by rw [← hWz]; exact (Box.new _ _ _ _ rfl).on (one_al _ _)
  have hX2 : Box Wz (w.heap.size + 1) #[.int .i64 0, .string ⟨#[]⟩, .string ⟨#[]⟩, .string ⟨#[]⟩] := by rw [← hWz]; exact Box.new _ _ _ _ (by simp)
  have hsz : Wz.heap.size = w.heap.size + 2 := by rw [← hWz]; simp
  clear hWz
  refine (l1Open_any _ bs Wz (HV.out.below hBz).open').mono ?_
  rintro e w1 ⟨rfl, ⟨bs', hr1⟩, hb1⟩
  have HB1 := hide (hBz.trans (hb1.mono hBz.size))
  have HX1 := hide (hX1.on hb1)
  have HX2 := hide (hX2.on hb1)
  have HR1 := hide hr1
  have hlt1 := hr1.lt
  rw [hsz] at HR1 hlt1
  clear hb1 hr1 hBz hX1 hX2 HV
  rw [hsz]
  clear hsz Wz
  generalize hρ : w.heap.size + 2 = ρ at *
  go_wp2_with fail
  refine (l4AnyTeams_any ρ 0 bs' w1 HR1.out (by omega)).mono ?_
  rintro e w2 ⟨tv, Ts, rfl, hT2, hl2, hf2, ⟨q2, -, hq2, hr2⟩, ht2⟩
  obtain ⟨ta, tcap, rfl⟩ := hT2.form
  have HR2 := hide hr2
  have HC2 := hide ht2
  clear hT2 hr2 ht2 hf2 HR1
  go_wp2_with fail
  refine (l4AnyRule_any ρ q2 bs' w2 HR2.out (by omega)).mono ?_
  rintro e w3 ⟨qv, q, rfl, hq3, hqf, ⟨q3, -, hq3b, hr3⟩, ht3⟩
  obtain ⟨qa, qcap, rfl, hqcap⟩ := hq3.form
  have HC3 := hide (HC2.out.trans ht3)
  have HR3 := hide hr3
  clear hq3 hqf hr3 ht3 HC2 HR2
  go_wp2_with fail
  refine (l4DrawAct_any ρ q3 bs' w3 HR3.out (by omega)).mono ?_
  rintro e w4 ⟨av, ak, at', an, rfl, -, -, -, ht4⟩
  have HC4 := hide (HC3.out.trans ht4)
  clear ht4 HC3 HR3
  have B1 := HC4.out.box HX1.out (by omega)
  have B2 := HC4.out.box HX2.out (by omega)
  have HBw : Hid (Below w.heap.size w w4) := HB1.out.trans (HC4.out.under (by omega) (by omega))
  have d0 : w4.cell? ⟨w.heap.size, 0, none⟩ = some (.slice none 0 0) := by rw [B1.cell 0]; rfl
  have d1 : w4.cell? ⟨w.heap.size, 1, none⟩ = some (.string ⟨#[]⟩) := by rw [B1.cell 1]; rfl
  have d2 : w4.cell? ⟨w.heap.size, 2, none⟩ = some (.string ⟨#[]⟩) := by rw [B1.cell 2]; rfl
  have d3 : w4.cell? ⟨w.heap.size, 3, none⟩ = some (.string ⟨#[]⟩) := by rw [B1.cell 3]; rfl
  have f0 : w4.cell? ⟨w.heap.size + 1, 0, none⟩ = some (.int .i64 0) := by rw [B2.cell 0]; rfl
  have f1 : w4.cell? ⟨w.heap.size + 1, 1, none⟩ = some (.string ⟨#[]⟩) := by rw [B2.cell 1]; rfl
  have f2 : w4.cell? ⟨w.heap.size + 1, 2, none⟩ = some (.string ⟨#[]⟩) := by rw [B2.cell 2]; rfl
  have f3 : w4.cell? ⟨w.heap.size + 1, 3, none⟩ = some (.string ⟨#[]⟩) := by rw [B2.cell 3]; rfl
  have df := B1.free
  have ff := B2.free
  clear B1 B2 HX1 HX2 HB1 HC4
  go_wp2
  refine bodyPost_ret (v := .tuple #[.slice ta Ts.length tcap, .agg #[.slice (some qa) q.vb.length qcap, .string q.kd, .string q.tm, .string q.pf], .agg #[.int .i64 av, .string ak, .string at', .string an]]) (by simp [results, Tryd.results10, go_sem, d0, d1, d2, d3, f0, f1, f2, f3]) rfl ⟨_, _, q, av, ak, at', an, rfl, ⟨_, _, _, rfl⟩, ⟨_, _, _, rfl⟩, ?_⟩
  repeat (refine Below.setCell ?_ (by simp only []; omega) _)
  exact HBw.out

/-- the worlds in which memory has only been added to -/
abbrev Up (W0 : World) : World → Prop := fun W => Below W0.heap.size W0 W
theorem Up.cell {W0 : World} (X : In (Up W0)) {p : Addr} {v : Value} (h : W0.cell? p = some v) : X.w.cell? p = some v :=
  (Below.cell (show Below W0.heap.size W0 X.w from X.h) (World.block_lt_of_cell? W0 _ h)).trans h
theorem Up.next {W0 : World} (X : In (Up W0)) {W' : World} (h : Below X.w.heap.size X.w W') : ∃ Y : In (Up W0), W' = Y.w :=
  ⟨⟨W', X.h.trans (h.mono X.h.size)⟩, rfl⟩

theorem any_no {α : Type} {L : List α} {f : α → Bool} (h : ∀ i (h : i < L.length), f L[i] = false) : L.any f = false := by
  rw [List.any_eq_false]
  intro x hx
  obtain ⟨i, hi, rfl⟩ := List.getElem_of_mem hx
  simp [h i hi]
theorem any_yes {α : Type} {L : List α} {f : α → Bool} {i : Nat} (hi : i < L.length) (h : f L[i] = true) : L.any f = true :=
  List.any_eq_true.2 ⟨_, List.getElem_mem hi, h⟩

set_option maxRecDepth 20000 in
set_option maxHeartbeats 4000000 in
theorem wgSome_any (lo lr : Nat) (tv sv : Value) (Ts : List Tm) (Rs : List Ru) (v : Int) (kd tm nm : ByteArray) (w : World) (hT : TmsAt lo w tv Ts) (hR : RusAt lr w sv Rs) :
    Calls Tryd.prog 9 #[tv, sv, .agg #[.int .i64 v, .string kd, .string tm, .string nm]] w fun e w' => e = .returned (.bool (Rs.any fun r => allowsB Ts r v kd tm nm)) ∧ Below w.heap.size w w' := by
  have HT := hide hT
  have HR := hide hR
  obtain ⟨ta, tcap, rfl⟩ := hT.form
  obtain ⟨sa, scap, rfl⟩ := hR.form
  have hm := hR.max
  unfold maxLen at hm
  clear hT hR
  go_enter Tryd.func9, Tryd.ntmps9
  go_wp2
  have HX : Hid (Box (w.alloc (.cells #[.int .i64 v, .string kd, .string tm, .string nm] 32)) w.heap.size #[.int .i64 v, .string kd, .string tm, .string nm]) := Box.new _ _ _ _ rfl
  have HB : Hid (Below w.heap.size w (w.alloc (.cells #[.int .i64 v, .string kd, .string tm, .string nm] 32))) := one_al _ _
  go_loopw [7] (fun i wr => ∃ k : Nat, i = .int .i64 k ∧ k ≤ Rs.length ∧ Below w.heap.size w wr ∧ Box wr w.heap.size #[.int .i64 v, .string kd, .string tm, .string nm] ∧ ∀ j (h : j < Rs.length), j < k → allowsB Ts Rs[j] v kd tm nm = false) (fun i _ => Rs.length - (intOf i).toNat)
  case atStart => exact ⟨0, rfl, Nat.zero_le _, HB.out, HX.out, fun j _ h => by omega⟩
  case round =>
    clear HX HB
    obtain ⟨k, rfl, hk, hb, hx, hall⟩ := hrel
    have HBr := hide hb
    have HXr := hide hx
    have HA := hide hall
    clear hb hx hall
    by_cases hlt : k < Rs.length
    · obtain ⟨b, off, rfl, hbw, hc⟩ := HR.out.full' (by omega)
      obtain ⟨hz, vv, hcell, hv⟩ := hc k hlt
      obtain ⟨c0, c1, c2, c3⟩ := hcell.below (w' := w) (Below.refl _ _) hbw
      obtain ⟨va, vcap, rfl⟩ := hv.form
      have HV := hide hv
      have HZ := hide hz
      clear hc hcell hz hv
      go_wp2
      go_cut [20] (fun c wc => c = .bool (allowsB Ts Rs[k] v kd tm nm) ∧ Below wr.heap.size wr wc)
      case first =>
        have xn : Nonempty (In (Up wr)) := ⟨⟨wr, Below.refl _ _⟩⟩
        have xs := fun (X : In (Up wr)) => in_self X
        have r0 : ∀ X : In (Up wr), X.w.cell? ⟨b, off + k * 4, none⟩ = some (.slice va Rs[k].vb.length vcap) := fun X => Up.cell X ((HBr.out.cell (p := ⟨b, off + k * 4, none⟩) hbw).trans c0)
        have r1 : ∀ X : In (Up wr), X.w.cell? ⟨b, off + k * 4 + 1, none⟩ = some (.string Rs[k].kd) := fun X => Up.cell X ((HBr.out.cell (p := ⟨b, off + k * 4 + 1, none⟩) hbw).trans c1)
        have r2 : ∀ X : In (Up wr), X.w.cell? ⟨b, off + k * 4 + 2, none⟩ = some (.string Rs[k].tm) := fun X => Up.cell X ((HBr.out.cell (p := ⟨b, off + k * 4 + 2, none⟩) hbw).trans c2)
        have r3 : ∀ X : In (Up wr), X.w.cell? ⟨b, off + k * 4 + 3, none⟩ = some (.string Rs[k].pf) := fun X => Up.cell X ((HBr.out.cell (p := ⟨b, off + k * 4 + 3, none⟩) hbw).trans c3)
        have y0 : ∀ X : In (Up wr), X.w.cell? ⟨w.heap.size, 0, none⟩ = some (.int .i64 v) := fun X => Up.cell X (by rw [HXr.out.cell 0]; rfl)
        have y1 : ∀ X : In (Up wr), X.w.cell? ⟨w.heap.size, 1, none⟩ = some (.string kd) := fun X => Up.cell X (by rw [HXr.out.cell 1]; rfl)
        have y2 : ∀ X : In (Up wr), X.w.cell? ⟨w.heap.size, 2, none⟩ = some (.string tm) := fun X => Up.cell X (by rw [HXr.out.cell 2]; rfl)
        have y3 : ∀ X : In (Up wr), X.w.cell? ⟨w.heap.size, 3, none⟩ = some (.string nm) := fun X => Up.cell X (by rw [HXr.out.cell 3]; rfl)
        clear c0 c1 c2 c3
        refine wp_region_class (Up wr) (by kernel_rfl) (by kernel_rfl) ((Below.refl _ _).drew) ?_
        repeat (go_big_quiet_step ((go_at_call 8; rename_i X; exact (implAllows_any lo lr _ _ Ts Rs[k] v kd tm nm _ (HT.out.below (HBr.out.trans (X.h.mono HBr.out.size))) (HV.out.below (HBr.out.trans (X.h.mono HBr.out.size))) HZ.out).mono fun _ _ h => ⟨h.1, Up.next X h.2⟩)))
        refine wpQuiet_nil ?_
        intro wn hw
        obtain ⟨X, hX⟩ := hw
        have HWN : Below wr.heap.size wr wn := by rw [hX]; exact X.h
        clear hX X xs xn r0 r1 r2 r3 y0 y1 y2 y3
        go_wp2
        go_meet
        exact ⟨rfl, HWN⟩
      case rest =>
        obtain ⟨hc20, hwn⟩ := hcut
        have HW := hide hwn
        have HBw : Hid (Below w.heap.size w wc) := HBr.out.trans (HW.out.mono HBr.out.size)
        clear hwn
        cases ha : allowsB Ts Rs[k] v kd tm nm with
        | true =>
          have HE : Hid ((Rs.any fun r => allowsB Ts r v kd tm nm) = true) := any_yes hlt ha
          rw [ha] at hc20
          subst hc20
          go_wp2
          go_ret
          exact ⟨ret_bool HE.out.symm, HBw.out⟩
        | false =>
          have HN := hide ha
          rw [ha] at hc20
          subst hc20
          go_wp2
          go_roundw
          case rel => exact ⟨k + 1, by go_num, by omega, HBw.out, HXr.out.on HW.out, fun j hj hjk => by
                        by_cases e : j = k
                        · subst e; exact HN.out
                        · exact HA.out j hj (by omega)⟩
          case measure => simp [intOf]; omega
    · have HE : Hid ((Rs.any fun r => allowsB Ts r v kd tm nm) = false) := any_no (fun i hi => HA.out i hi (by omega))
      go_wp2
      go_ret
      exact ⟨ret_bool HE.out.symm, HBr.out⟩
end Go.Proofs.YtobijdenhbpdfaaDoor
