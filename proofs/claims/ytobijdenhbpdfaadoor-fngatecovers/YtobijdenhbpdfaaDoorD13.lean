
import Derived.Test.YtobijdenhbpdfaaDoorD12
import Derived.Test.YtobijdenhbpdfaaDoorU4
namespace Go.Proofs.YtobijdenhbpdfaaDoor
open Go.RowKit Go.Deep

/-- bytes that a law is given -/
def CodeIn (w : World) (v : Value) (bs : List UInt8) : Prop :=
  (∃ (a : Option Addr) (cap : Nat), v = .slice a 0 cap ∧ bs = []) ∨
  ∃ (b off cap : Nat), v = .slice (some ⟨b, off, none⟩) bs.length cap ∧ bs ≠ [] ∧ bs.length ≤ maxLen ∧ bs.length ≤ cap ∧ b < w.heap.size ∧ ∀ i (h : i < bs.length), w.cell? ⟨b, off + i, none⟩ = some (.int .u8 (bs[i].toNat : Int))
theorem CodeIn.below {w w' : World} {v : Value} {bs : List UInt8} (h : CodeIn w v bs) (hb : Below w.heap.size w w') : CodeIn w' v bs := by
  rcases h with h | ⟨b, off, cap, h1, h2, h3, h4, h5, h6⟩
  · exact Or.inl h
  · exact Or.inr ⟨b, off, cap, h1, h2, h3, h4, Nat.lt_of_lt_of_le h5 hb.size, fun i hi => (hb.cell (p := ⟨b, off + i, none⟩) h5).trans (h6 i hi)⟩
theorem CodeIn.open' {w : World} {v : Value} {bs : List UInt8} (h : CodeIn w v bs) : CodeAt w.heap.size w v bs ∨ (∃ b off cap, v = .slice (some ⟨b, off, none⟩) bs.length cap ∧ 2000 < bs.length ∧ bs.length ≤ maxLen ∧ bs.length ≤ cap ∧ b < w.heap.size ∧ ∀ i (h : i < bs.length), w.cell? ⟨b, off + i, none⟩ = some (.int .u8 (bs[i].toNat : Int))) := by
  rcases h with h | ⟨b, off, cap, h1, h2, h3, h4, h5, h6⟩
  · exact Or.inl (Or.inl h)
  · by_cases hl : bs.length ≤ 2000
    · exact Or.inl (Or.inr ⟨b, off, cap, h1, h2, hl, h5, h6⟩)
    · exact Or.inr ⟨b, off, cap, h1, by omega, h3, h4, h5, h6⟩
theorem CodeIn.form {w : World} {v : Value} {bs : List UInt8} (h : CodeIn w v bs) : ∃ a cap, v = .slice a bs.length cap := by
  rcases h with ⟨a, cap, h, rfl⟩ | ⟨b, off, cap, h, _⟩
  · exact ⟨a, cap, h⟩
  · exact ⟨_, cap, h⟩
theorem IntsIn.notLow {lo g : Nat} {W : World} {v : Value} {L : List Int} (h : IntsIn lo W v L) (hg : g < lo) : L = [] ∨ NotIn g v := by
  rcases h with ⟨_, _, _, h⟩ | ⟨b, off, cap, h1, h2, h3, h4, h5, h6⟩
  · exact Or.inl h
  · refine Or.inr fun a n c e => ?_
    rw [h1] at e
    injection e with e
    injection e with e
    rw [← e]
    show b ≠ g
    omega
theorem NotIn.cut {g : Nat} {a : Option Addr} {n m c : Nat} (h : NotIn g (.slice a n c)) : NotIn g (.slice a m c) := fun b k d e => by
  injection e with e1 e2 e3
  subst e1
  exact h b n c rfl
theorem half_up {n : Nat} (hl : n ≤ 10) : ∃ m : Nat, m ≤ n ∧ wrap64 ((wrap64 ((n : Int) + 1)).tdiv 2) = (m : Int) := by
  have h1 : wrap64 ((n : Int) + 1) = (n : Int) + 1 := by unfold wrap64; omega
  have h2 : ((n : Int) + 1).tdiv 2 = (((n + 1) / 2 : Nat) : Int) := by
    rw [Int.tdiv_eq_ediv_of_nonneg (by omega)]
    omega
  refine ⟨(n + 1) / 2, by omega, ?_⟩
  rw [h1, h2]
  have h3 : (n + 1) / 2 ≤ 10 := by omega
  generalize (n + 1) / 2 = d at *
  unfold wrap64
  omega
/-- where the loops of DrawGateCovers start -/
structure Cv (w : World) (ρ κ : Nat) (tv : Value) (Ts : List Tm) (qa : Addr) (qcap : Nat) (q : Ru) (W0 : World) : Prop where
  lt : ρ < W0.heap.size
  rb : ρ = w.heap.size + 1
  tms : TmsAt (w.heap.size + 2) W0 tv Ts
  box : Box W0 κ #[.slice (some qa) q.vb.length qcap, .string q.kd, .string q.tm, .string q.pf]
  kb : w.heap.size + 2 ≤ κ
  ints : IntsH (w.heap.size + 2) W0 (.slice (some qa) q.vb.length qcap) q.vb
  res : Box W0 w.heap.size #[.slice none 0 0, .string ⟨#[]⟩, .string ⟨#[]⟩, .string ⟨#[]⟩]
  few : RuFew q
  below : Below w.heap.size w W0
theorem Cv.tch {w W0 W : World} {ρ κ qcap : Nat} {tv : Value} {Ts : List Tm} {qa : Addr} {q : Ru} (h : Cv w ρ κ tv Ts qa qcap q W0) (ht : Tch ρ W0 W) : Cv w ρ κ tv Ts qa qcap q W := by
  have hr := h.rb
  have hk := h.kb
  have hw : Below w.heap.size w W := h.below.trans (ht.under (by omega) h.below.size)
  exact ⟨Nat.lt_of_lt_of_le h.lt ht.size, hr, h.tms.tch ht (by omega), ht.box h.box (by omega), hk, h.ints.tch ht (by omega), ht.box h.res (by omega), h.few, hw⟩
/-- a rule in a block of its own -/
structure Xr (base g ξ : Nat) (ρ q : Nat) (bs : List UInt8) (a : Option Addr) (n c : Nat) (r : Ru) (W : World) : Prop where
  box : Box W ξ #[.slice a n c, .string r.kd, .string r.tm, .string r.pf]
  ints : IntsIn base W (.slice a n c) r.vb
  notin : r.vb = [] ∨ NotIn g (.slice a n c)
  size : RuSize r
  rd : Rd W ρ q bs

set_option maxRecDepth 20000 in
set_option maxHeartbeats 16000000 in
theorem drawCovers_any (v : Value) (bs : List UInt8) (w : World) (hv : CodeIn w v bs) :
    Calls Tryd.prog 4 #[v] w fun e w' => ∃ (tv sv qv : Value) (Ts : List Tm) (Rs : List Ru) (q : Ru), e = .returned (.tuple #[tv, sv, .agg #[qv, .string q.kd, .string q.tm, .string q.pf]]) ∧ TmsAt w.heap.size w' tv Ts ∧ RusAt w.heap.size w' sv Rs ∧ IntsIn w.heap.size w' qv q.vb ∧ Ts.length ≤ 20 ∧ Rs.length ≤ 20 ∧ RuFew q ∧ Below w.heap.size w w' := by
  obtain ⟨i0, hi, hz0, hz1, hz2⟩ := info_parts ruleInfo
  have HI := hide (And.intro hi (And.intro hz0 (And.intro hz1 hz2)))
  clear hi hz0 hz1 hz2
  have HV := hide hv
  obtain ⟨va, vcap, rfl⟩ := hv.form
  clear hv
  go_enter Tryd.func4, Tryd.ntmps4
  go_wp2_with fail
  generalize hWz : w.alloc _ = Wz
  have hBz : Below w.heap.size w Wz := by rw [← hWz]; exact one_al _ _
  have hXz : Box Wz w.heap.size #[.slice none 0 0, .string ⟨#[]⟩, .string ⟨#[]⟩, .string ⟨#[]⟩] := by rw [← hWz]; exact Box.new _ _ _ _ rfl
  have hsz : Wz.heap.size = w.heap.size + 1 := by rw [← hWz]; simp
  clear hWz
  refine (l1Open_any _ bs Wz (HV.out.below hBz).open').mono ?_
  rintro e w1 ⟨rfl, ⟨bs', hr1⟩, hb1⟩
  have HB1 := hide (hBz.trans (hb1.mono hBz.size))
  have HX1 := hide (hXz.on hb1)
  have HR1 := hide hr1
  have hlt1 := hr1.lt
  rw [hsz] at HR1 hlt1
  clear hb1 hr1 hBz hXz HV
  rw [hsz]
  clear hsz Wz
  generalize hρ : w.heap.size + 1 = ρ at *
  go_wp2_with fail
  refine (l4AnyTeams_any ρ 0 bs' w1 HR1.out (by omega)).mono ?_
  rintro e w2 ⟨tv, Ts, rfl, hT2, hl2, hf2, ⟨q2, -, hq2, hr2⟩, ht2⟩
  obtain ⟨ta, tcap, rfl⟩ := hT2.form
  have HT2 := hide (hT2.mono (lo' := w.heap.size + 2) (by omega))
  have HR2 := hide hr2
  have HC2 := hide ht2
  have hz2 := ht2.size
  clear hT2 hr2 ht2 hf2 HR1
  go_wp2_with fail
  refine (l4AnyRule_any ρ q2 bs' w2 HR2.out (by omega)).mono ?_
  rintro e w3 ⟨qv, q, rfl, hq3, hqf, ⟨q3, -, hq3b, hr3⟩, ht3⟩
  obtain ⟨qa, qcap, rfl, hqcap⟩ := hq3.form
  have HQ3 := hide (hq3.mono (lo' := w.heap.size + 2) (by omega))
  have HT3 := hide (HT2.out.tch ht3 (by omega))
  have HC3 := hide (HC2.out.trans ht3)
  have HR3 := hide hr3
  have HF := hide hqf
  have hz3 := ht3.size
  clear hq3 hqf hr3 ht3 HT2 HC2 HR2
  go_wp2_with fail
  generalize hW0 : w3.alloc (.cells #[.slice (some qa) q.vb.length qcap, .string q.kd, .string q.tm, .string q.pf] 27) = W0
  have ha0 : Below w3.heap.size w3 W0 := by rw [← hW0]; exact one_al _ _
  have HS : Hid (Cv w ρ w3.heap.size (.slice ta Ts.length tcap) Ts qa qcap q W0) := by
    have hb3 : Below w.heap.size w w3 := HB1.out.trans (HC3.out.under (by omega) (by omega))
    refine ⟨by have := ha0.size; omega, hρ.symm, HT3.out.below ha0, by rw [← hW0]; exact Box.new _ _ _ _ rfl, by omega, HQ3.out.below ha0, (HC3.out.box HX1.out (by omega)).on ha0, HF.out, hb3.trans (ha0.mono hb3.size)⟩
  have HR0 := hide (HR3.out.below ha0)
  have hq30 : q3 ≤ 50 := by omega
  have hs0 : W0.heap.size = w3.heap.size + 1 := by rw [← hW0]; simp
  clear hW0 ha0 HT3 HQ3 HX1 HC3 HR3 HB1 HF hqcap hq2 hq3b
  generalize w3.heap.size = κ at *
  clear hz2 hz3 w2 w3
  have HO1 : Hid (RuOwn W0.heap.size (κ + 1) 0 [] (W0.alloc (.cells #[] 27))) := ⟨owns_made W0 _ _ 4 hs0 (by omega), fun x hx => absurd hx List.not_mem_nil⟩
  have HC1 : Hid (Tch ρ W0 (W0.alloc (.cells #[] 27))) := Tch.below (one_al _ _)
  have HR4 := hide (HR0.out.below (one_al W0 (.cells #[] 27)))
  have hρ0 := HS.out.lt
  generalize W0.alloc (.cells #[] 27) = W1 at *
  refine (pick_any ρ q3 bs' 5 W1 HR4.out (by omega) (by decide) (by decide)).mono ?_
  rintro e w4 ⟨x, rfl, hx0, hx1, hr, ht⟩
  obtain ⟨n, rfl⟩ := Int.eq_ofNat_of_zero_le hx0
  have HO4 := hide (HO1.out.tch ht hρ0)
  have HC4 := hide (HC1.out.trans ht)
  have HR5 := hide hr
  clear hr ht HO1 HC1 HR4 HR0 hx0
  go_wp2
  go_loopw [8, 9] (fun rv i wr => ∃ (k g cap : Nat) (L : List (Value × Ru)) (p : Nat), rv = .slice (some ⟨g, 0, none⟩) L.length cap ∧ i = .int .i64 k ∧ L.length + k ≤ 4 ∧ p + k * 100 ≤ 1000 ∧ RuOwn W0.heap.size g cap L wr ∧ Rd wr ρ p bs' ∧ Tch ρ W0 wr) (fun _ i _ => (intOf i).toNat)
  case atStart => exact ⟨n, κ + 1, 0, [], q3 + 1, rfl, rfl, by simp; omega, by omega, HO4.out, HR5.out, HC4.out⟩
  case round =>
    clear HO4 HC4 HR5 hx1
    obtain ⟨k, g, cap, L, p, rfl, rfl, hk4, hp, hO, hR, hC⟩ := hrel
    have HO := hide hO
    have HR := hide hR
    have HC := hide hC
    have hge := hO.ge
    have hzr := hC.size
    clear hO hR hC
    by_cases hk : 0 < k
    · have hkd : decide ((0 : Int) < (k : Int)) = true := by simp; omega
      go_wp2_with fail
      refine (l4AnyRule_any ρ p bs' wr HR.out (by omega)).mono ?_
      rintro e w5 ⟨xv, x, rfl, hxv, hxf, ⟨p5, hp5, hp5b, hr5⟩, ht5⟩
      obtain ⟨xa, xcap, rfl, hxcap⟩ := hxv.form
      have HX5 := hide hxv
      have HXF := hide hxf
      have HR5 := hide hr5
      have HC5 := hide ht5
      have hz5 := ht5.size
      clear hxv hxf hr5 ht5 HR
      go_wp2_with fail
      generalize hW6 : w5.alloc (.cells #[.slice (some xa) x.vb.length xcap, .string x.kd, .string x.tm, .string x.pf] 27) = W6
      have ha6 : Below w5.heap.size w5 W6 := by rw [← hW6]; exact one_al _ _
      have HB6 : Hid (Box W6 w5.heap.size #[.slice (some xa) x.vb.length xcap, .string x.kd, .string x.tm, .string x.pf]) := by rw [← hW6]; exact Box.new _ _ _ _ rfl
      have HC6 := hide (HC5.out.trans (Tch.below ha6))
      have HX6 := hide (HX5.out.below ha6)
      have HR6 := hide (HR5.out.below ha6)
      have hz6 := ha6.size
      have hxi6 := HB6.out.lt
      clear hW6 ha6 HC5 HX5 HR5
      generalize hξ : w5.heap.size = ξ at *
      clear hξ w5
      refine (pick_any ρ p5 bs' 2 W6 HR6.out (by omega) (by decide) (by decide)).mono ?_
      rintro e w7 ⟨y, rfl, hy0, hy1, hr7, ht7⟩
      have HB7 := hide (ht7.box HB6.out (by omega))
      have HX7 := hide (HX6.out.tch ht7 (by omega))
      have HC7 := hide (HC6.out.trans ht7)
      have HR7 := hide hr7
      have hz7 := ht7.size
      clear hr7 ht7 HB6 HX6 HC6 HR6
      by_cases hy : y = 0
      · subst hy
        have HQ := hide (HS.out.tch (HC.out.trans HC7.out))
        have k0 := HQ.out.box.cell 0
        have k1 := HQ.out.box.cell 1
        have k2 := HQ.out.box.cell 2
        have k3 := HQ.out.box.cell 3
        simp at k0 k1 k2 k3
        go_wp2_with fail
        clear k0 k1 k2 k3
        refine (l5Rule_any (w.heap.size + 2) q _ w7 HQ.out.ints HQ.out.few).mono ?_
        rintro e w8 ⟨v8, rfl, hb8, hv8⟩
        obtain ⟨a8, cap8, rfl, hcap8⟩ := hv8.form
        have HB8 := hide (HB7.out.on hb8)
        have c0 := HB8.out.cell 0
        have c1 := HB8.out.cell 1
        have c2 := HB8.out.cell 2
        have c3 := HB8.out.cell 3
        have fr := HB8.out.free
        simp at c0 c1 c2 c3
        have HX8 := hide hv8
        have HC8 := hide (HC7.out.trans (Tch.below hb8))
        have HR8 := hide (HR7.out.below hb8)
        have hz8 := hb8.size
        clear hb8 hv8 HB7 HX7 HC7 HR7
        go_wp2_with fail
        clear c0 c1 c2 c3 fr
        have hsl : ∀ j : Nat, j < 4 → ρ < ξ := fun _ _ => by omega
        obtain ⟨W9, hW9, HB9, HR9, HC9, HX9⟩ : ∃ W9, W9 = (((w8.setCell ⟨ξ, 0, none⟩ (.slice (some a8) q.vb.length cap8)).setCell ⟨ξ, 1, none⟩ (.string q.kd)).setCell ⟨ξ, 2, none⟩ (.string q.tm)).setCell ⟨ξ, 3, none⟩ (.string q.pf) ∧
            Hid (Box W9 ξ #[.slice (some a8) q.vb.length cap8, .string q.kd, .string q.tm, .string q.pf]) ∧ Hid (Rd W9 ρ (p5 + 1) bs') ∧ Hid (Tch ρ wr W9) ∧ Hid (IntsH w7.heap.size W9 (.slice (some a8) q.vb.length cap8) q.vb) := by
          refine ⟨_, rfl, ?_, ?_, ?_, ?_⟩
          · have P := (((HB8.out.put 0 (by simp) (.slice (some a8) q.vb.length cap8)).put 1 (by simp) (.string q.kd)).put 2 (by simp) (.string q.tm)).put 3 (by simp) (.string q.pf)
            unfold Hid
            simpa using P
          · exact ((((HR8.out.other (i := 0) (show ρ < ξ by omega) (.slice (some a8) q.vb.length cap8)).other (i := 1) (show ρ < ξ by omega) (.string q.kd)).other (i := 2) (show ρ < ξ by omega) (.string q.tm)).other (i := 3) (show ρ < ξ by omega) (.string q.pf))
          · exact ((((HC8.out.other (i := 0) (show wr.heap.size ≤ ξ by omega) (.slice (some a8) q.vb.length cap8)).other (i := 1) (show wr.heap.size ≤ ξ by omega) (.string q.kd)).other (i := 2) (show wr.heap.size ≤ ξ by omega) (.string q.tm)).other (i := 3) (show wr.heap.size ≤ ξ by omega) (.string q.pf))
          · exact ((((HX8.out.setCell (p := ⟨ξ, 0, none⟩) (show ξ < _ by omega) (.slice (some a8) q.vb.length cap8)).setCell (p := ⟨ξ, 1, none⟩) (show ξ < _ by omega) (.string q.kd)).setCell (p := ⟨ξ, 2, none⟩) (show ξ < _ by omega) (.string q.tm)).setCell (p := ⟨ξ, 3, none⟩) (show ξ < _ by omega) (.string q.pf))
        rw [← hW9]
        clear hW9 HB8 HR8 HC8 HX8 hsl
        refine (pick_any ρ (p5 + 1) bs' 8 W9 HR9.out (by omega) (by decide) (by decide)).mono ?_
        rintro e w10 ⟨z, rfl, hz0, hz1, hr10, ht10⟩
        have HB10 := hide (ht10.box HB9.out (by omega))
        have HX10 := hide (HX9.out.tch ht10 (by omega))
        have HC10 := hide (HC9.out.trans ht10)
        have HR10 := hide hr10
        have hz10 := HC10.out.size
        have hfew := HQ.out.few
        have hqz := hfew.size
        have b0 := HB10.out.cell 0
        have b1 := HB10.out.cell 1
        have b2 := HB10.out.cell 2
        have b3 := HB10.out.cell 3
        have bf := HB10.out.free
        simp at b0 b1 b2 b3
        clear hr10 ht10 HB9 HX9 HC9 HR9
        have hz : z = 0 ∨ z = 1 ∨ z = 2 ∨ (z = 3 ∨ z = 4) ∨ z = 5 ∨ z = 6 ∨ z = 7 := by omega
        clear hz0 hz1
        rcases hz with rfl | rfl | rfl | hz | rfl | rfl | rfl
        · have HZ : Hid (Xr W0.heap.size g ξ ρ (p5 + 1 + 1) bs' (some a8) q.vb.length cap8 ⟨q.vb, ⟨#[]⟩, q.tm, q.pf⟩ (w10.setCell ⟨ξ, 1, none⟩ (.string ⟨#[]⟩))) := ⟨by have P := HB10.out.put 1 (by simp) (.string ⟨#[]⟩); simpa using P, (HX10.out.setCell (p := ⟨ξ, 1, none⟩) (show ξ < _ by omega) _).at'.mono (by omega), HX10.out.at'.notLow (by omega), ⟨Nat.zero_le _, hqz.s2, hqz.s3⟩, HR10.out.other (show ρ < ξ by omega) _⟩
          have HCz := hide (HC10.out.other (i := 1) (show wr.heap.size ≤ ξ by omega) (.string ⟨#[]⟩))
          have HOz := hide (HO.out.tch HCz.out hρ0)
          have hzz := HCz.out.size
          have z0 : (w10.setCell ⟨ξ, 1, none⟩ (.string ⟨#[]⟩)).cell? ⟨ξ, 0, none⟩ = some (.slice (some a8) q.vb.length cap8) := by rw [HZ.out.box.cell 0]; rfl
          have z1 : (w10.setCell ⟨ξ, 1, none⟩ (.string ⟨#[]⟩)).cell? ⟨ξ, 1, none⟩ = some (.string ⟨#[]⟩) := by rw [HZ.out.box.cell 1]; rfl
          have z2 : (w10.setCell ⟨ξ, 1, none⟩ (.string ⟨#[]⟩)).cell? ⟨ξ, 2, none⟩ = some (.string q.tm) := by rw [HZ.out.box.cell 2]; rfl
          have z3 : (w10.setCell ⟨ξ, 1, none⟩ (.string ⟨#[]⟩)).cell? ⟨ξ, 3, none⟩ = some (.string q.pf) := by rw [HZ.out.box.cell 3]; rfl
          go_wp2_with (at_builtin; refine wpList_append_lies _ rfl (.tmp 67) (.tmp 69) 24 rfl W0.heap.size 27 i0 (.agg #[.slice none 0 0, .string ⟨#[]⟩, .string ⟨#[]⟩, .string ⟨#[]⟩]) 4 72 Tryd.underlying24 HI.out.1 HI.out.2.1 HI.out.2.2.1 HI.out.2.2.2 rfl (by decide) _ L.length (rvs L) rfl (owns_below HOz.out.own (one_al _ _)) ⟨w10.heap.size, 0, none⟩ 1 1 [.slice (some a8) q.vb.length cap8, .string ⟨#[]⟩, .string q.tm, .string q.pf] rfl rfl (cell_new4 _ _ _ _ _ _ _ (by simp)) (four_oneCell _ _ _ _ _ _) (by decide) (by unfold maxLen; omega) (by omega) (by simp; omega) _ rfl ?_; intro g' cap' wz hown hgrow hat hltz)
          have HE := hide (HOz.out.app (one_al _ _) (.slice (some a8) q.vb.length cap8, ⟨q.vb, ⟨#[]⟩, q.tm, q.pf⟩) (HZ.out.ints.below (one_al _ _)) HZ.out.size HZ.out.notin hown hgrow hat (by omega))
          have HRz := hide ((HZ.out.rd.below (one_al _ _)).belowB HE.out.2 hρ0)
          have HCw := hide ((HC.out.trans (HCz.out.trans (Tch.below (one_al _ _)))).belowB HE.out.2 (Nat.le_refl _))
          clear hown hgrow hat hltz z0 z1 z2 z3
          go_roundw
          case rel => exact ⟨k - 1, g', cap', _, p5 + 1 + 1, by rw [List.length_append]; rfl, by go_num, by rw [List.length_append]; simp; omega, by omega, HE.out.1, HRz.out, HCw.out⟩
          case measure => simp [intOf]; omega
        · have HZ : Hid (Xr W0.heap.size g ξ ρ (p5 + 1 + 1) bs' (some a8) q.vb.length cap8 ⟨q.vb, q.kd, ⟨#[]⟩, q.pf⟩ (w10.setCell ⟨ξ, 2, none⟩ (.string ⟨#[]⟩))) := ⟨by have P := HB10.out.put 2 (by simp) (.string ⟨#[]⟩); simpa using P, (HX10.out.setCell (p := ⟨ξ, 2, none⟩) (show ξ < _ by omega) _).at'.mono (by omega), HX10.out.at'.notLow (by omega), ⟨hqz.s1, Nat.zero_le _, hqz.s3⟩, HR10.out.other (show ρ < ξ by omega) _⟩
          have HCz := hide (HC10.out.other (i := 2) (show wr.heap.size ≤ ξ by omega) (.string ⟨#[]⟩))
          have HOz := hide (HO.out.tch HCz.out hρ0)
          have hzz := HCz.out.size
          have z0 : (w10.setCell ⟨ξ, 2, none⟩ (.string ⟨#[]⟩)).cell? ⟨ξ, 0, none⟩ = some (.slice (some a8) q.vb.length cap8) := by rw [HZ.out.box.cell 0]; rfl
          have z1 : (w10.setCell ⟨ξ, 2, none⟩ (.string ⟨#[]⟩)).cell? ⟨ξ, 1, none⟩ = some (.string q.kd) := by rw [HZ.out.box.cell 1]; rfl
          have z2 : (w10.setCell ⟨ξ, 2, none⟩ (.string ⟨#[]⟩)).cell? ⟨ξ, 2, none⟩ = some (.string ⟨#[]⟩) := by rw [HZ.out.box.cell 2]; rfl
          have z3 : (w10.setCell ⟨ξ, 2, none⟩ (.string ⟨#[]⟩)).cell? ⟨ξ, 3, none⟩ = some (.string q.pf) := by rw [HZ.out.box.cell 3]; rfl
          go_wp2_with (at_builtin; refine wpList_append_lies _ rfl (.tmp 67) (.tmp 69) 24 rfl W0.heap.size 27 i0 (.agg #[.slice none 0 0, .string ⟨#[]⟩, .string ⟨#[]⟩, .string ⟨#[]⟩]) 4 72 Tryd.underlying24 HI.out.1 HI.out.2.1 HI.out.2.2.1 HI.out.2.2.2 rfl (by decide) _ L.length (rvs L) rfl (owns_below HOz.out.own (one_al _ _)) ⟨w10.heap.size, 0, none⟩ 1 1 [.slice (some a8) q.vb.length cap8, .string q.kd, .string ⟨#[]⟩, .string q.pf] rfl rfl (cell_new4 _ _ _ _ _ _ _ (by simp)) (four_oneCell _ _ _ _ _ _) (by decide) (by unfold maxLen; omega) (by omega) (by simp; omega) _ rfl ?_; intro g' cap' wz hown hgrow hat hltz)
          have HE := hide (HOz.out.app (one_al _ _) (.slice (some a8) q.vb.length cap8, ⟨q.vb, q.kd, ⟨#[]⟩, q.pf⟩) (HZ.out.ints.below (one_al _ _)) HZ.out.size HZ.out.notin hown hgrow hat (by omega))
          have HRz := hide ((HZ.out.rd.below (one_al _ _)).belowB HE.out.2 hρ0)
          have HCw := hide ((HC.out.trans (HCz.out.trans (Tch.below (one_al _ _)))).belowB HE.out.2 (Nat.le_refl _))
          clear hown hgrow hat hltz z0 z1 z2 z3
          go_roundw
          case rel => exact ⟨k - 1, g', cap', _, p5 + 1 + 1, by rw [List.length_append]; rfl, by go_num, by rw [List.length_append]; simp; omega, by omega, HE.out.1, HRz.out, HCw.out⟩
          case measure => simp [intOf]; omega
        · have HZ : Hid (Xr W0.heap.size g ξ ρ (p5 + 1 + 1) bs' (some a8) q.vb.length cap8 ⟨q.vb, q.kd, q.tm, ⟨#[]⟩⟩ (w10.setCell ⟨ξ, 3, none⟩ (.string ⟨#[]⟩))) := ⟨by have P := HB10.out.put 3 (by simp) (.string ⟨#[]⟩); simpa using P, (HX10.out.setCell (p := ⟨ξ, 3, none⟩) (show ξ < _ by omega) _).at'.mono (by omega), HX10.out.at'.notLow (by omega), ⟨hqz.s1, hqz.s2, Nat.zero_le _⟩, HR10.out.other (show ρ < ξ by omega) _⟩
          have HCz := hide (HC10.out.other (i := 3) (show wr.heap.size ≤ ξ by omega) (.string ⟨#[]⟩))
          have HOz := hide (HO.out.tch HCz.out hρ0)
          have hzz := HCz.out.size
          have z0 : (w10.setCell ⟨ξ, 3, none⟩ (.string ⟨#[]⟩)).cell? ⟨ξ, 0, none⟩ = some (.slice (some a8) q.vb.length cap8) := by rw [HZ.out.box.cell 0]; rfl
          have z1 : (w10.setCell ⟨ξ, 3, none⟩ (.string ⟨#[]⟩)).cell? ⟨ξ, 1, none⟩ = some (.string q.kd) := by rw [HZ.out.box.cell 1]; rfl
          have z2 : (w10.setCell ⟨ξ, 3, none⟩ (.string ⟨#[]⟩)).cell? ⟨ξ, 2, none⟩ = some (.string q.tm) := by rw [HZ.out.box.cell 2]; rfl
          have z3 : (w10.setCell ⟨ξ, 3, none⟩ (.string ⟨#[]⟩)).cell? ⟨ξ, 3, none⟩ = some (.string ⟨#[]⟩) := by rw [HZ.out.box.cell 3]; rfl
          go_wp2_with (at_builtin; refine wpList_append_lies _ rfl (.tmp 67) (.tmp 69) 24 rfl W0.heap.size 27 i0 (.agg #[.slice none 0 0, .string ⟨#[]⟩, .string ⟨#[]⟩, .string ⟨#[]⟩]) 4 72 Tryd.underlying24 HI.out.1 HI.out.2.1 HI.out.2.2.1 HI.out.2.2.2 rfl (by decide) _ L.length (rvs L) rfl (owns_below HOz.out.own (one_al _ _)) ⟨w10.heap.size, 0, none⟩ 1 1 [.slice (some a8) q.vb.length cap8, .string q.kd, .string q.tm, .string ⟨#[]⟩] rfl rfl (cell_new4 _ _ _ _ _ _ _ (by simp)) (four_oneCell _ _ _ _ _ _) (by decide) (by unfold maxLen; omega) (by omega) (by simp; omega) _ rfl ?_; intro g' cap' wz hown hgrow hat hltz)
          have HE := hide (HOz.out.app (one_al _ _) (.slice (some a8) q.vb.length cap8, ⟨q.vb, q.kd, q.tm, ⟨#[]⟩⟩) (HZ.out.ints.below (one_al _ _)) HZ.out.size HZ.out.notin hown hgrow hat (by omega))
          have HRz := hide ((HZ.out.rd.below (one_al _ _)).belowB HE.out.2 hρ0)
          have HCw := hide ((HC.out.trans (HCz.out.trans (Tch.below (one_al _ _)))).belowB HE.out.2 (Nat.le_refl _))
          clear hown hgrow hat hltz z0 z1 z2 z3
          go_roundw
          case rel => exact ⟨k - 1, g', cap', _, p5 + 1 + 1, by rw [List.length_append]; rfl, by go_num, by rw [List.length_append]; simp; omega, by omega, HE.out.1, HRz.out, HCw.out⟩
          case measure => simp [intOf]; omega
        · rcases hz with rfl | rfl
          · obtain ⟨m, hm1, hme⟩ : ∃ m : Nat, m ≤ q.vb.length ∧ Value.int .i64 (wrap64 ((wrap64 ((q.vb.length : Int) + 1)).tdiv 2)) = Value.int .i64 (m : Int) := by
              obtain ⟨m, h1, h2⟩ := half_up hfew.n
              exact ⟨m, h1, by rw [h2]⟩
            have hmc : (m : Int) ≤ (cap8 : Int) := by have := hcap8; omega
            have hni : q.vb.take m = [] ∨ NotIn g (.slice (some a8) m cap8) := by
              rcases HX10.out.at'.notLow (g := g) (by omega) with e | e
              · exact Or.inl (by rw [e]; simp)
              · exact Or.inr e.cut
            have hii : IntsIn W0.heap.size (w10.setCell ⟨ξ, 0, none⟩ (.slice (some a8) m cap8)) (.slice (some a8) m cap8) (q.vb.take m) := ((HX10.out.at'.cut m hm1).setCell (p := ⟨ξ, 0, none⟩) (show ξ < w7.heap.size by omega) (.slice (some a8) m cap8)).mono (by omega)
            have hbb : Box (w10.setCell ⟨ξ, 0, none⟩ (.slice (some a8) m cap8)) ξ #[.slice (some a8) m cap8, .string q.kd, .string q.tm, .string q.pf] := by have P := HB10.out.put 0 (by simp) (.slice (some a8) m cap8); simpa using P
            have HZ : Hid (Xr W0.heap.size g ξ ρ (p5 + 1 + 1) bs' (some a8) m cap8 ⟨q.vb.take m, q.kd, q.tm, q.pf⟩ (w10.setCell ⟨ξ, 0, none⟩ (.slice (some a8) m cap8))) := ⟨hbb, hii, hni, ⟨hqz.s1, hqz.s2, hqz.s3⟩, HR10.out.other (show ρ < ξ by omega) _⟩
            clear hni hii hbb
            have HCz := hide (HC10.out.other (i := 0) (show wr.heap.size ≤ ξ by omega) (.slice (some a8) m cap8))
            have HOz := hide (HO.out.tch HCz.out hρ0)
            have hzz := HCz.out.size
            have z0 : (w10.setCell ⟨ξ, 0, none⟩ (.slice (some a8) m cap8)).cell? ⟨ξ, 0, none⟩ = some (.slice (some a8) m cap8) := by rw [HZ.out.box.cell 0]; rfl
            have z1 : (w10.setCell ⟨ξ, 0, none⟩ (.slice (some a8) m cap8)).cell? ⟨ξ, 1, none⟩ = some (.string q.kd) := by rw [HZ.out.box.cell 1]; rfl
            have z2 : (w10.setCell ⟨ξ, 0, none⟩ (.slice (some a8) m cap8)).cell? ⟨ξ, 2, none⟩ = some (.string q.tm) := by rw [HZ.out.box.cell 2]; rfl
            have z3 : (w10.setCell ⟨ξ, 0, none⟩ (.slice (some a8) m cap8)).cell? ⟨ξ, 3, none⟩ = some (.string q.pf) := by rw [HZ.out.box.cell 3]; rfl
            go_wp2_with (at_builtin; refine wpList_append_lies _ rfl (.tmp 67) (.tmp 69) 24 rfl W0.heap.size 27 i0 (.agg #[.slice none 0 0, .string ⟨#[]⟩, .string ⟨#[]⟩, .string ⟨#[]⟩]) 4 72 Tryd.underlying24 HI.out.1 HI.out.2.1 HI.out.2.2.1 HI.out.2.2.2 rfl (by decide) _ L.length (rvs L) rfl (owns_below HOz.out.own (one_al _ _)) ⟨w10.heap.size, 0, none⟩ 1 1 [.slice (some a8) m cap8, .string q.kd, .string q.tm, .string q.pf] rfl rfl (cell_new4 _ _ _ _ _ _ _ (by simp)) (four_oneCell _ _ _ _ _ _) (by decide) (by unfold maxLen; omega) (by omega) (by simp; omega) _ rfl ?_; intro g' cap' wz hown hgrow hat hltz)
            have HE := hide (HOz.out.app (one_al _ _) (.slice (some a8) m cap8, ⟨q.vb.take m, q.kd, q.tm, q.pf⟩) (HZ.out.ints.below (one_al _ _)) HZ.out.size HZ.out.notin hown hgrow hat (by omega))
            have HRz := hide ((HZ.out.rd.below (one_al _ _)).belowB HE.out.2 hρ0)
            have HCw := hide ((HC.out.trans (HCz.out.trans (Tch.below (one_al _ _)))).belowB HE.out.2 (Nat.le_refl _))
            clear hown hgrow hat hltz z0 z1 z2 z3
            go_roundw
            case rel => exact ⟨k - 1, g', cap', _, p5 + 1 + 1, by rw [List.length_append]; rfl, by go_num, by rw [List.length_append]; simp; omega, by omega, HE.out.1, HRz.out, HCw.out⟩
            case measure => simp [intOf]; omega
          · obtain ⟨m, hm1, hme⟩ : ∃ m : Nat, m ≤ q.vb.length ∧ Value.int .i64 (wrap64 ((wrap64 ((q.vb.length : Int) + 1)).tdiv 2)) = Value.int .i64 (m : Int) := by
              obtain ⟨m, h1, h2⟩ := half_up hfew.n
              exact ⟨m, h1, by rw [h2]⟩
            have hmc : (m : Int) ≤ (cap8 : Int) := by have := hcap8; omega
            have hni : q.vb.take m = [] ∨ NotIn g (.slice (some a8) m cap8) := by
              rcases HX10.out.at'.notLow (g := g) (by omega) with e | e
              · exact Or.inl (by rw [e]; simp)
              · exact Or.inr e.cut
            have hii : IntsIn W0.heap.size (w10.setCell ⟨ξ, 0, none⟩ (.slice (some a8) m cap8)) (.slice (some a8) m cap8) (q.vb.take m) := ((HX10.out.at'.cut m hm1).setCell (p := ⟨ξ, 0, none⟩) (show ξ < w7.heap.size by omega) (.slice (some a8) m cap8)).mono (by omega)
            have hbb : Box (w10.setCell ⟨ξ, 0, none⟩ (.slice (some a8) m cap8)) ξ #[.slice (some a8) m cap8, .string q.kd, .string q.tm, .string q.pf] := by have P := HB10.out.put 0 (by simp) (.slice (some a8) m cap8); simpa using P
            have HZ : Hid (Xr W0.heap.size g ξ ρ (p5 + 1 + 1) bs' (some a8) m cap8 ⟨q.vb.take m, q.kd, q.tm, q.pf⟩ (w10.setCell ⟨ξ, 0, none⟩ (.slice (some a8) m cap8))) := ⟨hbb, hii, hni, ⟨hqz.s1, hqz.s2, hqz.s3⟩, HR10.out.other (show ρ < ξ by omega) _⟩
            clear hni hii hbb
            have HCz := hide (HC10.out.other (i := 0) (show wr.heap.size ≤ ξ by omega) (.slice (some a8) m cap8))
            have HOz := hide (HO.out.tch HCz.out hρ0)
            have hzz := HCz.out.size
            have z0 : (w10.setCell ⟨ξ, 0, none⟩ (.slice (some a8) m cap8)).cell? ⟨ξ, 0, none⟩ = some (.slice (some a8) m cap8) := by rw [HZ.out.box.cell 0]; rfl
            have z1 : (w10.setCell ⟨ξ, 0, none⟩ (.slice (some a8) m cap8)).cell? ⟨ξ, 1, none⟩ = some (.string q.kd) := by rw [HZ.out.box.cell 1]; rfl
            have z2 : (w10.setCell ⟨ξ, 0, none⟩ (.slice (some a8) m cap8)).cell? ⟨ξ, 2, none⟩ = some (.string q.tm) := by rw [HZ.out.box.cell 2]; rfl
            have z3 : (w10.setCell ⟨ξ, 0, none⟩ (.slice (some a8) m cap8)).cell? ⟨ξ, 3, none⟩ = some (.string q.pf) := by rw [HZ.out.box.cell 3]; rfl
            go_wp2_with (at_builtin; refine wpList_append_lies _ rfl (.tmp 67) (.tmp 69) 24 rfl W0.heap.size 27 i0 (.agg #[.slice none 0 0, .string ⟨#[]⟩, .string ⟨#[]⟩, .string ⟨#[]⟩]) 4 72 Tryd.underlying24 HI.out.1 HI.out.2.1 HI.out.2.2.1 HI.out.2.2.2 rfl (by decide) _ L.length (rvs L) rfl (owns_below HOz.out.own (one_al _ _)) ⟨w10.heap.size, 0, none⟩ 1 1 [.slice (some a8) m cap8, .string q.kd, .string q.tm, .string q.pf] rfl rfl (cell_new4 _ _ _ _ _ _ _ (by simp)) (four_oneCell _ _ _ _ _ _) (by decide) (by unfold maxLen; omega) (by omega) (by simp; omega) _ rfl ?_; intro g' cap' wz hown hgrow hat hltz)
            have HE := hide (HOz.out.app (one_al _ _) (.slice (some a8) m cap8, ⟨q.vb.take m, q.kd, q.tm, q.pf⟩) (HZ.out.ints.below (one_al _ _)) HZ.out.size HZ.out.notin hown hgrow hat (by omega))
            have HRz := hide ((HZ.out.rd.below (one_al _ _)).belowB HE.out.2 hρ0)
            have HCw := hide ((HC.out.trans (HCz.out.trans (Tch.below (one_al _ _)))).belowB HE.out.2 (Nat.le_refl _))
            clear hown hgrow hat hltz z0 z1 z2 z3
            go_roundw
            case rel => exact ⟨k - 1, g', cap', _, p5 + 1 + 1, by rw [List.length_append]; rfl, by go_num, by rw [List.length_append]; simp; omega, by omega, HE.out.1, HRz.out, HCw.out⟩
            case measure => simp [intOf]; omega
        · have HZ : Hid (Xr W0.heap.size g ξ ρ (p5 + 1 + 1) bs' (some a8) q.vb.length cap8 ⟨q.vb, ⟨#[106, 111, 98]⟩, q.tm, q.pf⟩ (w10.setCell ⟨ξ, 1, none⟩ (.string ⟨#[106, 111, 98]⟩))) := ⟨by have P := HB10.out.put 1 (by simp) (.string ⟨#[106, 111, 98]⟩); simpa using P, (HX10.out.setCell (p := ⟨ξ, 1, none⟩) (show ξ < _ by omega) _).at'.mono (by omega), HX10.out.at'.notLow (by omega), ⟨show (3 : Nat) ≤ maxLen by unfold maxLen; omega, hqz.s2, hqz.s3⟩, HR10.out.other (show ρ < ξ by omega) _⟩
          have HCz := hide (HC10.out.other (i := 1) (show wr.heap.size ≤ ξ by omega) (.string ⟨#[106, 111, 98]⟩))
          have HOz := hide (HO.out.tch HCz.out hρ0)
          have hzz := HCz.out.size
          have z0 : (w10.setCell ⟨ξ, 1, none⟩ (.string ⟨#[106, 111, 98]⟩)).cell? ⟨ξ, 0, none⟩ = some (.slice (some a8) q.vb.length cap8) := by rw [HZ.out.box.cell 0]; rfl
          have z1 : (w10.setCell ⟨ξ, 1, none⟩ (.string ⟨#[106, 111, 98]⟩)).cell? ⟨ξ, 1, none⟩ = some (.string ⟨#[106, 111, 98]⟩) := by rw [HZ.out.box.cell 1]; rfl
          have z2 : (w10.setCell ⟨ξ, 1, none⟩ (.string ⟨#[106, 111, 98]⟩)).cell? ⟨ξ, 2, none⟩ = some (.string q.tm) := by rw [HZ.out.box.cell 2]; rfl
          have z3 : (w10.setCell ⟨ξ, 1, none⟩ (.string ⟨#[106, 111, 98]⟩)).cell? ⟨ξ, 3, none⟩ = some (.string q.pf) := by rw [HZ.out.box.cell 3]; rfl
          go_wp2_with (at_builtin; refine wpList_append_lies _ rfl (.tmp 67) (.tmp 69) 24 rfl W0.heap.size 27 i0 (.agg #[.slice none 0 0, .string ⟨#[]⟩, .string ⟨#[]⟩, .string ⟨#[]⟩]) 4 72 Tryd.underlying24 HI.out.1 HI.out.2.1 HI.out.2.2.1 HI.out.2.2.2 rfl (by decide) _ L.length (rvs L) rfl (owns_below HOz.out.own (one_al _ _)) ⟨w10.heap.size, 0, none⟩ 1 1 [.slice (some a8) q.vb.length cap8, .string ⟨#[106, 111, 98]⟩, .string q.tm, .string q.pf] rfl rfl (cell_new4 _ _ _ _ _ _ _ (by simp)) (four_oneCell _ _ _ _ _ _) (by decide) (by unfold maxLen; omega) (by omega) (by simp; omega) _ rfl ?_; intro g' cap' wz hown hgrow hat hltz)
          have HE := hide (HOz.out.app (one_al _ _) (.slice (some a8) q.vb.length cap8, ⟨q.vb, ⟨#[106, 111, 98]⟩, q.tm, q.pf⟩) (HZ.out.ints.below (one_al _ _)) HZ.out.size HZ.out.notin hown hgrow hat (by omega))
          have HRz := hide ((HZ.out.rd.below (one_al _ _)).belowB HE.out.2 hρ0)
          have HCw := hide ((HC.out.trans (HCz.out.trans (Tch.below (one_al _ _)))).belowB HE.out.2 (Nat.le_refl _))
          clear hown hgrow hat hltz z0 z1 z2 z3
          go_roundw
          case rel => exact ⟨k - 1, g', cap', _, p5 + 1 + 1, by rw [List.length_append]; rfl, by go_num, by rw [List.length_append]; simp; omega, by omega, HE.out.1, HRz.out, HCw.out⟩
          case measure => simp [intOf]; omega
        · have HZ : Hid (Xr W0.heap.size g ξ ρ (p5 + 1 + 1) bs' (some a8) q.vb.length cap8 ⟨q.vb, q.kd, ⟨#[100, 101, 118]⟩, q.pf⟩ (w10.setCell ⟨ξ, 2, none⟩ (.string ⟨#[100, 101, 118]⟩))) := ⟨by have P := HB10.out.put 2 (by simp) (.string ⟨#[100, 101, 118]⟩); simpa using P, (HX10.out.setCell (p := ⟨ξ, 2, none⟩) (show ξ < _ by omega) _).at'.mono (by omega), HX10.out.at'.notLow (by omega), ⟨hqz.s1, show (3 : Nat) ≤ maxLen by unfold maxLen; omega, hqz.s3⟩, HR10.out.other (show ρ < ξ by omega) _⟩
          have HCz := hide (HC10.out.other (i := 2) (show wr.heap.size ≤ ξ by omega) (.string ⟨#[100, 101, 118]⟩))
          have HOz := hide (HO.out.tch HCz.out hρ0)
          have hzz := HCz.out.size
          have z0 : (w10.setCell ⟨ξ, 2, none⟩ (.string ⟨#[100, 101, 118]⟩)).cell? ⟨ξ, 0, none⟩ = some (.slice (some a8) q.vb.length cap8) := by rw [HZ.out.box.cell 0]; rfl
          have z1 : (w10.setCell ⟨ξ, 2, none⟩ (.string ⟨#[100, 101, 118]⟩)).cell? ⟨ξ, 1, none⟩ = some (.string q.kd) := by rw [HZ.out.box.cell 1]; rfl
          have z2 : (w10.setCell ⟨ξ, 2, none⟩ (.string ⟨#[100, 101, 118]⟩)).cell? ⟨ξ, 2, none⟩ = some (.string ⟨#[100, 101, 118]⟩) := by rw [HZ.out.box.cell 2]; rfl
          have z3 : (w10.setCell ⟨ξ, 2, none⟩ (.string ⟨#[100, 101, 118]⟩)).cell? ⟨ξ, 3, none⟩ = some (.string q.pf) := by rw [HZ.out.box.cell 3]; rfl
          go_wp2_with (at_builtin; refine wpList_append_lies _ rfl (.tmp 67) (.tmp 69) 24 rfl W0.heap.size 27 i0 (.agg #[.slice none 0 0, .string ⟨#[]⟩, .string ⟨#[]⟩, .string ⟨#[]⟩]) 4 72 Tryd.underlying24 HI.out.1 HI.out.2.1 HI.out.2.2.1 HI.out.2.2.2 rfl (by decide) _ L.length (rvs L) rfl (owns_below HOz.out.own (one_al _ _)) ⟨w10.heap.size, 0, none⟩ 1 1 [.slice (some a8) q.vb.length cap8, .string q.kd, .string ⟨#[100, 101, 118]⟩, .string q.pf] rfl rfl (cell_new4 _ _ _ _ _ _ _ (by simp)) (four_oneCell _ _ _ _ _ _) (by decide) (by unfold maxLen; omega) (by omega) (by simp; omega) _ rfl ?_; intro g' cap' wz hown hgrow hat hltz)
          have HE := hide (HOz.out.app (one_al _ _) (.slice (some a8) q.vb.length cap8, ⟨q.vb, q.kd, ⟨#[100, 101, 118]⟩, q.pf⟩) (HZ.out.ints.below (one_al _ _)) HZ.out.size HZ.out.notin hown hgrow hat (by omega))
          have HRz := hide ((HZ.out.rd.below (one_al _ _)).belowB HE.out.2 hρ0)
          have HCw := hide ((HC.out.trans (HCz.out.trans (Tch.below (one_al _ _)))).belowB HE.out.2 (Nat.le_refl _))
          clear hown hgrow hat hltz z0 z1 z2 z3
          go_roundw
          case rel => exact ⟨k - 1, g', cap', _, p5 + 1 + 1, by rw [List.length_append]; rfl, by go_num, by rw [List.length_append]; simp; omega, by omega, HE.out.1, HRz.out, HCw.out⟩
          case measure => simp [intOf]; omega
        · have HQ10 := hide (HS.out.tch (HC.out.trans HC10.out))
          have k3 : w10.cell? ⟨κ, 3, none⟩ = some (.string q.pf) := by rw [HQ10.out.box.cell 3]; rfl
          have hpf := hfew.f
          have had : ∀ W, (Op.stringOp .add q.pf ⟨#[49]⟩).run Tryd.prog W = .ok (.string (q.pf ++ ⟨#[49]⟩)) W := fun W => run_string_add_sum (P := Tryd.prog) (w := W) _ _ (by show q.pf.size + 1 ≤ _; omega)
          have hsn : (q.pf ++ ⟨#[49]⟩ : ByteArray).size ≤ 20000 := by rw [ByteArray.size_append]; show q.pf.size + 1 ≤ 20000; omega
          generalize (q.pf ++ ⟨#[49]⟩ : ByteArray) = sn at *
          have HZ : Hid (Xr W0.heap.size g ξ ρ (p5 + 1 + 1) bs' (some a8) q.vb.length cap8 ⟨q.vb, q.kd, q.tm, sn⟩ (w10.setCell ⟨ξ, 3, none⟩ (.string sn))) := ⟨by have P := HB10.out.put 3 (by simp) (.string sn); simpa using P, (HX10.out.setCell (p := ⟨ξ, 3, none⟩) (show ξ < _ by omega) _).at'.mono (by omega), HX10.out.at'.notLow (by omega), ⟨hqz.s1, hqz.s2, show sn.size ≤ maxLen by unfold maxLen; omega⟩, HR10.out.other (show ρ < ξ by omega) _⟩
          have HCz := hide (HC10.out.other (i := 3) (show wr.heap.size ≤ ξ by omega) (.string sn))
          have HOz := hide (HO.out.tch HCz.out hρ0)
          have hzz := HCz.out.size
          have z0 : (w10.setCell ⟨ξ, 3, none⟩ (.string sn)).cell? ⟨ξ, 0, none⟩ = some (.slice (some a8) q.vb.length cap8) := by rw [HZ.out.box.cell 0]; rfl
          have z1 : (w10.setCell ⟨ξ, 3, none⟩ (.string sn)).cell? ⟨ξ, 1, none⟩ = some (.string q.kd) := by rw [HZ.out.box.cell 1]; rfl
          have z2 : (w10.setCell ⟨ξ, 3, none⟩ (.string sn)).cell? ⟨ξ, 2, none⟩ = some (.string q.tm) := by rw [HZ.out.box.cell 2]; rfl
          have z3 : (w10.setCell ⟨ξ, 3, none⟩ (.string sn)).cell? ⟨ξ, 3, none⟩ = some (.string sn) := by rw [HZ.out.box.cell 3]; rfl
          go_wp2_with (at_builtin; refine wpList_append_lies _ rfl (.tmp 67) (.tmp 69) 24 rfl W0.heap.size 27 i0 (.agg #[.slice none 0 0, .string ⟨#[]⟩, .string ⟨#[]⟩, .string ⟨#[]⟩]) 4 72 Tryd.underlying24 HI.out.1 HI.out.2.1 HI.out.2.2.1 HI.out.2.2.2 rfl (by decide) _ L.length (rvs L) rfl (owns_below HOz.out.own (one_al _ _)) ⟨w10.heap.size, 0, none⟩ 1 1 [.slice (some a8) q.vb.length cap8, .string q.kd, .string q.tm, .string sn] rfl rfl (cell_new4 _ _ _ _ _ _ _ (by simp)) (four_oneCell _ _ _ _ _ _) (by decide) (by unfold maxLen; omega) (by omega) (by simp; omega) _ rfl ?_; intro g' cap' wz hown hgrow hat hltz)
          have HE := hide (HOz.out.app (one_al _ _) (.slice (some a8) q.vb.length cap8, ⟨q.vb, q.kd, q.tm, sn⟩) (HZ.out.ints.below (one_al _ _)) HZ.out.size HZ.out.notin hown hgrow hat (by omega))
          have HRz := hide ((HZ.out.rd.below (one_al _ _)).belowB HE.out.2 hρ0)
          have HCw := hide ((HC.out.trans (HCz.out.trans (Tch.below (one_al _ _)))).belowB HE.out.2 (Nat.le_refl _))
          clear hown hgrow hat hltz z0 z1 z2 z3
          go_roundw
          case rel => exact ⟨k - 1, g', cap', _, p5 + 1 + 1, by rw [List.length_append]; rfl, by go_num, by rw [List.length_append]; simp; omega, by omega, HE.out.1, HRz.out, HCw.out⟩
          case measure => simp [intOf]; omega
      · have hye : (y == 0) = false := by rw [beq_eq_false_iff_ne]; exact hy
        have HZ : Hid (Xr W0.heap.size g ξ ρ (p5 + 1) bs' (some xa) x.vb.length xcap x w7) := ⟨HB7.out, HX7.out.at'.mono (by omega), HX7.out.at'.notLow (by omega), HXF.out.size, HR7.out⟩
        have HCz := HC7
        have HOz := hide (HO.out.tch HCz.out hρ0)
        have hzz := HCz.out.size
        have z0 : w7.cell? ⟨ξ, 0, none⟩ = some (.slice (some xa) x.vb.length xcap) := by rw [HZ.out.box.cell 0]; rfl
        have z1 : w7.cell? ⟨ξ, 1, none⟩ = some (.string x.kd) := by rw [HZ.out.box.cell 1]; rfl
        have z2 : w7.cell? ⟨ξ, 2, none⟩ = some (.string x.tm) := by rw [HZ.out.box.cell 2]; rfl
        have z3 : w7.cell? ⟨ξ, 3, none⟩ = some (.string x.pf) := by rw [HZ.out.box.cell 3]; rfl
        go_wp2_with (at_builtin; refine wpList_append_lies _ rfl (.tmp 67) (.tmp 69) 24 rfl W0.heap.size 27 i0 (.agg #[.slice none 0 0, .string ⟨#[]⟩, .string ⟨#[]⟩, .string ⟨#[]⟩]) 4 72 Tryd.underlying24 HI.out.1 HI.out.2.1 HI.out.2.2.1 HI.out.2.2.2 rfl (by decide) _ L.length (rvs L) rfl (owns_below HOz.out.own (one_al _ _)) ⟨w7.heap.size, 0, none⟩ 1 1 [.slice (some xa) x.vb.length xcap, .string x.kd, .string x.tm, .string x.pf] rfl rfl (cell_new4 _ _ _ _ _ _ _ rfl) (four_oneCell _ _ _ _ _ _) (by decide) (by unfold maxLen; omega) (by omega) (by simp; omega) _ rfl ?_; intro g' cap' wz hown hgrow hat hltz)
        have HE := hide (HOz.out.app (one_al _ _) (.slice (some xa) x.vb.length xcap, x) (HZ.out.ints.below (one_al _ _)) HZ.out.size HZ.out.notin hown hgrow hat (by omega))
        have HRz := hide ((HZ.out.rd.below (one_al _ _)).belowB HE.out.2 hρ0)
        have HCw := hide ((HC.out.trans (HCz.out.trans (Tch.below (one_al _ _)))).belowB HE.out.2 (Nat.le_refl _))
        clear hown hgrow hat hltz z0 z1 z2 z3
        go_roundw
        case rel => exact ⟨k - 1, g', cap', _, p5 + 1, by rw [List.length_append]; rfl, by go_num, by rw [List.length_append]; simp; omega, by omega, HE.out.1, HRz.out, HCw.out⟩
        case measure => simp [intOf]; omega
    · have hk0 : k = 0 := by omega
      subst hk0
      have hkd : decide ((0 : Int) < ((0 : Nat) : Int)) = false := by simp
      go_wp2_with fail
      clear hkd
      refine (pick_any ρ p bs' 10 wr HR.out (by omega) (by decide) (by decide)).mono ?_
      rintro e w5 ⟨y, rfl, hy0, hy1, hr5, ht5⟩
      have HO5 := hide (HO.out.tch ht5 hρ0)
      have HC5 := hide (HC.out.trans ht5)
      have HR5 := hide hr5
      have hz5 := ht5.size
      clear hr5 ht5 HO HC HR
      by_cases hy : y = 0
      · subst hy
        go_wp2_with fail
        refine (pick_any ρ (p + 1) bs' 14 w5 HR5.out (by omega) (by decide) (by decide)).mono ?_
        rintro e w6 ⟨x, rfl, hx0, hx1, hr6, ht6⟩
        obtain ⟨n2, rfl⟩ := Int.eq_ofNat_of_zero_le hx0
        have HO6 := hide (HO5.out.tch ht6 hρ0)
        have HC6 := hide (HC5.out.trans ht6)
        clear hr6 ht6 HO5 HC5 HR5 hx0
        go_wp2
        go_loopw [8, 11] (fun rv i wr => ∃ (k g cap : Nat) (L : List (Value × Ru)), rv = .slice (some ⟨g, 0, none⟩) L.length cap ∧ i = .int .i64 k ∧ L.length + k ≤ 17 ∧ RuOwn W0.heap.size g cap L wr ∧ Tch ρ W0 wr) (fun _ i _ => (intOf i).toNat)
        case atStart => exact ⟨n2, g, cap, L, rfl, rfl, by omega, HO6.out, HC6.out⟩
        case round =>
          clear HO6 HC6 hx1 hge hzr hz5 hp hk4 hk
          obtain ⟨k, g, cap, L, rfl, rfl, hk, hO, hC⟩ := hrel
          have HO := hide hO
          have HC := hide hC
          have hge := hO.ge
          have hzr := hC.size
          clear hO hC
          by_cases hk0 : 0 < k
          · obtain ⟨j, rfl⟩ : ∃ j, k = j + 1 := ⟨k - 1, by omega⟩
            have hkd : decide ((0 : Int) < ((j + 1 : Nat) : Int)) = true := decide_eq_true (by omega)
            have e1 : Value.int .i64 (wrap64 (((j + 1 : Nat) : Int) - 1)) = Value.int .i64 (j : Int) := by congr 1; unfold wrap64; omega
            have e2 : Value.int .i64 (wrap64 ((j : Int) + 1 - 1)) = Value.int .i64 (j : Int) := by congr 1; unfold wrap64; omega
            have had1 : ∀ W, (Op.stringOp .add ⟨#[107]⟩ ⟨(Lib.decDigits j).toArray⟩).run Tryd.prog W = .ok (.string (numbered 107 j)) W := fun W => add_letter _ _ (by have := dec_len j; omega) W
            have had2 : ∀ W, (Op.stringOp .add ⟨#[116]⟩ ⟨(Lib.decDigits j).toArray⟩).run Tryd.prog W = .ok (.string (numbered 116 j)) W := fun W => add_letter _ _ (by have := dec_len j; omega) W
            have hsz : ∀ l, (numbered l j).size ≤ 100 := fun l => by
              have := dec_len j
              show (l :: Lib.decDigits j).toArray.size ≤ 100
              simp
              omega
            go_wp2_with fail
            have hbv := Box.new wr #[.int .i64 1] 3 _ rfl
            have hav := one_al wr (.cells #[.int .i64 1] 3)
            have hzv : (wr.alloc (.cells #[.int .i64 1] 3)).heap.size = wr.heap.size + 1 := by simp
            generalize wr.alloc (.cells #[.int .i64 1] 3) = Wv at *
            refine (l4Dec_any j (by omega) Wv).mono ?_
            rintro e w7 ⟨rfl, hb7⟩
            have HB7 := hide (hbv.on hb7)
            have HC7 := hide ((Tch.below (ρ := ρ) hav).trans (Tch.below hb7))
            clear hbv hav hb7
            go_wp2_with fail
            refine (l4Dec_any j (by omega) w7).mono ?_
            rintro e w8 ⟨rfl, hb8⟩
            have HB8 := hide (HB7.out.on hb8)
            have HC8 := hide (HC7.out.trans (Tch.below hb8))
            clear hb8 HB7 HC7
            have hz8 := HC8.out.size
            have HI8 : Hid (IntsIn W0.heap.size w8 (.slice (some ⟨wr.heap.size, 0, none⟩) 1 1) [1]) := (IntsH.box (lo := W0.heap.size) [1] 1 HB8.out rfl hzr (by simp) rfl).at'
            have HN8 : Hid ((([1] : List Int) = []) ∨ NotIn g (.slice (some ⟨wr.heap.size, 0, none⟩) 1 1)) := Or.inr fun a n c e => by
              injection e with e
              injection e with e
              rw [← e]
              show wr.heap.size ≠ g
              omega
            have HOz := hide (HO.out.tch HC8.out hρ0)
            have hs1 := hsz 107
            have hs2 := hsz 116
            clear hsz
            generalize numbered 107 j = s1 at *
            generalize numbered 116 j = s2 at *
            generalize hbw : wr.heap.size = bw at *
            go_wp2_with (at_builtin; refine wpList_append_lies _ rfl (.tmp 80) (.tmp 91) 24 rfl W0.heap.size 27 i0 (.agg #[.slice none 0 0, .string ⟨#[]⟩, .string ⟨#[]⟩, .string ⟨#[]⟩]) 4 72 Tryd.underlying24 HI.out.1 HI.out.2.1 HI.out.2.2.1 HI.out.2.2.2 rfl (by decide) _ L.length (rvs L) rfl (owns_below HOz.out.own (one_al _ _)) ⟨w8.heap.size, 0, none⟩ 1 1 [.slice (some ⟨bw, 0, none⟩) 1 1, .string s1, .string s2, .string ⟨#[]⟩] rfl rfl (cell_new4 _ _ _ _ _ _ _ rfl) (four_oneCell _ _ _ _ _ _) (by decide) (by unfold maxLen; omega) (by omega) (by simp; omega) _ rfl ?_; intro g' cap' wz hown hgrow hat hltz)
            have HE := hide (HOz.out.app (one_al _ _) (.slice (some ⟨bw, 0, none⟩) 1 1, ⟨[1], s1, s2, ⟨#[]⟩⟩) (HI8.out.below (one_al _ _)) ⟨by show s1.size ≤ maxLen; unfold maxLen; omega, by show s2.size ≤ maxLen; unfold maxLen; omega, Nat.zero_le _⟩ HN8.out hown hgrow hat (by omega))
            have HCw := hide ((HC.out.trans (HC8.out.trans (Tch.below (one_al _ _)))).belowB HE.out.2 (Nat.le_refl _))
            clear hown hgrow hat hltz
            go_roundw
            case rel => exact ⟨j, g', cap', _, by rw [List.length_append]; rfl, by first | exact e1 | exact e2 | go_num, by rw [List.length_append]; simp; omega, HE.out.1, HCw.out⟩
            case measure => simp [intOf]
          · have hk00 : k = 0 := by omega
            subst hk00
            have hkd : decide ((0 : Int) < ((0 : Nat) : Int)) = false := by simp
            have HG := hide (HS.out.tch HC.out)
            have HOf := HO
            have k0 : wr.cell? ⟨κ, 0, none⟩ = some (.slice (some qa) q.vb.length qcap) := by rw [HG.out.box.cell 0]; rfl
            have k1 : wr.cell? ⟨κ, 1, none⟩ = some (.string q.kd) := by rw [HG.out.box.cell 1]; rfl
            have k2 : wr.cell? ⟨κ, 2, none⟩ = some (.string q.tm) := by rw [HG.out.box.cell 2]; rfl
            have k3 : wr.cell? ⟨κ, 3, none⟩ = some (.string q.pf) := by rw [HG.out.box.cell 3]; rfl
            have d0 : wr.cell? ⟨w.heap.size, 0, none⟩ = some (.slice none 0 0) := by rw [HG.out.res.cell 0]; rfl
            have d1 : wr.cell? ⟨w.heap.size, 1, none⟩ = some (.string ⟨#[]⟩) := by rw [HG.out.res.cell 1]; rfl
            have d2 : wr.cell? ⟨w.heap.size, 2, none⟩ = some (.string ⟨#[]⟩) := by rw [HG.out.res.cell 2]; rfl
            have d3 : wr.cell? ⟨w.heap.size, 3, none⟩ = some (.string ⟨#[]⟩) := by rw [HG.out.res.cell 3]; rfl
            have df := HG.out.res.free
            have hkb := HG.out.kb
            go_wp2
            go_region
            all_goals go_wp2
            all_goals
              refine bodyPost_ret (v := .tuple #[.slice ta Ts.length tcap, .slice (some ⟨g, 0, none⟩) L.length cap, .agg #[.slice (some qa) q.vb.length qcap, .string q.kd, .string q.tm, .string q.pf]]) (by simp [results, Tryd.results4, go_sem, d0, d1, d2, d3]) rfl ⟨_, _, _, Ts, L.map Prod.snd, q, rfl, ?_, ?_, ?_, hl2, by rw [List.length_map]; omega, HG.out.few, ?_⟩
              · refine TmsAt.mono (lo := w.heap.size + 2) ?_ (by omega)
                refine TmsAt.below ?_ ((Below.refl _ _).drew)
                repeat (refine TmsAt.setCell ?_ (by simp only []; omega) _)
                exact HG.out.tms
              · refine RusAt.mono (lo := W0.heap.size) ?_ (by omega)
                refine RusAt.below ?_ ((Below.refl _ _).drew)
                repeat (refine RusAt.setLow ?_ (by simp only []; omega) _)
                exact HOf.out.rus rfl
              · refine IntsIn.mono (lo := w.heap.size + 2) ?_ (by omega)
                refine IntsIn.below ?_ ((Below.refl _ _).drew)
                repeat (refine IntsIn.setCell ?_ (by simp only []; omega) _)
                exact HG.out.ints.at'
              · refine Below.drew ?_
                repeat (refine Below.setCell ?_ (by simp only []; omega) _)
                exact HG.out.below
      · have hye : (y == 0) = false := by rw [beq_eq_false_iff_ne]; exact hy
        have HG := hide (HS.out.tch HC5.out)
        have HOf := HO5
        have k0 : w5.cell? ⟨κ, 0, none⟩ = some (.slice (some qa) q.vb.length qcap) := by rw [HG.out.box.cell 0]; rfl
        have k1 : w5.cell? ⟨κ, 1, none⟩ = some (.string q.kd) := by rw [HG.out.box.cell 1]; rfl
        have k2 : w5.cell? ⟨κ, 2, none⟩ = some (.string q.tm) := by rw [HG.out.box.cell 2]; rfl
        have k3 : w5.cell? ⟨κ, 3, none⟩ = some (.string q.pf) := by rw [HG.out.box.cell 3]; rfl
        have d0 : w5.cell? ⟨w.heap.size, 0, none⟩ = some (.slice none 0 0) := by rw [HG.out.res.cell 0]; rfl
        have d1 : w5.cell? ⟨w.heap.size, 1, none⟩ = some (.string ⟨#[]⟩) := by rw [HG.out.res.cell 1]; rfl
        have d2 : w5.cell? ⟨w.heap.size, 2, none⟩ = some (.string ⟨#[]⟩) := by rw [HG.out.res.cell 2]; rfl
        have d3 : w5.cell? ⟨w.heap.size, 3, none⟩ = some (.string ⟨#[]⟩) := by rw [HG.out.res.cell 3]; rfl
        have df := HG.out.res.free
        have hkb := HG.out.kb
        go_wp2
        go_region
        all_goals go_wp2
        all_goals
          refine bodyPost_ret (v := .tuple #[.slice ta Ts.length tcap, .slice (some ⟨g, 0, none⟩) L.length cap, .agg #[.slice (some qa) q.vb.length qcap, .string q.kd, .string q.tm, .string q.pf]]) (by simp [results, Tryd.results4, go_sem, d0, d1, d2, d3]) rfl ⟨_, _, _, Ts, L.map Prod.snd, q, rfl, ?_, ?_, ?_, hl2, by rw [List.length_map]; omega, HG.out.few, ?_⟩
          · refine TmsAt.mono (lo := w.heap.size + 2) ?_ (by omega)
            refine TmsAt.below ?_ ((Below.refl _ _).drew)
            repeat (refine TmsAt.setCell ?_ (by simp only []; omega) _)
            exact HG.out.tms
          · refine RusAt.mono (lo := W0.heap.size) ?_ (by omega)
            refine RusAt.below ?_ ((Below.refl _ _).drew)
            repeat (refine RusAt.setLow ?_ (by simp only []; omega) _)
            exact HOf.out.rus rfl
          · refine IntsIn.mono (lo := w.heap.size + 2) ?_ (by omega)
            refine IntsIn.below ?_ ((Below.refl _ _).drew)
            repeat (refine IntsIn.setCell ?_ (by simp only []; omega) _)
            exact HG.out.ints.at'
          · refine Below.drew ?_
            repeat (refine Below.setCell ?_ (by simp only []; omega) _)
            exact HG.out.below
end Go.Proofs.YtobijdenhbpdfaaDoor
