import Derived.Test.YtobijdenhbpdfaaDoorT9
import Derived.Test.YtobijdenhbpdfaaDoorT11
import Derived.Test.YtobijdenhbpdfaaDoorTC
namespace Go.Proofs.YtobijdenhbpdfaaDoor
open Go.RowKit Go.Deep

/-- a rule covers another one's verb, as it is written down -/
def coverS (Ts : List Tm) (r q : Ru) (v : Int) : Bool := hasV q.vb v && (q.kd.toList.isEmpty || q.kd.toList == r.kd.toList) && (q.tm.toList.isEmpty || (!r.tm.toList.isEmpty && underB Ts r.tm q.tm)) && beginsB r.pf q.pf
def coveredS (Ts : List Tm) (Rs : List Ru) (r : Ru) (v : Int) : Bool := Rs.any fun q => coverS Ts r q v
/-- the first verb that none covers; 0 where there is none -/
def lackV (Ts : List Tm) (Rs : List Ru) (r : Ru) : Int := (r.vb.find? fun v => !coveredS Ts Rs r v).getD 0
theorem lack_at {Ts : List Tm} {Rs : List Ru} {r : Ru} {k : Nat} (hk : k < r.vb.length) (h : coveredS Ts Rs r r.vb[k] = false) (hall : ∀ j (hj : j < r.vb.length), j < k → coveredS Ts Rs r r.vb[j] = true) : lackV Ts Rs r = r.vb[k] := by
  unfold lackV
  have : r.vb.find? (fun v => !coveredS Ts Rs r v) = some r.vb[k] := by
    rw [List.find?_eq_some_iff_getElem]
    exact ⟨by simp [h], k, hk, rfl, fun j hj => by simp [hall j (by omega) hj]⟩
  rw [this]; rfl
theorem lack_no {Ts : List Tm} {Rs : List Ru} {r : Ru} (hall : ∀ j (hj : j < r.vb.length), coveredS Ts Rs r r.vb[j] = true) : lackV Ts Rs r = 0 := by
  unfold lackV
  have : r.vb.find? (fun v => !coveredS Ts Rs r v) = none := by
    rw [List.find?_eq_none]
    intro x hx
    obtain ⟨j, hj, rfl⟩ := List.getElem_of_mem hx
    simp [hall j hj]
  rw [this]; rfl
theorem any_take {Rs : List Ru} {p : Ru → Bool} {m : Nat} (h : m < Rs.length) : (Rs.take (m + 1)).any p = ((Rs.take m).any p || p Rs[m]) := by
  rw [List.take_succ_eq_append_getElem h, List.any_append, List.any_cons, List.any_nil, Bool.or_false]

set_option maxRecDepth 20000 in
set_option maxHeartbeats 16000000 in
theorem l4Lacks_any (lo lr ls : Nat) (tv sv vv : Value) (Ts : List Tm) (Rs : List Ru) (r : Ru) (w : World) (hT : TmsAt lo w tv Ts) (hR : RusAt lr w sv Rs) (hv : IntsIn ls w vv r.vb) :
    Calls Tryd.prog 24 #[tv, sv, .agg #[vv, .string r.kd, .string r.tm, .string r.pf]] w fun e w' => e = .returned (.int .i64 (lackV Ts Rs r)) ∧ Below w.heap.size w w' := by
  have HT := hide hT
  have HR := hide hR
  have HV := hide hv
  have hm := hv.max
  have hmr := hR.max
  unfold maxLen at hm hmr
  obtain ⟨ta, tcap, rfl⟩ := hT.form
  obtain ⟨sa, scap, rfl⟩ := hR.form
  obtain ⟨a, cap, rfl⟩ := hv.form
  clear hT hR hv
  go_enter Tryd.func24, Tryd.ntmps24
  go_wp2
  generalize hWa : w.alloc _ = Wa
  have HBa : Hid (Below w.heap.size w Wa) := by rw [← hWa]; exact one_al _ _
  have FA : Hid (Box Wa w.heap.size #[.slice a r.vb.length cap, .string r.kd, .string r.tm, .string r.pf]) := by rw [← hWa]; exact Box.new _ _ _ _ rfl
  clear hWa
  have HTa := hide (HT.out.below HBa.out)
  have HRa := hide (HR.out.below HBa.out)
  have HVa := hide (HV.out.below HBa.out)
  clear HT HR HV
  go_loopw [7] (fun i wr => ∃ k : Nat, i = .int .i64 k ∧ k ≤ r.vb.length ∧ Below Wa.heap.size Wa wr ∧ ∀ j (hj : j < r.vb.length), j < k → coveredS Ts Rs r r.vb[j] = true) (fun i _ => r.vb.length - (intOf i).toNat)
  case atStart => exact ⟨0, rfl, by omega, Below.refl _ _, fun j _ h => by omega⟩
  case round =>
    obtain ⟨k, rfl, hk, hb, hall⟩ := hrel
    have HA := hide hall
    have HB := hide hb
    clear hall hb
    have g0 : wr.cell? ⟨w.heap.size, 0, none⟩ = some (.slice a r.vb.length cap) := (FA.out.on HB.out).cell 0
    by_cases hlt : k < r.vb.length
    · obtain ⟨b, off, rfl, hbw, hc⟩ := HVa.out.full' (by omega)
      have HC := hide hc
      clear hc
      have hkI : (k : Int) < r.vb.length := by omega
      go_wp2
      go_loopw [8, 9] (fun f i u => ∃ m : Nat, f = .bool ((Rs.take m).any fun q => coverS Ts r q r.vb[k]) ∧ i = .int .i64 m ∧ m ≤ Rs.length ∧ Below Wa.heap.size Wa u) (fun _ i _ => Rs.length - (intOf i).toNat)
      case atStart => exact ⟨0, rfl, rfl, by omega, HB.out⟩
      case round =>
        obtain ⟨m, rfl, rfl, hmk, hu⟩ := hrel
        have HU := hide hu
        clear hu g0 HB
        obtain ⟨wu, rfl⟩ : ∃ wu : World, wu = wr := ⟨_, rfl⟩
        by_cases hlm : m < Rs.length
        · obtain ⟨rb, ro, rfl, hrb, hrc⟩ := HRa.out.full' (by omega)
          obtain ⟨hsz, qv, hcell, hqv⟩ := hrc m hlm
          obtain ⟨c0, c1, c2, c3⟩ := hcell.below HU.out hrb
          have HQV0 := hide (hqv.below HU.out)
          obtain ⟨qa, qcap, rfl⟩ := hqv.form
          clear hcell hqv hrc hsz
          go_wp2
          generalize hWq : wu.alloc _ = Wq
          have HBq : Hid (Below wu.heap.size wu Wq) := by rw [← hWq]; exact one_al _ _
          have FQ : Hid (Box Wq wu.heap.size #[.slice qa Rs[m].vb.length qcap, .string Rs[m].kd, .string Rs[m].tm, .string Rs[m].pf]) := by rw [← hWq]; exact Box.new _ _ _ _ rfl
          clear hWq c0 c1 c2 c3
          have FAq := hide ((FA.out.on HU.out).on HBq.out)
          have HQV := hide (HQV0.out.below HBq.out)
          have HTq := hide ((HTa.out.below HU.out).below HBq.out)
          have HBW : Hid (b < Wq.heap.size) := Nat.lt_of_lt_of_le (Nat.lt_of_lt_of_le hbw HU.out.size) HBq.out.size
          have HCK : Hid (Wq.cell? ⟨b, off + k, none⟩ = some (.int .i64 r.vb[k])) := by
            unfold Hid
            rw [(bt HU.out HBq.out).cell (p := ⟨b, _, none⟩) hbw]
            exact HC.out k hlt
          clear HQV0
          have HUq : Hid (Below Wa.heap.size Wa Wq) := bt HU.out HBq.out
          generalize hbeta : wu.heap.size = β at *
          have xn : Nonempty (In (Cls Wq w.heap.size #[.slice (some ⟨b, off, none⟩) r.vb.length cap, .string r.kd, .string r.tm, .string r.pf] β #[.slice qa Rs[m].vb.length qcap, .string Rs[m].kd, .string Rs[m].tm, .string Rs[m].pf])) := ⟨⟨Wq, ⟨Below.refl _ _, FAq.out, FQ.out⟩⟩⟩
          have x1 : ∀ X : In (Cls Wq w.heap.size #[.slice (some ⟨b, off, none⟩) r.vb.length cap, .string r.kd, .string r.tm, .string r.pf] β #[.slice qa Rs[m].vb.length qcap, .string Rs[m].kd, .string Rs[m].tm, .string Rs[m].pf]), X.w.cell? ⟨b, off + k, none⟩ = some (.int .i64 r.vb[k]) := fun X => by rw [X.h.on.cell (p := ⟨b, _, none⟩) HBW.out]; exact HCK.out
          have x2 := fun (X : In (Cls Wq w.heap.size #[.slice (some ⟨b, off, none⟩) r.vb.length cap, .string r.kd, .string r.tm, .string r.pf] β #[.slice qa Rs[m].vb.length qcap, .string Rs[m].kd, .string Rs[m].tm, .string Rs[m].pf])) => Cls.c1 X
          have x3 := fun (X : In (Cls Wq w.heap.size #[.slice (some ⟨b, off, none⟩) r.vb.length cap, .string r.kd, .string r.tm, .string r.pf] β #[.slice qa Rs[m].vb.length qcap, .string Rs[m].kd, .string Rs[m].tm, .string Rs[m].pf])) => Cls.c2 X
          have x4 := fun (X : In (Cls Wq w.heap.size #[.slice (some ⟨b, off, none⟩) r.vb.length cap, .string r.kd, .string r.tm, .string r.pf] β #[.slice qa Rs[m].vb.length qcap, .string Rs[m].kd, .string Rs[m].tm, .string Rs[m].pf])) => in_self X
          generalize hff : ((Rs.take m).any fun q => coverS Ts r q r.vb[k]) = ff at *
          cases h0 : hasV Rs[m].vb r.vb[k] with
          | false =>
            have HCV : Hid (coverS Ts r Rs[m] r.vb[k] = false) := by unfold Hid coverS; rw [h0]; rfl
            have HNX : Hid (((Rs.take (m + 1)).any fun q => coverS Ts r q r.vb[k]) = ff) := by unfold Hid; rw [any_take hlm, HCV.out]; rw [Bool.or_false]; exact hff
            refine wp_region_class (Cls Wq w.heap.size #[.slice (some ⟨b, off, none⟩) r.vb.length cap, .string r.kd, .string r.tm, .string r.pf] β #[.slice qa Rs[m].vb.length qcap, .string Rs[m].kd, .string Rs[m].tm, .string Rs[m].pf]) (by kernel_rfl) (by kernel_rfl) ⟨(Below.refl _ _).drew, FAq.out, FQ.out⟩ ?_
            repeat (go_big_quiet_step (
              first
              | (go_at_call 41; rename_i X; exact (l4Verb_any lr _ _ _ _ (HQV.out.below X.h.on)).mono fun _ _ h => ⟨by rw [h.1, h0], Cls.next X h.2⟩)))
            refine wpQuiet_nil ?_
            intro wn hw'
            obtain ⟨X, hX⟩ := hw'
            have HWN : Hid (Below Wq.heap.size Wq wn) := by rw [hX]; exact X.h.on
            clear hX X x1 x2 x3 x4 xn
            go_wp2
            go_roundw
            case rel => first | exact ⟨m + 1, by rw [HNX.out], by go_num, by omega, bt HUq.out HWN.out⟩ | ((repeat apply Exists.intro); exact ⟨⟨m + 1, by rw [HNX.out], by go_num, by omega, bt HUq.out HWN.out⟩, rfl⟩)
            case measure => simp [intOf]; omega
          | true =>
            cases h1 : Rs[m].kd.toList.isEmpty with
            | true =>
              cases h3 : Rs[m].tm.toList.isEmpty with
              | true =>
                cases h6 : beginsB r.pf Rs[m].pf with
                | false =>
                  have HCV : Hid (coverS Ts r Rs[m] r.vb[k] = false) := by unfold Hid coverS; simp [h6]
                  have HNX : Hid (((Rs.take (m + 1)).any fun q => coverS Ts r q r.vb[k]) = ff) := by unfold Hid; rw [any_take hlm, HCV.out]; rw [Bool.or_false]; exact hff
                  refine wp_region_class (Cls Wq w.heap.size #[.slice (some ⟨b, off, none⟩) r.vb.length cap, .string r.kd, .string r.tm, .string r.pf] β #[.slice qa Rs[m].vb.length qcap, .string Rs[m].kd, .string Rs[m].tm, .string Rs[m].pf]) (by kernel_rfl) (by kernel_rfl) ⟨(Below.refl _ _).drew, FAq.out, FQ.out⟩ ?_
                  repeat (go_big_quiet_step (
                    first
                    | (go_at_call 41; rename_i X; exact (l4Verb_any lr _ _ _ _ (HQV.out.below X.h.on)).mono fun _ _ h => ⟨by rw [h.1, h0], Cls.next X h.2⟩)
                    | (go_at_call 43; rename_i X; exact (l4Begins_any r.pf Rs[m].pf _).mono fun _ _ h => ⟨by rw [h.1, h6], X, h.2⟩)))
                  refine wpQuiet_nil ?_
                  intro wn hw'
                  obtain ⟨X, hX⟩ := hw'
                  have HWN : Hid (Below Wq.heap.size Wq wn) := by rw [hX]; exact X.h.on
                  clear hX X x1 x2 x3 x4 xn
                  go_wp2
                  go_roundw
                  case rel => first | exact ⟨m + 1, by rw [HNX.out], by go_num, by omega, bt HUq.out HWN.out⟩ | ((repeat apply Exists.intro); exact ⟨⟨m + 1, by rw [HNX.out], by go_num, by omega, bt HUq.out HWN.out⟩, rfl⟩)
                  case measure => simp [intOf]; omega
                | true =>
                  have HCV : Hid (coverS Ts r Rs[m] r.vb[k] = true) := by unfold Hid coverS; simp [h0, h1, h3, h6]
                  have HNX : Hid (((Rs.take (m + 1)).any fun q => coverS Ts r q r.vb[k]) = true) := by unfold Hid; rw [any_take hlm, HCV.out]; rw [Bool.or_true]
                  refine wp_region_class (Cls Wq w.heap.size #[.slice (some ⟨b, off, none⟩) r.vb.length cap, .string r.kd, .string r.tm, .string r.pf] β #[.slice qa Rs[m].vb.length qcap, .string Rs[m].kd, .string Rs[m].tm, .string Rs[m].pf]) (by kernel_rfl) (by kernel_rfl) ⟨(Below.refl _ _).drew, FAq.out, FQ.out⟩ ?_
                  repeat (go_big_quiet_step (
                    first
                    | (go_at_call 41; rename_i X; exact (l4Verb_any lr _ _ _ _ (HQV.out.below X.h.on)).mono fun _ _ h => ⟨by rw [h.1, h0], Cls.next X h.2⟩)
                    | (go_at_call 43; rename_i X; exact (l4Begins_any r.pf Rs[m].pf _).mono fun _ _ h => ⟨by rw [h.1, h6], X, h.2⟩)))
                  refine wpQuiet_nil ?_
                  intro wn hw'
                  obtain ⟨X, hX⟩ := hw'
                  have HWN : Hid (Below Wq.heap.size Wq wn) := by rw [hX]; exact X.h.on
                  clear hX X x1 x2 x3 x4 xn
                  go_wp2
                  go_roundw
                  case rel => first | exact ⟨m + 1, by rw [HNX.out], by go_num, by omega, bt HUq.out HWN.out⟩ | ((repeat apply Exists.intro); exact ⟨⟨m + 1, by rw [HNX.out], by go_num, by omega, bt HUq.out HWN.out⟩, rfl⟩)
                  case measure => simp [intOf]; omega
              | false =>
                cases h5 : r.tm.toList.isEmpty with
                | true =>
                  have HCV : Hid (coverS Ts r Rs[m] r.vb[k] = false) := by unfold Hid coverS; simp [h3, h5]
                  have HNX : Hid (((Rs.take (m + 1)).any fun q => coverS Ts r q r.vb[k]) = ff) := by unfold Hid; rw [any_take hlm, HCV.out]; rw [Bool.or_false]; exact hff
                  refine wp_region_class (Cls Wq w.heap.size #[.slice (some ⟨b, off, none⟩) r.vb.length cap, .string r.kd, .string r.tm, .string r.pf] β #[.slice qa Rs[m].vb.length qcap, .string Rs[m].kd, .string Rs[m].tm, .string Rs[m].pf]) (by kernel_rfl) (by kernel_rfl) ⟨(Below.refl _ _).drew, FAq.out, FQ.out⟩ ?_
                  repeat (go_big_quiet_step (
                    first
                    | (go_at_call 41; rename_i X; exact (l4Verb_any lr _ _ _ _ (HQV.out.below X.h.on)).mono fun _ _ h => ⟨by rw [h.1, h0], Cls.next X h.2⟩)))
                  refine wpQuiet_nil ?_
                  intro wn hw'
                  obtain ⟨X, hX⟩ := hw'
                  have HWN : Hid (Below Wq.heap.size Wq wn) := by rw [hX]; exact X.h.on
                  clear hX X x1 x2 x3 x4 xn
                  go_wp2
                  go_roundw
                  case rel => first | exact ⟨m + 1, by rw [HNX.out], by go_num, by omega, bt HUq.out HWN.out⟩ | ((repeat apply Exists.intro); exact ⟨⟨m + 1, by rw [HNX.out], by go_num, by omega, bt HUq.out HWN.out⟩, rfl⟩)
                  case measure => simp [intOf]; omega
                | false =>
                  cases h4 : underB Ts r.tm Rs[m].tm with
                  | false =>
                    have HCV : Hid (coverS Ts r Rs[m] r.vb[k] = false) := by unfold Hid coverS; simp [h3, h4]
                    have HNX : Hid (((Rs.take (m + 1)).any fun q => coverS Ts r q r.vb[k]) = ff) := by unfold Hid; rw [any_take hlm, HCV.out]; rw [Bool.or_false]; exact hff
                    refine wp_region_class (Cls Wq w.heap.size #[.slice (some ⟨b, off, none⟩) r.vb.length cap, .string r.kd, .string r.tm, .string r.pf] β #[.slice qa Rs[m].vb.length qcap, .string Rs[m].kd, .string Rs[m].tm, .string Rs[m].pf]) (by kernel_rfl) (by kernel_rfl) ⟨(Below.refl _ _).drew, FAq.out, FQ.out⟩ ?_
                    repeat (go_big_quiet_step (
                      first
                      | (go_at_call 41; rename_i X; exact (l4Verb_any lr _ _ _ _ (HQV.out.below X.h.on)).mono fun _ _ h => ⟨by rw [h.1, h0], Cls.next X h.2⟩)
                      | (go_at_call 42; rename_i X; exact (specUnder_any lo _ Ts r.tm Rs[m].tm _ (HTq.out.below X.h.on)).mono fun _ _ h => ⟨by rw [h.1, h4], Cls.next X h.2⟩)))
                    refine wpQuiet_nil ?_
                    intro wn hw'
                    obtain ⟨X, hX⟩ := hw'
                    have HWN : Hid (Below Wq.heap.size Wq wn) := by rw [hX]; exact X.h.on
                    clear hX X x1 x2 x3 x4 xn
                    go_wp2
                    go_roundw
                    case rel => first | exact ⟨m + 1, by rw [HNX.out], by go_num, by omega, bt HUq.out HWN.out⟩ | ((repeat apply Exists.intro); exact ⟨⟨m + 1, by rw [HNX.out], by go_num, by omega, bt HUq.out HWN.out⟩, rfl⟩)
                    case measure => simp [intOf]; omega
                  | true =>
                    cases h6 : beginsB r.pf Rs[m].pf with
                    | false =>
                      have HCV : Hid (coverS Ts r Rs[m] r.vb[k] = false) := by unfold Hid coverS; simp [h6]
                      have HNX : Hid (((Rs.take (m + 1)).any fun q => coverS Ts r q r.vb[k]) = ff) := by unfold Hid; rw [any_take hlm, HCV.out]; rw [Bool.or_false]; exact hff
                      refine wp_region_class (Cls Wq w.heap.size #[.slice (some ⟨b, off, none⟩) r.vb.length cap, .string r.kd, .string r.tm, .string r.pf] β #[.slice qa Rs[m].vb.length qcap, .string Rs[m].kd, .string Rs[m].tm, .string Rs[m].pf]) (by kernel_rfl) (by kernel_rfl) ⟨(Below.refl _ _).drew, FAq.out, FQ.out⟩ ?_
                      repeat (go_big_quiet_step (
                        first
                        | (go_at_call 41; rename_i X; exact (l4Verb_any lr _ _ _ _ (HQV.out.below X.h.on)).mono fun _ _ h => ⟨by rw [h.1, h0], Cls.next X h.2⟩)
                        | (go_at_call 42; rename_i X; exact (specUnder_any lo _ Ts r.tm Rs[m].tm _ (HTq.out.below X.h.on)).mono fun _ _ h => ⟨by rw [h.1, h4], Cls.next X h.2⟩)
                        | (go_at_call 43; rename_i X; exact (l4Begins_any r.pf Rs[m].pf _).mono fun _ _ h => ⟨by rw [h.1, h6], X, h.2⟩)))
                      refine wpQuiet_nil ?_
                      intro wn hw'
                      obtain ⟨X, hX⟩ := hw'
                      have HWN : Hid (Below Wq.heap.size Wq wn) := by rw [hX]; exact X.h.on
                      clear hX X x1 x2 x3 x4 xn
                      go_wp2
                      go_roundw
                      case rel => first | exact ⟨m + 1, by rw [HNX.out], by go_num, by omega, bt HUq.out HWN.out⟩ | ((repeat apply Exists.intro); exact ⟨⟨m + 1, by rw [HNX.out], by go_num, by omega, bt HUq.out HWN.out⟩, rfl⟩)
                      case measure => simp [intOf]; omega
                    | true =>
                      have HCV : Hid (coverS Ts r Rs[m] r.vb[k] = true) := by unfold Hid coverS; simp [h0, h1, h3, h5, h4, h6]
                      have HNX : Hid (((Rs.take (m + 1)).any fun q => coverS Ts r q r.vb[k]) = true) := by unfold Hid; rw [any_take hlm, HCV.out]; rw [Bool.or_true]
                      refine wp_region_class (Cls Wq w.heap.size #[.slice (some ⟨b, off, none⟩) r.vb.length cap, .string r.kd, .string r.tm, .string r.pf] β #[.slice qa Rs[m].vb.length qcap, .string Rs[m].kd, .string Rs[m].tm, .string Rs[m].pf]) (by kernel_rfl) (by kernel_rfl) ⟨(Below.refl _ _).drew, FAq.out, FQ.out⟩ ?_
                      repeat (go_big_quiet_step (
                        first
                        | (go_at_call 41; rename_i X; exact (l4Verb_any lr _ _ _ _ (HQV.out.below X.h.on)).mono fun _ _ h => ⟨by rw [h.1, h0], Cls.next X h.2⟩)
                        | (go_at_call 42; rename_i X; exact (specUnder_any lo _ Ts r.tm Rs[m].tm _ (HTq.out.below X.h.on)).mono fun _ _ h => ⟨by rw [h.1, h4], Cls.next X h.2⟩)
                        | (go_at_call 43; rename_i X; exact (l4Begins_any r.pf Rs[m].pf _).mono fun _ _ h => ⟨by rw [h.1, h6], X, h.2⟩)))
                      refine wpQuiet_nil ?_
                      intro wn hw'
                      obtain ⟨X, hX⟩ := hw'
                      have HWN : Hid (Below Wq.heap.size Wq wn) := by rw [hX]; exact X.h.on
                      clear hX X x1 x2 x3 x4 xn
                      go_wp2
                      go_roundw
                      case rel => first | exact ⟨m + 1, by rw [HNX.out], by go_num, by omega, bt HUq.out HWN.out⟩ | ((repeat apply Exists.intro); exact ⟨⟨m + 1, by rw [HNX.out], by go_num, by omega, bt HUq.out HWN.out⟩, rfl⟩)
                      case measure => simp [intOf]; omega
            | false =>
              cases h2 : (Rs[m].kd.toList == r.kd.toList) with
              | false =>
                have HCV : Hid (coverS Ts r Rs[m] r.vb[k] = false) := by unfold Hid coverS; rw [h1, h2]; simp
                have HNX : Hid (((Rs.take (m + 1)).any fun q => coverS Ts r q r.vb[k]) = ff) := by unfold Hid; rw [any_take hlm, HCV.out]; rw [Bool.or_false]; exact hff
                refine wp_region_class (Cls Wq w.heap.size #[.slice (some ⟨b, off, none⟩) r.vb.length cap, .string r.kd, .string r.tm, .string r.pf] β #[.slice qa Rs[m].vb.length qcap, .string Rs[m].kd, .string Rs[m].tm, .string Rs[m].pf]) (by kernel_rfl) (by kernel_rfl) ⟨(Below.refl _ _).drew, FAq.out, FQ.out⟩ ?_
                repeat (go_big_quiet_step (
                  first
                  | (go_at_call 41; rename_i X; exact (l4Verb_any lr _ _ _ _ (HQV.out.below X.h.on)).mono fun _ _ h => ⟨by rw [h.1, h0], Cls.next X h.2⟩)))
                refine wpQuiet_nil ?_
                intro wn hw'
                obtain ⟨X, hX⟩ := hw'
                have HWN : Hid (Below Wq.heap.size Wq wn) := by rw [hX]; exact X.h.on
                clear hX X x1 x2 x3 x4 xn
                go_wp2
                go_roundw
                case rel => first | exact ⟨m + 1, by rw [HNX.out], by go_num, by omega, bt HUq.out HWN.out⟩ | ((repeat apply Exists.intro); exact ⟨⟨m + 1, by rw [HNX.out], by go_num, by omega, bt HUq.out HWN.out⟩, rfl⟩)
                case measure => simp [intOf]; omega
              | true =>
                cases h3 : Rs[m].tm.toList.isEmpty with
                | true =>
                  cases h6 : beginsB r.pf Rs[m].pf with
                  | false =>
                    have HCV : Hid (coverS Ts r Rs[m] r.vb[k] = false) := by unfold Hid coverS; simp [h6]
                    have HNX : Hid (((Rs.take (m + 1)).any fun q => coverS Ts r q r.vb[k]) = ff) := by unfold Hid; rw [any_take hlm, HCV.out]; rw [Bool.or_false]; exact hff
                    refine wp_region_class (Cls Wq w.heap.size #[.slice (some ⟨b, off, none⟩) r.vb.length cap, .string r.kd, .string r.tm, .string r.pf] β #[.slice qa Rs[m].vb.length qcap, .string Rs[m].kd, .string Rs[m].tm, .string Rs[m].pf]) (by kernel_rfl) (by kernel_rfl) ⟨(Below.refl _ _).drew, FAq.out, FQ.out⟩ ?_
                    repeat (go_big_quiet_step (
                      first
                      | (go_at_call 41; rename_i X; exact (l4Verb_any lr _ _ _ _ (HQV.out.below X.h.on)).mono fun _ _ h => ⟨by rw [h.1, h0], Cls.next X h.2⟩)
                      | (go_at_call 43; rename_i X; exact (l4Begins_any r.pf Rs[m].pf _).mono fun _ _ h => ⟨by rw [h.1, h6], X, h.2⟩)))
                    refine wpQuiet_nil ?_
                    intro wn hw'
                    obtain ⟨X, hX⟩ := hw'
                    have HWN : Hid (Below Wq.heap.size Wq wn) := by rw [hX]; exact X.h.on
                    clear hX X x1 x2 x3 x4 xn
                    go_wp2
                    go_roundw
                    case rel => first | exact ⟨m + 1, by rw [HNX.out], by go_num, by omega, bt HUq.out HWN.out⟩ | ((repeat apply Exists.intro); exact ⟨⟨m + 1, by rw [HNX.out], by go_num, by omega, bt HUq.out HWN.out⟩, rfl⟩)
                    case measure => simp [intOf]; omega
                  | true =>
                    have HCV : Hid (coverS Ts r Rs[m] r.vb[k] = true) := by unfold Hid coverS; rw [h2]; simp [h0, h1, h3, h6]
                    have HNX : Hid (((Rs.take (m + 1)).any fun q => coverS Ts r q r.vb[k]) = true) := by unfold Hid; rw [any_take hlm, HCV.out]; rw [Bool.or_true]
                    refine wp_region_class (Cls Wq w.heap.size #[.slice (some ⟨b, off, none⟩) r.vb.length cap, .string r.kd, .string r.tm, .string r.pf] β #[.slice qa Rs[m].vb.length qcap, .string Rs[m].kd, .string Rs[m].tm, .string Rs[m].pf]) (by kernel_rfl) (by kernel_rfl) ⟨(Below.refl _ _).drew, FAq.out, FQ.out⟩ ?_
                    repeat (go_big_quiet_step (
                      first
                      | (go_at_call 41; rename_i X; exact (l4Verb_any lr _ _ _ _ (HQV.out.below X.h.on)).mono fun _ _ h => ⟨by rw [h.1, h0], Cls.next X h.2⟩)
                      | (go_at_call 43; rename_i X; exact (l4Begins_any r.pf Rs[m].pf _).mono fun _ _ h => ⟨by rw [h.1, h6], X, h.2⟩)))
                    refine wpQuiet_nil ?_
                    intro wn hw'
                    obtain ⟨X, hX⟩ := hw'
                    have HWN : Hid (Below Wq.heap.size Wq wn) := by rw [hX]; exact X.h.on
                    clear hX X x1 x2 x3 x4 xn
                    go_wp2
                    go_roundw
                    case rel => first | exact ⟨m + 1, by rw [HNX.out], by go_num, by omega, bt HUq.out HWN.out⟩ | ((repeat apply Exists.intro); exact ⟨⟨m + 1, by rw [HNX.out], by go_num, by omega, bt HUq.out HWN.out⟩, rfl⟩)
                    case measure => simp [intOf]; omega
                | false =>
                  cases h5 : r.tm.toList.isEmpty with
                  | true =>
                    have HCV : Hid (coverS Ts r Rs[m] r.vb[k] = false) := by unfold Hid coverS; simp [h3, h5]
                    have HNX : Hid (((Rs.take (m + 1)).any fun q => coverS Ts r q r.vb[k]) = ff) := by unfold Hid; rw [any_take hlm, HCV.out]; rw [Bool.or_false]; exact hff
                    refine wp_region_class (Cls Wq w.heap.size #[.slice (some ⟨b, off, none⟩) r.vb.length cap, .string r.kd, .string r.tm, .string r.pf] β #[.slice qa Rs[m].vb.length qcap, .string Rs[m].kd, .string Rs[m].tm, .string Rs[m].pf]) (by kernel_rfl) (by kernel_rfl) ⟨(Below.refl _ _).drew, FAq.out, FQ.out⟩ ?_
                    repeat (go_big_quiet_step (
                      first
                      | (go_at_call 41; rename_i X; exact (l4Verb_any lr _ _ _ _ (HQV.out.below X.h.on)).mono fun _ _ h => ⟨by rw [h.1, h0], Cls.next X h.2⟩)))
                    refine wpQuiet_nil ?_
                    intro wn hw'
                    obtain ⟨X, hX⟩ := hw'
                    have HWN : Hid (Below Wq.heap.size Wq wn) := by rw [hX]; exact X.h.on
                    clear hX X x1 x2 x3 x4 xn
                    go_wp2
                    go_roundw
                    case rel => first | exact ⟨m + 1, by rw [HNX.out], by go_num, by omega, bt HUq.out HWN.out⟩ | ((repeat apply Exists.intro); exact ⟨⟨m + 1, by rw [HNX.out], by go_num, by omega, bt HUq.out HWN.out⟩, rfl⟩)
                    case measure => simp [intOf]; omega
                  | false =>
                    cases h4 : underB Ts r.tm Rs[m].tm with
                    | false =>
                      have HCV : Hid (coverS Ts r Rs[m] r.vb[k] = false) := by unfold Hid coverS; simp [h3, h4]
                      have HNX : Hid (((Rs.take (m + 1)).any fun q => coverS Ts r q r.vb[k]) = ff) := by unfold Hid; rw [any_take hlm, HCV.out]; rw [Bool.or_false]; exact hff
                      refine wp_region_class (Cls Wq w.heap.size #[.slice (some ⟨b, off, none⟩) r.vb.length cap, .string r.kd, .string r.tm, .string r.pf] β #[.slice qa Rs[m].vb.length qcap, .string Rs[m].kd, .string Rs[m].tm, .string Rs[m].pf]) (by kernel_rfl) (by kernel_rfl) ⟨(Below.refl _ _).drew, FAq.out, FQ.out⟩ ?_
                      repeat (go_big_quiet_step (
                        first
                        | (go_at_call 41; rename_i X; exact (l4Verb_any lr _ _ _ _ (HQV.out.below X.h.on)).mono fun _ _ h => ⟨by rw [h.1, h0], Cls.next X h.2⟩)
                        | (go_at_call 42; rename_i X; exact (specUnder_any lo _ Ts r.tm Rs[m].tm _ (HTq.out.below X.h.on)).mono fun _ _ h => ⟨by rw [h.1, h4], Cls.next X h.2⟩)))
                      refine wpQuiet_nil ?_
                      intro wn hw'
                      obtain ⟨X, hX⟩ := hw'
                      have HWN : Hid (Below Wq.heap.size Wq wn) := by rw [hX]; exact X.h.on
                      clear hX X x1 x2 x3 x4 xn
                      go_wp2
                      go_roundw
                      case rel => first | exact ⟨m + 1, by rw [HNX.out], by go_num, by omega, bt HUq.out HWN.out⟩ | ((repeat apply Exists.intro); exact ⟨⟨m + 1, by rw [HNX.out], by go_num, by omega, bt HUq.out HWN.out⟩, rfl⟩)
                      case measure => simp [intOf]; omega
                    | true =>
                      cases h6 : beginsB r.pf Rs[m].pf with
                      | false =>
                        have HCV : Hid (coverS Ts r Rs[m] r.vb[k] = false) := by unfold Hid coverS; simp [h6]
                        have HNX : Hid (((Rs.take (m + 1)).any fun q => coverS Ts r q r.vb[k]) = ff) := by unfold Hid; rw [any_take hlm, HCV.out]; rw [Bool.or_false]; exact hff
                        refine wp_region_class (Cls Wq w.heap.size #[.slice (some ⟨b, off, none⟩) r.vb.length cap, .string r.kd, .string r.tm, .string r.pf] β #[.slice qa Rs[m].vb.length qcap, .string Rs[m].kd, .string Rs[m].tm, .string Rs[m].pf]) (by kernel_rfl) (by kernel_rfl) ⟨(Below.refl _ _).drew, FAq.out, FQ.out⟩ ?_
                        repeat (go_big_quiet_step (
                          first
                          | (go_at_call 41; rename_i X; exact (l4Verb_any lr _ _ _ _ (HQV.out.below X.h.on)).mono fun _ _ h => ⟨by rw [h.1, h0], Cls.next X h.2⟩)
                          | (go_at_call 42; rename_i X; exact (specUnder_any lo _ Ts r.tm Rs[m].tm _ (HTq.out.below X.h.on)).mono fun _ _ h => ⟨by rw [h.1, h4], Cls.next X h.2⟩)
                          | (go_at_call 43; rename_i X; exact (l4Begins_any r.pf Rs[m].pf _).mono fun _ _ h => ⟨by rw [h.1, h6], X, h.2⟩)))
                        refine wpQuiet_nil ?_
                        intro wn hw'
                        obtain ⟨X, hX⟩ := hw'
                        have HWN : Hid (Below Wq.heap.size Wq wn) := by rw [hX]; exact X.h.on
                        clear hX X x1 x2 x3 x4 xn
                        go_wp2
                        go_roundw
                        case rel => first | exact ⟨m + 1, by rw [HNX.out], by go_num, by omega, bt HUq.out HWN.out⟩ | ((repeat apply Exists.intro); exact ⟨⟨m + 1, by rw [HNX.out], by go_num, by omega, bt HUq.out HWN.out⟩, rfl⟩)
                        case measure => simp [intOf]; omega
                      | true =>
                        have HCV : Hid (coverS Ts r Rs[m] r.vb[k] = true) := by unfold Hid coverS; rw [h2]; simp [h0, h1, h3, h5, h4, h6]
                        have HNX : Hid (((Rs.take (m + 1)).any fun q => coverS Ts r q r.vb[k]) = true) := by unfold Hid; rw [any_take hlm, HCV.out]; rw [Bool.or_true]
                        refine wp_region_class (Cls Wq w.heap.size #[.slice (some ⟨b, off, none⟩) r.vb.length cap, .string r.kd, .string r.tm, .string r.pf] β #[.slice qa Rs[m].vb.length qcap, .string Rs[m].kd, .string Rs[m].tm, .string Rs[m].pf]) (by kernel_rfl) (by kernel_rfl) ⟨(Below.refl _ _).drew, FAq.out, FQ.out⟩ ?_
                        repeat (go_big_quiet_step (
                          first
                          | (go_at_call 41; rename_i X; exact (l4Verb_any lr _ _ _ _ (HQV.out.below X.h.on)).mono fun _ _ h => ⟨by rw [h.1, h0], Cls.next X h.2⟩)
                          | (go_at_call 42; rename_i X; exact (specUnder_any lo _ Ts r.tm Rs[m].tm _ (HTq.out.below X.h.on)).mono fun _ _ h => ⟨by rw [h.1, h4], Cls.next X h.2⟩)
                          | (go_at_call 43; rename_i X; exact (l4Begins_any r.pf Rs[m].pf _).mono fun _ _ h => ⟨by rw [h.1, h6], X, h.2⟩)))
                        refine wpQuiet_nil ?_
                        intro wn hw'
                        obtain ⟨X, hX⟩ := hw'
                        have HWN : Hid (Below Wq.heap.size Wq wn) := by rw [hX]; exact X.h.on
                        clear hX X x1 x2 x3 x4 xn
                        go_wp2
                        go_roundw
                        case rel => first | exact ⟨m + 1, by rw [HNX.out], by go_num, by omega, bt HUq.out HWN.out⟩ | ((repeat apply Exists.intro); exact ⟨⟨m + 1, by rw [HNX.out], by go_num, by omega, bt HUq.out HWN.out⟩, rfl⟩)
                        case measure => simp [intOf]; omega
        · have HCV : Hid (((Rs.take m).any fun q => coverS Ts r q r.vb[k]) = coveredS Ts Rs r r.vb[k]) := by unfold Hid coveredS; rw [List.take_of_length_le (by omega)]
          rw [HCV.out]
          have g0 : wu.cell? ⟨w.heap.size, 0, none⟩ = some (.slice (some ⟨b, off, none⟩) r.vb.length cap) := (FA.out.on HU.out).cell 0
          have ck : wu.cell? ⟨b, off + k, none⟩ = some (.int .i64 r.vb[k]) := by
            rw [HU.out.cell (p := ⟨b, _, none⟩) hbw]
            exact HC.out k hlt
          cases hcv : coveredS Ts Rs r r.vb[k] with
          | true =>
            go_wp2
            go_roundw
            case rel =>
              have hnx : ∀ j (hj : j < r.vb.length), j < k + 1 → coveredS Ts Rs r r.vb[j] = true := fun j hj h => by
                by_cases e : j = k
                · subst e; exact hcv
                · exact HA.out j hj (by omega)
              first
                | exact ⟨k + 1, by go_num, by omega, HU.out, hnx⟩
                | ((repeat apply Exists.intro); exact ⟨⟨k + 1, by go_num, by omega, HU.out, hnx⟩, rfl⟩)
            case measure => simp [intOf]; omega
          | false =>
            have HL : Hid (lackV Ts Rs r = r.vb[k]) := lack_at hlt hcv HA.out
            go_wp2
            go_ret
            exact ⟨ret_int HL.out.symm, bt HBa.out HU.out⟩
    · have HL : Hid (lackV Ts Rs r = 0) := lack_no fun j hj => HA.out j hj (by omega)
      go_wp2
      go_ret
      exact ⟨ret_int HL.out.symm, bt HBa.out HB.out⟩
end Go.Proofs.YtobijdenhbpdfaaDoor

