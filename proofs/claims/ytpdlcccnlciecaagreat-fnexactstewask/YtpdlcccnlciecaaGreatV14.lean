import Derived.Test.YtpdlcccnlciecaaGreatV13
import Derived.Deep.RegionLaw
namespace Go.Proofs.YtpdlcccnlciecaaGreat
open Go.RowKit Go.Deep

/-! how many copies of a service there are -/
def mineB (s : ByteArray) (c : Cp) : Bool := c.se.toList == s.toList
def liveB (s : ByteArray) (c : Cp) : Bool := mineB s c && !c.en
def rdyB (s : ByteArray) (c : Cp) : Bool := liveB s c && (c.st == 3)
def oldB (s : ByteArray) (im : Int) (c : Cp) : Bool := liveB s c && (c.im != im)
def falB (s : ByteArray) (c : Cp) : Bool := liveB s c && (c.st == 4)
def endB (s : ByteArray) (c : Cp) : Bool := mineB s c && c.en
def ct (p : Cp → Bool) (L : List Cp) : Int := (L.countP p : Nat)
structure Ct where
  li : Int
  re : Int
  ol : Int
  fa : Int
  en : Int
def ct0 : Ct := ⟨0, 0, 0, 0, 0⟩
def ctL (L : List Cp) (s : ByteArray) (im : Int) : Ct := ⟨ct (liveB s) L, ct (rdyB s) L, ct (oldB s im) L, ct (falB s) L, ct (endB s) L⟩
def ctB (B : Sb) (s : ByteArray) : Ct := match svF B.ss s with
  | none => ct0
  | some x => ctL B.cs s x.im
def countB (B : Sb) (s : ByteArray) : Ct := if validB B then ctB B s else ct0
theorem ct_step (p : Cp → Bool) {L : List Cp} {k : Nat} (hk : k < L.length) : ct p (L.take (k + 1)) = ct p (L.take k) + (if p L[k] then 1 else 0) := by
  unfold ct
  rw [List.take_succ_eq_append_getElem hk, List.countP_append, List.countP_singleton]
  split <;> simp
theorem ct_le (p : Cp → Bool) (L : List Cp) (k : Nat) : 0 ≤ ct p (L.take k) ∧ ct p (L.take k) ≤ k := by
  unfold ct
  refine ⟨by omega, ?_⟩
  have := List.countP_le_length (p := p) (l := L.take k)
  rw [List.length_take] at this
  omega
theorem ct_all (p : Cp → Bool) {L : List Cp} {k : Nat} (hk : L.length ≤ k) : ct p (L.take k) = ct p L := by rw [List.take_of_length_le hk]

section
variable (lo : Nat) (sv cv bv : Value) (B : Sb) (s : ByteArray) (w : World)

set_option maxRecDepth 20000 in
set_option maxHeartbeats 8000000 in
theorem l13Count_any (h : SbAt lo w sv cv bv B) :
    Calls Tryz.prog 45 #[.agg #[.int .i64 B.now, sv, cv, bv], .string s] w fun e w' => ∃ c : Ct, e = .returned (.agg #[.int .i64 c.li, .int .i64 c.re, .int .i64 c.ol, .int .i64 c.fa, .int .i64 c.en]) ∧ Hid (c = ctB B s) ∧ Below w.heap.size w w' := by
  have HK := hide h
  obtain ⟨a0, k0, rfl⟩ := h.svs.form
  obtain ⟨a1, k1, rfl⟩ := h.cps.form
  obtain ⟨a2, k2, rfl⟩ := h.bes.form
  have hmx := h.cps.max
  unfold maxLen at hmx
  clear h
  go_enter Tryz.func45, Tryz.ntmps45
  go_wp2_with fail
  generalize hWa : World.alloc (World.alloc (w.alloc _) _) _ = Wa
  have HB0 : Hid (Below w.heap.size w Wa) := by rw [← hWa]; exact ((one_al w _).alloc (by simp) _).alloc (by simp; omega) _
  have FA0 : Hid (Box Wa w.heap.size #[.int .i64 B.now, .slice a0 B.ss.length k0, .slice a1 B.cs.length k1, .slice a2 B.bs.length k2]) := by rw [← hWa]; exact ((Box.new _ _ _ _ rfl).on (one_al _ _)).on (one_al _ _)
  have FR0 : Hid (Box Wa (w.heap.size + 1) #[.int .i64 0, .int .i64 0, .int .i64 0, .int .i64 0, .int .i64 0]) := by rw [← hWa]; exact (Box.new _ _ _ _ (by simp)).on (one_al _ _)
  have FO0 : Hid (Box Wa (w.heap.size + 1 + 1) #[.int .i64 0, .int .i64 0, .int .i64 0, .int .i64 0, .int .i64 0]) := by rw [← hWa]; exact Box.new _ _ _ _ (by simp)
  clear hWa
  refine (service_any lo _ _ _ B s _ (HK.out.below HB0.out)).mono ?_
  rintro e w1 ⟨r, rfl, hb1, hr⟩
  have HB1 : Hid (Below w.heap.size w w1) := bt HB0.out hb1
  have FA1 := hide (FA0.out.on hb1)
  have FR1 := hide (FR0.out.on hb1)
  have FO1 := hide (FO0.out.on hb1)
  clear hb1 FA0 FR0 FO0 HB0
  rcases hr with ⟨rfl, hf⟩ | ⟨rfl, hi, hf⟩
  · have HE : Hid (ctB B s = ct0) := by unfold Hid ctB; rw [hf]
    clear hf
    go_wp2
    go_loopw [7] (fun i wr => i = .int .i64 0 ∧ Below w.heap.size w wr ∧ Box wr w.heap.size #[.int .i64 B.now, .slice a0 B.ss.length k0, .slice a1 B.cs.length k1, .slice a2 B.bs.length k2] ∧ Box wr (w.heap.size + 1) #[.int .i64 0, .int .i64 0, .int .i64 0, .int .i64 0, .int .i64 0] ∧ Box wr (w.heap.size + 1 + 1) #[.int .i64 0, .int .i64 0, .int .i64 0, .int .i64 0, .int .i64 0]) (fun _ _ => 0)
    case atStart => exact ⟨rfl, HB1.out, FA1.out, FR1.out, FO1.out⟩
    case round =>
      obtain ⟨rfl, hb, hx, hr, ho⟩ := hrel
      have HB := hide hb
      have y2 := hx.cell 2
      simp at y2
      have o0 := ho.cell
      have f0 := ho.free
      have r0 := hr.cell
      have g0 := hr.free
      clear hb hx ho hr FA1 FR1 FO1 HB1
      by_cases hn : 0 < B.cs.length
      all_goals
        go_wp2
        refine bodyPost_ret (v := .agg #[.int .i64 0, .int .i64 0, .int .i64 0, .int .i64 0, .int .i64 0]) (by simp [results, Tryz.results45, go_sem, r0]) rfl ⟨ct0, rfl, HE.out.symm, ?_⟩
        repeat (refine Below.setCell ?_ (by simp only []; omega) _)
        exact HB.out
  · generalize svI B.ss s = i at *
    have HE : Hid (ctB B s = ctL B.cs s B.ss[i].im) := by unfold Hid ctB; rw [hf]
    have i0 : (0 : Int) ≤ (i : Int) := by omega
    have i1 : (i : Int) < (B.ss.length : Int) := by omega
    obtain ⟨sb, so, rfl, hsb, -, hsc⟩ := HK.out.svs.full' (by omega)
    have HSV := hide (hsc i hi).2
    obtain ⟨im, him⟩ : ∃ im, im = B.ss[i].im := ⟨_, rfl⟩
    rw [← him] at HE
    have HIM := hide him.symm
    clear him
    clear hf hsc
    go_wp2
    go_loopw [7] (fun j wr => ∃ (k : Nat) (li re ol fa en : Int), j = .int .i64 k ∧ k ≤ B.cs.length ∧ Below w.heap.size w wr ∧ Box wr w.heap.size #[.int .i64 B.now, .slice (some ⟨sb, so, none⟩) B.ss.length k0, .slice a1 B.cs.length k1, .slice a2 B.bs.length k2] ∧ Box wr (w.heap.size + 1) #[.int .i64 0, .int .i64 0, .int .i64 0, .int .i64 0, .int .i64 0] ∧ Box wr (w.heap.size + 1 + 1) #[.int .i64 li, .int .i64 re, .int .i64 ol, .int .i64 fa, .int .i64 en] ∧ Hid (ctL (B.cs.take k) s im = ⟨li, re, ol, fa, en⟩)) (fun j _ => B.cs.length - (intOf j).toNat)
    case atStart => exact ⟨0, 0, 0, 0, 0, 0, rfl, by omega, HB1.out, FA1.out, FR1.out, FO1.out, by unfold Hid ctL ct; simp⟩
    case round =>
      obtain ⟨k, li, re, ol, fa, en, rfl, hk, hb, hx, hr, ho, hE⟩ := hrel
      have HB := hide hb
      have HX := hide hx
      have HR := hide hr
      have HO := hide ho
      have y2 := hx.cell 2
      simp at y2
      have hlt3 : w.heap.size + 1 + 1 < wr.heap.size := ho.lt
      clear hb hx ho hr FA1 FR1 FO1 HB1
      by_cases hlt : k < B.cs.length
      · obtain ⟨b, off, rfl, hbw, -, hc⟩ := HK.out.cps.full' (by omega)
        obtain ⟨c0, c1, c2, c3, c4, c5, c6⟩ := (hc k hlt).2.below HB.out hbw
        clear hc
        have q1 : ct (liveB s) (B.cs.take k) = li := congrArg Ct.li hE.out
        have q2 : ct (rdyB s) (B.cs.take k) = re := congrArg Ct.re hE.out
        have q3 : ct (oldB s im) (B.cs.take k) = ol := congrArg Ct.ol hE.out
        have q4 : ct (falB s) (B.cs.take k) = fa := congrArg Ct.fa hE.out
        have q5 : ct (endB s) (B.cs.take k) = en := congrArg Ct.en hE.out
        have u1 := ct_le (liveB s) B.cs k
        have u2 := ct_le (rdyB s) B.cs k
        have u3 := ct_le (oldB s im) B.cs k
        have u4 := ct_le (falB s) B.cs k
        have u5 := ct_le (endB s) B.cs k
        have v1 : IntKind.i64.wrap (li + 1) = li + 1 := by rw [IntWalk.i64_left]; unfold wrap64; omega
        have v2 : IntKind.i64.wrap (re + 1) = re + 1 := by rw [IntWalk.i64_left]; unfold wrap64; omega
        have v3 : IntKind.i64.wrap (ol + 1) = ol + 1 := by rw [IntWalk.i64_left]; unfold wrap64; omega
        have v4 : IntKind.i64.wrap (fa + 1) = fa + 1 := by rw [IntWalk.i64_left]; unfold wrap64; omega
        have v5 : IntKind.i64.wrap (en + 1) = en + 1 := by rw [IntWalk.i64_left]; unfold wrap64; omega
        have HST : Hid (∀ a1 a2 a3 a4 a5 : Int, li + (if liveB s B.cs[k] then 1 else 0) = a1 → re + (if rdyB s B.cs[k] then 1 else 0) = a2 → ol + (if oldB s im B.cs[k] then 1 else 0) = a3 → fa + (if falB s B.cs[k] then 1 else 0) = a4 → en + (if endB s B.cs[k] then 1 else 0) = a5 → Hid (ctL (B.cs.take (k + 1)) s im = ⟨a1, a2, a3, a4, a5⟩)) := fun a1 a2 a3 a4 a5 t1 t2 t3 t4 t5 => by
          unfold Hid ctL
          rw [ct_step _ hlt, ct_step _ hlt, ct_step _ hlt, ct_step _ hlt, ct_step _ hlt, q1, q2, q3, q4, q5, t1, t2, t3, t4, t5]
        have HPS : Hid (liveB s B.cs[k] = ((B.cs[k].se.toList == s.toList) && !B.cs[k].en) ∧ endB s B.cs[k] = ((B.cs[k].se.toList == s.toList) && B.cs[k].en) ∧ rdyB s B.cs[k] = (((B.cs[k].se.toList == s.toList) && !B.cs[k].en) && (B.cs[k].st == 3)) ∧ falB s B.cs[k] = (((B.cs[k].se.toList == s.toList) && !B.cs[k].en) && (B.cs[k].st == 4)) ∧ oldB s im B.cs[k] = (((B.cs[k].se.toList == s.toList) && !B.cs[k].en) && (B.cs[k].im != im))) := ⟨rfl, rfl, rfl, rfl, rfl⟩
        clear q1 q2 q3 q4 q5 u1 u2 u3 u4 u5 hE
        have o0 := HO.out.cell
        have f0 := HO.out.free
        have n1 : ¬(w.heap.size + 1 + 1 = wr.heap.size) := by omega
        have n2 : ¬(wr.heap.size = w.heap.size + 1 + 1) := by omega
        cases hm : (B.cs[k].se.toList == s.toList) with
        | false =>
          have HS := hide (HST.out li re ol fa en (by rw [HPS.out.1, hm]; simp) (by rw [HPS.out.2.2.1, hm]; simp) (by rw [HPS.out.2.2.2.2, hm]; simp) (by rw [HPS.out.2.2.2.1, hm]; simp) (by rw [HPS.out.2.1, hm]; simp)).out
          go_wp2
          go_roundw
          case rel => exact ⟨k + 1, li, re, ol, fa, en, by go_num, by omega, bt HB.out (one_al _ _), HX.out.on (one_al _ _), HR.out.on (one_al _ _), HO.out.on (one_al _ _), HS.out⟩
          case measure => simp [intOf]; omega
        | true =>
          cases he : B.cs[k].en with
          | true =>
            have HS := hide (HST.out li re ol fa (en + 1) (by rw [HPS.out.1, hm, he]; simp) (by rw [HPS.out.2.2.1, hm, he]; simp) (by rw [HPS.out.2.2.2.2, hm, he]; simp) (by rw [HPS.out.2.2.2.1, hm, he]; simp) (by rw [HPS.out.2.1, hm, he]; simp)).out
            go_wp2
            go_roundw
            case rel => exact ⟨k + 1, li, re, ol, fa, en + 1, by go_num, by omega, bt (HB.out.setCell (by simp only []; omega) _) (one_al _ _), (HX.out.setFar (by simp only []; omega) _).on (one_al _ _), (HR.out.setFar (by simp only []; omega) _).on (one_al _ _), (HO.out.set (k := 4) (.int .i64 (en + 1)) (by simp)).on (one_al _ _), HS.out⟩
            case measure => simp [intOf]; omega
          | false =>
            cases h3 : (B.cs[k].st == 3) with
            | false =>
              cases h4 : (B.cs[k].st == 4) with
              | false =>
                go_wp2
                generalize hW : World.alloc _ _ = W
                have HBW : Hid (Below w.heap.size w W) := by rw [← hW]; exact bt (HB.out.setCell (by simp only []; omega) _) (one_al _ _)
                have HXW : Hid (Box W w.heap.size #[.int .i64 B.now, .slice (some ⟨sb, so, none⟩) B.ss.length k0, .slice (some ⟨b, off, none⟩) B.cs.length k1, .slice a2 B.bs.length k2]) := by rw [← hW]; exact (HX.out.setFar (by simp only []; omega) _).on (one_al _ _)
                have HRW : Hid (Box W (w.heap.size + 1) #[.int .i64 0, .int .i64 0, .int .i64 0, .int .i64 0, .int .i64 0]) := by rw [← hW]; exact (HR.out.setFar (by simp only []; omega) _).on (one_al _ _)
                have HOW : Hid (Box W (w.heap.size + 1 + 1) #[.int .i64 (li + 1), .int .i64 (re), .int .i64 ol, .int .i64 (fa), .int .i64 en]) := by rw [← hW]; exact (HO.out.set (k := 0) (.int .i64 (li + 1)) (by simp)).on (one_al _ _)
                have HCW : Hid (Box W wr.heap.size #[.string B.cs[k].se, .int .i64 B.cs[k].nu, .int .i64 B.cs[k].ve, .int .i64 B.cs[k].im, .int .i64 B.cs[k].st, .bool false, .string B.cs[k].be]) := by rw [← hW]; exact Box.new _ _ _ _ (by simp [World.setCell])
                clear hW o0 f0 c0 c1 c2 c3 c4 c5 c6 n1 n2
                go_cut [65] (fun c wc => c = .bool (B.cs[k].im != im) ∧ Below W.heap.size W wc)
                case first =>
                  have xn : Nonempty (In (Up W)) := ⟨⟨W, Below.refl _ _⟩⟩
                  have xs := fun (X : In (Up W)) => in_self X
                  have x1 : ∀ X : In (Up W), X.w.cell? ⟨w.heap.size, 1, none⟩ = some (.slice (some ⟨sb, so, none⟩) B.ss.length k0) := fun X => Up.cell X (by rw [HXW.out.cell 1]; rfl)
                  have x3 : ∀ X : In (Up W), X.w.cell? ⟨wr.heap.size, 3, none⟩ = some (.int .i64 B.cs[k].im) := fun X => Up.cell X (by rw [HCW.out.cell 3]; rfl)
                  have s3 : ∀ X : In (Up W), X.w.cell? ⟨sb, so + i * 13 + 3, none⟩ = some (.int .i64 im) := fun X => Up.cell X (by rw [(HSV.out.below HBW.out hsb).c3, HIM.out])
                  refine wp_region_class (Up W) (by kernel_rfl) (by kernel_rfl) ((Below.refl _ _).drew) ?_
                  repeat (go_big_quiet_step (fail))
                  refine wpQuiet_nil ?_
                  intro wn hw
                  obtain ⟨X, hX⟩ := hw
                  have HWN : Below W.heap.size W wn := by rw [hX]; exact X.h
                  clear hX X x1 x3 s3 xs xn
                  go_wp2
                  go_meet
                  exact ⟨rfl, HWN⟩
                case rest =>
                obtain ⟨rfl, hbc⟩ := hcut
                have HBc := hide (bt HBW.out hbc)
                have HXc := hide (HXW.out.on hbc)
                have HRc := hide (HRW.out.on hbc)
                have HOc := hide (HOW.out.on hbc)
                clear hbc HBW HXW HRW HOW HCW
                cases h5 : (B.cs[k].im != im) with
                | false =>
                  have HS := hide (HST.out (li + 1) (re) ol (fa) en (by rw [HPS.out.1, hm, he]; simp) (by rw [HPS.out.2.2.1, hm, he, h3]; simp) (by rw [HPS.out.2.2.2.2, hm, he, h5]; simp) (by rw [HPS.out.2.2.2.1, hm, he, h4]; simp) (by rw [HPS.out.2.1, hm, he]; simp)).out
                  go_wp2
                  go_roundw
                  case rel => exact ⟨k + 1, li + 1, re, ol, fa, en, by go_num, by omega, HBc.out, HXc.out, HRc.out, HOc.out, HS.out⟩
                  case measure => simp [intOf]; omega
                | true =>
                  have HS := hide (HST.out (li + 1) (re) (ol + 1) (fa) en (by rw [HPS.out.1, hm, he]; simp) (by rw [HPS.out.2.2.1, hm, he, h3]; simp) (by rw [HPS.out.2.2.2.2, hm, he, h5]; simp) (by rw [HPS.out.2.2.2.1, hm, he, h4]; simp) (by rw [HPS.out.2.1, hm, he]; simp)).out
                  have o2 := HOc.out.cell 2
                  have f2 := HOc.out.free 2
                  simp at o2
                  go_wp2
                  go_roundw
                  case rel => exact ⟨k + 1, li + 1, re, ol + 1, fa, en, by go_num, by omega, HBc.out.setCell (by simp only []; omega) _, HXc.out.setFar (by simp only []; omega) _, HRc.out.setFar (by simp only []; omega) _, HOc.out.set (k := 2) (.int .i64 (ol + 1)) (by simp), HS.out⟩
                  case measure => simp [intOf]; omega
              | true =>
                go_wp2
                generalize hW : World.alloc _ _ = W
                have HBW : Hid (Below w.heap.size w W) := by rw [← hW]; exact bt ((HB.out.setCell (by simp only []; omega) _).setCell (by simp only []; omega) _) (one_al _ _)
                have HXW : Hid (Box W w.heap.size #[.int .i64 B.now, .slice (some ⟨sb, so, none⟩) B.ss.length k0, .slice (some ⟨b, off, none⟩) B.cs.length k1, .slice a2 B.bs.length k2]) := by rw [← hW]; exact ((HX.out.setFar (by simp only []; omega) _).setFar (by simp only []; omega) _).on (one_al _ _)
                have HRW : Hid (Box W (w.heap.size + 1) #[.int .i64 0, .int .i64 0, .int .i64 0, .int .i64 0, .int .i64 0]) := by rw [← hW]; exact ((HR.out.setFar (by simp only []; omega) _).setFar (by simp only []; omega) _).on (one_al _ _)
                have HOW : Hid (Box W (w.heap.size + 1 + 1) #[.int .i64 (li + 1), .int .i64 (re), .int .i64 ol, .int .i64 (fa + 1), .int .i64 en]) := by rw [← hW]; exact ((HO.out.set (k := 0) (.int .i64 (li + 1)) (by simp)).set (k := 3) (.int .i64 (fa + 1)) (by simp)).on (one_al _ _)
                have HCW : Hid (Box W wr.heap.size #[.string B.cs[k].se, .int .i64 B.cs[k].nu, .int .i64 B.cs[k].ve, .int .i64 B.cs[k].im, .int .i64 B.cs[k].st, .bool false, .string B.cs[k].be]) := by rw [← hW]; exact Box.new _ _ _ _ (by simp [World.setCell])
                clear hW o0 f0 c0 c1 c2 c3 c4 c5 c6 n1 n2
                go_cut [65] (fun c wc => c = .bool (B.cs[k].im != im) ∧ Below W.heap.size W wc)
                case first =>
                  have xn : Nonempty (In (Up W)) := ⟨⟨W, Below.refl _ _⟩⟩
                  have xs := fun (X : In (Up W)) => in_self X
                  have x1 : ∀ X : In (Up W), X.w.cell? ⟨w.heap.size, 1, none⟩ = some (.slice (some ⟨sb, so, none⟩) B.ss.length k0) := fun X => Up.cell X (by rw [HXW.out.cell 1]; rfl)
                  have x3 : ∀ X : In (Up W), X.w.cell? ⟨wr.heap.size, 3, none⟩ = some (.int .i64 B.cs[k].im) := fun X => Up.cell X (by rw [HCW.out.cell 3]; rfl)
                  have s3 : ∀ X : In (Up W), X.w.cell? ⟨sb, so + i * 13 + 3, none⟩ = some (.int .i64 im) := fun X => Up.cell X (by rw [(HSV.out.below HBW.out hsb).c3, HIM.out])
                  refine wp_region_class (Up W) (by kernel_rfl) (by kernel_rfl) ((Below.refl _ _).drew) ?_
                  repeat (go_big_quiet_step (fail))
                  refine wpQuiet_nil ?_
                  intro wn hw
                  obtain ⟨X, hX⟩ := hw
                  have HWN : Below W.heap.size W wn := by rw [hX]; exact X.h
                  clear hX X x1 x3 s3 xs xn
                  go_wp2
                  go_meet
                  exact ⟨rfl, HWN⟩
                case rest =>
                obtain ⟨rfl, hbc⟩ := hcut
                have HBc := hide (bt HBW.out hbc)
                have HXc := hide (HXW.out.on hbc)
                have HRc := hide (HRW.out.on hbc)
                have HOc := hide (HOW.out.on hbc)
                clear hbc HBW HXW HRW HOW HCW
                cases h5 : (B.cs[k].im != im) with
                | false =>
                  have HS := hide (HST.out (li + 1) (re) ol (fa + 1) en (by rw [HPS.out.1, hm, he]; simp) (by rw [HPS.out.2.2.1, hm, he, h3]; simp) (by rw [HPS.out.2.2.2.2, hm, he, h5]; simp) (by rw [HPS.out.2.2.2.1, hm, he, h4]; simp) (by rw [HPS.out.2.1, hm, he]; simp)).out
                  go_wp2
                  go_roundw
                  case rel => exact ⟨k + 1, li + 1, re, ol, fa + 1, en, by go_num, by omega, HBc.out, HXc.out, HRc.out, HOc.out, HS.out⟩
                  case measure => simp [intOf]; omega
                | true =>
                  have HS := hide (HST.out (li + 1) (re) (ol + 1) (fa + 1) en (by rw [HPS.out.1, hm, he]; simp) (by rw [HPS.out.2.2.1, hm, he, h3]; simp) (by rw [HPS.out.2.2.2.2, hm, he, h5]; simp) (by rw [HPS.out.2.2.2.1, hm, he, h4]; simp) (by rw [HPS.out.2.1, hm, he]; simp)).out
                  have o2 := HOc.out.cell 2
                  have f2 := HOc.out.free 2
                  simp at o2
                  go_wp2
                  go_roundw
                  case rel => exact ⟨k + 1, li + 1, re, ol + 1, fa + 1, en, by go_num, by omega, HBc.out.setCell (by simp only []; omega) _, HXc.out.setFar (by simp only []; omega) _, HRc.out.setFar (by simp only []; omega) _, HOc.out.set (k := 2) (.int .i64 (ol + 1)) (by simp), HS.out⟩
                  case measure => simp [intOf]; omega
            | true =>
              cases h4 : (B.cs[k].st == 4) with
              | false =>
                go_wp2
                generalize hW : World.alloc _ _ = W
                have HBW : Hid (Below w.heap.size w W) := by rw [← hW]; exact bt ((HB.out.setCell (by simp only []; omega) _).setCell (by simp only []; omega) _) (one_al _ _)
                have HXW : Hid (Box W w.heap.size #[.int .i64 B.now, .slice (some ⟨sb, so, none⟩) B.ss.length k0, .slice (some ⟨b, off, none⟩) B.cs.length k1, .slice a2 B.bs.length k2]) := by rw [← hW]; exact ((HX.out.setFar (by simp only []; omega) _).setFar (by simp only []; omega) _).on (one_al _ _)
                have HRW : Hid (Box W (w.heap.size + 1) #[.int .i64 0, .int .i64 0, .int .i64 0, .int .i64 0, .int .i64 0]) := by rw [← hW]; exact ((HR.out.setFar (by simp only []; omega) _).setFar (by simp only []; omega) _).on (one_al _ _)
                have HOW : Hid (Box W (w.heap.size + 1 + 1) #[.int .i64 (li + 1), .int .i64 (re + 1), .int .i64 ol, .int .i64 (fa), .int .i64 en]) := by rw [← hW]; exact ((HO.out.set (k := 0) (.int .i64 (li + 1)) (by simp)).set (k := 1) (.int .i64 (re + 1)) (by simp)).on (one_al _ _)
                have HCW : Hid (Box W wr.heap.size #[.string B.cs[k].se, .int .i64 B.cs[k].nu, .int .i64 B.cs[k].ve, .int .i64 B.cs[k].im, .int .i64 B.cs[k].st, .bool false, .string B.cs[k].be]) := by rw [← hW]; exact Box.new _ _ _ _ (by simp [World.setCell])
                clear hW o0 f0 c0 c1 c2 c3 c4 c5 c6 n1 n2
                go_cut [65] (fun c wc => c = .bool (B.cs[k].im != im) ∧ Below W.heap.size W wc)
                case first =>
                  have xn : Nonempty (In (Up W)) := ⟨⟨W, Below.refl _ _⟩⟩
                  have xs := fun (X : In (Up W)) => in_self X
                  have x1 : ∀ X : In (Up W), X.w.cell? ⟨w.heap.size, 1, none⟩ = some (.slice (some ⟨sb, so, none⟩) B.ss.length k0) := fun X => Up.cell X (by rw [HXW.out.cell 1]; rfl)
                  have x3 : ∀ X : In (Up W), X.w.cell? ⟨wr.heap.size, 3, none⟩ = some (.int .i64 B.cs[k].im) := fun X => Up.cell X (by rw [HCW.out.cell 3]; rfl)
                  have s3 : ∀ X : In (Up W), X.w.cell? ⟨sb, so + i * 13 + 3, none⟩ = some (.int .i64 im) := fun X => Up.cell X (by rw [(HSV.out.below HBW.out hsb).c3, HIM.out])
                  refine wp_region_class (Up W) (by kernel_rfl) (by kernel_rfl) ((Below.refl _ _).drew) ?_
                  repeat (go_big_quiet_step (fail))
                  refine wpQuiet_nil ?_
                  intro wn hw
                  obtain ⟨X, hX⟩ := hw
                  have HWN : Below W.heap.size W wn := by rw [hX]; exact X.h
                  clear hX X x1 x3 s3 xs xn
                  go_wp2
                  go_meet
                  exact ⟨rfl, HWN⟩
                case rest =>
                obtain ⟨rfl, hbc⟩ := hcut
                have HBc := hide (bt HBW.out hbc)
                have HXc := hide (HXW.out.on hbc)
                have HRc := hide (HRW.out.on hbc)
                have HOc := hide (HOW.out.on hbc)
                clear hbc HBW HXW HRW HOW HCW
                cases h5 : (B.cs[k].im != im) with
                | false =>
                  have HS := hide (HST.out (li + 1) (re + 1) ol (fa) en (by rw [HPS.out.1, hm, he]; simp) (by rw [HPS.out.2.2.1, hm, he, h3]; simp) (by rw [HPS.out.2.2.2.2, hm, he, h5]; simp) (by rw [HPS.out.2.2.2.1, hm, he, h4]; simp) (by rw [HPS.out.2.1, hm, he]; simp)).out
                  go_wp2
                  go_roundw
                  case rel => exact ⟨k + 1, li + 1, re + 1, ol, fa, en, by go_num, by omega, HBc.out, HXc.out, HRc.out, HOc.out, HS.out⟩
                  case measure => simp [intOf]; omega
                | true =>
                  have HS := hide (HST.out (li + 1) (re + 1) (ol + 1) (fa) en (by rw [HPS.out.1, hm, he]; simp) (by rw [HPS.out.2.2.1, hm, he, h3]; simp) (by rw [HPS.out.2.2.2.2, hm, he, h5]; simp) (by rw [HPS.out.2.2.2.1, hm, he, h4]; simp) (by rw [HPS.out.2.1, hm, he]; simp)).out
                  have o2 := HOc.out.cell 2
                  have f2 := HOc.out.free 2
                  simp at o2
                  go_wp2
                  go_roundw
                  case rel => exact ⟨k + 1, li + 1, re + 1, ol + 1, fa, en, by go_num, by omega, HBc.out.setCell (by simp only []; omega) _, HXc.out.setFar (by simp only []; omega) _, HRc.out.setFar (by simp only []; omega) _, HOc.out.set (k := 2) (.int .i64 (ol + 1)) (by simp), HS.out⟩
                  case measure => simp [intOf]; omega
              | true =>
                go_wp2
                generalize hW : World.alloc _ _ = W
                have HBW : Hid (Below w.heap.size w W) := by rw [← hW]; exact bt (((HB.out.setCell (by simp only []; omega) _).setCell (by simp only []; omega) _).setCell (by simp only []; omega) _) (one_al _ _)
                have HXW : Hid (Box W w.heap.size #[.int .i64 B.now, .slice (some ⟨sb, so, none⟩) B.ss.length k0, .slice (some ⟨b, off, none⟩) B.cs.length k1, .slice a2 B.bs.length k2]) := by rw [← hW]; exact (((HX.out.setFar (by simp only []; omega) _).setFar (by simp only []; omega) _).setFar (by simp only []; omega) _).on (one_al _ _)
                have HRW : Hid (Box W (w.heap.size + 1) #[.int .i64 0, .int .i64 0, .int .i64 0, .int .i64 0, .int .i64 0]) := by rw [← hW]; exact (((HR.out.setFar (by simp only []; omega) _).setFar (by simp only []; omega) _).setFar (by simp only []; omega) _).on (one_al _ _)
                have HOW : Hid (Box W (w.heap.size + 1 + 1) #[.int .i64 (li + 1), .int .i64 (re + 1), .int .i64 ol, .int .i64 (fa + 1), .int .i64 en]) := by rw [← hW]; exact (((HO.out.set (k := 0) (.int .i64 (li + 1)) (by simp)).set (k := 1) (.int .i64 (re + 1)) (by simp)).set (k := 3) (.int .i64 (fa + 1)) (by simp)).on (one_al _ _)
                have HCW : Hid (Box W wr.heap.size #[.string B.cs[k].se, .int .i64 B.cs[k].nu, .int .i64 B.cs[k].ve, .int .i64 B.cs[k].im, .int .i64 B.cs[k].st, .bool false, .string B.cs[k].be]) := by rw [← hW]; exact Box.new _ _ _ _ (by simp [World.setCell])
                clear hW o0 f0 c0 c1 c2 c3 c4 c5 c6 n1 n2
                go_cut [65] (fun c wc => c = .bool (B.cs[k].im != im) ∧ Below W.heap.size W wc)
                case first =>
                  have xn : Nonempty (In (Up W)) := ⟨⟨W, Below.refl _ _⟩⟩
                  have xs := fun (X : In (Up W)) => in_self X
                  have x1 : ∀ X : In (Up W), X.w.cell? ⟨w.heap.size, 1, none⟩ = some (.slice (some ⟨sb, so, none⟩) B.ss.length k0) := fun X => Up.cell X (by rw [HXW.out.cell 1]; rfl)
                  have x3 : ∀ X : In (Up W), X.w.cell? ⟨wr.heap.size, 3, none⟩ = some (.int .i64 B.cs[k].im) := fun X => Up.cell X (by rw [HCW.out.cell 3]; rfl)
                  have s3 : ∀ X : In (Up W), X.w.cell? ⟨sb, so + i * 13 + 3, none⟩ = some (.int .i64 im) := fun X => Up.cell X (by rw [(HSV.out.below HBW.out hsb).c3, HIM.out])
                  refine wp_region_class (Up W) (by kernel_rfl) (by kernel_rfl) ((Below.refl _ _).drew) ?_
                  repeat (go_big_quiet_step (fail))
                  refine wpQuiet_nil ?_
                  intro wn hw
                  obtain ⟨X, hX⟩ := hw
                  have HWN : Below W.heap.size W wn := by rw [hX]; exact X.h
                  clear hX X x1 x3 s3 xs xn
                  go_wp2
                  go_meet
                  exact ⟨rfl, HWN⟩
                case rest =>
                obtain ⟨rfl, hbc⟩ := hcut
                have HBc := hide (bt HBW.out hbc)
                have HXc := hide (HXW.out.on hbc)
                have HRc := hide (HRW.out.on hbc)
                have HOc := hide (HOW.out.on hbc)
                clear hbc HBW HXW HRW HOW HCW
                cases h5 : (B.cs[k].im != im) with
                | false =>
                  have HS := hide (HST.out (li + 1) (re + 1) ol (fa + 1) en (by rw [HPS.out.1, hm, he]; simp) (by rw [HPS.out.2.2.1, hm, he, h3]; simp) (by rw [HPS.out.2.2.2.2, hm, he, h5]; simp) (by rw [HPS.out.2.2.2.1, hm, he, h4]; simp) (by rw [HPS.out.2.1, hm, he]; simp)).out
                  go_wp2
                  go_roundw
                  case rel => exact ⟨k + 1, li + 1, re + 1, ol, fa + 1, en, by go_num, by omega, HBc.out, HXc.out, HRc.out, HOc.out, HS.out⟩
                  case measure => simp [intOf]; omega
                | true =>
                  have HS := hide (HST.out (li + 1) (re + 1) (ol + 1) (fa + 1) en (by rw [HPS.out.1, hm, he]; simp) (by rw [HPS.out.2.2.1, hm, he, h3]; simp) (by rw [HPS.out.2.2.2.2, hm, he, h5]; simp) (by rw [HPS.out.2.2.2.1, hm, he, h4]; simp) (by rw [HPS.out.2.1, hm, he]; simp)).out
                  have o2 := HOc.out.cell 2
                  have f2 := HOc.out.free 2
                  simp at o2
                  go_wp2
                  go_roundw
                  case rel => exact ⟨k + 1, li + 1, re + 1, ol + 1, fa + 1, en, by go_num, by omega, HBc.out.setCell (by simp only []; omega) _, HXc.out.setFar (by simp only []; omega) _, HRc.out.setFar (by simp only []; omega) _, HOc.out.set (k := 2) (.int .i64 (ol + 1)) (by simp), HS.out⟩
                  case measure => simp [intOf]; omega
      · have o0 := HO.out.cell
        have f0 := HO.out.free
        have r0 := HR.out.cell
        have g0 := HR.out.free
        have HF : Hid ((⟨li, re, ol, fa, en⟩ : Ct) = ctB B s) := by
          unfold Hid
          rw [HE.out, ← hE.out]
          unfold ctL
          rw [ct_all _ (by omega), ct_all _ (by omega), ct_all _ (by omega), ct_all _ (by omega), ct_all _ (by omega)]
        go_wp2
        refine bodyPost_ret (v := .agg #[.int .i64 li, .int .i64 re, .int .i64 ol, .int .i64 fa, .int .i64 en]) (by simp [results, Tryz.results45, go_sem, r0]) rfl ⟨⟨li, re, ol, fa, en⟩, rfl, HF.out, ?_⟩
        repeat (refine Below.setCell ?_ (by simp only []; omega) _)
        exact HB.out

end
end Go.Proofs.YtpdlcccnlciecaaGreat
namespace Go.Proofs.YtpdlcccnlciecaaGreat
open Go.RowKit Go.Deep

/-! which copy may be taken away -/
def cpIs (s : ByteArray) (n : Int) (c : Cp) : Bool := (c.se.toList == s.toList) && (c.nu == n)
def cpF (L : List Cp) (s : ByteArray) (n : Int) : Option Cp := L.find? (cpIs s n)
def cpI (L : List Cp) (s : ByteArray) (n : Int) : Nat := L.findIdx (cpIs s n)
def CpPl (L : List Cp) (s : ByteArray) (n : Int) (r : Int) : Prop := (r = -1 ∧ cpF L s n = none) ∨ (r = (cpI L s n : Int) ∧ ∃ (h : cpI L s n < L.length), cpF L s n = some L[cpI L s n])
theorem CpPl.at {L : List Cp} {s : ByteArray} {n : Int} {k : Nat} (hk : k < L.length) (hno : ∀ j (h : j < L.length), j < k → cpIs s n L[j] = false) (h : cpIs s n L[k] = true) : CpPl L s n (k : Int) := by
  have hi : cpI L s n = k := idx_at hk hno h
  refine Or.inr ?_
  rw [hi]
  exact ⟨rfl, hk, find_at hk hno h⟩
def mayT (B : Sb) (s : ByteArray) (n : Int) : Bool := match cpF B.cs s n, svF B.ss s with
  | some c, some x => !c.en && ((c.st != 3) || (x.gn || decide (x.wa - x.dn ≤ (ctL B.cs s x.im).re - 1)))
  | _, _ => false
def mayB (B : Sb) (s : ByteArray) (n : Int) : Bool := validB B && mayT B s n
theorem valid_ss {B : Sb} (h : validB B = true) : B.ss.all (svB B.now) = true := by
  unfold validB at h
  simp only [Bool.and_eq_true] at h
  exact h.2.2.2.2.1.1
theorem valid_cs {B : Sb} (h : validB B = true) : B.cs.all (cpB B) = true := by
  unfold validB at h
  simp only [Bool.and_eq_true] at h
  exact h.2.2.2.2.2.2.1
theorem valid_len {B : Sb} (h : validB B = true) : B.cs.length ≤ 200 := by
  unfold validB at h
  simp only [Bool.and_eq_true, decide_eq_true_eq] at h
  exact h.2.2.1
/-- what is asked of a book for the look at one of its copies -/
structure MayOk (B : Sb) : Prop where
  sv : ∀ i (h : i < B.cs.length), ∃ x, svF B.ss B.cs[i].se = some x
  ss : ∃ now, B.ss.all (svB now) = true
  len : B.cs.length ≤ 200
theorem svB_wd {now : Int} {x : Sv} (h : svB now x = true) : (0 ≤ x.wa ∧ x.wa ≤ 10) ∧ (0 ≤ x.dn ∧ x.dn ≤ 10) := by
  unfold svB at h
  simp only [Bool.and_eq_true] at h
  exact ⟨⟨inB_lo h.2.2.2.2.1, inB_hi h.2.2.2.2.1⟩, inB_lo h.2.2.2.2.2.1, inB_hi h.2.2.2.2.2.1⟩
theorem cpB_sv {B : Sb} {c : Cp} (h : cpB B c = true) : ∃ x, svF B.ss c.se = some x := by
  unfold cpB at h
  cases hq : svF B.ss c.se with
  | none => rw [hq] at h; cases h
  | some x => exact ⟨x, rfl⟩
theorem MayOk.of {B : Sb} (h : validB B = true) : MayOk B := ⟨fun _ hi => cpB_sv (all_at (valid_cs h) hi), ⟨_, valid_ss h⟩, valid_len h⟩
theorem cpF_se {L : List Cp} {s : ByteArray} {n : Int} {c : Cp} (h : cpF L s n = some c) : c.se = s := by
  have := List.find?_some h
  unfold cpIs at this
  rw [Bool.and_eq_true] at this
  exact bytes_eq.1 this.1

set_option maxRecDepth 20000 in
set_option maxHeartbeats 2000000 in
theorem copy_any (lo : Nat) (sv cv bv : Value) (B : Sb) (s : ByteArray) (n : Int) (w : World) (h : SbAt lo w sv cv bv B) :
    Calls Tryz.prog 83 #[.agg #[.int .i64 B.now, sv, cv, bv], .string s, .int .i64 n] w fun e w' => ∃ r : Int, e = .returned (.int .i64 r) ∧ Below w.heap.size w w' ∧ CpPl B.cs s n r := by
  have HK := hide h
  obtain ⟨a0, k0, rfl⟩ := h.svs.form
  obtain ⟨a1, k1, rfl⟩ := h.cps.form
  obtain ⟨a2, k2, rfl⟩ := h.bes.form
  have hmx := h.cps.max
  unfold maxLen at hmx
  clear h
  go_enter Tryz.func83, Tryz.ntmps83
  go_wp2
  generalize hWa : w.alloc _ = Wa
  have HB0 : Hid (Below w.heap.size w Wa) := by rw [← hWa]; exact one_al w _
  have HX0 : Hid (Box Wa w.heap.size #[.int .i64 B.now, .slice a0 B.ss.length k0, .slice a1 B.cs.length k1, .slice a2 B.bs.length k2]) := by rw [← hWa]; exact Box.new _ _ _ _ rfl
  clear hWa
  have x1 := HX0.out.cell 2
  simp at x1
  go_loop [7] (fun i => ∃ k : Nat, i = .int .i64 k ∧ k ≤ B.cs.length ∧ (∀ j (hj : j < B.cs.length), j < k → cpIs s n B.cs[j] = false)) (fun i => B.cs.length - (intOf i).toNat)
  case atStart => exact ⟨0, rfl, by omega, fun j _ h => by omega⟩
  case round =>
    obtain ⟨k, rfl, hk, hall⟩ := hrel
    have HA := hide hall
    clear hall
    by_cases hlt : k < B.cs.length
    · obtain ⟨b, off, rfl, hbw, -, hc⟩ := HK.out.cps.full' (by omega)
      obtain ⟨hs, hc⟩ := hc k hlt
      have c0 := (hc.below HB0.out hbw).c0
      have c1 := (hc.below HB0.out hbw).c1
      have HP : Hid (cpIs s n B.cs[k] = ((B.cs[k].se.toList == s.toList) && (B.cs[k].nu == n))) := rfl
      clear hc hs
      have HNX : Hid (cpIs s n B.cs[k] = false → ∀ j (hj : j < B.cs.length), j < k + 1 → cpIs s n B.cs[j] = false) := fun hn j hj h => by
        by_cases e : j = k
        · subst e; exact hn
        · exact HA.out j hj (by omega)
      cases h1 : (B.cs[k].se.toList == s.toList) with
      | false =>
        have HN := hide (HNX.out (by rw [HP.out, h1]; rfl))
        go_wp2
        go_round
        case rel => exact ⟨k + 1, by go_num, by omega, HN.out⟩
        case measure => simp [intOf]; omega
      | true =>
        cases h2 : (B.cs[k].nu == n) with
        | false =>
          have HN := hide (HNX.out (by rw [HP.out, h1, h2]; rfl))
          go_wp2
          go_round
          case rel => exact ⟨k + 1, by go_num, by omega, HN.out⟩
          case measure => simp [intOf]; omega
        | true =>
          have HS := hide (CpPl.at hlt HA.out (by rw [HP.out, h1, h2]; rfl))
          go_wp2
          go_ret
          exact ⟨_, rfl, HB0.out, HS.out⟩
    · have HS : Hid (CpPl B.cs s n (-1)) := Or.inl ⟨rfl, find_none (fun j hj => HA.out j hj (by omega))⟩
      go_wp2
      go_ret
      exact ⟨_, rfl, HB0.out, HS.out⟩

/-- a book and one service's cells, above a world -/
abbrev HeldS (W0 : World) (β : Nat) (cs : Array Value) (b o : Nat) (x : Sv) (W : World) : Prop :=
  (∀ i, W.cell? ⟨β, i, none⟩ = cs[i]?) ∧ W.cell? ⟨b, o, none⟩ = some (.string x.nm) ∧ W.cell? ⟨b, o + 1, none⟩ = some (.int .i64 x.ve) ∧ W.cell? ⟨b, o + 2, none⟩ = some (.bool x.gn) ∧ W.cell? ⟨b, o + 3, none⟩ = some (.int .i64 x.im) ∧ W.cell? ⟨b, o + 4, none⟩ = some (.int .i64 x.wa) ∧ W.cell? ⟨b, o + 5, none⟩ = some (.int .i64 x.dn) ∧ W.cell? ⟨b, o + 6, none⟩ = some (.int .i64 x.ov) ∧ W.cell? ⟨b, o + 7, none⟩ = some (.int .i64 x.nx) ∧ W.cell? ⟨b, o + 8, none⟩ = some (.int .i64 x.pr) ∧ W.cell? ⟨b, o + 9, none⟩ = some (.int .i64 x.ls) ∧ W.cell? ⟨b, o + 10, none⟩ = some (.int .i64 x.ms) ∧ W.cell? ⟨b, o + 11, none⟩ = some (.int .i64 x.ld) ∧ W.cell? ⟨b, o + 12, none⟩ = some (.int .i64 x.cl) ∧ Hid (Below W0.heap.size W0 W ∧ β < W0.heap.size ∧ b < W0.heap.size)
theorem HeldS.mk {W0 W : World} {β : Nat} {cs : Array Value} {b o : Nat} {x : Sv} (h1 : Box W0 β cs) (h2 : SvCells W0 b o x) (hb : b < W0.heap.size) (hW : Below W0.heap.size W0 W) : HeldS W0 β cs b o x W := by
  have h3 := h2.below hW hb
  exact ⟨(h1.on hW).cell, h3.c0, h3.c1, h3.c2, h3.c3, h3.c4, h3.c5, h3.c6, h3.c7, h3.c8, h3.c9, h3.c10, h3.c11, h3.c12, hW, h1.lt, hb⟩
theorem HeldS.base {W0 W : World} {β : Nat} {cs : Array Value} {b o : Nat} {x : Sv} (h : HeldS W0 β cs b o x W) : Below W0.heap.size W0 W := by
  obtain ⟨_, _, _, _, _, _, _, _, _, _, _, _, _, _, hq⟩ := h
  exact hq.out.1
theorem HeldS.rng {W0 W : World} {β : Nat} {cs : Array Value} {b o : Nat} {x : Sv} (h : HeldS W0 β cs b o x W) : W.rangeAt b o (svL x) := by
  obtain ⟨_, c0, c1, c2, c3, c4, c5, c6, c7, c8, c9, c10, c11, c12, _⟩ := h
  exact SvCells.rng ⟨c0, c1, c2, c3, c4, c5, c6, c7, c8, c9, c10, c11, c12⟩
theorem svL_one (x : Sv) : Array.all (svL x).toArray (·.oneCell') = true := by
  unfold svL
  simp [Value.oneCell']
theorem svF_at {L : List Sv} {s : ByteArray} {x : Sv} (h : svF L s = some x) : ∃ (h : svI L s < L.length), L[svI L s] = x := by
  unfold svF at h
  rw [List.find?_eq_some_iff_getElem] at h
  obtain ⟨h1, i, hi, hx, hno⟩ := h
  have hq : svI L s = i := idx_at (f := fun x : Sv => x.nm.toList == s.toList) hi (fun j hj hji => by simpa using hno j hji) (by rw [hx]; exact h1)
  rw [hq]
  exact ⟨hi, hx⟩


set_option maxRecDepth 20000 in
set_option maxHeartbeats 8000000 in
theorem l14MayEnd_any (lo : Nat) (sv cv bv : Value) (B : Sb) (s : ByteArray) (n : Int) (w : World) (h : SbAt lo w sv cv bv B) (hv : MayOk B) :
    Calls Tryz.prog 65 #[.agg #[.int .i64 B.now, sv, cv, bv], .string s, .int .i64 n] w fun e w' => e = .returned (.bool (mayT B s n)) ∧ Below w.heap.size w w' := by
  have HK := hide h
  have HV := hide hv
  obtain ⟨a0, k0, rfl⟩ := h.svs.form
  obtain ⟨a1, k1, rfl⟩ := h.cps.form
  obtain ⟨a2, k2, rfl⟩ := h.bes.form
  clear h hv
  go_enter Tryz.func65, Tryz.ntmps65
  go_wp2_with fail
  generalize hWa : w.alloc _ = Wa
  have HB0 : Hid (Below w.heap.size w Wa) := by rw [← hWa]; exact one_al w _
  have FA0 : Hid (Box Wa w.heap.size #[.int .i64 B.now, .slice a0 B.ss.length k0, .slice a1 B.cs.length k1, .slice a2 B.bs.length k2]) := by rw [← hWa]; exact Box.new _ _ _ _ rfl
  clear hWa
  refine (copy_any lo _ _ _ B s n _ (HK.out.below HB0.out)).mono ?_
  rintro e w1 ⟨r, rfl, hb1, hr⟩
  have HB1 : Hid (Below w.heap.size w w1) := bt HB0.out hb1
  have FA1 := hide (FA0.out.on hb1)
  clear hb1 FA0 HB0
  rcases hr with ⟨rfl, hf⟩ | ⟨rfl, hi, hf⟩
  · have HE : Hid (mayT B s n = false) := by unfold Hid mayT; rw [hf]
    clear hf
    go_wp2
    go_ret
    exact ⟨ret_bool HE.out.symm, HB1.out⟩
  generalize cpI B.cs s n = i at *
  obtain ⟨x, hx⟩ : ∃ x, svF B.ss s = some x := by
    have := HV.out.sv _ hi
    rwa [cpF_se hf] at this
  have HE0 : Hid (mayT B s n = (!B.cs[i].en && ((B.cs[i].st != 3) || (x.gn || decide (x.wa - x.dn ≤ (ctL B.cs s x.im).re - 1))))) := by unfold Hid mayT; rw [hf, hx]
  obtain ⟨hj, hjx⟩ := svF_at hx
  have HSX := hide hx
  obtain ⟨b, off, rfl, hbw, -, hc⟩ := HK.out.cps.full' (by omega)
  have HCi := hide (hc i hi).2
  obtain ⟨sb, so, rfl, hsb, -, hsc⟩ := HK.out.svs.full' (by omega)
  have HSV : Hid (SvCells w sb (so + svI B.ss s * 13) x) := by have := (hsc _ hj).2; rwa [hjx] at this
  have HSI := hide hj
  generalize hJ : svI B.ss s = j at *
  have i0 : (0 : Int) ≤ (i : Int) := by omega
  have i1 : (i : Int) < (B.cs.length : Int) := by omega
  have j0 : (0 : Int) ≤ (j : Int) := by omega
  have j1 : (j : Int) < (B.ss.length : Int) := by omega
  clear hf hx hc hsc hjx
  have c5 := (HCi.out.below HB1.out hbw).c5
  have y2 := FA1.out.cell 2
  simp at y2
  cases he : B.cs[i].en with
  | true =>
    have HE : Hid (mayT B s n = false) := by unfold Hid; rw [HE0.out, he]; rfl
    go_wp2
    go_ret
    exact ⟨ret_bool HE.out.symm, HB1.out⟩
  | false =>
  go_wp2
  clear c5 y2
  have hsb1 : sb < w1.heap.size := Nat.lt_of_lt_of_le hsb HB1.out.size
  have HS1 := hide (HSV.out.below HB1.out hsb)
  go_cut [8] (fun p wc => ∃ β, p = .pointer (some ⟨β, 0, none⟩) ∧ Below w1.heap.size w1 wc ∧ Box wc β #[.string x.nm, .int .i64 x.ve, .bool x.gn, .int .i64 x.im, .int .i64 x.wa, .int .i64 x.dn, .int .i64 x.ov, .int .i64 x.nx, .int .i64 x.pr, .int .i64 x.ls, .int .i64 x.ms, .int .i64 x.ld, .int .i64 x.cl] ∧ w1.heap.size ≤ β)
  case first =>
    have HSF : Hid (∀ W, Below w1.heap.size w1 W → HeldS w1 w.heap.size #[.int .i64 B.now, .slice (some ⟨sb, so, none⟩) B.ss.length k0, .slice (some ⟨b, off, none⟩) B.cs.length k1, .slice a2 B.bs.length k2] sb (so + j * 13) x W) := fun W hW => HeldS.mk FA1.out HS1.out hsb1 hW
    refine wp_region_held_drew (S := HeldS w1 w.heap.size #[.int .i64 B.now, .slice (some ⟨sb, so, none⟩) B.ss.length k0, .slice (some ⟨b, off, none⟩) B.cs.length k1, .slice a2 B.bs.length k2] sb (so + j * 13) x) (by kernel_rfl) (HSF.out _ ((Below.refl _ _).drew)) (fun hHeld => ?_)
    refine wpAnyH_take (i := 0) (v := .pointer (some ⟨w.heap.size, 1, none⟩)) rfl (by kernel_rfl) (by kernel_rfl) (by kernel_rfl) (fun _ _ _ h => h) (Or.inl ⟨by rfl, fun W hW => by obtain ⟨hq, _⟩ := hW; go_simp⟩) hHeld ?_
    simp only [Act.put, List.setIfInBounds_toArray]
    refine wpAnyH_take (i := 1) (v := .slice (some ⟨sb, so, none⟩) B.ss.length k0) rfl (by kernel_rfl) (by kernel_rfl) (by kernel_rfl) (fun _ _ _ h => h) (Or.inl ⟨by rfl, fun W hW => by obtain ⟨hq, _⟩ := hW; go_simp⟩) hHeld ?_
    simp only [Act.put]
    refine wpAnyH_take (i := 2) (v := .agg #[.int .i64 B.now, .slice (some ⟨sb, so, none⟩) B.ss.length k0, .slice (some ⟨b, off, none⟩) B.cs.length k1, .slice a2 B.bs.length k2]) rfl (by kernel_rfl) (by kernel_rfl) (by kernel_rfl) (fun _ _ _ h => h) (Or.inl ⟨by rfl, fun W hW => by obtain ⟨hq, _⟩ := hW; go_simp⟩) hHeld ?_
    simp only [Act.put]
    refine wpAnyH_take (i := 3) (v := .string s) rfl (by kernel_rfl) (by kernel_rfl) (by kernel_rfl) (fun _ _ _ h => h) (Or.inl ⟨by rfl, fun W hW => by obtain ⟨hq, _⟩ := hW; go_simp⟩) hHeld ?_
    simp only [Act.put]
    refine wpAnyH_ready (rs := [4, 7]) (by kernel_rfl) (by simp) ?_
    refine AllReadyH.cons rfl (fun K hK => ?_) (AllReadyH.cons rfl (fun K hK => ?_) AllReadyH.nil)
    · go_simp
      refine (service_any lo _ _ _ B s _ (HK.out.below (bt HB1.out ((Below.refl _ _).drew)))).mono ?_
      rintro e w2 ⟨r, rfl, hb2, hr2⟩
      have HC2 : Hid (Below w1.heap.size w1 w2) := bt ((Below.refl _ _).drew) hb2
      obtain rfl : r = (j : Int) := by
        rcases hr2 with ⟨_, hq⟩ | ⟨hq, _⟩
        · rw [HSX.out] at hq; cases hq
        · rw [hq, hJ]
      clear hr2 hb2
      try go_wp2_with fail
      refine hK.out _ _ (HSF.out _ HC2.out) (fun hHeld => ?_)
      clear hK K
      try simp only [Act.put, List.setIfInBounds_toArray, List.set_cons_zero, List.set_cons_succ]
      refine wpAnyH_take (i := 5) (v := .pointer (some ⟨sb, so + j * 13, none⟩)) rfl (by kernel_rfl) (by kernel_rfl) (by kernel_rfl) (fun _ _ _ h => h) (Or.inl ⟨by rfl, fun W hW => by go_simp⟩) hHeld ?_
      simp only [Act.put, List.setIfInBounds_toArray]
      refine wpAnyH_take (i := 6) rfl (by kernel_rfl) (by kernel_rfl) (by kernel_rfl) (fun _ _ _ h => h) (yieldsIf_load_mid (by rfl) 50 (.tmp 28) rfl sb (so + j * 13) rfl (svL x) _ (fun _ h => HeldS.rng h) Tryz.underlying50 rfl Sv_sizeI) hHeld ?_
      simp only [Act.put]
      refine wpAnyH_ready (rs := [7]) (by kernel_rfl) (by simp) ?_
      refine AllReadyH.cons rfl (fun K hK => ?_) AllReadyH.nil
      go_simp
      refine hK.out _ _ (HSF.out _ (bt HC2.out (one_al _ _))) (fun hHeld => ?_)
      clear hK K
      try simp only [Act.put, List.setIfInBounds_toArray, List.set_cons_zero, List.set_cons_succ]
      have hz2 := HC2.out.size
      generalize hW3 : w2.alloc _ = W3 at *
      have H3 : Hid (Below w1.heap.size w1 W3) := by rw [← hW3]; exact bt HC2.out (one_al _ _)
      have H3B : Hid (Box W3 w2.heap.size #[.string ⟨#[]⟩, .int .i64 0, .bool false, .int .i64 0, .int .i64 0, .int .i64 0, .int .i64 0, .int .i64 0, .int .i64 0, .int .i64 0, .int .i64 0, .int .i64 0, .int .i64 0]) := by rw [← hW3]; exact Box.new _ _ _ _ rfl
      have HT : Hid (W3.there w2.heap.size 0 13) := H3B.out.there rfl
      clear hW3
      refine wpAnyH_ready (rs := [8]) (by kernel_rfl) (by simp) ?_
      refine AllReadyH.cons rfl (fun K hK => ?_) AllReadyH.nil
      rw [if_pos (by rfl)]
      refine wp_store_mid 50 (.tmp 8) (.tmp 29) rfl w2.heap.size 0 (svL x).toArray rfl rfl HT.out (by rw [List.size_toArray]; exact Sv_sizeI) (svL_one x) ?_
      refine hK.out _ _ (HSF.out _ (Below.sets (by omega) _ _ H3.out)) (fun hHeld => ?_)
      clear hK K
      try simp only [Act.put, List.setIfInBounds_toArray]
      refine wpAnyH_done (by kernel_rfl) ?_ _
      simp only [List.getElem_toArray, List.getElem_cons_succ, List.getElem_cons_zero]
      go_wp2
      go_meet
      exact ⟨w2.heap.size, rfl, Below.sets (by omega) _ _ H3.out, H3B.out.full rfl, by omega⟩
    · go_simp
      refine hK.out _ _ (HSF.out _ ((one_al _ _).drew)) (fun hHeld => ?_)
      clear hK K
      try simp only [Act.put, List.setIfInBounds_toArray, List.set_cons_zero, List.set_cons_succ]
      generalize hW3 : World.alloc _ _ = W3 at *
      have H3 : Hid (Below w1.heap.size w1 W3) := by rw [← hW3]; exact one_al _ _
      have H3B : Hid (Box W3 w1.heap.size #[.string ⟨#[]⟩, .int .i64 0, .bool false, .int .i64 0, .int .i64 0, .int .i64 0, .int .i64 0, .int .i64 0, .int .i64 0, .int .i64 0, .int .i64 0, .int .i64 0, .int .i64 0]) := by rw [← hW3]; exact Box.new _ _ _ _ rfl
      clear hW3
      refine wpAnyH_ready (rs := [4]) (by kernel_rfl) (by simp) ?_
      refine AllReadyH.cons rfl (fun K hK => ?_) AllReadyH.nil
      go_simp
      refine (service_any lo _ _ _ B s _ (HK.out.below (bt HB1.out H3.out.drew))).mono ?_
      rintro e w2 ⟨r, rfl, hb2, hr2⟩
      have HC2 : Hid (Below w1.heap.size w1 w2) := bt H3.out.drew hb2
      have H2B : Hid (Box w2 w1.heap.size #[.string ⟨#[]⟩, .int .i64 0, .bool false, .int .i64 0, .int .i64 0, .int .i64 0, .int .i64 0, .int .i64 0, .int .i64 0, .int .i64 0, .int .i64 0, .int .i64 0, .int .i64 0]) := H3B.out.drew.on hb2
      obtain rfl : r = (j : Int) := by
        rcases hr2 with ⟨_, hq⟩ | ⟨hq, _⟩
        · rw [HSX.out] at hq; cases hq
        · rw [hq, hJ]
      clear hr2 hb2 H3B
      try go_wp2_with fail
      refine hK.out _ _ (HSF.out _ HC2.out) (fun hHeld => ?_)
      clear hK K
      try simp only [Act.put, List.setIfInBounds_toArray, List.set_cons_zero, List.set_cons_succ]
      refine wpAnyH_take (i := 5) (v := .pointer (some ⟨sb, so + j * 13, none⟩)) rfl (by kernel_rfl) (by kernel_rfl) (by kernel_rfl) (fun _ _ _ h => h) (Or.inl ⟨by rfl, fun W hW => by go_simp⟩) hHeld ?_
      simp only [Act.put, List.setIfInBounds_toArray]
      refine wpAnyH_take (i := 6) rfl (by kernel_rfl) (by kernel_rfl) (by kernel_rfl) (fun _ _ _ h => h) (yieldsIf_load_mid (by rfl) 50 (.tmp 28) rfl sb (so + j * 13) rfl (svL x) _ (fun _ h => HeldS.rng h) Tryz.underlying50 rfl Sv_sizeI) hHeld ?_
      simp only [Act.put]
      have HT : Hid (w2.there w1.heap.size 0 13) := H2B.out.there rfl
      refine wpAnyH_ready (rs := [8]) (by kernel_rfl) (by simp) ?_
      refine AllReadyH.cons rfl (fun K hK => ?_) AllReadyH.nil
      rw [if_pos (by rfl)]
      refine wp_store_mid 50 (.tmp 8) (.tmp 29) rfl w1.heap.size 0 (svL x).toArray rfl rfl HT.out (by rw [List.size_toArray]; exact Sv_sizeI) (svL_one x) ?_
      refine hK.out _ _ (HSF.out _ (Below.sets (by omega) _ _ HC2.out)) (fun hHeld => ?_)
      clear hK K
      try simp only [Act.put]
      refine wpAnyH_done (by kernel_rfl) ?_ _
      simp only [List.getElem_toArray, List.getElem_cons_succ, List.getElem_cons_zero, List.setIfInBounds_toArray, List.set_cons_zero, List.set_cons_succ]
      go_wp2
      go_meet
      exact ⟨w1.heap.size, rfl, Below.sets (by omega) _ _ HC2.out, H2B.out.full rfl, by omega⟩
  case rest =>
  obtain ⟨β, rfl, hbc, hX, hβ⟩ := hcut
  have HBc : Hid (Below w.heap.size w wc) := bt HB1.out hbc
  have FAc := hide (FA1.out.on hbc)
  have FXc := hide hX
  have c4 := (HCi.out.below HBc.out hbw).c4
  have y2 := FAc.out.cell 2
  have x2 := hX.cell 2
  simp at y2 x2
  clear hbc hX FA1 HB1 HS1 hsb1
  cases h3 : (B.cs[i].st != 3) with
  | true =>
    have HE : Hid (mayT B s n = true) := by unfold Hid; rw [HE0.out, he, h3]; rfl
    go_wp2
    go_ret
    exact ⟨ret_bool HE.out.symm, HBc.out⟩
  | false =>
  cases hg : x.gn with
  | true =>
    have HE : Hid (mayT B s n = true) := by unfold Hid; rw [HE0.out, he, h3, hg]; rfl
    go_wp2
    go_ret
    exact ⟨ret_bool HE.out.symm, HBc.out⟩
  | false =>
  have HCT : Hid (ctB B s = ctL B.cs s x.im) := by unfold Hid ctB; rw [HSX.out]
  have HE : Hid (mayT B s n = decide (x.wa - x.dn ≤ (ctL B.cs s x.im).re - 1)) := by unfold Hid; rw [HE0.out, he, h3, hg]; rfl
  have hwa : (0 ≤ x.wa ∧ x.wa ≤ 10) ∧ (0 ≤ x.dn ∧ x.dn ≤ 10) := by
    obtain ⟨now, hss⟩ := HV.out.ss
    exact svB_wd (List.all_eq_true.1 hss x (List.mem_of_find?_eq_some HSX.out))
  have hre : 0 ≤ (ctL B.cs s x.im).re ∧ (ctL B.cs s x.im).re ≤ B.cs.length := by
    have := ct_le (rdyB s) B.cs B.cs.length
    rwa [ct_all _ (Nat.le_refl _)] at this
  have hln := HV.out.len
  generalize ctL B.cs s x.im = q at *
  have v1 : IntKind.i64.wrap (q.re - 1) = q.re - 1 := by rw [IntWalk.i64_left]; unfold wrap64; omega
  have v2 : IntKind.i64.wrap (x.wa - x.dn) = x.wa - x.dn := by rw [IntWalk.i64_left]; unfold wrap64; omega
  have hfd : ∀ u : World, (Instr.field 89 (.agg #[.int .i64 q.li, .int .i64 q.re, .int .i64 q.ol, .int .i64 q.fa, .int .i64 q.en]) 1).run Tryz.prog u = .ok (.int .i64 q.re) u := fun u => by rfl
  clear hwa hre hln
  go_wp2
  clear c4 y2 x2
  have xn : Nonempty (In (Up wc)) := ⟨⟨wc, Below.refl _ _⟩⟩
  have xs := fun (X : In (Up wc)) => in_self X
  have z0 : ∀ X : In (Up wc), X.w.cell? ⟨w.heap.size, 0, none⟩ = some (.int .i64 B.now) := fun X => Up.cell X (by rw [FAc.out.cell 0]; rfl)
  have z1 : ∀ X : In (Up wc), X.w.cell? ⟨w.heap.size, 1, none⟩ = some (.slice (some ⟨sb, so, none⟩) B.ss.length k0) := fun X => Up.cell X (by rw [FAc.out.cell 1]; rfl)
  have z2 : ∀ X : In (Up wc), X.w.cell? ⟨w.heap.size, 2, none⟩ = some (.slice (some ⟨b, off, none⟩) B.cs.length k1) := fun X => Up.cell X (by rw [FAc.out.cell 2]; rfl)
  have z3 : ∀ X : In (Up wc), X.w.cell? ⟨w.heap.size, 3, none⟩ = some (.slice a2 B.bs.length k2) := fun X => Up.cell X (by rw [FAc.out.cell 3]; rfl)
  have u4 : ∀ X : In (Up wc), X.w.cell? ⟨β, 4, none⟩ = some (.int .i64 x.wa) := fun X => Up.cell X (by rw [FXc.out.cell 4]; rfl)
  have u5 : ∀ X : In (Up wc), X.w.cell? ⟨β, 5, none⟩ = some (.int .i64 x.dn) := fun X => Up.cell X (by rw [FXc.out.cell 5]; rfl)
  refine wp_region_class (Up wc) (by kernel_rfl) (by kernel_rfl) ((Below.refl _ _).drew) ?_
  repeat (go_big_quiet_step (first | (go_at_call 45; rename_i X; exact (l13Count_any lo _ _ _ B s _ (HK.out.below (bt HBc.out X.h))).mono fun _ _ h => by obtain ⟨c, hc1, hc2, hc3⟩ := h; rw [hc2.out, HCT.out] at hc1; exact ⟨hc1, Up.next X hc3⟩)))
  refine wpQuiet_nil ?_
  intro wn hw
  obtain ⟨X, hX⟩ := hw
  have HWN : Below wc.heap.size wc wn := by rw [hX]; exact X.h
  clear hX X xs xn z0 z1 z2 z3 u4 u5 hfd
  go_wp2
  go_ret
  exact ⟨ret_bool HE.out.symm, bt HBc.out HWN⟩

end Go.Proofs.YtpdlcccnlciecaaGreat
