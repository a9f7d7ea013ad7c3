import Derived.Test.YtemggnmooiaokaaGreatD16
namespace Go.Proofs.YtemggnmooiaokaaGreat
open Go.RowKit Go.Deep

/-! how many copies of a service there are -/
def mineB (s : ByteArray) (c : Cp) : Bool := c.se.toList == s.toList
def liveB (s : ByteArray) (c : Cp) : Bool := mineB s c && !c.en
def rdyB (s : ByteArray) (c : Cp) : Bool := liveB s c && (c.st == 3)
def oldB (s : ByteArray) (im : Int) (c : Cp) : Bool := liveB s c && (c.im != im)
def falB (s : ByteArray) (c : Cp) : Bool := liveB s c && (c.st == 4)
def endB (s : ByteArray) (c : Cp) : Bool := mineB s c && c.en
def ct (p : Cp → Bool) (L : List Cp) : Int := (L.countP p : Nat)
structure Ct where
  li : Int
  re : Int
  ol : Int
  fa : Int
  en : Int
def ct0 : Ct := ⟨0, 0, 0, 0, 0⟩
def ctL (L : List Cp) (s : ByteArray) (im : Int) : Ct := ⟨ct (liveB s) L, ct (rdyB s) L, ct (oldB s im) L, ct (falB s) L, ct (endB s) L⟩
def ctB (B : Sb) (s : ByteArray) : Ct := match svF B.ss s with
  | none => ct0
  | some x => ctL B.cs s x.im
def countB (B : Sb) (s : ByteArray) : Ct := if validB B then ctB B s else ct0
theorem ct_step (p : Cp → Bool) {L : List Cp} {k : Nat} (hk : k < L.length) : ct p (L.take (k + 1)) = ct p (L.take k) + (if p L[k] then 1 else 0) := by
  unfold ct
  rw [List.take_succ_eq_append_getElem hk, List.countP_append, List.countP_singleton]
  split <;> simp
theorem ct_le (p : Cp → Bool) (L : List Cp) (k : Nat) : 0 ≤ ct p (L.take k) ∧ ct p (L.take k) ≤ k := by
  unfold ct
  refine ⟨by omega, ?_⟩
  have := List.countP_le_length (p := p) (l := L.take k)
  rw [List.length_take] at this
  omega
theorem ct_all (p : Cp → Bool) {L : List Cp} {k : Nat} (hk : L.length ≤ k) : ct p (L.take k) = ct p L := by rw [List.take_of_length_le hk]

section
variable (lo : Nat) (sv cv bv : Value) (B : Sb) (s : ByteArray) (w : World)

set_option maxRecDepth 20000 in
set_option maxHeartbeats 8000000 in
theorem l13Count_any (h : SbAt lo w sv cv bv B) :
    Calls Tryz.prog 48 #[.agg #[.int .i64 B.now, sv, cv, bv], .string s] w fun e w' => ∃ c : Ct, e = .returned (.agg #[.int .i64 c.li, .int .i64 c.re, .int .i64 c.ol, .int .i64 c.fa, .int .i64 c.en]) ∧ Hid (c = ctB B s) ∧ Below w.heap.size w w' := by
  have HK := hide h
  obtain ⟨a0, k0, rfl⟩ := h.svs.form
  obtain ⟨a1, k1, rfl⟩ := h.cps.form
  obtain ⟨a2, k2, rfl⟩ := h.bes.form
  have hmx := h.cps.max
  unfold maxLen at hmx
  clear h
  go_enter Tryz.func48, Tryz.ntmps48
  go_wp2_with fail
  generalize hWa : World.alloc (World.alloc (w.alloc _) _) _ = Wa
  have HB0 : Hid (Below w.heap.size w Wa) := by rw [← hWa]; exact ((one_al w _).alloc (by simp) _).alloc (by simp; omega) _
  have FA0 : Hid (Box Wa w.heap.size #[.int .i64 B.now, .slice a0 B.ss.length k0, .slice a1 B.cs.length k1, .slice a2 B.bs.length k2]) := by rw [← hWa]; exact ((Box.new _ _ _ _ rfl).on (one_al _ _)).on (one_al _ _)
  have FR0 : Hid (Box Wa (w.heap.size + 1) #[.int .i64 0, .int .i64 0, .int .i64 0, .int .i64 0, .int .i64 0]) := by rw [← hWa]; exact (Box.new _ _ _ _ (by simp)).on (one_al _ _)
  have FO0 : Hid (Box Wa (w.heap.size + 1 + 1) #[.int .i64 0, .int .i64 0, .int .i64 0, .int .i64 0, .int .i64 0]) := by rw [← hWa]; exact Box.new _ _ _ _ (by simp)
  clear hWa
  refine (service_any lo _ _ _ B s _ (HK.out.below HB0.out)).mono ?_
  rintro e w1 ⟨r, rfl, hb1, hr⟩
  have HB1 : Hid (Below w.heap.size w w1) := bt HB0.out hb1
  have FA1 := hide (FA0.out.on hb1)
  have FR1 := hide (FR0.out.on hb1)
  have FO1 := hide (FO0.out.on hb1)
  clear hb1 FA0 FR0 FO0 HB0
  rcases hr with ⟨rfl, hf⟩ | ⟨rfl, hi, hf⟩
  · have HE : Hid (ctB B s = ct0) := by unfold Hid ctB; rw [hf]
    clear hf
    go_wp2
    go_loopw [7] (fun i wr => i = .int .i64 0 ∧ Below w.heap.size w wr ∧ Box wr w.heap.size #[.int .i64 B.now, .slice a0 B.ss.length k0, .slice a1 B.cs.length k1, .slice a2 B.bs.length k2] ∧ Box wr (w.heap.size + 1) #[.int .i64 0, .int .i64 0, .int .i64 0, .int .i64 0, .int .i64 0] ∧ Box wr (w.heap.size + 1 + 1) #[.int .i64 0, .int .i64 0, .int .i64 0, .int .i64 0, .int .i64 0]) (fun _ _ => 0)
    case atStart => exact ⟨rfl, HB1.out, FA1.out, FR1.out, FO1.out⟩
    case round =>
      obtain ⟨rfl, hb, hx, hr, ho⟩ := hrel
      have HB := hide hb
      have y2 := hx.cell 2
      simp at y2
      have o0 := ho.cell
      have f0 := ho.free
      have r0 := hr.cell
      have g0 := hr.free
      clear hb hx ho hr FA1 FR1 FO1 HB1
      by_cases hn : 0 < B.cs.length
      all_goals
        go_wp2
        refine bodyPost_ret (v := .agg #[.int .i64 0, .int .i64 0, .int .i64 0, .int .i64 0, .int .i64 0]) (by simp [results, Tryz.results48, go_sem, r0]) rfl ⟨ct0, rfl, HE.out.symm, ?_⟩
        repeat (refine Below.setCell ?_ (by simp only []; omega) _)
        exact HB.out
  · generalize svI B.ss s = i at *
    have HE : Hid (ctB B s = ctL B.cs s B.ss[i].im) := by unfold Hid ctB; rw [hf]
    have i0 : (0 : Int) ≤ (i : Int) := by omega
    have i1 : (i : Int) < (B.ss.length : Int) := by omega
    obtain ⟨sb, so, rfl, hsb, -, hsc⟩ := HK.out.svs.full' (by omega)
    have HSV := hide (hsc i hi).2
    obtain ⟨im, him⟩ : ∃ im, im = B.ss[i].im := ⟨_, rfl⟩
    rw [← him] at HE
    have HIM := hide him.symm
    clear him
    clear hf hsc
    go_wp2
    go_loopw [7] (fun j wr => ∃ (k : Nat) (li re ol fa en : Int), j = .int .i64 k ∧ k ≤ B.cs.length ∧ Below w.heap.size w wr ∧ Box wr w.heap.size #[.int .i64 B.now, .slice (some ⟨sb, so, none⟩) B.ss.length k0, .slice a1 B.cs.length k1, .slice a2 B.bs.length k2] ∧ Box wr (w.heap.size + 1) #[.int .i64 0, .int .i64 0, .int .i64 0, .int .i64 0, .int .i64 0] ∧ Box wr (w.heap.size + 1 + 1) #[.int .i64 li, .int .i64 re, .int .i64 ol, .int .i64 fa, .int .i64 en] ∧ Hid (ctL (B.cs.take k) s im = ⟨li, re, ol, fa, en⟩)) (fun j _ => B.cs.length - (intOf j).toNat)
    case atStart => exact ⟨0, 0, 0, 0, 0, 0, rfl, by omega, HB1.out, FA1.out, FR1.out, FO1.out, by unfold Hid ctL ct; simp⟩
    case round =>
      obtain ⟨k, li, re, ol, fa, en, rfl, hk, hb, hx, hr, ho, hE⟩ := hrel
      have HB := hide hb
      have HX := hide hx
      have HR := hide hr
      have HO := hide ho
      have y2 := hx.cell 2
      simp at y2
      have hlt3 : w.heap.size + 1 + 1 < wr.heap.size := ho.lt
      clear hb hx ho hr FA1 FR1 FO1 HB1
      by_cases hlt : k < B.cs.length
      · obtain ⟨b, off, rfl, hbw, -, hc⟩ := HK.out.cps.full' (by omega)
        obtain ⟨c0, c1, c2, c3, c4, c5, c6⟩ := (hc k hlt).2.below HB.out hbw
        clear hc
        have q1 : ct (liveB s) (B.cs.take k) = li := congrArg Ct.li hE.out
        have q2 : ct (rdyB s) (B.cs.take k) = re := congrArg Ct.re hE.out
        have q3 : ct (oldB s im) (B.cs.take k) = ol := congrArg Ct.ol hE.out
        have q4 : ct (falB s) (B.cs.take k) = fa := congrArg Ct.fa hE.out
        have q5 : ct (endB s) (B.cs.take k) = en := congrArg Ct.en hE.out
        have u1 := ct_le (liveB s) B.cs k
        have u2 := ct_le (rdyB s) B.cs k
        have u3 := ct_le (oldB s im) B.cs k
        have u4 := ct_le (falB s) B.cs k
        have u5 := ct_le (endB s) B.cs k
        have v1 : IntKind.i64.wrap (li + 1) = li + 1 := by rw [IntWalk.i64_left]; unfold wrap64; omega
        have v2 : IntKind.i64.wrap (re + 1) = re + 1 := by rw [IntWalk.i64_left]; unfold wrap64; omega
        have v3 : IntKind.i64.wrap (ol + 1) = ol + 1 := by rw [IntWalk.i64_left]; unfold wrap64; omega
        have v4 : IntKind.i64.wrap (fa + 1) = fa + 1 := by rw [IntWalk.i64_left]; unfold wrap64; omega
        have v5 : IntKind.i64.wrap (en + 1) = en + 1 := by rw [IntWalk.i64_left]; unfold wrap64; omega
        have HST : Hid (∀ a1 a2 a3 a4 a5 : Int, li + (if liveB s B.cs[k] then 1 else 0) = a1 → re + (if rdyB s B.cs[k] then 1 else 0) = a2 → ol + (if oldB s im B.cs[k] then 1 else 0) = a3 → fa + (if falB s B.cs[k] then 1 else 0) = a4 → en + (if endB s B.cs[k] then 1 else 0) = a5 → Hid (ctL (B.cs.take (k + 1)) s im = ⟨a1, a2, a3, a4, a5⟩)) := fun a1 a2 a3 a4 a5 t1 t2 t3 t4 t5 => by
          unfold Hid ctL
          rw [ct_step _ hlt, ct_step _ hlt, ct_step _ hlt, ct_step _ hlt, ct_step _ hlt, q1, q2, q3, q4, q5, t1, t2, t3, t4, t5]
        have HPS : Hid (liveB s B.cs[k] = ((B.cs[k].se.toList == s.toList) && !B.cs[k].en) ∧ endB s B.cs[k] = ((B.cs[k].se.toList == s.toList) && B.cs[k].en) ∧ rdyB s B.cs[k] = (((B.cs[k].se.toList == s.toList) && !B.cs[k].en) && (B.cs[k].st == 3)) ∧ falB s B.cs[k] = (((B.cs[k].se.toList == s.toList) && !B.cs[k].en) && (B.cs[k].st == 4)) ∧ oldB s im B.cs[k] = (((B.cs[k].se.toList == s.toList) && !B.cs[k].en) && (B.cs[k].im != im))) := ⟨rfl, rfl, rfl, rfl, rfl⟩
        clear q1 q2 q3 q4 q5 u1 u2 u3 u4 u5 hE
        have o0 := HO.out.cell
        have f0 := HO.out.free
        have n1 : ¬(w.heap.size + 1 + 1 = wr.heap.size) := by omega
        have n2 : ¬(wr.heap.size = w.heap.size + 1 + 1) := by omega
        cases hm : (B.cs[k].se.toList == s.toList) with
        | false =>
          have HS := hide (HST.out li re ol fa en (by rw [HPS.out.1, hm]; simp) (by rw [HPS.out.2.2.1, hm]; simp) (by rw [HPS.out.2.2.2.2, hm]; simp) (by rw [HPS.out.2.2.2.1, hm]; simp) (by rw [HPS.out.2.1, hm]; simp)).out
          go_wp2
          go_roundw
          case rel => exact ⟨k + 1, li, re, ol, fa, en, by go_num, by omega, bt HB.out (one_al _ _), HX.out.on (one_al _ _), HR.out.on (one_al _ _), HO.out.on (one_al _ _), HS.out⟩
          case measure => simp [intOf]; omega
        | true =>
          cases he : B.cs[k].en with
          | true =>
            have HS := hide (HST.out li re ol fa (en + 1) (by rw [HPS.out.1, hm, he]; simp) (by rw [HPS.out.2.2.1, hm, he]; simp) (by rw [HPS.out.2.2.2.2, hm, he]; simp) (by rw [HPS.out.2.2.2.1, hm, he]; simp) (by rw [HPS.out.2.1, hm, he]; simp)).out
            go_wp2
            go_roundw
            case rel => exact ⟨k + 1, li, re, ol, fa, en + 1, by go_num, by omega, bt (HB.out.setCell (by simp only []; omega) _) (one_al _ _), (HX.out.setFar (by simp only []; omega) _).on (one_al _ _), (HR.out.setFar (by simp only []; omega) _).on (one_al _ _), (HO.out.set (k := 4) (.int .i64 (en + 1)) (by simp)).on (one_al _ _), HS.out⟩
            case measure => simp [intOf]; omega
          | false =>
            cases h3 : (B.cs[k].st == 3) with
            | false =>
              cases h4 : (B.cs[k].st == 4) with
              | false =>
                go_wp2
                generalize hW : World.alloc _ _ = W
                have HBW : Hid (Below w.heap.size w W) := by rw [← hW]; exact bt (HB.out.setCell (by simp only []; omega) _) (one_al _ _)
                have HXW : Hid (Box W w.heap.size #[.int .i64 B.now, .slice (some ⟨sb, so, none⟩) B.ss.length k0, .slice (some ⟨b, off, none⟩) B.cs.length k1, .slice a2 B.bs.length k2]) := by rw [← hW]; exact (HX.out.setFar (by simp only []; omega) _).on (one_al _ _)
                have HRW : Hid (Box W (w.heap.size + 1) #[.int .i64 0, .int .i64 0, .int .i64 0, .int .i64 0, .int .i64 0]) := by rw [← hW]; exact (HR.out.setFar (by simp only []; omega) _).on (one_al _ _)
                have HOW : Hid (Box W (w.heap.size + 1 + 1) #[.int .i64 (li + 1), .int .i64 (re), .int .i64 ol, .int .i64 (fa), .int .i64 en]) := by rw [← hW]; exact (HO.out.set (k := 0) (.int .i64 (li + 1)) (by simp)).on (one_al _ _)
                have HCW : Hid (Box W wr.heap.size #[.string B.cs[k].se, .int .i64 B.cs[k].nu, .int .i64 B.cs[k].ve, .int .i64 B.cs[k].im, .int .i64 B.cs[k].st, .bool false, .string B.cs[k].be]) := by rw [← hW]; exact Box.new _ _ _ _ (by simp [World.setCell])
                clear hW o0 f0 c0 c1 c2 c3 c4 c5 c6 n1 n2
                go_cut [65] (fun c wc => c = .bool (B.cs[k].im != im) ∧ Below W.heap.size W wc)
                case first =>
                  have xn : Nonempty (In (Up W)) := ⟨⟨W, Below.refl _ _⟩⟩
                  have xs := fun (X : In (Up W)) => in_self X
                  have x1 : ∀ X : In (Up W), X.w.cell? ⟨w.heap.size, 1, none⟩ = some (.slice (some ⟨sb, so, none⟩) B.ss.length k0) := fun X => Up.cell X (by rw [HXW.out.cell 1]; rfl)
                  have x3 : ∀ X : In (Up W), X.w.cell? ⟨wr.heap.size, 3, none⟩ = some (.int .i64 B.cs[k].im) := fun X => Up.cell X (by rw [HCW.out.cell 3]; rfl)
                  have s3 : ∀ X : In (Up W), X.w.cell? ⟨sb, so + i * 13 + 3, none⟩ = some (.int .i64 im) := fun X => Up.cell X (by rw [(HSV.out.below HBW.out hsb).c3, HIM.out])
                  refine wp_region_class (Up W) (by kernel_rfl) (by kernel_rfl) ((Below.refl _ _).drew) ?_
                  repeat (go_big_quiet_step (fail))
                  refine wpQuiet_nil ?_
                  intro wn hw
                  obtain ⟨X, hX⟩ := hw
                  have HWN : Below W.heap.size W wn := by rw [hX]; exact X.h
                  clear hX X x1 x3 s3 xs xn
                  go_wp2
                  go_meet
                  exact ⟨rfl, HWN⟩
                case rest =>
                obtain ⟨rfl, hbc⟩ := hcut
                have HBc := hide (bt HBW.out hbc)
                have HXc := hide (HXW.out.on hbc)
                have HRc := hide (HRW.out.on hbc)
                have HOc := hide (HOW.out.on hbc)
                clear hbc HBW HXW HRW HOW HCW
                cases h5 : (B.cs[k].im != im) with
                | false =>
                  have HS := hide (HST.out (li + 1) (re) ol (fa) en (by rw [HPS.out.1, hm, he]; simp) (by rw [HPS.out.2.2.1, hm, he, h3]; simp) (by rw [HPS.out.2.2.2.2, hm, he, h5]; simp) (by rw [HPS.out.2.2.2.1, hm, he, h4]; simp) (by rw [HPS.out.2.1, hm, he]; simp)).out
                  go_wp2
                  go_roundw
                  case rel => exact ⟨k + 1, li + 1, re, ol, fa, en, by go_num, by omega, HBc.out, HXc.out, HRc.out, HOc.out, HS.out⟩
                  case measure => simp [intOf]; omega
                | true =>
                  have HS := hide (HST.out (li + 1) (re) (ol + 1) (fa) en (by rw [HPS.out.1, hm, he]; simp) (by rw [HPS.out.2.2.1, hm, he, h3]; simp) (by rw [HPS.out.2.2.2.2, hm, he, h5]; simp) (by rw [HPS.out.2.2.2.1, hm, he, h4]; simp) (by rw [HPS.out.2.1, hm, he]; simp)).out
                  have o2 := HOc.out.cell 2
                  have f2 := HOc.out.free 2
                  simp at o2
                  go_wp2
                  go_roundw
                  case rel => exact ⟨k + 1, li + 1, re, ol + 1, fa, en, by go_num, by omega, HBc.out.setCell (by simp only []; omega) _, HXc.out.setFar (by simp only []; omega) _, HRc.out.setFar (by simp only []; omega) _, HOc.out.set (k := 2) (.int .i64 (ol + 1)) (by simp), HS.out⟩
                  case measure => simp [intOf]; omega
              | true =>
                go_wp2
                generalize hW : World.alloc _ _ = W
                have HBW : Hid (Below w.heap.size w W) := by rw [← hW]; exact bt ((HB.out.setCell (by simp only []; omega) _).setCell (by simp only []; omega) _) (one_al _ _)
                have HXW : Hid (Box W w.heap.size #[.int .i64 B.now, .slice (some ⟨sb, so, none⟩) B.ss.length k0, .slice (some ⟨b, off, none⟩) B.cs.length k1, .slice a2 B.bs.length k2]) := by rw [← hW]; exact ((HX.out.setFar (by simp only []; omega) _).setFar (by simp only []; omega) _).on (one_al _ _)
                have HRW : Hid (Box W (w.heap.size + 1) #[.int .i64 0, .int .i64 0, .int .i64 0, .int .i64 0, .int .i64 0]) := by rw [← hW]; exact ((HR.out.setFar (by simp only []; omega) _).setFar (by simp only []; omega) _).on (one_al _ _)
                have HOW : Hid (Box W (w.heap.size + 1 + 1) #[.int .i64 (li + 1), .int .i64 (re), .int .i64 ol, .int .i64 (fa + 1), .int .i64 en]) := by rw [← hW]; exact ((HO.out.set (k := 0) (.int .i64 (li + 1)) (by simp)).set (k := 3) (.int .i64 (fa + 1)) (by simp)).on (one_al _ _)
                have HCW : Hid (Box W wr.heap.size #[.string B.cs[k].se, .int .i64 B.cs[k].nu, .int .i64 B.cs[k].ve, .int .i64 B.cs[k].im, .int .i64 B.cs[k].st, .bool false, .string B.cs[k].be]) := by rw [← hW]; exact Box.new _ _ _ _ (by simp [World.setCell])
                clear hW o0 f0 c0 c1 c2 c3 c4 c5 c6 n1 n2
                go_cut [65] (fun c wc => c = .bool (B.cs[k].im != im) ∧ Below W.heap.size W wc)
                case first =>
                  have xn : Nonempty (In (Up W)) := ⟨⟨W, Below.refl _ _⟩⟩
                  have xs := fun (X : In (Up W)) => in_self X
                  have x1 : ∀ X : In (Up W), X.w.cell? ⟨w.heap.size, 1, none⟩ = some (.slice (some ⟨sb, so, none⟩) B.ss.length k0) := fun X => Up.cell X (by rw [HXW.out.cell 1]; rfl)
                  have x3 : ∀ X : In (Up W), X.w.cell? ⟨wr.heap.size, 3, none⟩ = some (.int .i64 B.cs[k].im) := fun X => Up.cell X (by rw [HCW.out.cell 3]; rfl)
                  have s3 : ∀ X : In (Up W), X.w.cell? ⟨sb, so + i * 13 + 3, none⟩ = some (.int .i64 im) := fun X => Up.cell X (by rw [(HSV.out.below HBW.out hsb).c3, HIM.out])
                  refine wp_region_class (Up W) (by kernel_rfl) (by kernel_rfl) ((Below.refl _ _).drew) ?_
                  repeat (go_big_quiet_step (fail))
                  refine wpQuiet_nil ?_
                  intro wn hw
                  obtain ⟨X, hX⟩ := hw
                  have HWN : Below W.heap.size W wn := by rw [hX]; exact X.h
                  clear hX X x1 x3 s3 xs xn
                  go_wp2
                  go_meet
                  exact ⟨rfl, HWN⟩
                case rest =>
                obtain ⟨rfl, hbc⟩ := hcut
                have HBc := hide (bt HBW.out hbc)
                have HXc := hide (HXW.out.on hbc)
                have HRc := hide (HRW.out.on hbc)
                have HOc := hide (HOW.out.on hbc)
                clear hbc HBW HXW HRW HOW HCW
                cases h5 : (B.cs[k].im != im) with
                | false =>
                  have HS := hide (HST.out (li + 1) (re) ol (fa + 1) en (by rw [HPS.out.1, hm, he]; simp) (by rw [HPS.out.2.2.1, hm, he, h3]; simp) (by rw [HPS.out.2.2.2.2, hm, he, h5]; simp) (by rw [HPS.out.2.2.2.1, hm, he, h4]; simp) (by rw [HPS.out.2.1, hm, he]; simp)).out
                  go_wp2
                  go_roundw
                  case rel => exact ⟨k + 1, li + 1, re, ol, fa + 1, en, by go_num, by omega, HBc.out, HXc.out, HRc.out, HOc.out, HS.out⟩
                  case measure => simp [intOf]; omega
                | true =>
                  have HS := hide (HST.out (li + 1) (re) (ol + 1) (fa + 1) en (by rw [HPS.out.1, hm, he]; simp) (by rw [HPS.out.2.2.1, hm, he, h3]; simp) (by rw [HPS.out.2.2.2.2, hm, he, h5]; simp) (by rw [HPS.out.2.2.2.1, hm, he, h4]; simp) (by rw [HPS.out.2.1, hm, he]; simp)).out
                  have o2 := HOc.out.cell 2
                  have f2 := HOc.out.free 2
                  simp at o2
                  go_wp2
                  go_roundw
                  case rel => exact ⟨k + 1, li + 1, re, ol + 1, fa + 1, en, by go_num, by omega, HBc.out.setCell (by simp only []; omega) _, HXc.out.setFar (by simp only []; omega) _, HRc.out.setFar (by simp only []; omega) _, HOc.out.set (k := 2) (.int .i64 (ol + 1)) (by simp), HS.out⟩
                  case measure => simp [intOf]; omega
            | true =>
              cases h4 : (B.cs[k].st == 4) with
              | false =>
                go_wp2
                generalize hW : World.alloc _ _ = W
                have HBW : Hid (Below w.heap.size w W) := by rw [← hW]; exact bt ((HB.out.setCell (by simp only []; omega) _).setCell (by simp only []; omega) _) (one_al _ _)
                have HXW : Hid (Box W w.heap.size #[.int .i64 B.now, .slice (some ⟨sb, so, none⟩) B.ss.length k0, .slice (some ⟨b, off, none⟩) B.cs.length k1, .slice a2 B.bs.length k2]) := by rw [← hW]; exact ((HX.out.setFar (by simp only []; omega) _).setFar (by simp only []; omega) _).on (one_al _ _)
                have HRW : Hid (Box W (w.heap.size + 1) #[.int .i64 0, .int .i64 0, .int .i64 0, .int .i64 0, .int .i64 0]) := by rw [← hW]; exact ((HR.out.setFar (by simp only []; omega) _).setFar (by simp only []; omega) _).on (one_al _ _)
                have HOW : Hid (Box W (w.heap.size + 1 + 1) #[.int .i64 (li + 1), .int .i64 (re + 1), .int .i64 ol, .int .i64 (fa), .int .i64 en]) := by rw [← hW]; exact ((HO.out.set (k := 0) (.int .i64 (li + 1)) (by simp)).set (k := 1) (.int .i64 (re + 1)) (by simp)).on (one_al _ _)
                have HCW : Hid (Box W wr.heap.size #[.string B.cs[k].se, .int .i64 B.cs[k].nu, .int .i64 B.cs[k].ve, .int .i64 B.cs[k].im, .int .i64 B.cs[k].st, .bool false, .string B.cs[k].be]) := by rw [← hW]; exact Box.new _ _ _ _ (by simp [World.setCell])
                clear hW o0 f0 c0 c1 c2 c3 c4 c5 c6 n1 n2
                go_cut [65] (fun c wc => c = .bool (B.cs[k].im != im) ∧ Below W.heap.size W wc)
                case first =>
                  have xn : Nonempty (In (Up W)) := ⟨⟨W, Below.refl _ _⟩⟩
                  have xs := fun (X : In (Up W)) => in_self X
                  have x1 : ∀ X : In (Up W), X.w.cell? ⟨w.heap.size, 1, none⟩ = some (.slice (some ⟨sb, so, none⟩) B.ss.length k0) := fun X => Up.cell X (by rw [HXW.out.cell 1]; rfl)
                  have x3 : ∀ X : In (Up W), X.w.cell? ⟨wr.heap.size, 3, none⟩ = some (.int .i64 B.cs[k].im) := fun X => Up.cell X (by rw [HCW.out.cell 3]; rfl)
                  have s3 : ∀ X : In (Up W), X.w.cell? ⟨sb, so + i * 13 + 3, none⟩ = some (.int .i64 im) := fun X => Up.cell X (by rw [(HSV.out.below HBW.out hsb).c3, HIM.out])
                  refine wp_region_class (Up W) (by kernel_rfl) (by kernel_rfl) ((Below.refl _ _).drew) ?_
                  repeat (go_big_quiet_step (fail))
                  refine wpQuiet_nil ?_
                  intro wn hw
                  obtain ⟨X, hX⟩ := hw
                  have HWN : Below W.heap.size W wn := by rw [hX]; exact X.h
                  clear hX X x1 x3 s3 xs xn
                  go_wp2
                  go_meet
                  exact ⟨rfl, HWN⟩
                case rest =>
                obtain ⟨rfl, hbc⟩ := hcut
                have HBc := hide (bt HBW.out hbc)
                have HXc := hide (HXW.out.on hbc)
                have HRc := hide (HRW.out.on hbc)
                have HOc := hide (HOW.out.on hbc)
                clear hbc HBW HXW HRW HOW HCW
                cases h5 : (B.cs[k].im != im) with
                | false =>
                  have HS := hide (HST.out (li + 1) (re + 1) ol (fa) en (by rw [HPS.out.1, hm, he]; simp) (by rw [HPS.out.2.2.1, hm, he, h3]; simp) (by rw [HPS.out.2.2.2.2, hm, he, h5]; simp) (by rw [HPS.out.2.2.2.1, hm, he, h4]; simp) (by rw [HPS.out.2.1, hm, he]; simp)).out
                  go_wp2
                  go_roundw
                  case rel => exact ⟨k + 1, li + 1, re + 1, ol, fa, en, by go_num, by omega, HBc.out, HXc.out, HRc.out, HOc.out, HS.out⟩
                  case measure => simp [intOf]; omega
                | true =>
                  have HS := hide (HST.out (li + 1) (re + 1) (ol + 1) (fa) en (by rw [HPS.out.1, hm, he]; simp) (by rw [HPS.out.2.2.1, hm, he, h3]; simp) (by rw [HPS.out.2.2.2.2, hm, he, h5]; simp) (by rw [HPS.out.2.2.2.1, hm, he, h4]; simp) (by rw [HPS.out.2.1, hm, he]; simp)).out
                  have o2 := HOc.out.cell 2
                  have f2 := HOc.out.free 2
                  simp at o2
                  go_wp2
                  go_roundw
                  case rel => exact ⟨k + 1, li + 1, re + 1, ol + 1, fa, en, by go_num, by omega, HBc.out.setCell (by simp only []; omega) _, HXc.out.setFar (by simp only []; omega) _, HRc.out.setFar (by simp only []; omega) _, HOc.out.set (k := 2) (.int .i64 (ol + 1)) (by simp), HS.out⟩
                  case measure => simp [intOf]; omega
              | true =>
                go_wp2
                generalize hW : World.alloc _ _ = W
                have HBW : Hid (Below w.heap.size w W) := by rw [← hW]; exact bt (((HB.out.setCell (by simp only []; omega) _).setCell (by simp only []; omega) _).setCell (by simp only []; omega) _) (one_al _ _)
                have HXW : Hid (Box W w.heap.size #[.int .i64 B.now, .slice (some ⟨sb, so, none⟩) B.ss.length k0, .slice (some ⟨b, off, none⟩) B.cs.length k1, .slice a2 B.bs.length k2]) := by rw [← hW]; exact (((HX.out.setFar (by simp only []; omega) _).setFar (by simp only []; omega) _).setFar (by simp only []; omega) _).on (one_al _ _)
                have HRW : Hid (Box W (w.heap.size + 1) #[.int .i64 0, .int .i64 0, .int .i64 0, .int .i64 0, .int .i64 0]) := by rw [← hW]; exact (((HR.out.setFar (by simp only []; omega) _).setFar (by simp only []; omega) _).setFar (by simp only []; omega) _).on (one_al _ _)
                have HOW : Hid (Box W (w.heap.size + 1 + 1) #[.int .i64 (li + 1), .int .i64 (re + 1), .int .i64 ol, .int .i64 (fa + 1), .int .i64 en]) := by rw [← hW]; exact (((HO.out.set (k := 0) (.int .i64 (li + 1)) (by simp)).set (k := 1) (.int .i64 (re + 1)) (by simp)).set (k := 3) (.int .i64 (fa + 1)) (by simp)).on (one_al _ _)
                have HCW : Hid (Box W wr.heap.size #[.string B.cs[k].se, .int .i64 B.cs[k].nu, .int .i64 B.cs[k].ve, .int .i64 B.cs[k].im, .int .i64 B.cs[k].st, .bool false, .string B.cs[k].be]) := by rw [← hW]; exact Box.new _ _ _ _ (by simp [World.setCell])
                clear hW o0 f0 c0 c1 c2 c3 c4 c5 c6 n1 n2
                go_cut [65] (fun c wc => c = .bool (B.cs[k].im != im) ∧ Below W.heap.size W wc)
                case first =>
                  have xn : Nonempty (In (Up W)) := ⟨⟨W, Below.refl _ _⟩⟩
                  have xs := fun (X : In (Up W)) => in_self X
                  have x1 : ∀ X : In (Up W), X.w.cell? ⟨w.heap.size, 1, none⟩ = some (.slice (some ⟨sb, so, none⟩) B.ss.length k0) := fun X => Up.cell X (by rw [HXW.out.cell 1]; rfl)
                  have x3 : ∀ X : In (Up W), X.w.cell? ⟨wr.heap.size, 3, none⟩ = some (.int .i64 B.cs[k].im) := fun X => Up.cell X (by rw [HCW.out.cell 3]; rfl)
                  have s3 : ∀ X : In (Up W), X.w.cell? ⟨sb, so + i * 13 + 3, none⟩ = some (.int .i64 im) := fun X => Up.cell X (by rw [(HSV.out.below HBW.out hsb).c3, HIM.out])
                  refine wp_region_class (Up W) (by kernel_rfl) (by kernel_rfl) ((Below.refl _ _).drew) ?_
                  repeat (go_big_quiet_step (fail))
                  refine wpQuiet_nil ?_
                  intro wn hw
                  obtain ⟨X, hX⟩ := hw
                  have HWN : Below W.heap.size W wn := by rw [hX]; exact X.h
                  clear hX X x1 x3 s3 xs xn
                  go_wp2
                  go_meet
                  exact ⟨rfl, HWN⟩
                case rest =>
                obtain ⟨rfl, hbc⟩ := hcut
                have HBc := hide (bt HBW.out hbc)
                have HXc := hide (HXW.out.on hbc)
                have HRc := hide (HRW.out.on hbc)
                have HOc := hide (HOW.out.on hbc)
                clear hbc HBW HXW HRW HOW HCW
                cases h5 : (B.cs[k].im != im) with
                | false =>
                  have HS := hide (HST.out (li + 1) (re + 1) ol (fa + 1) en (by rw [HPS.out.1, hm, he]; simp) (by rw [HPS.out.2.2.1, hm, he, h3]; simp) (by rw [HPS.out.2.2.2.2, hm, he, h5]; simp) (by rw [HPS.out.2.2.2.1, hm, he, h4]; simp) (by rw [HPS.out.2.1, hm, he]; simp)).out
                  go_wp2
                  go_roundw
                  case rel => exact ⟨k + 1, li + 1, re + 1, ol, fa + 1, en, by go_num, by omega, HBc.out, HXc.out, HRc.out, HOc.out, HS.out⟩
                  case measure => simp [intOf]; omega
                | true =>
                  have HS := hide (HST.out (li + 1) (re + 1) (ol + 1) (fa + 1) en (by rw [HPS.out.1, hm, he]; simp) (by rw [HPS.out.2.2.1, hm, he, h3]; simp) (by rw [HPS.out.2.2.2.2, hm, he, h5]; simp) (by rw [HPS.out.2.2.2.1, hm, he, h4]; simp) (by rw [HPS.out.2.1, hm, he]; simp)).out
                  have o2 := HOc.out.cell 2
                  have f2 := HOc.out.free 2
                  simp at o2
                  go_wp2
                  go_roundw
                  case rel => exact ⟨k + 1, li + 1, re + 1, ol + 1, fa + 1, en, by go_num, by omega, HBc.out.setCell (by simp only []; omega) _, HXc.out.setFar (by simp only []; omega) _, HRc.out.setFar (by simp only []; omega) _, HOc.out.set (k := 2) (.int .i64 (ol + 1)) (by simp), HS.out⟩
                  case measure => simp [intOf]; omega
      · have o0 := HO.out.cell
        have f0 := HO.out.free
        have r0 := HR.out.cell
        have g0 := HR.out.free
        have HF : Hid ((⟨li, re, ol, fa, en⟩ : Ct) = ctB B s) := by
          unfold Hid
          rw [HE.out, ← hE.out]
          unfold ctL
          rw [ct_all _ (by omega), ct_all _ (by omega), ct_all _ (by omega), ct_all _ (by omega), ct_all _ (by omega)]
        go_wp2
        refine bodyPost_ret (v := .agg #[.int .i64 li, .int .i64 re, .int .i64 ol, .int .i64 fa, .int .i64 en]) (by simp [results, Tryz.results48, go_sem, r0]) rfl ⟨⟨li, re, ol, fa, en⟩, rfl, HF.out, ?_⟩
        repeat (refine Below.setCell ?_ (by simp only []; omega) _)
        exact HB.out

end
end Go.Proofs.YtemggnmooiaokaaGreat
