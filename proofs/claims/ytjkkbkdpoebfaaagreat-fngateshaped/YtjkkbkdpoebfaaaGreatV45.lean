import Derived.Test.YtjkkbkdpoebfaaaGreatV44
import Derived.Deep.RegionHeld3
namespace Go.Proofs.YtjkkbkdpoebfaaaGreat
open Go.RowKit Go.Deep

/-- what gateMendShape tells -/
def MendShapeR (lo : Nat) (Ss : List Sh) (Ms : List Md) (kind : ByteArray) (n : Nat) (e : Ending) (w : World) : Prop :=
  (∃ x fv, mendsB Ss Ms = true ∧ shOf Ss kind = some x ∧ x.fields.length = n ∧ e = .returned (.tuple #[.agg #[.string x.kind, fv], .bool true]) ∧ FdsAt lo w fv x.fields) ∨
  ((mendsB Ss Ms = false ∨ ∀ x, shOf Ss kind = some x → x.fields.length ≠ n) ∧ ∃ k' a' n' cap', e = .returned (.tuple #[.agg #[.string k', .slice a' n' cap'], .bool false]))
/-- WHAT SHAPING COMES TO -/
def ShapeTo (Ss : List Sh) (Ms : List Md) (kind : ByteArray) (V F : List ByteArray) : Prop :=
  (∃ x, mendsB Ss Ms = true ∧ shOf Ss kind = some x ∧ x.fields.length = V.length ∧ FixM x Ms (fillV V x.fields) F) ∨
  ((mendsB Ss Ms = false ∨ ∀ x, shOf Ss kind = some x → x.fields.length ≠ V.length) ∧ F = V)
theorem ShapeTo.unique {Ss : List Sh} {Ms : List Md} {kind : ByteArray} {V F G : List ByteArray} (h1 : ShapeTo Ss Ms kind V F) (h2 : ShapeTo Ss Ms kind V G) : F = G := by
  rcases h1 with ⟨x, a1, a2, a3, a4⟩ | ⟨a1, a2⟩
  · rcases h2 with ⟨y, b1, b2, b3, b4⟩ | ⟨b1, b2⟩
    · rw [a2] at b2; cases b2
      exact FixM.unique a1 (shOf_mem a2).1 a4 b4
    · rcases b1 with b1 | b1
      · rw [a1] at b1; cases b1
      · exact absurd a3 (b1 x a2)
  · rcases h2 with ⟨y, b1, b2, b3, b4⟩ | ⟨b1, b2⟩
    · rcases a1 with a1 | a1
      · rw [b1] at a1; cases a1
      · exact absurd b3 (a1 y b2)
    · rw [a2, b2]

section
variable (kind nm team : ByteArray) (vv hv sv mv fv : Value) (en : Bool) (ver : Int) (V Ho : List ByteArray) (Ss : List Sh) (Ms : List Md) (x : Sh) (k0 : ByteArray) (w : World) (lo lm : Nat)
set_option maxRecDepth 20000 in
set_option maxHeartbeats 8000000 in
theorem mendShape_any (w0 : World) (hS : ShsAt lo w0 sv Ss) (h0 : Below w0.heap.size w0 w) (hM : MdsAt lm w mv Ms) (hV : StrsAt w vv V) (hH : StrsAt w hv Ho) (n1 : V.length ≤ 1048576) :
    Calls Tryz.prog 17 #[sv, mv, .agg #[.string kind, .string nm, .string team, vv, .bool en, hv, .int .i64 ver]] w fun e w' => Below w.heap.size w w' ∧ MendShapeR lo Ss Ms kind V.length e w0 := by
  have HS := hide hS
  have H0 := hide h0
  have HM := hide hM
  obtain ⟨a, cap, rfl⟩ := hV.form'
  obtain ⟨a', cap', rfl⟩ := hH.form'
  obtain ⟨a1, cap1, rfl⟩ := hS.form
  obtain ⟨ma, mcap, rfl⟩ := hM.form
  clear hV hH hS hM h0
  go_enter Tryz.func17, Tryz.ntmps17
  go_wp2_with fail
  generalize hWa : w.alloc _ = Wa
  have hza : Wa.heap.size = w.heap.size + 1 := by rw [← hWa]; simp
  have HBa : Hid (Below w.heap.size w Wa) := by rw [← hWa]; exact one_al _ _
  have FO : Hid (Box Wa w.heap.size #[.string kind, .string nm, .string team, .slice a V.length cap, .bool en, .slice a' Ho.length cap', .int .i64 ver]) := by rw [← hWa]; exact Box.new _ _ _ _ rfl
  clear hWa
  generalize hWb : Wa.alloc _ = Wb
  have hbb : Below Wa.heap.size Wa Wb := by rw [← hWb]; exact one_al _ _
  have HBb : Hid (Below w.heap.size w Wb) := HBa.out.trans (hbb.mono (by omega))
  have FO := hide (FO.out.on hbb)
  have FR : Hid (Box Wb (w.heap.size + 1) #[.string ⟨#[]⟩, .slice none 0 0]) := by rw [← hWb]; exact Box.new _ _ _ _ hza
  clear hWb hbb HBa hza
  refine (implMends_any lo lm _ _ Ss Ms _ (HS.out.below (H0.out.trans (HBb.out.mono H0.out.size))) (HM.out.below HBb.out)).mono ?_
  rintro e w1 ⟨rfl, hb1⟩
  have FO := hide (FO.out.on hb1)
  have FR := hide (FR.out.on hb1)
  have HB1 : Hid (Below w.heap.size w w1) := HBb.out.trans (hb1.mono HBb.out.size)
  clear hb1 HBb
  cases hmb : mendsB Ss Ms with
  | false =>
    have rr := FR.out.cell
    have rf := FR.out.free
    have rl := FR.out.lt
    have r0 : w1.cell? ⟨w.heap.size + 1, 0, none⟩ = some (.string ⟨#[]⟩) := rr 0
    have r1 : w1.cell? ⟨w.heap.size + 1, 1, none⟩ = some (.slice none 0 0) := rr 1
    clear rr
    have HN := hide hmb
    clear hmb
    go_wp2
    refine bodyPost_ret (v := .tuple #[.agg #[.string ⟨#[]⟩, .slice none 0 0], .bool false]) (by simp [results, Tryz.results17, go_sem, r0, r1]) rfl ⟨?_, Or.inr ⟨Or.inl HN.out, _, _, _, _, rfl⟩⟩
    exact (HB1.out.setCell (Nat.le_succ _) _).setCell (Nat.le_succ _) _
  | true =>
    have HMB := hide hmb
    clear hmb
    have g1 := FO.out.cell
    have gl := FO.out.lt
    go_wp2_with fail
    refine (shapeOf0_any lo _ Ss kind w0 _ HS.out (H0.out.trans (HB1.out.mono H0.out.size))).mono ?_
    rintro e w2 ⟨hb2, hsh⟩
    have FO := hide (FO.out.on hb2)
    have FR := hide (FR.out.on hb2)
    have HB2 : Hid (Below w.heap.size w w2) := HB1.out.trans (hb2.mono HB1.out.size)
    clear hb2 HB1 g1 gl
    have hzw2 : w.heap.size + 1 < w2.heap.size := FR.out.lt
    rcases hsh with ⟨x, fv, hx, rfl, hfd⟩ | ⟨hx, rfl⟩
    · obtain ⟨fa, fcap, rfl⟩ := hfd.form
      have HFD := hide hfd
      have HX := hide hx
      clear hfd hx
      have hml : (V.length : Int) ≤ 1048576 := by omega
      by_cases hl : x.fields.length = V.length
      · have HLL := hide hl
        have hq : ((V.length : Int) == (x.fields.length : Int)) = true := by rw [hl]; simp
        clear hl
        go_wp2
        generalize hWd : w2.alloc _ = Wd
        have hbd : Below w2.heap.size w2 Wd := by rw [← hWd]; exact one_al _ _
        have HBd : Hid (Below w.heap.size w Wd) := HB2.out.trans (hbd.mono HB2.out.size)
        have FO := hide (FO.out.on hbd)
        have FR := hide (FR.out.on hbd)
        have FSv : Hid (Box Wd w2.heap.size #[.string x.kind, .slice fa x.fields.length fcap]) := by rw [← hWd]; exact Box.new _ _ _ _ rfl
        have rr := FR.out.cell
        have rf := FR.out.free
        have rl := FR.out.lt
        have r0 : Wd.cell? ⟨w.heap.size + 1, 0, none⟩ = some (.string ⟨#[]⟩) := rr 0
        have r1 : Wd.cell? ⟨w.heap.size + 1, 1, none⟩ = some (.slice none 0 0) := rr 1
        have g1 := FO.out.cell
        have gl := FO.out.lt
        have g2 := FSv.out.cell
        have gl2 := FSv.out.lt
        have HFIN : ∀ u0 u1 d, Hid (Below w.heap.size w (((Wd.setCell ⟨w.heap.size + 1, 0, none⟩ u0).setCell ⟨w.heap.size + 1, 1, none⟩ u1).drewN d)) := fun u0 u1 d => below_drewN ((HBd.out.setCell (Nat.le_succ _) _).setCell (Nat.le_succ _) _) _
        clear hWd hbd rr
        go_region
        go_wp2
        refine bodyPost_ret (v := .tuple #[.agg #[.string x.kind, .slice fa x.fields.length fcap], .bool true]) (by simp [results, Tryz.results17, go_sem, r0, r1]) rfl ⟨?_, Or.inl ⟨x, _, HMB.out, HX.out, HLL.out, rfl, HFD.out⟩⟩
        first
          | exact (HFIN _ _ _).out
          | exact (HFIN _ _ 0).out
          | exact Below.drew (HFIN _ _ 0).out
      · have hq : ((V.length : Int) == (x.fields.length : Int)) = false := by simp; omega
        have HNO : Hid (∀ y, shOf Ss kind = some y → y.fields.length ≠ V.length) := fun y hy => by rw [HX.out] at hy; rw [← Option.some.inj hy]; exact hl
        clear hl
        go_wp2
        generalize hWd : w2.alloc _ = Wd
        have hbd : Below w2.heap.size w2 Wd := by rw [← hWd]; exact one_al _ _
        have HBd : Hid (Below w.heap.size w Wd) := HB2.out.trans (hbd.mono HB2.out.size)
        have FO := hide (FO.out.on hbd)
        have FR := hide (FR.out.on hbd)
        have FSv : Hid (Box Wd w2.heap.size #[.string x.kind, .slice fa x.fields.length fcap]) := by rw [← hWd]; exact Box.new _ _ _ _ rfl
        have rr := FR.out.cell
        have rf := FR.out.free
        have rl := FR.out.lt
        have r0 : Wd.cell? ⟨w.heap.size + 1, 0, none⟩ = some (.string ⟨#[]⟩) := rr 0
        have r1 : Wd.cell? ⟨w.heap.size + 1, 1, none⟩ = some (.slice none 0 0) := rr 1
        have g1 := FO.out.cell
        have gl := FO.out.lt
        have g2 := FSv.out.cell
        have gl2 := FSv.out.lt
        have HFIN : ∀ u0 u1 d, Hid (Below w.heap.size w (((Wd.setCell ⟨w.heap.size + 1, 0, none⟩ u0).setCell ⟨w.heap.size + 1, 1, none⟩ u1).drewN d)) := fun u0 u1 d => below_drewN ((HBd.out.setCell (Nat.le_succ _) _).setCell (Nat.le_succ _) _) _
        clear hWd hbd rr
        go_region
        go_wp2
        refine bodyPost_ret (v := .tuple #[.agg #[.string x.kind, .slice fa x.fields.length fcap], .bool false]) (by simp [results, Tryz.results17, go_sem, r0, r1]) rfl ⟨?_, Or.inr ⟨Or.inr HNO.out, _, _, _, _, rfl⟩⟩
        first
          | exact (HFIN _ _ _).out
          | exact (HFIN _ _ 0).out
          | exact Below.drew (HFIN _ _ 0).out
    · have HNO : Hid (∀ y, shOf Ss kind = some y → y.fields.length ≠ V.length) := fun y hy => by rw [hx] at hy; cases hy
      clear hx
      go_wp2
      generalize hWd : w2.alloc _ = Wd
      have hbd : Below w2.heap.size w2 Wd := by rw [← hWd]; exact one_al _ _
      have HBd : Hid (Below w.heap.size w Wd) := HB2.out.trans (hbd.mono HB2.out.size)
      have FO := hide (FO.out.on hbd)
      have FR := hide (FR.out.on hbd)
      have FSv : Hid (Box Wd w2.heap.size #[.string ⟨#[]⟩, .slice none 0 0]) := by rw [← hWd]; exact Box.new _ _ _ _ rfl
      have rr := FR.out.cell
      have rf := FR.out.free
      have rl := FR.out.lt
      have r0 : Wd.cell? ⟨w.heap.size + 1, 0, none⟩ = some (.string ⟨#[]⟩) := rr 0
      have r1 : Wd.cell? ⟨w.heap.size + 1, 1, none⟩ = some (.slice none 0 0) := rr 1
      have g1 := FO.out.cell
      have gl := FO.out.lt
      have g2 := FSv.out.cell
      have gl2 := FSv.out.lt
      have HFIN : ∀ u0 u1 d, Hid (Below w.heap.size w (((Wd.setCell ⟨w.heap.size + 1, 0, none⟩ u0).setCell ⟨w.heap.size + 1, 1, none⟩ u1).drewN d)) := fun u0 u1 d => below_drewN ((HBd.out.setCell (Nat.le_succ _) _).setCell (Nat.le_succ _) _) _
      clear hWd hbd rr
      go_region
      go_wp2
      refine bodyPost_ret (v := .tuple #[.agg #[.string ⟨#[]⟩, .slice none 0 0], .bool false]) (by simp [results, Tryz.results17, go_sem, r0, r1]) rfl ⟨?_, Or.inr ⟨Or.inr HNO.out, _, _, _, _, rfl⟩⟩
      first
        | exact (HFIN _ _ _).out
        | exact (HFIN _ _ 0).out
        | exact Below.drew (HFIN _ _ 0).out

end
end Go.Proofs.YtjkkbkdpoebfaaaGreat

namespace Go.Proofs.YtjkkbkdpoebfaaaGreat
open Go.RowKit Go.Deep

section
variable (kind nm team : ByteArray) (vv hv sv mv fv : Value) (en : Bool) (ver : Int) (V Ho : List ByteArray) (Ss : List Sh) (Ms : List Md) (x : Sh) (k0 : ByteArray) (w : World) (lo lm : Nat)
set_option maxRecDepth 20000 in
set_option maxHeartbeats 8000000 in
theorem shapeObj_any (hV : StrsAt w vv V) (hH : StrsAt w hv Ho) (hF : FdsAt lo w fv x.fields) (hM : MdsAt lm w mv Ms) (hmb : mendsB Ss Ms = true) (hx : shOf Ss k0 = some x) (hl : x.fields.length = V.length) (n2 : Ho.length ≤ 1048576) :
    Calls Tryz.prog 19 #[.agg #[.string x.kind, fv], mv, .agg #[.string kind, .string nm, .string team, vv, .bool en, hv, .int .i64 ver]] w
      fun e w' => ∃ v' h' F, e = .returned (.agg #[.string kind, .string nm, .string team, v', .bool en, h', .int .i64 ver]) ∧ Below w.heap.size w w' ∧ ObjOwn w.heap.size w' v' h' F Ho ∧ FixM x Ms (fillV V x.fields) F := by
  have HV := hide hV
  have HH := hide hH
  have HF := hide hF
  have HM := hide hM
  have HMB := hide hmb
  have HX := hide hx
  have h6 : x.fields.length ≤ 6 := fields_six (shapes_fields (mendsB_shapes hmb) (shOf_mem hx).1)
  have n1 : V.length ≤ 6 := by omega
  obtain ⟨a, cap, rfl⟩ := hV.form'
  obtain ⟨a', cap', rfl⟩ := hH.form'
  obtain ⟨a1, cap1, rfl⟩ := hF.form
  obtain ⟨ma, mcap, rfl⟩ := hM.form
  have HL := hide hl
  have HFL : Hid (x.fields.length = (fillV V x.fields).length) := by unfold Hid; rw [fillV_len hl]; exact hl
  clear hV hH hF hM hl hmb hx
  go_enter Tryz.func19, Tryz.ntmps19
  go_wp2
  generalize hWa : w.alloc _ = Wa
  have hza : Wa.heap.size = w.heap.size + 1 := by rw [← hWa]; simp
  have HBa : Hid (Below w.heap.size w Wa) := by rw [← hWa]; exact one_al _ _
  have FS : Hid (Box Wa w.heap.size #[.string x.kind, .slice a1 x.fields.length cap1]) := by rw [← hWa]; exact Box.new _ _ _ _ rfl
  clear hWa
  generalize hWb : Wa.alloc _ = Wb
  have hzb : Wb.heap.size = w.heap.size + 1 + 1 := by rw [← hWb]; simp [hza]
  have hbb : Below Wa.heap.size Wa Wb := by rw [← hWb]; exact one_al _ _
  have HBb : Hid (Below w.heap.size w Wb) := HBa.out.trans (hbb.mono (by omega))
  have FS := hide (FS.out.on hbb)
  have FO : Hid (Box Wb (w.heap.size + 1) #[.string kind, .string nm, .string team, .slice a V.length cap, .bool en, .slice a' Ho.length cap', .int .i64 ver]) := by rw [← hWb]; exact Box.new _ _ _ _ hza
  clear hWb hbb HBa
  generalize hWc : Wb.alloc _ = Wc
  have hzc : Wc.heap.size = w.heap.size + 3 := by rw [← hWc]; simp [hzb]
  have hbc : Below Wb.heap.size Wb Wc := by rw [← hWc]; exact one_al _ _
  have HBc : Hid (Below w.heap.size w Wc) := HBb.out.trans (hbc.mono (by omega))
  have FS := hide (FS.out.on hbc)
  have FO := hide (FO.out.on hbc)
  have FR : Hid (Box Wc (w.heap.size + 1 + 1) #[.string ⟨#[]⟩, .string ⟨#[]⟩, .string ⟨#[]⟩, .slice none 0 0, .bool false, .slice none 0 0, .int .i64 0]) := by rw [← hWc]; exact Box.new _ _ _ _ hzb
  clear hWc hbc HBb hza hzb
  have g1 := FS.out.cell
  have gl := FS.out.lt
  have g2 := FO.out.cell
  have gl2 := FO.out.lt
  go_region_with (first
    | (go_at_call 27
       refine (fillObj_any _ _ _ _ _ _ _ _ _ V Ho x.fields _ lo (HV.out.below (HBc.out.drew)) (HH.out.below (HBc.out.drew)) (HF.out.below (HBc.out.drew)) (by omega) n2 HL.out).mono ?_
       rintro e w1 ⟨v1, h1, rfl, hb1, mid1, hlo1, hmi1, hs1, hs2⟩
       obtain ⟨a2, cap2, rfl⟩ := hs1.form
       obtain ⟨a3, cap3, rfl⟩ := hs2.form
       have hb1' := drew_on hb1
       have HB1 : Hid (Below w.heap.size w w1) := HBc.out.trans (hb1'.mono HBc.out.size)
       have g3 : ∀ i, w1.cell? ⟨w.heap.size, i, none⟩ = (#[.string x.kind, .slice a1 x.fields.length cap1] : Array Value)[i]? := (FS.out.on hb1').cell
       have gl3 : w.heap.size < w1.heap.size := (FS.out.on hb1').lt
       have FR1 := hide (FR.out.on hb1')
       have HV1 := hide hs1.at
       have HH1 := hide hs2.at
       clear hb1 hb1' hs1 hs2 hlo1 hmi1)
    | (go_at_call 25
       refine (mendObj_any _ _ _ _ _ _ _ _ _ (fillV V x.fields) Ho Ss Ms x k0 _ lo lm HV1.out HH1.out (HF.out.below HB1.out) (HM.out.below HB1.out) HMB.out HX.out HFL.out n2).mono ?_
       rintro e w2 ⟨v2, h2, F, rfl, hb2, ⟨mid2, hlo2, hmi2, hs3, hs4⟩, hfix⟩
       obtain ⟨a4, cap4, rfl⟩ := hs3.form
       obtain ⟨a5, cap5, rfl⟩ := hs4.form
       have HB2 : Hid (Below w.heap.size w w2) := HB1.out.trans (hb2.mono HB1.out.size)
       have hz2 := hb2.size
       have FR2 := hide (FR1.out.on hb2)
       have hb12 : w.heap.size + 3 ≤ w1.heap.size := by have := FR1.out.lt; omega
       have HV2 := hide hs3
       have HH2 := hide hs4
       have HFIX := hide hfix
       have rr := FR2.out.cell
       have rf := FR2.out.free
       have rl := FR2.out.lt
       have r0 : w2.cell? ⟨w.heap.size + 1 + 1, 0, none⟩ = some (.string ⟨#[]⟩) := rr 0
       have r1 : w2.cell? ⟨w.heap.size + 1 + 1, 1, none⟩ = some (.string ⟨#[]⟩) := rr 1
       have r2 : w2.cell? ⟨w.heap.size + 1 + 1, 2, none⟩ = some (.string ⟨#[]⟩) := rr 2
       have r3 : w2.cell? ⟨w.heap.size + 1 + 1, 3, none⟩ = some (.slice none 0 0) := rr 3
       have r4 : w2.cell? ⟨w.heap.size + 1 + 1, 4, none⟩ = some (.bool false) := rr 4
       have r5 : w2.cell? ⟨w.heap.size + 1 + 1, 5, none⟩ = some (.slice none 0 0) := rr 5
       have r6 : w2.cell? ⟨w.heap.size + 1 + 1, 6, none⟩ = some (.int .i64 0) := rr 6
       clear rr
       clear hb2 hs3 hs4 hfix))
  all_goals
    go_wp2
    refine bodyPost_ret (v := .agg #[.string kind, .string nm, .string team, .slice a4 F.length cap4, .bool en, .slice a5 Ho.length cap5, .int .i64 ver]) (by simp [results, Tryz.results19, go_sem, r0, r1, r2, r3, r4, r5, r6]) rfl ⟨_, _, F, rfl, ?_, ⟨mid2, ?_, ?_, ?_, ?_⟩, HFIX.out⟩
    · repeat (refine Below.setCell ?_ (by simp only []; omega) _)
      exact HB2.out
    · omega
    · simp only [World.setCell, Array.size_modify]; omega
    · refine StrsOwn.wide (lo := w1.heap.size) (hi := mid2) ?_ (by omega) (Nat.le_refl _)
      repeat (refine StrsOwn.setCell ?_ (by simp only []; omega) _)
      exact HV2.out
    · refine StrsOwn.wide (lo := mid2) (hi := w2.heap.size) ?_ (Nat.le_refl _) (by simp only [World.setCell, Array.size_modify]; omega)
      repeat (refine StrsOwn.setCell ?_ (by simp only []; omega) _)
      exact HH2.out

set_option maxRecDepth 20000 in
set_option maxHeartbeats 8000000 in
theorem implMended_any (hS : ShsAt lo w sv Ss) (hM : MdsAt lm w mv Ms) (hV : StrsAt w vv V) (hH : StrsAt w hv Ho) (n1 : V.length ≤ 1048576) (n2 : Ho.length ≤ 1048576) :
    Calls Tryz.prog 9 #[sv, mv, .agg #[.string kind, .string nm, .string team, vv, .bool en, hv, .int .i64 ver]] w
      fun e w' => ∃ v' h' F, e = .returned (.agg #[.string kind, .string nm, .string team, v', .bool en, h', .int .i64 ver]) ∧ Below w.heap.size w w' ∧ ObjOwn w.heap.size w' v' h' F Ho ∧ MendTo Ss Ms kind V F := by
  have HV := hide hV
  have HH := hide hH
  have HS := hide hS
  have HM := hide hM
  obtain ⟨a, cap, rfl⟩ := hV.form'
  obtain ⟨a', cap', rfl⟩ := hH.form'
  obtain ⟨a1, cap1, rfl⟩ := hS.form
  obtain ⟨ma, mcap, rfl⟩ := hM.form
  clear hV hH hS hM
  go_enter Tryz.func9, Tryz.ntmps9
  go_wp2_with fail
  generalize hWa : w.alloc _ = Wa
  have hza : Wa.heap.size = w.heap.size + 1 := by rw [← hWa]; simp
  have HBa : Hid (Below w.heap.size w Wa) := by rw [← hWa]; exact one_al _ _
  have FO : Hid (Box Wa w.heap.size #[.string kind, .string nm, .string team, .slice a V.length cap, .bool en, .slice a' Ho.length cap', .int .i64 ver]) := by rw [← hWa]; exact Box.new _ _ _ _ rfl
  clear hWa
  generalize hWb : Wa.alloc _ = Wb
  have hzb : Wb.heap.size = w.heap.size + 2 := by rw [← hWb]; simp [hza]
  have hbb : Below Wa.heap.size Wa Wb := by rw [← hWb]; exact one_al _ _
  have HBb : Hid (Below w.heap.size w Wb) := HBa.out.trans (hbb.mono (by omega))
  have FO := hide (FO.out.on hbb)
  have FR : Hid (Box Wb (w.heap.size + 1) #[.string ⟨#[]⟩, .string ⟨#[]⟩, .string ⟨#[]⟩, .slice none 0 0, .bool false, .slice none 0 0, .int .i64 0]) := by rw [← hWb]; exact Box.new _ _ _ _ hza
  clear hWb hbb HBa hza
  refine (mendShape_any _ _ _ _ _ _ _ _ _ V Ho Ss Ms _ lo lm w HS.out HBb.out (HM.out.below HBb.out) (HV.out.below HBb.out) (HH.out.below HBb.out) n1).mono ?_
  rintro e w1 ⟨hb1, hr⟩
  have FO := hide (FO.out.on hb1)
  have FR := hide (FR.out.on hb1)
  have HB1 : Hid (Below w.heap.size w w1) := HBb.out.trans (hb1.mono HBb.out.size)
  have hz1 := hb1.size
  clear hb1 HBb
  have g1 := FO.out.cell
  have gl := FO.out.lt
  rcases hr with ⟨x, fv, hmb, hx, hl, rfl, hfd⟩ | ⟨hno, k1, xa, xn, xcap, rfl⟩
  · obtain ⟨fa, fcap, rfl⟩ := hfd.form
    have HFD := hide hfd
    have HMB := hide hmb
    have HX := hide hx
    have HL := hide hl
    clear hfd hmb hx hl
    go_wp2_with fail
    clear g1 gl
    generalize hWd : w1.alloc _ = Wd
    have hbd : Below w1.heap.size w1 Wd := by rw [← hWd]; exact one_al _ _
    have HBd : Hid (Below w.heap.size w Wd) := HB1.out.trans (hbd.mono HB1.out.size)
    have hzd := hbd.size
    have FR := hide (FR.out.on hbd)
    clear hWd hbd HB1
    refine (mendObj_any _ _ _ _ _ _ _ _ _ V Ho Ss Ms x kind _ lo lm (HV.out.below HBd.out) (HH.out.below HBd.out) (HFD.out.below HBd.out) (HM.out.below HBd.out) HMB.out HX.out HL.out n2).mono ?_
    rintro e w2 ⟨v2, h2, F, rfl, hb2, ⟨mid2, hlo2, hmi2, hs3, hs4⟩, hfix⟩
    obtain ⟨a4, cap4, rfl⟩ := hs3.form
    obtain ⟨a5, cap5, rfl⟩ := hs4.form
    have HB2 : Hid (Below w.heap.size w w2) := HBd.out.trans (hb2.mono HBd.out.size)
    have hz2 := hb2.size
    have FR2 := hide (FR.out.on hb2)
    have HV2 := hide hs3
    have HH2 := hide hs4
    have HR : Hid (MendTo Ss Ms kind V F) := Or.inl ⟨x, HMB.out, HX.out, HL.out, hfix⟩
    have rr := FR2.out.cell
    have rf := FR2.out.free
    have rl := FR2.out.lt
    have r0 : w2.cell? ⟨w.heap.size + 1, 0, none⟩ = some (.string ⟨#[]⟩) := rr 0
    have r1 : w2.cell? ⟨w.heap.size + 1, 1, none⟩ = some (.string ⟨#[]⟩) := rr 1
    have r2 : w2.cell? ⟨w.heap.size + 1, 2, none⟩ = some (.string ⟨#[]⟩) := rr 2
    have r3 : w2.cell? ⟨w.heap.size + 1, 3, none⟩ = some (.slice none 0 0) := rr 3
    have r4 : w2.cell? ⟨w.heap.size + 1, 4, none⟩ = some (.bool false) := rr 4
    have r5 : w2.cell? ⟨w.heap.size + 1, 5, none⟩ = some (.slice none 0 0) := rr 5
    have r6 : w2.cell? ⟨w.heap.size + 1, 6, none⟩ = some (.int .i64 0) := rr 6
    clear rr
    clear hb2 hs3 hs4 hfix
    go_wp2
    refine bodyPost_ret (v := .agg #[.string kind, .string nm, .string team, .slice a4 F.length cap4, .bool en, .slice a5 Ho.length cap5, .int .i64 ver]) (by simp [results, Tryz.results9, go_sem, r0, r1, r2, r3, r4, r5, r6]) rfl ⟨_, _, F, rfl, ?_, ⟨mid2, ?_, ?_, ?_, ?_⟩, HR.out⟩
    · repeat (refine Below.setCell ?_ (by simp only []; omega) _)
      exact HB2.out
    · omega
    · simp only [World.setCell, Array.size_modify]; omega
    · refine StrsOwn.wide (lo := Wd.heap.size) (hi := mid2) ?_ (by omega) (Nat.le_refl _)
      repeat (refine StrsOwn.setCell ?_ (by simp only []; omega) _)
      exact HV2.out
    · refine StrsOwn.wide (lo := mid2) (hi := w2.heap.size) ?_ (Nat.le_refl _) (by simp only [World.setCell, Array.size_modify]; omega)
      repeat (refine StrsOwn.setCell ?_ (by simp only []; omega) _)
      exact HH2.out
  · have HR : Hid (MendTo Ss Ms kind V V) := Or.inr ⟨hno, rfl⟩
    clear hno
    go_wp2_with fail
    clear g1 gl
    generalize hWd : w1.alloc _ = Wd
    have hbd : Below w1.heap.size w1 Wd := by rw [← hWd]; exact one_al _ _
    have HBd : Hid (Below w.heap.size w Wd) := HB1.out.trans (hbd.mono HB1.out.size)
    have hzd := hbd.size
    have FR := hide (FR.out.on hbd)
    clear hWd hbd HB1
    refine (copyObj_any _ _ _ _ _ _ _ V Ho _ (HV.out.below HBd.out) (HH.out.below HBd.out) n1 n2).mono ?_
    rintro e w2 ⟨v2, h2, rfl, hb2, mid2, hlo2, hmi2, hs3, hs4⟩
    obtain ⟨a4, cap4, rfl⟩ := hs3.form
    obtain ⟨a5, cap5, rfl⟩ := hs4.form
    have HB2 : Hid (Below w.heap.size w w2) := HBd.out.trans (hb2.mono HBd.out.size)
    have hz2 := hb2.size
    have FR2 := hide (FR.out.on hb2)
    have HV2 := hide hs3
    have HH2 := hide hs4
    have rr := FR2.out.cell
    have rf := FR2.out.free
    have rl := FR2.out.lt
    have r0 : w2.cell? ⟨w.heap.size + 1, 0, none⟩ = some (.string ⟨#[]⟩) := rr 0
    have r1 : w2.cell? ⟨w.heap.size + 1, 1, none⟩ = some (.string ⟨#[]⟩) := rr 1
    have r2 : w2.cell? ⟨w.heap.size + 1, 2, none⟩ = some (.string ⟨#[]⟩) := rr 2
    have r3 : w2.cell? ⟨w.heap.size + 1, 3, none⟩ = some (.slice none 0 0) := rr 3
    have r4 : w2.cell? ⟨w.heap.size + 1, 4, none⟩ = some (.bool false) := rr 4
    have r5 : w2.cell? ⟨w.heap.size + 1, 5, none⟩ = some (.slice none 0 0) := rr 5
    have r6 : w2.cell? ⟨w.heap.size + 1, 6, none⟩ = some (.int .i64 0) := rr 6
    clear rr
    clear hb2 hs3 hs4
    go_wp2
    refine bodyPost_ret (v := .agg #[.string kind, .string nm, .string team, .slice a4 V.length cap4, .bool en, .slice a5 Ho.length cap5, .int .i64 ver]) (by simp [results, Tryz.results9, go_sem, r0, r1, r2, r3, r4, r5, r6]) rfl ⟨_, _, V, rfl, ?_, ⟨mid2, ?_, ?_, ?_, ?_⟩, HR.out⟩
    · repeat (refine Below.setCell ?_ (by simp only []; omega) _)
      exact HB2.out
    · omega
    · simp only [World.setCell, Array.size_modify]; omega
    · refine StrsOwn.wide (lo := Wd.heap.size) (hi := mid2) ?_ (by omega) (Nat.le_refl _)
      repeat (refine StrsOwn.setCell ?_ (by simp only []; omega) _)
      exact HV2.out
    · refine StrsOwn.wide (lo := mid2) (hi := w2.heap.size) ?_ (Nat.le_refl _) (by simp only [World.setCell, Array.size_modify]; omega)
      repeat (refine StrsOwn.setCell ?_ (by simp only []; omega) _)
      exact HH2.out

set_option maxRecDepth 20000 in
set_option maxHeartbeats 8000000 in
theorem implShaped_any (hS : ShsAt lo w sv Ss) (hM : MdsAt lm w mv Ms) (hV : StrsAt w vv V) (hH : StrsAt w hv Ho) (n1 : V.length ≤ 1048576) (n2 : Ho.length ≤ 1048576) :
    Calls Tryz.prog 5 #[sv, mv, .agg #[.string kind, .string nm, .string team, vv, .bool en, hv, .int .i64 ver]] w
      fun e w' => ∃ v' h' F, e = .returned (.agg #[.string kind, .string nm, .string team, v', .bool en, h', .int .i64 ver]) ∧ Below w.heap.size w w' ∧ ObjOwn w.heap.size w' v' h' F Ho ∧ ShapeTo Ss Ms kind V F := by
  have HV := hide hV
  have HH := hide hH
  have HS := hide hS
  have HM := hide hM
  obtain ⟨a, cap, rfl⟩ := hV.form'
  obtain ⟨a', cap', rfl⟩ := hH.form'
  obtain ⟨a1, cap1, rfl⟩ := hS.form
  obtain ⟨ma, mcap, rfl⟩ := hM.form
  clear hV hH hS hM
  go_enter Tryz.func5, Tryz.ntmps5
  go_wp2_with fail
  generalize hWa : w.alloc _ = Wa
  have hza : Wa.heap.size = w.heap.size + 1 := by rw [← hWa]; simp
  have HBa : Hid (Below w.heap.size w Wa) := by rw [← hWa]; exact one_al _ _
  have FO : Hid (Box Wa w.heap.size #[.string kind, .string nm, .string team, .slice a V.length cap, .bool en, .slice a' Ho.length cap', .int .i64 ver]) := by rw [← hWa]; exact Box.new _ _ _ _ rfl
  clear hWa
  generalize hWb : Wa.alloc _ = Wb
  have hzb : Wb.heap.size = w.heap.size + 2 := by rw [← hWb]; simp [hza]
  have hbb : Below Wa.heap.size Wa Wb := by rw [← hWb]; exact one_al _ _
  have HBb : Hid (Below w.heap.size w Wb) := HBa.out.trans (hbb.mono (by omega))
  have FO := hide (FO.out.on hbb)
  have FR : Hid (Box Wb (w.heap.size + 1) #[.string ⟨#[]⟩, .string ⟨#[]⟩, .string ⟨#[]⟩, .slice none 0 0, .bool false, .slice none 0 0, .int .i64 0]) := by rw [← hWb]; exact Box.new _ _ _ _ hza
  clear hWb hbb HBa hza
  refine (mendShape_any _ _ _ _ _ _ _ _ _ V Ho Ss Ms _ lo lm w HS.out HBb.out (HM.out.below HBb.out) (HV.out.below HBb.out) (HH.out.below HBb.out) n1).mono ?_
  rintro e w1 ⟨hb1, hr⟩
  have FO := hide (FO.out.on hb1)
  have FR := hide (FR.out.on hb1)
  have HB1 : Hid (Below w.heap.size w w1) := HBb.out.trans (hb1.mono HBb.out.size)
  have hz1 := hb1.size
  clear hb1 HBb
  have g1 := FO.out.cell
  have gl := FO.out.lt
  rcases hr with ⟨x, fv, hmb, hx, hl, rfl, hfd⟩ | ⟨hno, k1, xa, xn, xcap, rfl⟩
  · obtain ⟨fa, fcap, rfl⟩ := hfd.form
    have HFD := hide hfd
    have HMB := hide hmb
    have HX := hide hx
    have HL := hide hl
    clear hfd hmb hx hl
    go_wp2_with fail
    clear g1 gl
    generalize hWd : w1.alloc _ = Wd
    have hbd : Below w1.heap.size w1 Wd := by rw [← hWd]; exact one_al _ _
    have HBd : Hid (Below w.heap.size w Wd) := HB1.out.trans (hbd.mono HB1.out.size)
    have hzd := hbd.size
    have FR := hide (FR.out.on hbd)
    clear hWd hbd HB1
    refine (shapeObj_any _ _ _ _ _ _ _ _ _ V Ho Ss Ms x kind _ lo lm (HV.out.below HBd.out) (HH.out.below HBd.out) (HFD.out.below HBd.out) (HM.out.below HBd.out) HMB.out HX.out HL.out n2).mono ?_
    rintro e w2 ⟨v2, h2, F, rfl, hb2, ⟨mid2, hlo2, hmi2, hs3, hs4⟩, hfix⟩
    obtain ⟨a4, cap4, rfl⟩ := hs3.form
    obtain ⟨a5, cap5, rfl⟩ := hs4.form
    have HB2 : Hid (Below w.heap.size w w2) := HBd.out.trans (hb2.mono HBd.out.size)
    have hz2 := hb2.size
    have FR2 := hide (FR.out.on hb2)
    have HV2 := hide hs3
    have HH2 := hide hs4
    have HR : Hid (ShapeTo Ss Ms kind V F) := Or.inl ⟨x, HMB.out, HX.out, HL.out, hfix⟩
    have rr := FR2.out.cell
    have rf := FR2.out.free
    have rl := FR2.out.lt
    have r0 : w2.cell? ⟨w.heap.size + 1, 0, none⟩ = some (.string ⟨#[]⟩) := rr 0
    have r1 : w2.cell? ⟨w.heap.size + 1, 1, none⟩ = some (.string ⟨#[]⟩) := rr 1
    have r2 : w2.cell? ⟨w.heap.size + 1, 2, none⟩ = some (.string ⟨#[]⟩) := rr 2
    have r3 : w2.cell? ⟨w.heap.size + 1, 3, none⟩ = some (.slice none 0 0) := rr 3
    have r4 : w2.cell? ⟨w.heap.size + 1, 4, none⟩ = some (.bool false) := rr 4
    have r5 : w2.cell? ⟨w.heap.size + 1, 5, none⟩ = some (.slice none 0 0) := rr 5
    have r6 : w2.cell? ⟨w.heap.size + 1, 6, none⟩ = some (.int .i64 0) := rr 6
    clear rr
    clear hb2 hs3 hs4 hfix
    go_wp2
    refine bodyPost_ret (v := .agg #[.string kind, .string nm, .string team, .slice a4 F.length cap4, .bool en, .slice a5 Ho.length cap5, .int .i64 ver]) (by simp [results, Tryz.results5, go_sem, r0, r1, r2, r3, r4, r5, r6]) rfl ⟨_, _, F, rfl, ?_, ⟨mid2, ?_, ?_, ?_, ?_⟩, HR.out⟩
    · repeat (refine Below.setCell ?_ (by simp only []; omega) _)
      exact HB2.out
    · omega
    · simp only [World.setCell, Array.size_modify]; omega
    · refine StrsOwn.wide (lo := Wd.heap.size) (hi := mid2) ?_ (by omega) (Nat.le_refl _)
      repeat (refine StrsOwn.setCell ?_ (by simp only []; omega) _)
      exact HV2.out
    · refine StrsOwn.wide (lo := mid2) (hi := w2.heap.size) ?_ (Nat.le_refl _) (by simp only [World.setCell, Array.size_modify]; omega)
      repeat (refine StrsOwn.setCell ?_ (by simp only []; omega) _)
      exact HH2.out
  · have HR : Hid (ShapeTo Ss Ms kind V V) := Or.inr ⟨hno, rfl⟩
    clear hno
    go_wp2_with fail
    clear g1 gl
    generalize hWd : w1.alloc _ = Wd
    have hbd : Below w1.heap.size w1 Wd := by rw [← hWd]; exact one_al _ _
    have HBd : Hid (Below w.heap.size w Wd) := HB1.out.trans (hbd.mono HB1.out.size)
    have hzd := hbd.size
    have FR := hide (FR.out.on hbd)
    clear hWd hbd HB1
    refine (copyObj_any _ _ _ _ _ _ _ V Ho _ (HV.out.below HBd.out) (HH.out.below HBd.out) n1 n2).mono ?_
    rintro e w2 ⟨v2, h2, rfl, hb2, mid2, hlo2, hmi2, hs3, hs4⟩
    obtain ⟨a4, cap4, rfl⟩ := hs3.form
    obtain ⟨a5, cap5, rfl⟩ := hs4.form
    have HB2 : Hid (Below w.heap.size w w2) := HBd.out.trans (hb2.mono HBd.out.size)
    have hz2 := hb2.size
    have FR2 := hide (FR.out.on hb2)
    have HV2 := hide hs3
    have HH2 := hide hs4
    have rr := FR2.out.cell
    have rf := FR2.out.free
    have rl := FR2.out.lt
    have r0 : w2.cell? ⟨w.heap.size + 1, 0, none⟩ = some (.string ⟨#[]⟩) := rr 0
    have r1 : w2.cell? ⟨w.heap.size + 1, 1, none⟩ = some (.string ⟨#[]⟩) := rr 1
    have r2 : w2.cell? ⟨w.heap.size + 1, 2, none⟩ = some (.string ⟨#[]⟩) := rr 2
    have r3 : w2.cell? ⟨w.heap.size + 1, 3, none⟩ = some (.slice none 0 0) := rr 3
    have r4 : w2.cell? ⟨w.heap.size + 1, 4, none⟩ = some (.bool false) := rr 4
    have r5 : w2.cell? ⟨w.heap.size + 1, 5, none⟩ = some (.slice none 0 0) := rr 5
    have r6 : w2.cell? ⟨w.heap.size + 1, 6, none⟩ = some (.int .i64 0) := rr 6
    clear rr
    clear hb2 hs3 hs4
    go_wp2
    refine bodyPost_ret (v := .agg #[.string kind, .string nm, .string team, .slice a4 V.length cap4, .bool en, .slice a5 Ho.length cap5, .int .i64 ver]) (by simp [results, Tryz.results5, go_sem, r0, r1, r2, r3, r4, r5, r6]) rfl ⟨_, _, V, rfl, ?_, ⟨mid2, ?_, ?_, ?_, ?_⟩, HR.out⟩
    · repeat (refine Below.setCell ?_ (by simp only []; omega) _)
      exact HB2.out
    · omega
    · simp only [World.setCell, Array.size_modify]; omega
    · refine StrsOwn.wide (lo := Wd.heap.size) (hi := mid2) ?_ (by omega) (Nat.le_refl _)
      repeat (refine StrsOwn.setCell ?_ (by simp only []; omega) _)
      exact HV2.out
    · refine StrsOwn.wide (lo := mid2) (hi := w2.heap.size) ?_ (Nat.le_refl _) (by simp only [World.setCell, Array.size_modify]; omega)
      repeat (refine StrsOwn.setCell ?_ (by simp only []; omega) _)
      exact HH2.out
end
end Go.Proofs.YtjkkbkdpoebfaaaGreat

namespace Go.Proofs.YtjkkbkdpoebfaaaGreat
open Go.RowKit Go.Deep

set_option maxRecDepth 20000 in
set_option maxHeartbeats 8000000 in
theorem l3Decided_any (lo lm : Nat) (kind nm team f : ByteArray) (v mv vv hv : Value) (en : Bool) (ver : Int) (Fs : List Fd) (Ms : List Md) (V Ho : List ByteArray) (w : World) (hF : FdsAt lo w v Fs) (hM : MdsAt lm w mv Ms) (hV : StrsAt w vv V) (hH : StrsAt w hv Ho)
    (h6 : Fs.length ≤ 6) (hl : Fs.length = V.length) (hn : Named Fs kind Ms) (h12 : Ms.length ≤ 12) (hf : f ∈ namesF Fs) :
    Calls Tryz.prog 64 #[v, mv, .agg #[.string kind, .string nm, .string team, vv, .bool en, hv, .int .i64 ver], .string f] w fun e w' => e = .returned (.string ((decM Fs kind Ms V f).getD (valAt Fs V f))) ∧ Below w.heap.size w w' := by
  have HF := hide hF
  have HM := hide hM
  have HVV := hide hV
  have HN := hide hn
  have HIN := hide hf
  obtain ⟨fa, fcap, rfl⟩ := hF.form
  obtain ⟨ma, mcap, rfl⟩ := hM.form
  obtain ⟨a, cap, rfl⟩ := hV.form'
  obtain ⟨a', cap', rfl⟩ := hH.form'
  have HL := hide hl
  have n1 : V.length ≤ 6 := by omega
  clear hF hM hV hH hn hf hl
  have hpf : plOf Fs f < Fs.length := plOf_lt.2 HIN.out
  have hpfv : plOf Fs f < V.length := by have := HL.out; omega
  obtain ⟨vb, vo, rfl, hvb, hvc0⟩ := HVV.out.full' (by omega)
  go_enter Tryz.func64, Tryz.ntmps64
  go_wp2
  generalize hWa : w.alloc _ = Wa
  have hza : Wa.heap.size = w.heap.size + 1 := by rw [← hWa]; simp
  have HBa : Hid (Below w.heap.size w Wa) := by rw [← hWa]; exact one_al _ _
  have FO : Hid (Box Wa w.heap.size #[.string kind, .string nm, .string team, .slice (some ⟨vb, vo, none⟩) V.length cap, .bool en, .slice a' Ho.length cap', .int .i64 ver]) := by rw [← hWa]; exact Box.new _ _ _ _ rfl
  clear hWa
  go_loopw [9] (fun i wr => ∃ k : Nat, i = .int .i64 k ∧ k ≤ Ms.length ∧ Below Wa.heap.size Wa wr ∧ ∀ i (h : i < Ms.length), i < k → (forB kind f Ms[i] && appB Fs V Ms[i]) = false) (fun i _ => Ms.length - (intOf i).toNat)
  case atStart => exact ⟨0, rfl, by omega, Below.refl _ _, fun i _ h => by omega⟩
  case round =>
    obtain ⟨k, rfl, hk, hb, hall⟩ := hrel
    have HA := hide hall
    have HB := hide hb
    have HBw : Hid (Below w.heap.size w wr) := HBa.out.trans (hb.mono (by omega))
    have FOr := hide (FO.out.on hb)
    clear hall hb
    have g1 := FOr.out.cell
    have gl := FOr.out.lt
    have hvr : vb < wr.heap.size := Nat.lt_of_lt_of_le hvb HBw.out.size
    have hvc : ∀ i (h : i < V.length), wr.cell? ⟨vb, vo + i, none⟩ = some (.string V[i]) := fun i h => by rw [HBw.out.cell (p := ⟨vb, _, none⟩) hvb]; exact hvc0 i h
    by_cases hlt : k < Ms.length
    · obtain ⟨b, off, rfl, hbw, hc⟩ := HM.out.full' (by omega)
      obtain ⟨hsz, hcell⟩ := hc k hlt
      obtain ⟨c0, c1, c2, c3, c4, c5⟩ := hcell.below HBw.out hbw
      clear hcell hc
      have HNX : Hid ((forB kind f Ms[k] && appB Fs V Ms[k]) = false → ∀ i (h : i < Ms.length), i < k + 1 → (forB kind f Ms[i] && appB Fs V Ms[i]) = false) := fun h i hi hik => by
        by_cases e : i = k
        · subst e; exact h
        · exact HA.out i hi (by omega)
      have HFr : ∀ o n, Hid (FdsAt lo ((wr.alloc o).drewN n) (.slice fa Fs.length fcap) Fs) := fun o n => HF.out.below (below_drewN (HBw.out.alloc HBw.out.size _) _)
      cases hk1 : (Ms[k].kind.toList == kind.toList) with
      | false =>
        go_wp2
        go_quiet (fail)
        go_wp2
        go_roundw
        case rel => exact ⟨k + 1, by go_num, by omega, below_drewN (HB.out.alloc HB.out.size _) _, HNX.out (by unfold forB; simp [hk1])⟩
        case measure => simp [intOf]; omega
      | true =>
        cases hf1 : (Ms[k].field.toList == f.toList) with
        | false =>
          go_wp2
          go_quiet (fail)
          go_wp2
          go_roundw
          case rel => exact ⟨k + 1, by go_num, by omega, below_drewN (HB.out.alloc HB.out.size _) _, HNX.out (by unfold forB; simp [hf1])⟩
          case measure => simp [intOf]; omega
        | true =>
          have HFOR : Hid (forB kind f Ms[k] = true) := by unfold Hid forB; simp [hk1, hf1]
          have HNM := hide (HN.out Ms[k] (List.getElem_mem hlt) (bytes_eq.1 hk1))
          cases hwe : Ms[k].wh.toList.isEmpty with
          | true =>
            go_wp2
            go_quiet (fail)
            cases hfe : Ms[k].fr.toList.isEmpty with
            | true =>
              have HD : Hid (decM Fs kind Ms V f = some (givenV Fs V Ms[k])) := decM_some hlt (by rw [HFOR.out]; unfold appB; simp [hwe, hfe]) HA.out
              have HV2 : Hid ((decM Fs kind Ms V f).getD (valAt Fs V f) = Ms[k].put) := by unfold Hid; rw [HD.out]; unfold givenV; rw [if_pos hfe]; rfl
              go_wp2
              go_ret
              exact ⟨by rw [HV2.out]; rfl, below_drewN (HBw.out.alloc HBw.out.size _) _⟩
            | false =>
              have hp2 : plOf Fs Ms[k].fr < Fs.length := plOf_lt.2 (by rcases HNM.out.2 with h | h; rw [h] at hfe; cases hfe; exact h)
              have hp2v : plOf Fs Ms[k].fr < V.length := by have := HL.out; omega
              have hpi2 : placeI Fs Ms[k].fr = (plOf Fs Ms[k].fr : Int) := placeI_lt hp2
              have ck2 := hvc _ hp2v
              have HVA2 : Hid (valAt Fs V Ms[k].fr = V[plOf Fs Ms[k].fr]) := by unfold Hid valAt; rw [List.getElem?_eq_getElem hp2v]; rfl
              generalize hpp2 : plOf Fs Ms[k].fr = p2 at *
              go_wp2
              go_quiet ((go_at_call 60; exact (l3Field_any lo _ Fs Ms[k].fr _ (HFr _ _).out).mono fun _ _ h => ⟨h.1, _, h.2⟩))
              cases hve : V[p2].toList.isEmpty with
              | true =>
                go_wp2
                go_roundw
                case rel => exact ⟨k + 1, by go_num, by omega, (by first | exact below_drewN (HB.out.alloc HB.out.size _) _ | exact below_drewN (below_drewN (HB.out.alloc HB.out.size _) _) _), HNX.out (by unfold appB; simp [hfe, HVA2.out, hve])⟩
                case measure => simp [intOf]; omega
              | false =>
                have HD : Hid (decM Fs kind Ms V f = some (givenV Fs V Ms[k])) := decM_some hlt (by rw [HFOR.out]; unfold appB; simp [hwe, hfe, HVA2.out, hve]) HA.out
                have HV2 : Hid ((decM Fs kind Ms V f).getD (valAt Fs V f) = V[p2]) := by unfold Hid; rw [HD.out]; unfold givenV; rw [if_neg (by rw [hfe]; simp), HVA2.out]; rfl
                go_wp2
                go_ret
                exact ⟨by rw [HV2.out]; rfl, by first | exact below_drewN (HBw.out.alloc HBw.out.size _) _ | exact below_drewN (below_drewN (HBw.out.alloc HBw.out.size _) _) _⟩
          | false =>
            have hp1 : plOf Fs Ms[k].wh < Fs.length := plOf_lt.2 (by rcases HNM.out.1 with h | h; rw [h] at hwe; cases hwe; exact h)
            have hp1v : plOf Fs Ms[k].wh < V.length := by have := HL.out; omega
            have hpi1 : placeI Fs Ms[k].wh = (plOf Fs Ms[k].wh : Int) := placeI_lt hp1
            have ck1 := hvc _ hp1v
            have HVA1 : Hid (valAt Fs V Ms[k].wh = V[plOf Fs Ms[k].wh]) := by unfold Hid valAt; rw [List.getElem?_eq_getElem hp1v]; rfl
            generalize hpp1 : plOf Fs Ms[k].wh = p1 at *
            cases hvi : (V[p1].toList == Ms[k].is.toList) with
            | false =>
              go_wp2
              go_quiet ((go_at_call 60; exact (l3Field_any lo _ Fs Ms[k].wh _ (HFr _ _).out).mono fun _ _ h => ⟨h.1, _, h.2⟩))
              go_wp2
              go_roundw
              case rel => exact ⟨k + 1, by go_num, by omega, below_drewN (HB.out.alloc HB.out.size _) _, HNX.out (by unfold appB; simp [hwe, HVA1.out, hvi])⟩
              case measure => simp [intOf]; omega
            | true =>
              go_wp2
              go_quiet ((go_at_call 60; exact (l3Field_any lo _ Fs Ms[k].wh _ (HFr _ _).out).mono fun _ _ h => ⟨h.1, _, h.2⟩))
              cases hfe : Ms[k].fr.toList.isEmpty with
              | true =>
                have HD : Hid (decM Fs kind Ms V f = some (givenV Fs V Ms[k])) := decM_some hlt (by rw [HFOR.out]; unfold appB; simp [hwe, HVA1.out, hvi, hfe]) HA.out
                have HV2 : Hid ((decM Fs kind Ms V f).getD (valAt Fs V f) = Ms[k].put) := by unfold Hid; rw [HD.out]; unfold givenV; rw [if_pos hfe]; rfl
                go_wp2
                go_ret
                exact ⟨by rw [HV2.out]; rfl, below_drewN (HBw.out.alloc HBw.out.size _) _⟩
              | false =>
                have hp2 : plOf Fs Ms[k].fr < Fs.length := plOf_lt.2 (by rcases HNM.out.2 with h | h; rw [h] at hfe; cases hfe; exact h)
                have hp2v : plOf Fs Ms[k].fr < V.length := by have := HL.out; omega
                have hpi2 : placeI Fs Ms[k].fr = (plOf Fs Ms[k].fr : Int) := placeI_lt hp2
                have ck2 := hvc _ hp2v
                have HVA2 : Hid (valAt Fs V Ms[k].fr = V[plOf Fs Ms[k].fr]) := by unfold Hid valAt; rw [List.getElem?_eq_getElem hp2v]; rfl
                generalize hpp2 : plOf Fs Ms[k].fr = p2 at *
                go_wp2
                go_quiet ((go_at_call 60; exact (l3Field_any lo _ Fs Ms[k].fr _ (HFr _ _).out).mono fun _ _ h => ⟨h.1, _, h.2⟩))
                cases hve : V[p2].toList.isEmpty with
                | true =>
                  go_wp2
                  go_roundw
                  case rel => exact ⟨k + 1, by go_num, by omega, (by first | exact below_drewN (HB.out.alloc HB.out.size _) _ | exact below_drewN (below_drewN (HB.out.alloc HB.out.size _) _) _), HNX.out (by unfold appB; simp [hfe, HVA2.out, hve])⟩
                  case measure => simp [intOf]; omega
                | false =>
                  have HD : Hid (decM Fs kind Ms V f = some (givenV Fs V Ms[k])) := decM_some hlt (by rw [HFOR.out]; unfold appB; simp [hwe, HVA1.out, hvi, hfe, HVA2.out, hve]) HA.out
                  have HV2 : Hid ((decM Fs kind Ms V f).getD (valAt Fs V f) = V[p2]) := by unfold Hid; rw [HD.out]; unfold givenV; rw [if_neg (by rw [hfe]; simp), HVA2.out]; rfl
                  go_wp2
                  go_ret
                  exact ⟨by rw [HV2.out]; rfl, by first | exact below_drewN (HBw.out.alloc HBw.out.size _) _ | exact below_drewN (below_drewN (HBw.out.alloc HBw.out.size _) _) _⟩
    · have HD : Hid (decM Fs kind Ms V f = none) := decM_none fun i h => HA.out i h (by omega)
      have HV2 : Hid ((decM Fs kind Ms V f).getD (valAt Fs V f) = V[plOf Fs f]) := by unfold Hid; rw [HD.out]; unfold valAt; rw [List.getElem?_eq_getElem hpfv]; rfl
      have hpi : placeI Fs f = (plOf Fs f : Int) := placeI_lt hpf
      have ckf := hvc _ hpfv
      have HFr : ∀ n, Hid (FdsAt lo (wr.drewN n) (.slice fa Fs.length fcap) Fs) := fun n => HF.out.below (below_drewN HBw.out _)
      generalize hppf : plOf Fs f = pf at *
      go_wp2
      go_quiet ((go_at_call 60; exact Calls.quiet_of_same (l3Field_any lo _ Fs f _ (HFr _).out)))
      go_wp2
      go_ret
      exact ⟨by rw [HV2.out]; rfl, below_drewN HBw.out _⟩
end Go.Proofs.YtjkkbkdpoebfaaaGreat

namespace Go.Proofs.YtjkkbkdpoebfaaaGreat
open Go.RowKit Go.Deep

theorem setp_getD {Fs : List Fd} {kind : ByteArray} {Ms : List Md} {V : List ByteArray} {f : ByteArray} (hp : plOf Fs f < V.length) : setp (plOf Fs) (decM Fs kind Ms) V f = V.set (plOf Fs f) ((decM Fs kind Ms V f).getD (valAt Fs V f)) := by
  unfold setp
  cases h : decM Fs kind Ms V f with
  | some v => rfl
  | none =>
    unfold valAt
    rw [List.getElem?_eq_getElem hp]
    simp
theorem getD_size {Fs : List Fd} {kind : ByteArray} {Ms : List Md} {V : List ByteArray} {f : ByteArray} (hm : ∀ m ∈ Ms, MdSize m) (hv : ∀ s ∈ V, s.size ≤ maxLen) (hp : plOf Fs f < V.length) : ((decM Fs kind Ms V f).getD (valAt Fs V f)).size ≤ maxLen := by
  cases h : decM Fs kind Ms V f with
  | some v => exact decM_size hm hv h
  | none => unfold valAt; rw [List.getElem?_eq_getElem hp]; exact hv _ (List.getElem_mem hp)

theorem l3FieldB_any (lo : Nat) (v : Value) (Fs : List Fd) (s : ByteArray) (w : World) (hv : FdsAt lo w v Fs) :
    Calls Tryz.prog 60 #[v, .string s] w fun e w' => e = .returned (.int .i64 (placeI Fs s)) ∧ Below w.heap.size w w' :=
  (l3Field_any lo v Fs s w hv).mono fun _ _ h => ⟨h.1, by rw [h.2]; exact Below.refl _ _⟩

/-- what a round of mending reads is as it was -/
abbrev HeldM (wr : World) (β : Nat) (cs : Array Value) (rb ro : Nat) (s : ByteArray) (vb : Nat) (W : World) : Prop :=
  (∀ i, W.cell? ⟨β, i, none⟩ = cs[i]?) ∧ W.cell? ⟨rb, ro, none⟩ = some (.string s) ∧ Hid (Below vb wr W ∧ β < W.heap.size ∧ rb < W.heap.size ∧ vb ≠ β ∧ vb ≠ rb)
theorem HeldM.start {wr : World} {β : Nat} {cs : Array Value} {rb ro : Nat} {s : ByteArray} {vb : Nat} (h : Hid (Box wr β cs)) (h1 : Hid (wr.cell? ⟨rb, ro, none⟩ = some (.string s))) (hr : rb < wr.heap.size) (e1 : Hid (vb ≠ β)) (e2 : Hid (vb ≠ rb)) : HeldM wr β cs rb ro s vb wr.drew :=
  ⟨h.out.cell, h1.out, (Below.refl _ _).drew, h.out.lt, hr, e1.out, e2.out⟩
theorem HeldM.on {wr W W' : World} {β : Nat} {cs : Array Value} {rb ro : Nat} {s : ByteArray} {vb : Nat} (h : HeldM wr β cs rb ro s vb W) (hb : Below W.heap.size W W') (hv : vb ≤ W.heap.size) : HeldM wr β cs rb ro s vb W' := by
  obtain ⟨h1, h2, h5, h6, h7, h8, h9⟩ := h
  exact ⟨fun i => (hb.cell (p := ⟨β, i, none⟩) h6).trans (h1 i), (hb.cell (p := ⟨rb, ro, none⟩) h7).trans h2, h5.trans (hb.mono hv), Nat.lt_of_lt_of_le h6 hb.size, Nat.lt_of_lt_of_le h7 hb.size, h8, h9⟩
theorem HeldM.set {wr W : World} {β : Nat} {cs : Array Value} {rb ro : Nat} {s : ByteArray} {vb vo : Nat} (h : HeldM wr β cs rb ro s vb W) (u : Value) : HeldM wr β cs rb ro s vb (W.setCell ⟨vb, vo, none⟩ u) := by
  obtain ⟨h1, h2, h5, h6, h7, h8, h9⟩ := h
  exact ⟨fun i => (World.cell?_setCell_far _ _ _ _ h8).trans (h1 i), (World.cell?_setCell_far _ _ _ _ h9).trans h2, h5.setCell (Nat.le_refl _) _, by simpa [World.setCell] using h6, by simpa [World.setCell] using h7, h8, h9⟩

section
variable (kind nm team : ByteArray) (vv hv sv mv : Value) (en : Bool) (ver : Int) (V Ho : List ByteArray) (Ss : List Sh) (Ms : List Md) (w : World) (lo lm : Nat)
set_option maxRecDepth 20000 in
set_option maxHeartbeats 8000000 in
theorem l3Mended_any (hS : ShsAt lo w sv Ss) (hM : MdsAt lm w mv Ms) (hV : StrsAt w vv V) (hH : StrsAt w hv Ho) (n1 : V.length ≤ 1048576) (n2 : Ho.length ≤ 1048576) (hmb : mendsB Ss Ms = true) :
    Calls Tryz.prog 37 #[sv, mv, .agg #[.string kind, .string nm, .string team, vv, .bool en, hv, .int .i64 ver]] w
      fun e w' => ∃ v' h' F, e = .returned (.agg #[.string kind, .string nm, .string team, v', .bool en, h', .int .i64 ver]) ∧ Below w.heap.size w w' ∧ ObjOwn w.heap.size w' v' h' F Ho ∧ MendTo Ss Ms kind V F := by
  have HV := hide hV
  have HH := hide hH
  have HS := hide hS
  have HM := hide hM
  have HMB := hide hmb
  have h12 : Ms.length ≤ 12 := mendsB_twelve hmb
  obtain ⟨a, cap, rfl⟩ := hV.form'
  obtain ⟨a', cap', rfl⟩ := hH.form'
  obtain ⟨a1, cap1, rfl⟩ := hS.form
  obtain ⟨ma, mcap, rfl⟩ := hM.form
  clear hV hH hS hM hmb
  go_enter Tryz.func37, Tryz.ntmps37
  go_wp2_with fail
  generalize hWa : w.alloc _ = Wa
  have hza : Wa.heap.size = w.heap.size + 1 := by rw [← hWa]; simp
  have HBa : Hid (Below w.heap.size w Wa) := by rw [← hWa]; exact one_al _ _
  have FI : Hid (Box Wa w.heap.size #[.string kind, .string nm, .string team, .slice a V.length cap, .bool en, .slice a' Ho.length cap', .int .i64 ver]) := by rw [← hWa]; exact Box.new _ _ _ _ rfl
  clear hWa
  generalize hWb : Wa.alloc _ = Wb
  have hzb : Wb.heap.size = w.heap.size + 2 := by rw [← hWb]; simp [hza]
  have hbb : Below Wa.heap.size Wa Wb := by rw [← hWb]; exact one_al _ _
  have HBb : Hid (Below w.heap.size w Wb) := HBa.out.trans (hbb.mono (by omega))
  have FI := hide (FI.out.on hbb)
  have FR : Hid (Box Wb (w.heap.size + 1) #[.string ⟨#[]⟩, .string ⟨#[]⟩, .string ⟨#[]⟩, .slice none 0 0, .bool false, .slice none 0 0, .int .i64 0]) := by rw [← hWb]; exact Box.new _ _ _ _ hza
  clear hWb hbb HBa hza
  refine (l2Copy_any _ _ _ _ _ _ _ V Ho _ (HV.out.below HBb.out) (HH.out.below HBb.out) n1 n2).mono ?_
  rintro e w1 ⟨v1, h1, rfl, hb1, mid, hlo, hmid, hs1, hs2⟩
  obtain ⟨a2, cap2, rfl⟩ := hs1.form
  obtain ⟨a3, cap3, rfl⟩ := hs2.form
  have hz1 := hb1.size
  have FI := hide (FI.out.on hb1)
  have FR := hide (FR.out.on hb1)
  have HB1 : Hid (Below w.heap.size w w1) := HBb.out.trans (hb1.mono HBb.out.size)
  have HS1 : Hid (StrsOwn (w.heap.size + 2) mid w1 (.slice a2 V.length cap2) V) := by rw [← hzb]; exact hs1
  have HS2 := hide hs2
  have hlo' : w.heap.size + 2 ≤ mid := by omega
  clear hb1 hs1 hs2 HBb hlo
  have g1 := FI.out.cell
  have gl := FI.out.lt
  go_wp2_with fail
  clear g1 gl
  generalize hWd : w1.alloc _ = Wd
  have hzd : Wd.heap.size = w1.heap.size + 1 := by rw [← hWd]; simp
  have hbd : Below w1.heap.size w1 Wd := by rw [← hWd]; exact one_al _ _
  have HBd : Hid (Below w.heap.size w Wd) := HB1.out.trans (hbd.mono HB1.out.size)
  have FI := hide (FI.out.on hbd)
  have FR := hide (FR.out.on hbd)
  have FO : Hid (Box Wd w1.heap.size #[.string kind, .string nm, .string team, .slice a2 V.length cap2, .bool en, .slice a3 Ho.length cap3, .int .i64 ver]) := by rw [← hWd]; exact Box.new _ _ _ _ rfl
  have HS1 := hide (HS1.out.below hbd)
  have HS2 := hide (HS2.out.below hbd)
  clear hWd hbd HB1
  refine (l2Fields_any _ _ _ _ _ _ _ _ V Ho Ss _ lo w HS.out HBd.out (HV.out.below HBd.out) (HH.out.below HBd.out)).mono ?_
  rintro e w2 ⟨hb2, hlf⟩
  have hz2 := hb2.size
  have HB2 : Hid (Below w.heap.size w w2) := HBd.out.trans (hb2.mono HBd.out.size)
  have FI := hide (FI.out.on hb2)
  have FR := hide (FR.out.on hb2)
  have FO := hide (FO.out.on hb2)
  have HS1 := hide (HS1.out.below hb2)
  have HS2 := hide (HS2.out.below hb2)
  clear hb2 HBd
  rcases hlf with ⟨x, fv, hx, hlx, rfl, hfd⟩ | ⟨hno, fa0, fcap0, rfl⟩
  · obtain ⟨fa, fcap, rfl⟩ := hfd.form
    have HFD := hide hfd
    have HX := hide hx
    have HL := hide hlx
    have hfb : fieldsB Ss x.fields = true := shapes_fields (mendsB_shapes HMB.out) (shOf_mem hx).1
    have h6 : x.fields.length ≤ 6 := fields_six hfb
    have n6 : V.length ≤ 6 := by omega
    have HNA : Hid (Named x.fields kind Ms) := by unfold Hid; have := named_of HMB.out hx; rw [(shOf_mem hx).2] at this; exact this
    have HKX : Hid (x.kind = kind) := (shOf_mem hx).2
    have HRB : Hid (shapeRowB Ms x = true) := mendsB_row HMB.out (shOf_mem hx).1
    have hs6 : Ss.length ≤ 6 := shapes_six (mendsB_shapes HMB.out)
    clear hfd hx hlx hfb
    have g1 := FI.out.cell
    have gl := FI.out.lt
    go_wp2_with fail
    refine (l1ShapeK_any lo _ Ss kind _ (HS.out.below HB2.out)).mono ?_
    rintro e w2' ⟨rfl, ⟨k, hk, rfl, hsh⟩ | ⟨rfl, hsh⟩⟩
    · have HXK : Hid (Ss[k] = x) := by
        have := HX.out
        rw [hsh, List.getElem?_eq_getElem hk] at this
        exact Option.some.inj this
      clear hsh
      obtain ⟨b, off, rfl, hbw, hc⟩ := HS.out.full' (by omega)
      obtain ⟨_, fv', d0, d1, hst⟩ := hc k hk
      rw [HXK.out] at d0 hst
      obtain ⟨fa', fcap', rfl⟩ := hst.form
      have HST := hide hst
      have c0 : w2'.cell? ⟨b, off + k * 2, none⟩ = some (.string x.kind) := by rw [HB2.out.cell (p := ⟨b, _, none⟩) hbw]; exact d0
      have c1 : w2'.cell? ⟨b, off + k * 2 + 1, none⟩ = some (.slice fa' x.fields.length fcap') := by rw [HB2.out.cell (p := ⟨b, _, none⟩) hbw]; exact d1
      clear d0 d1 hst hc
      go_wp2_with fail
      clear g1 gl c0 c1
      refine (l3Row_any lo lm _ _ x Ms _ (HST.out.below HB2.out) (HM.out.below HB2.out) (by omega)).mono ?_
      rintro e w3 ⟨rv, R, rfl, hb3, ho, hro⟩
      have hz3 := hb3.size
      have HB3 : Hid (Below w.heap.size w w3) := HB2.out.trans (hb3.mono HB2.out.size)
      have FR := hide (FR.out.on hb3)
      have FO := hide (FO.out.on hb3)
      have HS1 := hide (HS1.out.below hb3)
      have HS2 := hide (HS2.out.below hb3)
      have HO := hide ho
      obtain ⟨ra, rcap, rfl⟩ := ho.form
      have HG : Hid (Good (namesF x.fields) (readsOf x.kind Ms) R) := hro.1
      have HFIX : Hid (FixM x Ms V (mendV (plOf x.fields) (decM x.fields x.kind Ms) R V)) := mend_row hro.1 (by rw [names_len]; have := hro.2.2.2 HRB.out; omega) HL.out
      have hRl : R.length ≤ 6 := Nat.le_trans hro.2.1 h6
      clear hb3 ho hro HB2
      rw [HKX.out] at HG HFIX
      go_wp2
      go_loopw [11] (fun i wr => ∃ j : Nat, i = .int .i64 j ∧ j ≤ R.length ∧ StrsOwn (w.heap.size + 2) mid wr (.slice a2 V.length cap2) (mendV (plOf x.fields) (decM x.fields kind Ms) (R.take j) V) ∧ Touch (w.heap.size + 2) mid w3 wr) (fun i _ => R.length - (intOf i).toNat)
      case atStart => exact ⟨0, rfl, by omega, HS1.out, Touch.refl _ _ _⟩
      case round =>
        obtain ⟨j, rfl, hj, hso, ht⟩ := hrel
        have HSO := hide hso
        have HT := hide ht
        have hzr := ht.size
        have HBr : Hid (Below w.heap.size w wr) := HB3.out.trans ((ht.under (by omega)).mono (by omega))
        have FRr := hide (FR.out.touch ht (by omega))
        have FOr := hide (FO.out.touch ht (by omega))
        have HOr := hide (HO.out.touch ht (by omega))
        clear hso ht HS1
        by_cases hlt : j < R.length
        · obtain ⟨rb, ro, rfl, hrb, hrc⟩ := HOr.out.strs.full' (by omega)
          have ck := hrc j hlt
          clear hrc
          have HLv : Hid ((mendV (plOf x.fields) (decM x.fields kind Ms) (R.take j) V).length = V.length) := mendV_len _ _ _ _
          have HNEXT := hide (mendV_take (plOf x.fields) (decM x.fields kind Ms) hlt V)
          have HIN : Hid (R[j] ∈ namesF x.fields) := HG.out.sub (List.getElem_mem hlt)
          generalize hcur : mendV (plOf x.fields) (decM x.fields kind Ms) (R.take j) V = L at *
          have hp : plOf x.fields R[j] < x.fields.length := plOf_lt.2 HIN.out
          have hpL : plOf x.fields R[j] < L.length := by have := HLv.out; have := HL.out; omega
          have hpV : plOf x.fields R[j] < V.length := by have := HL.out; omega
          have hpi : placeI x.fields R[j] = (plOf x.fields R[j] : Int) := placeI_lt hp
          have HNX : Hid (mendV (plOf x.fields) (decM x.fields kind Ms) (R.take (j + 1)) V = L.set (plOf x.fields R[j]) ((decM x.fields kind Ms L R[j]).getD (valAt x.fields L R[j]))) := by unfold Hid; rw [HNEXT.out]; exact setp_getD hpL
          have HNS : Hid (((decM x.fields kind Ms L R[j]).getD (valAt x.fields L R[j])).size ≤ maxLen) := getD_size HM.out.sizes HSO.out.at.sizes hpL
          have hLl : L.length ≤ 6 := by have := HLv.out; omega
          have HSH := hide (HS2.out.touch HT.out (Or.inr (Nat.le_refl _)))
          clear HNEXT
          obtain ⟨vb, vo, rfl, hVL, hvb, hv1, hv2, hvc, hvf⟩ := HSO.out.full (by omega)
          clear hVL
          have ck3 := hvc _ hpL
          have fz3 := hvf (plOf x.fields R[j])
          have g1 := FOr.out.cell
          have gl := FOr.out.lt
          clear hvc hvf
          generalize hpp : plOf x.fields R[j] = p at *
          generalize hdv : (decM x.fields kind Ms L R[j]).getD (valAt x.fields L R[j]) = dv at *
          have HCK := hide ck
          have HCK3 := hide ck3
          have HFZ3 := hide fz3
          clear ck ck3 fz3 g1 gl
          have HFDr := hide (HFD.out.below HBr.out)
          have HMr := hide (HM.out.below HBr.out)
          have HE1 : Hid (vb ≠ w1.heap.size) := by unfold Hid; omega
          have HE2 : Hid (vb ≠ rb) := by
            have := HOr.out.row.form (by omega)
            obtain ⟨g, cp, e1, e2, _⟩ := this
            injection e1 with e1
            injection e1 with e1
            injection e1 with e1
            unfold Hid; omega
          have hvl : vb ≤ wr.drew.heap.size := Nat.le_of_lt hvb
          go_wp2
          go_region_held3 (HeldM wr w1.heap.size #[.string kind, .string nm, .string team, .slice (some ⟨vb, vo, none⟩) V.length cap2, .bool en, .slice a3 Ho.length cap3, .int .i64 ver] rb (ro + j) R[j] vb)
            (first
              | (with_reducible exact HeldM.start FOr HCK hrb HE1 HE2)
              | (with_reducible exact HeldM.set (by assumption) _)
              | (with_reducible exact HeldM.on (by assumption) (by assumption) (by assumption)))
            (first
              | (go_at_call 60
                 refine (l3FieldB_any lo _ x.fields R[j] _ (HFDr.out.below ((Below.refl _ _).drew))).mono ?_
                 rintro e w4 ⟨rfl, hb4⟩
                 rw [hpi]
                 have hq4 : Below wr.heap.size wr w4 := drew_on hb4
                 have HQ4 := hide hq4
                 have hvl4 : vb ≤ w4.heap.size := Nat.le_trans (Nat.le_of_lt hvb) hq4.size
                 clear hq4)
              | (go_at_call 64
                 refine (l3Decided_any lo lm _ _ _ R[j] _ _ _ _ _ _ x.fields Ms L Ho _ (HFDr.out.below HQ4.out) (HMr.out.below HQ4.out) (HSO.out.at.below HQ4.out) (HSH.out.at.below HQ4.out) h6 (HL.out.trans HLv.out.symm) HNA.out h12 HIN.out).mono ?_
                 rintro e w5 ⟨rfl, hb5⟩
                 rw [hdv]
                 have HB5 : Hid (Below wr.heap.size wr w5) := HQ4.out.trans (hb5.mono HQ4.out.size)
                 have ck5 : w5.cell? ⟨vb, vo + p, none⟩ = some (.string L[p]) := (HB5.out.cell (p := ⟨vb, vo + p, none⟩) hvb).trans HCK3.out
                 have fz5 : w5.frozen? ⟨vb, vo + p, none⟩ = false := (HB5.out.frozen (p := ⟨vb, vo + p, none⟩) hvb).trans HFZ3.out))
          all_goals
            go_wp2
            go_roundw
            case rel => exact ⟨j + 1, by go_num, by omega, by rw [HNX.out]; exact (HSO.out.below HB5.out).put hpL HNS.out, (HT.out.trans (Touch.below HB5.out)).trans (Touch.setCell _ _ _ _ _ ⟨hv1, hv2⟩)⟩
            case measure => simp [intOf]; omega
        · have e : j = R.length := by omega
          subst e
          have HE : Hid (R.take R.length = R) := List.take_length
          have g2 := FOr.out.cell
          have gl2 := FOr.out.lt
          have HS2r := hide (HS2.out.touch HT.out (Or.inr (Nat.le_refl _)))
          have HR : Hid (MendTo Ss Ms kind V (mendV (plOf x.fields) (decM x.fields kind Ms) (R.take R.length) V)) := Or.inl ⟨x, HMB.out, HX.out, HL.out, by rw [HE.out]; exact HFIX.out⟩
          have rr := FRr.out.cell
          have rf := FRr.out.free
          have rl := FRr.out.lt
          have r0 : wr.cell? ⟨w.heap.size + 1, 0, none⟩ = some (.string ⟨#[]⟩) := rr 0
          have r1 : wr.cell? ⟨w.heap.size + 1, 1, none⟩ = some (.string ⟨#[]⟩) := rr 1
          have r2 : wr.cell? ⟨w.heap.size + 1, 2, none⟩ = some (.string ⟨#[]⟩) := rr 2
          have r3 : wr.cell? ⟨w.heap.size + 1, 3, none⟩ = some (.slice none 0 0) := rr 3
          have r4 : wr.cell? ⟨w.heap.size + 1, 4, none⟩ = some (.bool false) := rr 4
          have r5 : wr.cell? ⟨w.heap.size + 1, 5, none⟩ = some (.slice none 0 0) := rr 5
          have r6 : wr.cell? ⟨w.heap.size + 1, 6, none⟩ = some (.int .i64 0) := rr 6
          clear rr
          go_wp2
          refine bodyPost_ret (v := .agg #[.string kind, .string nm, .string team, .slice a2 V.length cap2, .bool en, .slice a3 Ho.length cap3, .int .i64 ver]) (by simp [results, Tryz.results37, go_sem, r0, r1, r2, r3, r4, r5, r6]) rfl ⟨_, _, _, rfl, ?_, ⟨mid, ?_, ?_, ?_, ?_⟩, HR.out⟩
          · repeat (refine Below.setCell ?_ (by simp only []; omega) _)
            exact HBr.out
          · omega
          · simp only [World.setCell, Array.size_modify]; omega
          · refine StrsOwn.wide (lo := w.heap.size + 2) (hi := mid) ?_ (by omega) (Nat.le_refl _)
            repeat (refine StrsOwn.setCell ?_ (by simp only []; omega) _)
            exact HSO.out
          · refine StrsOwn.wide (lo := mid) (hi := w1.heap.size) ?_ (Nat.le_refl _) (by simp only [World.setCell, Array.size_modify]; omega)
            repeat (refine StrsOwn.setCell ?_ (by simp only []; omega) _)
            exact HS2r.out
    · rw [hsh] at HX; cases HX.out
  · have HR : Hid (MendTo Ss Ms kind V V) := Or.inr ⟨Or.inr hno, rfl⟩
    clear hno
    have g2 := FO.out.cell
    have gl2 := FO.out.lt
    have rr := FR.out.cell
    have rf := FR.out.free
    have rl := FR.out.lt
    have r0 : w2.cell? ⟨w.heap.size + 1, 0, none⟩ = some (.string ⟨#[]⟩) := rr 0
    have r1 : w2.cell? ⟨w.heap.size + 1, 1, none⟩ = some (.string ⟨#[]⟩) := rr 1
    have r2 : w2.cell? ⟨w.heap.size + 1, 2, none⟩ = some (.string ⟨#[]⟩) := rr 2
    have r3 : w2.cell? ⟨w.heap.size + 1, 3, none⟩ = some (.slice none 0 0) := rr 3
    have r4 : w2.cell? ⟨w.heap.size + 1, 4, none⟩ = some (.bool false) := rr 4
    have r5 : w2.cell? ⟨w.heap.size + 1, 5, none⟩ = some (.slice none 0 0) := rr 5
    have r6 : w2.cell? ⟨w.heap.size + 1, 6, none⟩ = some (.int .i64 0) := rr 6
    clear rr
    go_wp2
    refine bodyPost_ret (v := .agg #[.string kind, .string nm, .string team, .slice a2 V.length cap2, .bool en, .slice a3 Ho.length cap3, .int .i64 ver]) (by simp [results, Tryz.results37, go_sem, r0, r1, r2, r3, r4, r5, r6]) rfl ⟨_, _, V, rfl, ?_, ⟨mid, ?_, ?_, ?_, ?_⟩, HR.out⟩
    · repeat (refine Below.setCell ?_ (by simp only []; omega) _)
      exact HB2.out
    · omega
    · simp only [World.setCell, Array.size_modify]; omega
    · refine StrsOwn.wide (lo := w.heap.size + 2) (hi := mid) ?_ (by omega) (Nat.le_refl _)
      repeat (refine StrsOwn.setCell ?_ (by simp only []; omega) _)
      exact HS1.out
    · refine StrsOwn.wide (lo := mid) (hi := w1.heap.size) ?_ (Nat.le_refl _) (by simp only [World.setCell, Array.size_modify]; omega)
      repeat (refine StrsOwn.setCell ?_ (by simp only []; omega) _)
      exact HS2.out
end
end Go.Proofs.YtjkkbkdpoebfaaaGreat

namespace Go.Proofs.YtjkkbkdpoebfaaaGreat
open Go.RowKit Go.Deep

theorem shapeTo_of {Ss : List Sh} {Ms : List Md} {kind : ByteArray} {V F : List ByteArray} (hm : mendsB Ss Ms = true) (h : MendTo Ss Ms kind (fillS Ss kind V) F) : ShapeTo Ss Ms kind V F := by
  by_cases hx : ∃ x, shOf Ss kind = some x ∧ x.fields.length = V.length
  · obtain ⟨x, h1, h2⟩ := hx
    rw [fillS_yes h1 h2] at h
    rcases h with ⟨y, a1, a2, a3, a4⟩ | ⟨a1, a2⟩
    · rw [h1] at a2; cases a2
      exact Or.inl ⟨x, a1, h1, h2, a4⟩
    · rcases a1 with a1 | a1
      · rw [hm] at a1; cases a1
      · exact absurd (by rw [fillV_len h2]; exact h2) (a1 x h1)
  · have hno : ∀ x, shOf Ss kind = some x → x.fields.length ≠ V.length := fun x h1 h2 => hx ⟨x, h1, h2⟩
    rw [fillS_no hno] at h
    rcases h with ⟨y, a1, a2, a3, a4⟩ | ⟨a1, a2⟩
    · exact absurd a3 (hno y a2)
    · exact Or.inr ⟨a1, a2⟩
theorem fillS_len (Ss : List Sh) (kind : ByteArray) (V : List ByteArray) : (fillS Ss kind V).length = V.length := by
  by_cases hx : ∃ x, shOf Ss kind = some x ∧ x.fields.length = V.length
  · obtain ⟨x, h1, h2⟩ := hx
    rw [fillS_yes h1 h2, fillV_len h2]
  · rw [fillS_no fun x h1 h2 => hx ⟨x, h1, h2⟩]

section
variable (kind nm team : ByteArray) (vv hv sv mv : Value) (en : Bool) (ver : Int) (V Ho : List ByteArray) (Ss : List Sh) (Ms : List Md) (w : World) (lo lm : Nat)

set_option maxRecDepth 20000 in
set_option maxHeartbeats 8000000 in
theorem l3Shaped_any (hS : ShsAt lo w sv Ss) (hM : MdsAt lm w mv Ms) (hV : StrsAt w vv V) (hH : StrsAt w hv Ho) (n1 : V.length ≤ 1048576) (n2 : Ho.length ≤ 1048576) (hmb : mendsB Ss Ms = true) :
    Calls Tryz.prog 22 #[sv, mv, .agg #[.string kind, .string nm, .string team, vv, .bool en, hv, .int .i64 ver]] w
      fun e w' => ∃ v' h' F, e = .returned (.agg #[.string kind, .string nm, .string team, v', .bool en, h', .int .i64 ver]) ∧ Below w.heap.size w w' ∧ ObjOwn w.heap.size w' v' h' F Ho ∧ ShapeTo Ss Ms kind V F := by
  have HV := hide hV
  have HH := hide hH
  have HS := hide hS
  have HM := hide hM
  obtain ⟨a, cap, rfl⟩ := hV.form'
  obtain ⟨a', cap', rfl⟩ := hH.form'
  obtain ⟨a1, cap1, rfl⟩ := hS.form
  obtain ⟨ma, mcap, rfl⟩ := hM.form
  clear hV hH hS hM
  go_enter Tryz.func22, Tryz.ntmps22
  go_wp2_with fail
  generalize hWa : w.alloc _ = Wa
  have hza : Wa.heap.size = w.heap.size + 1 := by rw [← hWa]; simp
  have HBa : Hid (Below w.heap.size w Wa) := by rw [← hWa]; exact one_al _ _
  have FO : Hid (Box Wa w.heap.size #[.string kind, .string nm, .string team, .slice a V.length cap, .bool en, .slice a' Ho.length cap', .int .i64 ver]) := by rw [← hWa]; exact Box.new _ _ _ _ rfl
  clear hWa
  generalize hWb : Wa.alloc _ = Wb
  have hzb : Wb.heap.size = w.heap.size + 2 := by rw [← hWb]; simp [hza]
  have hbb : Below Wa.heap.size Wa Wb := by rw [← hWb]; exact one_al _ _
  have HBb : Hid (Below w.heap.size w Wb) := HBa.out.trans (hbb.mono (by omega))
  have FO := hide (FO.out.on hbb)
  have FR : Hid (Box Wb (w.heap.size + 1) #[.string ⟨#[]⟩, .string ⟨#[]⟩, .string ⟨#[]⟩, .slice none 0 0, .bool false, .slice none 0 0, .int .i64 0]) := by rw [← hWb]; exact Box.new _ _ _ _ hza
  clear hWb hbb HBa hza
  refine (l2Fill_any _ _ _ _ _ _ _ _ V Ho Ss _ lo (HS.out.below HBb.out) (HV.out.below HBb.out) (HH.out.below HBb.out) n1 n2).mono ?_
  rintro e w1 ⟨v1, h1, rfl, hb1, mid1, hlo1, hmi1, hs1, hs2⟩
  obtain ⟨a2, cap2, rfl⟩ := hs1.form
  obtain ⟨a3, cap3, rfl⟩ := hs2.form
  have FR := hide (FR.out.on hb1)
  have HB1 : Hid (Below w.heap.size w w1) := HBb.out.trans (hb1.mono HBb.out.size)
  have hz1 := hb1.size
  have HV1 := hide hs1.at
  have HH1 := hide hs2.at
  have HMB := hide hmb
  have nf : (fillS Ss kind V).length ≤ 1048576 := by rw [fillS_len]; exact n1
  clear hb1 HBb hs1 hs2 hlo1 hmi1 FO hmb
  go_wp2_with fail
  refine (l3Mended_any _ _ _ _ _ _ _ _ _ (fillS Ss kind V) Ho Ss Ms _ lo lm (HS.out.below HB1.out) (HM.out.below HB1.out) HV1.out HH1.out nf n2 HMB.out).mono ?_
  rintro e w2 ⟨v2, h2, F, rfl, hb2, ⟨mid2, hlo2, hmi2, hs3, hs4⟩, hfix⟩
  have HR := hide (shapeTo_of HMB.out hfix)
  clear hfix
  have HB2 : Hid (Below w.heap.size w w2) := HB1.out.trans (hb2.mono HB1.out.size)
  have hz2 := hb2.size
  have FR2 := hide (FR.out.on hb2)
  obtain ⟨a4, cap4, rfl⟩ := hs3.form
  obtain ⟨a5, cap5, rfl⟩ := hs4.form
  have HV2 := hide hs3
  have HH2 := hide hs4
  clear hb2 hs3 hs4
  have rr := FR2.out.cell
  have rf := FR2.out.free
  have rl := FR2.out.lt
  have r0 : w2.cell? ⟨w.heap.size + 1, 0, none⟩ = some (.string ⟨#[]⟩) := rr 0
  have r1 : w2.cell? ⟨w.heap.size + 1, 1, none⟩ = some (.string ⟨#[]⟩) := rr 1
  have r2 : w2.cell? ⟨w.heap.size + 1, 2, none⟩ = some (.string ⟨#[]⟩) := rr 2
  have r3 : w2.cell? ⟨w.heap.size + 1, 3, none⟩ = some (.slice none 0 0) := rr 3
  have r4 : w2.cell? ⟨w.heap.size + 1, 4, none⟩ = some (.bool false) := rr 4
  have r5 : w2.cell? ⟨w.heap.size + 1, 5, none⟩ = some (.slice none 0 0) := rr 5
  have r6 : w2.cell? ⟨w.heap.size + 1, 6, none⟩ = some (.int .i64 0) := rr 6
  clear rr
  go_wp2
  refine bodyPost_ret (v := .agg #[.string kind, .string nm, .string team, .slice a4 F.length cap4, .bool en, .slice a5 Ho.length cap5, .int .i64 ver]) (by simp [results, Tryz.results22, go_sem, r0, r1, r2, r3, r4, r5, r6]) rfl ⟨_, _, F, rfl, ?_, ⟨mid2, ?_, ?_, ?_, ?_⟩, HR.out⟩
  · repeat (refine Below.setCell ?_ (by simp only []; omega) _)
    exact HB2.out
  · omega
  · simp only [World.setCell, Array.size_modify]; omega
  · refine StrsOwn.wide (lo := w1.heap.size) (hi := mid2) ?_ (by omega) (Nat.le_refl _)
    repeat (refine StrsOwn.setCell ?_ (by simp only []; omega) _)
    exact HV2.out
  · refine StrsOwn.wide (lo := mid2) (hi := w2.heap.size) ?_ (Nat.le_refl _) (by simp only [World.setCell, Array.size_modify]; omega)
    repeat (refine StrsOwn.setCell ?_ (by simp only []; omega) _)
    exact HH2.out

set_option maxRecDepth 20000 in
set_option maxHeartbeats 8000000 in
theorem specShaped_any (hS : ShsAt lo w sv Ss) (hM : MdsAt lm w mv Ms) (hV : StrsAt w vv V) (hH : StrsAt w hv Ho) (n1 : V.length ≤ 1048576) (n2 : Ho.length ≤ 1048576) :
    Calls Tryz.prog 7 #[sv, mv, .agg #[.string kind, .string nm, .string team, vv, .bool en, hv, .int .i64 ver]] w
      fun e w' => ∃ v' h' F, e = .returned (.agg #[.string kind, .string nm, .string team, v', .bool en, h', .int .i64 ver]) ∧ Below w.heap.size w w' ∧ ObjOwn w.heap.size w' v' h' F Ho ∧ ShapeTo Ss Ms kind V F := by
  have HV := hide hV
  have HH := hide hH
  have HS := hide hS
  have HM := hide hM
  obtain ⟨a, cap, rfl⟩ := hV.form'
  obtain ⟨a', cap', rfl⟩ := hH.form'
  obtain ⟨a1, cap1, rfl⟩ := hS.form
  obtain ⟨ma, mcap, rfl⟩ := hM.form
  clear hV hH hS hM
  go_enter Tryz.func7, Tryz.ntmps7
  go_wp2_with fail
  generalize hWa : w.alloc _ = Wa
  have hza : Wa.heap.size = w.heap.size + 1 := by rw [← hWa]; simp
  have HBa : Hid (Below w.heap.size w Wa) := by rw [← hWa]; exact one_al _ _
  have FO : Hid (Box Wa w.heap.size #[.string kind, .string nm, .string team, .slice a V.length cap, .bool en, .slice a' Ho.length cap', .int .i64 ver]) := by rw [← hWa]; exact Box.new _ _ _ _ rfl
  clear hWa
  generalize hWb : Wa.alloc _ = Wb
  have hzb : Wb.heap.size = w.heap.size + 2 := by rw [← hWb]; simp [hza]
  have hbb : Below Wa.heap.size Wa Wb := by rw [← hWb]; exact one_al _ _
  have HBb : Hid (Below w.heap.size w Wb) := HBa.out.trans (hbb.mono (by omega))
  have FO := hide (FO.out.on hbb)
  have FR : Hid (Box Wb (w.heap.size + 1) #[.string ⟨#[]⟩, .string ⟨#[]⟩, .string ⟨#[]⟩, .slice none 0 0, .bool false, .slice none 0 0, .int .i64 0]) := by rw [← hWb]; exact Box.new _ _ _ _ hza
  clear hWb hbb HBa hza
  refine (specMends_any lo lm _ _ Ss Ms _ (HS.out.below HBb.out) (HM.out.below HBb.out)).mono ?_
  rintro e w1 ⟨rfl, hb1⟩
  have FO := hide (FO.out.on hb1)
  have FR := hide (FR.out.on hb1)
  have HB1 : Hid (Below w.heap.size w w1) := HBb.out.trans (hb1.mono HBb.out.size)
  have hz1 := hb1.size
  clear hb1 HBb
  have g1 := FO.out.cell
  have gl := FO.out.lt
  cases hmb : mendsB Ss Ms with
  | false =>
    have HR : Hid (ShapeTo Ss Ms kind V V) := Or.inr ⟨Or.inl hmb, rfl⟩
    clear hmb
    go_wp2_with fail
    clear g1 gl
    refine (l2Copy_any _ _ _ _ _ _ _ V Ho _ (HV.out.below HB1.out) (HH.out.below HB1.out) n1 n2).mono ?_
    rintro e w2 ⟨v2, h2, rfl, hb2, mid2, hlo2, hmi2, hs3, hs4⟩
    have HB2 : Hid (Below w.heap.size w w2) := HB1.out.trans (hb2.mono HB1.out.size)
    have hz2 := hb2.size
    have FR2 := hide (FR.out.on hb2)
    obtain ⟨a4, cap4, rfl⟩ := hs3.form
    obtain ⟨a5, cap5, rfl⟩ := hs4.form
    have HV2 := hide hs3
    have HH2 := hide hs4
    clear hb2 hs3 hs4
    have rr := FR2.out.cell
    have rf := FR2.out.free
    have rl := FR2.out.lt
    have r0 : w2.cell? ⟨w.heap.size + 1, 0, none⟩ = some (.string ⟨#[]⟩) := rr 0
    have r1 : w2.cell? ⟨w.heap.size + 1, 1, none⟩ = some (.string ⟨#[]⟩) := rr 1
    have r2 : w2.cell? ⟨w.heap.size + 1, 2, none⟩ = some (.string ⟨#[]⟩) := rr 2
    have r3 : w2.cell? ⟨w.heap.size + 1, 3, none⟩ = some (.slice none 0 0) := rr 3
    have r4 : w2.cell? ⟨w.heap.size + 1, 4, none⟩ = some (.bool false) := rr 4
    have r5 : w2.cell? ⟨w.heap.size + 1, 5, none⟩ = some (.slice none 0 0) := rr 5
    have r6 : w2.cell? ⟨w.heap.size + 1, 6, none⟩ = some (.int .i64 0) := rr 6
    clear rr
    go_wp2
    refine bodyPost_ret (v := .agg #[.string kind, .string nm, .string team, .slice a4 V.length cap4, .bool en, .slice a5 Ho.length cap5, .int .i64 ver]) (by simp [results, Tryz.results7, go_sem, r0, r1, r2, r3, r4, r5, r6]) rfl ⟨_, _, V, rfl, ?_, ⟨mid2, ?_, ?_, ?_, ?_⟩, HR.out⟩
    · repeat (refine Below.setCell ?_ (by simp only []; omega) _)
      exact HB2.out
    · omega
    · simp only [World.setCell, Array.size_modify]; omega
    · refine StrsOwn.wide (lo := w1.heap.size) (hi := mid2) ?_ (by omega) (Nat.le_refl _)
      repeat (refine StrsOwn.setCell ?_ (by simp only []; omega) _)
      exact HV2.out
    · refine StrsOwn.wide (lo := mid2) (hi := w2.heap.size) ?_ (Nat.le_refl _) (by simp only [World.setCell, Array.size_modify]; omega)
      repeat (refine StrsOwn.setCell ?_ (by simp only []; omega) _)
      exact HH2.out
  | true =>
    have HMB := hide hmb
    clear hmb
    go_wp2_with fail
    clear g1 gl
    refine (l3Shaped_any _ _ _ _ _ _ _ _ _ V Ho Ss Ms _ lo lm (HS.out.below HB1.out) (HM.out.below HB1.out) (HV.out.below HB1.out) (HH.out.below HB1.out) n1 n2 HMB.out).mono ?_
    rintro e w2 ⟨v2, h2, F, rfl, hb2, ⟨mid2, hlo2, hmi2, hs3, hs4⟩, hfix⟩
    have HR := hide hfix
    clear hfix
    have HB2 : Hid (Below w.heap.size w w2) := HB1.out.trans (hb2.mono HB1.out.size)
    have hz2 := hb2.size
    have FR2 := hide (FR.out.on hb2)
    obtain ⟨a4, cap4, rfl⟩ := hs3.form
    obtain ⟨a5, cap5, rfl⟩ := hs4.form
    have HV2 := hide hs3
    have HH2 := hide hs4
    clear hb2 hs3 hs4
    have rr := FR2.out.cell
    have rf := FR2.out.free
    have rl := FR2.out.lt
    have r0 : w2.cell? ⟨w.heap.size + 1, 0, none⟩ = some (.string ⟨#[]⟩) := rr 0
    have r1 : w2.cell? ⟨w.heap.size + 1, 1, none⟩ = some (.string ⟨#[]⟩) := rr 1
    have r2 : w2.cell? ⟨w.heap.size + 1, 2, none⟩ = some (.string ⟨#[]⟩) := rr 2
    have r3 : w2.cell? ⟨w.heap.size + 1, 3, none⟩ = some (.slice none 0 0) := rr 3
    have r4 : w2.cell? ⟨w.heap.size + 1, 4, none⟩ = some (.bool false) := rr 4
    have r5 : w2.cell? ⟨w.heap.size + 1, 5, none⟩ = some (.slice none 0 0) := rr 5
    have r6 : w2.cell? ⟨w.heap.size + 1, 6, none⟩ = some (.int .i64 0) := rr 6
    clear rr
    go_wp2
    refine bodyPost_ret (v := .agg #[.string kind, .string nm, .string team, .slice a4 F.length cap4, .bool en, .slice a5 Ho.length cap5, .int .i64 ver]) (by simp [results, Tryz.results7, go_sem, r0, r1, r2, r3, r4, r5, r6]) rfl ⟨_, _, F, rfl, ?_, ⟨mid2, ?_, ?_, ?_, ?_⟩, HR.out⟩
    · repeat (refine Below.setCell ?_ (by simp only []; omega) _)
      exact HB2.out
    · omega
    · simp only [World.setCell, Array.size_modify]; omega
    · refine StrsOwn.wide (lo := w1.heap.size) (hi := mid2) ?_ (by omega) (Nat.le_refl _)
      repeat (refine StrsOwn.setCell ?_ (by simp only []; omega) _)
      exact HV2.out
    · refine StrsOwn.wide (lo := mid2) (hi := w2.heap.size) ?_ (Nat.le_refl _) (by simp only [World.setCell, Array.size_modify]; omega)
      repeat (refine StrsOwn.setCell ?_ (by simp only []; omega) _)
      exact HH2.out
end
end Go.Proofs.YtjkkbkdpoebfaaaGreat

namespace Go.Proofs.YtjkkbkdpoebfaaaGreat
open Go.RowKit Go.Deep

theorem MendTo.exists (Ss : List Sh) (Ms : List Md) (kind : ByteArray) (V : List ByteArray) : ∃ F, MendTo Ss Ms kind V F := by
  by_cases hm : mendsB Ss Ms = true
  · by_cases hx : ∃ x, shOf Ss kind = some x ∧ x.fields.length = V.length
    · obtain ⟨x, h1, h2⟩ := hx
      obtain ⟨R, hg, hl⟩ := rowB_some (mendsB_row hm (shOf_mem h1).1)
      exact ⟨_, Or.inl ⟨x, hm, h1, h2, mend_row hg hl h2⟩⟩
    · exact ⟨V, Or.inr ⟨Or.inr fun x h1 h2 => hx ⟨x, h1, h2⟩, rfl⟩⟩
  · exact ⟨V, Or.inr ⟨Or.inl (by simpa using hm), rfl⟩⟩
theorem ShapeTo.exists (Ss : List Sh) (Ms : List Md) (kind : ByteArray) (V : List ByteArray) : ∃ F, ShapeTo Ss Ms kind V F := by
  by_cases hm : mendsB Ss Ms = true
  · by_cases hx : ∃ x, shOf Ss kind = some x ∧ x.fields.length = V.length
    · obtain ⟨x, h1, h2⟩ := hx
      obtain ⟨R, hg, hl⟩ := rowB_some (mendsB_row hm (shOf_mem h1).1)
      exact ⟨_, Or.inl ⟨x, hm, h1, h2, mend_row hg hl (by rw [fillV_len h2]; exact h2)⟩⟩
    · exact ⟨V, Or.inr ⟨Or.inr fun x h1 h2 => hx ⟨x, h1, h2⟩, rfl⟩⟩
  · exact ⟨V, Or.inr ⟨Or.inl (by simpa using hm), rfl⟩⟩
theorem MendTo.len {Ss : List Sh} {Ms : List Md} {kind : ByteArray} {V F : List ByteArray} (h : MendTo Ss Ms kind V F) : F.length = V.length := by
  rcases h with ⟨x, _, _, _, h⟩ | ⟨_, h⟩
  · exact h.len
  · rw [h]
theorem ShapeTo.len {Ss : List Sh} {Ms : List Md} {kind : ByteArray} {V F : List ByteArray} (h : ShapeTo Ss Ms kind V F) : F.length = V.length := by
  rcases h with ⟨x, _, _, h2, h⟩ | ⟨_, h⟩
  · rw [h.len, fillV_len h2]
  · rw [h]

section
variable (kind nm team : ByteArray) (vv hv sv mv : Value) (en : Bool) (ver : Int) (V Ho : List ByteArray) (Ss : List Sh) (Ms : List Md) (F : List ByteArray) (w : World) (lo lm : Nat)
theorem implMendedF_any (hS : ShsAt lo w sv Ss) (hM : MdsAt lm w mv Ms) (hV : StrsAt w vv V) (hH : StrsAt w hv Ho) (n1 : V.length ≤ 1048576) (n2 : Ho.length ≤ 1048576) (hF : MendTo Ss Ms kind V F) :
    Calls Tryz.prog 9 #[sv, mv, .agg #[.string kind, .string nm, .string team, vv, .bool en, hv, .int .i64 ver]] w
      fun e w' => ∃ v' h', e = .returned (.agg #[.string kind, .string nm, .string team, v', .bool en, h', .int .i64 ver]) ∧ Below w.heap.size w w' ∧ ObjOwn w.heap.size w' v' h' F Ho :=
  (implMended_any kind nm team vv hv sv mv en ver V Ho Ss Ms w lo lm hS hM hV hH n1 n2).mono fun _ _ ⟨v', h', _, he, hb, ho, hr⟩ => ⟨v', h', he, hb, hr.unique hF ▸ ho⟩
theorem specShapedF_any (hS : ShsAt lo w sv Ss) (hM : MdsAt lm w mv Ms) (hV : StrsAt w vv V) (hH : StrsAt w hv Ho) (n1 : V.length ≤ 1048576) (n2 : Ho.length ≤ 1048576) (hF : ShapeTo Ss Ms kind V F) :
    Calls Tryz.prog 7 #[sv, mv, .agg #[.string kind, .string nm, .string team, vv, .bool en, hv, .int .i64 ver]] w
      fun e w' => ∃ v' h', e = .returned (.agg #[.string kind, .string nm, .string team, v', .bool en, h', .int .i64 ver]) ∧ Below w.heap.size w w' ∧ ObjOwn w.heap.size w' v' h' F Ho :=
  (specShaped_any kind nm team vv hv sv mv en ver V Ho Ss Ms w lo lm hS hM hV hH n1 n2).mono fun _ _ ⟨v', h', _, he, hb, ho, hr⟩ => ⟨v', h', he, hb, hr.unique hF ▸ ho⟩
theorem implShapedF_any (hS : ShsAt lo w sv Ss) (hM : MdsAt lm w mv Ms) (hV : StrsAt w vv V) (hH : StrsAt w hv Ho) (n1 : V.length ≤ 1048576) (n2 : Ho.length ≤ 1048576) (hF : ShapeTo Ss Ms kind V F) :
    Calls Tryz.prog 5 #[sv, mv, .agg #[.string kind, .string nm, .string team, vv, .bool en, hv, .int .i64 ver]] w
      fun e w' => ∃ v' h', e = .returned (.agg #[.string kind, .string nm, .string team, v', .bool en, h', .int .i64 ver]) ∧ Below w.heap.size w w' ∧ ObjOwn w.heap.size w' v' h' F Ho :=
  (implShaped_any kind nm team vv hv sv mv en ver V Ho Ss Ms w lo lm hS hM hV hH n1 n2).mono fun _ _ ⟨v', h', _, he, hb, ho, hr⟩ => ⟨v', h', he, hb, hr.unique hF ▸ ho⟩
end
end Go.Proofs.YtjkkbkdpoebfaaaGreat

namespace Go.Proofs.YtjkkbkdpoebfaaaGreat
open Go.RowKit Go.Deep
theorem Held.mds {w W : World} {cs : Array Value} (h : Held w cs W) {lo : Nat} {v : Value} {Ms : List Md} (hs : MdsAt lo w v Ms) : MdsAt lo W v Ms := hs.below h.2.2.out.1
end Go.Proofs.YtjkkbkdpoebfaaaGreat
