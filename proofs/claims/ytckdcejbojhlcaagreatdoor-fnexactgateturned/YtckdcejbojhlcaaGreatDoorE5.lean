import Derived.Test.YtckdcejbojhlcaaGreatDoorE4
import Derived.Test.YtckdcejbojhlcaaGreatDoorD2
import Derived.Deep.RegionHeld3
namespace Go.Proofs.YtckdcejbojhlcaaGreatDoor
open Go.RowKit Go.Deep

/-- what l2Check tells -/
def checkS (Ss : List Sh) (kind nm team : ByteArray) (V Ho : List ByteArray) (ver : Int) : Int × Int :=
  match shOf Ss kind with
  | none => (1, 0)
  | some x => checkR x.fields nm team V Ho ver
theorem checkS_some {Ss : List Sh} {kind nm team : ByteArray} {V Ho : List ByteArray} {ver : Int} {x : Sh} (h : shOf Ss kind = some x) : checkS Ss kind nm team V Ho ver = checkR x.fields nm team V Ho ver := by unfold checkS; rw [h]
theorem checkS_no {Ss : List Sh} {kind nm team : ByteArray} {V Ho : List ByteArray} {ver : Int} (h : ∀ x, shOf Ss kind = some x → x.fields.length ≠ V.length) : checkS Ss kind nm team V Ho ver = (1, 0) := by
  unfold checkS
  cases hx : shOf Ss kind with
  | none => rfl
  | some x =>
    have hd : decide (V.length = x.fields.length) = false := by simpa using fun e => h x hx e.symm
    show checkR x.fields nm team V Ho ver = (1, 0)
    unfold checkR objB
    rw [hd]
    simp
theorem checkG_ok {Ss : List Sh} {kind nm team : ByteArray} {V Ho : List ByteArray} {ver : Int} (h : shapesB Ss = true) : checkG Ss kind nm team V Ho ver = checkS Ss kind nm team V Ho ver := by unfold checkG checkS okShapeOf; rw [h]; rfl
theorem checkG_bad {Ss : List Sh} {kind nm team : ByteArray} {V Ho : List ByteArray} {ver : Int} (h : shapesB Ss = false) : checkG Ss kind nm team V Ho ver = (1, 0) := checkG_none (by unfold okShapeOf; rw [h]; rfl)

section
variable (kind nm team : ByteArray) (vv hv sv : Value) (en : Bool) (ver : Int) (V Ho : List ByteArray) (Ss : List Sh) (w : World) (lo : Nat)
set_option maxRecDepth 20000 in
set_option maxHeartbeats 4000000 in
theorem l2Check_any (hS : ShsAt lo w sv Ss) (hV : StrsAt w vv V) (hH : StrsAt w hv Ho) (s2 : nm.size ≤ maxLen) (s3 : team.size ≤ maxLen) :
    Calls Tryz.prog 18 #[sv, .agg #[.string kind, .string nm, .string team, vv, .bool en, hv, .int .i64 ver]] w
      fun e w' => e = .returned (.tuple #[.int .i64 (checkS Ss kind nm team V Ho ver).1, .int .i64 (checkS Ss kind nm team V Ho ver).2]) ∧ Below w.heap.size w w' := by
  have HV := hide hV
  have HH := hide hH
  have HS := hide hS
  obtain ⟨a, cap, rfl⟩ := hV.formz
  obtain ⟨a', cap', rfl⟩ := hH.formz
  obtain ⟨a1, cap1, rfl⟩ := hS.form
  clear hV hH hS
  go_enter Tryz.func18, Tryz.ntmps18
  go_wp2_with fail
  generalize hW0 : w.alloc _ = W0
  have HB0 : Hid (Below w.heap.size w W0) := by rw [← hW0]; exact oneAl _ _
  have G0 : Hid (∀ i, W0.cell? ⟨w.heap.size, i, none⟩ = (#[.string kind, .string nm, .string team, .slice a V.length cap, .bool en, .slice a' Ho.length cap', .int .i64 ver] : Array Value)[i]?) := fun i => by rw [← hW0]; exact new_cellz _ _ _ _ _ rfl
  have hz0 : w.heap.size < W0.heap.size := by rw [← hW0]; simp
  clear hW0
  refine (l2Fields_any _ _ _ _ _ _ _ _ V Ho Ss _ lo w HS.out HB0.out (HV.out.below HB0.out) (HH.out.below HB0.out)).mono ?_
  rintro e w1 ⟨hb1, hsh⟩
  have HB1 : Hid (Below w.heap.size w w1) := btz HB0.out hb1
  have hz1 : w.heap.size < w1.heap.size := Nat.lt_of_lt_of_le hz0 hb1.size
  have g1 : ∀ i, w1.cell? ⟨w.heap.size, i, none⟩ = (#[.string kind, .string nm, .string team, .slice a V.length cap, .bool en, .slice a' Ho.length cap', .int .i64 ver] : Array Value)[i]? := fun i => by rw [hb1.cell (p := ⟨w.heap.size, i, none⟩) hz0]; exact G0.out i
  clear hb1 HB0 G0
  rcases hsh with ⟨x, fv, hx, hlen, rfl, hfd⟩ | ⟨hx, fa, fcap, rfl⟩
  · obtain ⟨fa, fcap, rfl⟩ := hfd.form
    have HF := hide hfd
    have HX := hide (checkS_some (nm := nm) (team := team) (V := V) (Ho := Ho) (ver := ver) hx)
    have HL : Hid (V.length = x.fields.length) := hlen.symm
    have HD : Hid (decide (V.length = x.fields.length) = true) := by unfold Hid; simpa using HL.out
    clear hx hfd hlen
    cases hn : nameB nm with
    | false =>
      have HR : Hid (checkR x.fields nm team V Ho ver = (1, 0)) := by unfold Hid checkR objB; rw [hn]; simp
      go_wp2_with (first
        | (go_at_call 29; refine (nameOk_any _ _ (by assumption)).mono ?_; rintro e w' ⟨rfl, rfl⟩)
        | (go_at_call 31; refine (l1Asc_any _ Ho _ (HH.out.below HB1.out)).mono ?_; rintro e w2 ⟨rfl, hb2⟩; have HB2 : Hid (Below w.heap.size w w2) := btz HB1.out hb2; have g2 : ∀ i, w2.cell? ⟨w.heap.size, i, none⟩ = (#[.string kind, .string nm, .string team, .slice a V.length cap, .bool en, .slice a' Ho.length cap', .int .i64 ver] : Array Value)[i]? := (fun i => by rw [hb2.cell (p := ⟨w.heap.size, i, none⟩) hz1]; exact g1 i); clear hb2)
        | (go_at_call 32; refine (in_any _ _ _ _).mono ?_; rintro e w5 ⟨rfl, rfl⟩))
      go_ret2
      exact ⟨by rw [HX.out, HR.out]; rfl, HB1.out⟩
    | true =>
      cases ht : nameB team with
      | false =>
        have HR : Hid (checkR x.fields nm team V Ho ver = (1, 0)) := by unfold Hid checkR objB; rw [hn, ht]; simp
        go_wp2_with (first
          | (go_at_call 29; refine (nameOk_any _ _ (by assumption)).mono ?_; rintro e w' ⟨rfl, rfl⟩)
          | (go_at_call 31; refine (l1Asc_any _ Ho _ (HH.out.below HB1.out)).mono ?_; rintro e w2 ⟨rfl, hb2⟩; have HB2 : Hid (Below w.heap.size w w2) := btz HB1.out hb2; have g2 : ∀ i, w2.cell? ⟨w.heap.size, i, none⟩ = (#[.string kind, .string nm, .string team, .slice a V.length cap, .bool en, .slice a' Ho.length cap', .int .i64 ver] : Array Value)[i]? := (fun i => by rw [hb2.cell (p := ⟨w.heap.size, i, none⟩) hz1]; exact g1 i); clear hb2)
          | (go_at_call 32; refine (in_any _ _ _ _).mono ?_; rintro e w5 ⟨rfl, rfl⟩))
        go_ret2
        exact ⟨by rw [HX.out, HR.out]; rfl, HB1.out⟩
      | true =>
        by_cases h3 : Ho.length ≤ 3
        · have h3d : decide (Ho.length ≤ 3) = true := by simpa using h3
          have h3i : ¬ (3 < (Ho.length : Int)) := by omega
          cases hs : ascB Ho with
          | false =>
            have HR : Hid (checkR x.fields nm team V Ho ver = (1, 0)) := by unfold Hid checkR objB; rw [hn, ht, h3d, hs]; simp
            clear h3d
            go_wp2_with (first
              | (go_at_call 29; refine (nameOk_any _ _ (by assumption)).mono ?_; rintro e w' ⟨rfl, rfl⟩)
              | (go_at_call 31; refine (l1Asc_any _ Ho _ (HH.out.below HB1.out)).mono ?_; rintro e w2 ⟨rfl, hb2⟩; have HB2 : Hid (Below w.heap.size w w2) := btz HB1.out hb2; have g2 : ∀ i, w2.cell? ⟨w.heap.size, i, none⟩ = (#[.string kind, .string nm, .string team, .slice a V.length cap, .bool en, .slice a' Ho.length cap', .int .i64 ver] : Array Value)[i]? := (fun i => by rw [hb2.cell (p := ⟨w.heap.size, i, none⟩) hz1]; exact g1 i); clear hb2)
              | (go_at_call 32; refine (in_any _ _ _ _).mono ?_; rintro e w5 ⟨rfl, rfl⟩))
            go_ret2
            exact ⟨by rw [HX.out, HR.out]; rfl, HB2.out⟩
          | true =>
            cases hi : inB 0 1000000 ver with
            | false =>
              have HR : Hid (checkR x.fields nm team V Ho ver = (1, 0)) := by unfold Hid checkR objB; rw [hn, ht, h3d, hs, hi]; simp
              clear h3d
              go_wp2_with (first
                | (go_at_call 29; refine (nameOk_any _ _ (by assumption)).mono ?_; rintro e w' ⟨rfl, rfl⟩)
                | (go_at_call 31; refine (l1Asc_any _ Ho _ (HH.out.below HB1.out)).mono ?_; rintro e w2 ⟨rfl, hb2⟩; have HB2 : Hid (Below w.heap.size w w2) := btz HB1.out hb2; have g2 : ∀ i, w2.cell? ⟨w.heap.size, i, none⟩ = (#[.string kind, .string nm, .string team, .slice a V.length cap, .bool en, .slice a' Ho.length cap', .int .i64 ver] : Array Value)[i]? := (fun i => by rw [hb2.cell (p := ⟨w.heap.size, i, none⟩) hz1]; exact g1 i); clear hb2)
                | (go_at_call 32; refine (in_any _ _ _ _).mono ?_; rintro e w5 ⟨rfl, rfl⟩))
              go_ret2
              exact ⟨by rw [HX.out, HR.out]; rfl, HB2.out⟩
            | true =>
              have HR : Hid (checkR x.fields nm team V Ho ver = ff (faults x.fields V) 0) := by unfold Hid checkR objB; rw [hn, ht, h3d, hs, hi, HD.out]; rfl
              clear h3d
              go_wp2_with (first
                | (go_at_call 29; refine (nameOk_any _ _ (by assumption)).mono ?_; rintro e w' ⟨rfl, rfl⟩)
                | (go_at_call 31; refine (l1Asc_any _ Ho _ (HH.out.below HB1.out)).mono ?_; rintro e w2 ⟨rfl, hb2⟩; have HB2 : Hid (Below w.heap.size w w2) := btz HB1.out hb2; have g2 : ∀ i, w2.cell? ⟨w.heap.size, i, none⟩ = (#[.string kind, .string nm, .string team, .slice a V.length cap, .bool en, .slice a' Ho.length cap', .int .i64 ver] : Array Value)[i]? := (fun i => by rw [hb2.cell (p := ⟨w.heap.size, i, none⟩) hz1]; exact g1 i); clear hb2)
                | (go_at_call 32; refine (in_any _ _ _ _).mono ?_; rintro e w5 ⟨rfl, rfl⟩))
              clear hn ht hs hi h3i h3 g1
              have hn := HF.out.len
              unfold maxLen at hn
              have hz2 : w.heap.size < w5.heap.size := by have := HB2.out.size; have h := World.block_lt_of_cell? w5 ⟨w.heap.size, 0, none⟩ (g2 0); exact h
              have G2 := hide g2
              clear g2
              go_loopw [8] (fun i wr => ∃ k : Nat, i = .int .i64 k ∧ k ≤ x.fields.length ∧ Below w5.heap.size w5 wr ∧ ∀ j (h1 : j < x.fields.length) (h2 : j < V.length), j < k → faultAt x.fields[j] V[j] = 0) (fun i _ => x.fields.length - (intOf i).toNat)
              case atStart => exact ⟨0, rfl, by omega, Below.refl _ _, fun j _ _ h => by omega⟩
              case round =>
                obtain ⟨k, rfl, hk, hb, hall⟩ := hrel
                have HA := hide hall
                have HBB := hide hb
                have hszr : w.heap.size < wr.heap.size := Nat.lt_of_lt_of_le hz2 hb.size
                have HBr : Hid (Below w.heap.size w wr) := btz HB2.out hb
                have hO : ∀ i, wr.cell? ⟨w.heap.size, i, none⟩ = (#[.string kind, .string nm, .string team, .slice a V.length cap, .bool en, .slice a' Ho.length cap', .int .i64 ver] : Array Value)[i]? := fun i => by
                  rw [hb.cell (p := ⟨w.heap.size, i, none⟩) hz2]; exact G2.out i
                clear hb hall
                by_cases hlt : k < x.fields.length
                · have hlv : k < V.length := by have := HL.out; omega
                  obtain ⟨fb, foff, rfl, hfb0, hfc⟩ := HF.out.fullz (by omega)
                  obtain ⟨hsz, wv, hcell, hst⟩ := hfc k hlt
                  obtain ⟨c0, c1, c2, c3, c4, c5, c6, c7, c8, c9, c10⟩ := hcell.below HBr.out hfb0
                  obtain ⟨wa, wn, wcap, rfl⟩ := hst.form
                  obtain ⟨vb, voff, rfl, hvn, hvb0, hvc⟩ := HV.out.fullz (by omega)
                  have hvk : wr.cell? ⟨vb, voff + k, none⟩ = some (.string V[k]) := by rw [HBr.out.cell (p := ⟨vb, _, none⟩) hvb0]; exact (hvc k hlv).2
                  have hfb : fb < wr.heap.size := by have := HBr.out.size; omega
                  have hvb : vb < wr.heap.size := by have := HBr.out.size; omega
                  have HZ := hide (hvc k hlv).1
                  have HST := hide hst
                  clear hcell hst hvc hfc hsz hvn hfb0 hvb0
                  cases he : V[k].toList.isEmpty with
                  | true =>
                    cases hm : x.fields[k].mu with
                    | true =>
                      have HY : Hid (ff (faults x.fields V) 0 = (2, (k : Int))) := faults_hit HL.out hlt hlv (by unfold faultAt; rw [he, hm]; rfl) (by decide) HA.out
                      rw [hm] at c7
                      clear HA
                      go_wp2
                      go_ret2
                      exact ⟨by rw [HX.out, HR.out, HY.out]; rfl, HBr.out⟩
                    | false =>
                      have HY : Hid (faultAt x.fields[k] V[k] = 0) := by unfold Hid faultAt; rw [he, hm]; rfl
                      rw [hm] at c7
                      go_wp2
                      go_roundw
                      case rel => exact ⟨k + 1, by go_num, by omega, HBB.out, fun j h1 h2 hj => by
                                    by_cases e : j = k
                                    · subst e; exact HY.out
                                    · exact HA.out j h1 h2 (by omega)⟩
                      case measure => simp [intOf]; omega
                  | false =>
                    go_wp2
                    go_region_held3 (fun W => (∀ i, W.cell? ⟨w.heap.size, i, none⟩ = (#[.string kind, .string nm, .string team, .slice (some ⟨vb, voff, none⟩) V.length cap, .bool en, .slice a' Ho.length cap', .int .i64 ver] : Array Value)[i]?) ∧ W.cell? ⟨vb, voff + k, none⟩ = some (.string V[k]) ∧ W.cell? ⟨fb, foff + k * 11, none⟩ = some (.string x.fields[k].nm) ∧ W.cell? ⟨fb, foff + k * 11 + 1, none⟩ = some (.int .i64 x.fields[k].kd) ∧ W.cell? ⟨fb, foff + k * 11 + 2, none⟩ = some (.int .i64 x.fields[k].le) ∧ W.cell? ⟨fb, foff + k * 11 + 3, none⟩ = some (.int .i64 x.fields[k].mo) ∧ W.cell? ⟨fb, foff + k * 11 + 4, none⟩ = some (.slice wa wn wcap) ∧ W.cell? ⟨fb, foff + k * 11 + 5, none⟩ = some (.string x.fields[k].to) ∧ W.cell? ⟨fb, foff + k * 11 + 6, none⟩ = some (.int .i64 x.fields[k].ro) ∧ W.cell? ⟨fb, foff + k * 11 + 7, none⟩ = some (.bool x.fields[k].mu) ∧ W.cell? ⟨fb, foff + k * 11 + 8, none⟩ = some (.bool x.fields[k].fx) ∧ W.cell? ⟨fb, foff + k * 11 + 9, none⟩ = some (.string x.fields[k].df) ∧ W.cell? ⟨fb, foff + k * 11 + 10, none⟩ = some (.string x.fields[k].we))
                      (first
                        | (with_reducible exact ⟨hO, hvk, c0, c1, c2, c3, c4, c5, c6, c7, c8, c9, c10⟩)
                        | exact ⟨fun i => (hb4.cell (p := ⟨w.heap.size, i, none⟩) hszr).trans (hO i), (hb4.cell (p := ⟨vb, _, none⟩) hvb).trans hvk, (hb4.cell (p := ⟨fb, _, none⟩) hfb).trans c0, (hb4.cell (p := ⟨fb, _, none⟩) hfb).trans c1, (hb4.cell (p := ⟨fb, _, none⟩) hfb).trans c2, (hb4.cell (p := ⟨fb, _, none⟩) hfb).trans c3, (hb4.cell (p := ⟨fb, _, none⟩) hfb).trans c4, (hb4.cell (p := ⟨fb, _, none⟩) hfb).trans c5, (hb4.cell (p := ⟨fb, _, none⟩) hfb).trans c6, (hb4.cell (p := ⟨fb, _, none⟩) hfb).trans c7, (hb4.cell (p := ⟨fb, _, none⟩) hfb).trans c8, (hb4.cell (p := ⟨fb, _, none⟩) hfb).trans c9, (hb4.cell (p := ⟨fb, _, none⟩) hfb).trans c10⟩
                        | exact ⟨hO, hvk, c0, c1, c2, c3, c4, c5, c6, c7, c8, c9, c10⟩)
                      (first
                        | (go_at_call 33
                           refine (specFits_any _ _ _ _ _ _ _ _ _ _ x.fields[k].words _ _ _ ((HST.out.below HBr.out).below ((Below.refl _ _).drew)) HZ.out).mono ?_
                           rintro e w4 ⟨rfl, hb4'⟩
                           have hb4 : Below wr.heap.size wr w4 := ((Below.refl wr.heap.size wr).drew).trans (hb4'.mono (Nat.le_refl _))
                           clear hb4'))
                    have HB4 := hide hb4
                    have HBw : Hid (Below w.heap.size w w4) := btz HBr.out hb4
                    have HB5 : Hid (Below w5.heap.size w5 w4) := btz HBB.out hb4
                    clear hb4
                    cases hf : fitsB x.fields[k].kd x.fields[k].le x.fields[k].mo x.fields[k].words V[k] with
                    | true =>
                      have HY : Hid (faultAt x.fields[k] V[k] = 0) := by unfold Hid faultAt; rw [he, hf]; rfl
                      go_wp2
                      go_roundw
                      case rel => exact ⟨k + 1, by go_num, by omega, HB5.out, fun j h1 h2 hj => by
                                    by_cases e : j = k
                                    · subst e; exact HY.out
                                    · exact HA.out j h1 h2 (by omega)⟩
                      case measure => simp [intOf]; omega
                    | false =>
                      have HY : Hid (ff (faults x.fields V) 0 = (3, (k : Int))) := faults_hit HL.out hlt hlv (by unfold faultAt; rw [he, hf]; rfl) (by decide) HA.out
                      clear HA
                      go_wp2
                      go_ret2
                      exact ⟨by rw [HX.out, HR.out, HY.out]; rfl, HBw.out⟩
                · have HY : Hid (ff (faults x.fields V) 0 = (0, 0)) := faults_done HL.out (fun j h1 h2 _ => HA.out j h1 h2 (by omega))
                  clear HA
                  go_wp2
                  go_ret2
                  exact ⟨by rw [HX.out, HR.out, HY.out]; rfl, HBr.out⟩
        · have h3d : decide (Ho.length ≤ 3) = false := by simpa using h3
          have h3i : 3 < (Ho.length : Int) := by omega
          have HR : Hid (checkR x.fields nm team V Ho ver = (1, 0)) := by unfold Hid checkR objB; rw [hn, ht, h3d]; simp
          clear h3d
          go_wp2_with (first
            | (go_at_call 29; refine (nameOk_any _ _ (by assumption)).mono ?_; rintro e w' ⟨rfl, rfl⟩)
            | (go_at_call 31; refine (l1Asc_any _ Ho _ (HH.out.below HB1.out)).mono ?_; rintro e w2 ⟨rfl, hb2⟩; have HB2 : Hid (Below w.heap.size w w2) := btz HB1.out hb2; have g2 : ∀ i, w2.cell? ⟨w.heap.size, i, none⟩ = (#[.string kind, .string nm, .string team, .slice a V.length cap, .bool en, .slice a' Ho.length cap', .int .i64 ver] : Array Value)[i]? := (fun i => by rw [hb2.cell (p := ⟨w.heap.size, i, none⟩) hz1]; exact g1 i); clear hb2)
            | (go_at_call 32; refine (in_any _ _ _ _).mono ?_; rintro e w5 ⟨rfl, rfl⟩))
          go_ret2
          exact ⟨by rw [HX.out, HR.out]; rfl, HB1.out⟩
  · have HX := hide (checkS_no (nm := nm) (team := team) (Ho := Ho) (ver := ver) hx)
    clear hx
    go_wp2
    go_ret2
    exact ⟨by rw [HX.out]; rfl, HB1.out⟩
end
end Go.Proofs.YtckdcejbojhlcaaGreatDoor
