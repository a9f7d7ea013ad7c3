import Derived.Test.YtckdcejbojhlcaaGreatDoorE7
namespace Go.Proofs.YtckdcejbojhlcaaGreatDoor
open Go.RowKit Go.Deep

/-- what GateTurned tells -/
def turnG (Ss : List Sh) (k1 n1 t1 k2 n2 t2 : ByteArray) (V Ho U Hu : List ByteArray) (r1 r2 : Int) : Int × Int :=
  match okShapeOf Ss k2 with
  | none => (1, 0)
  | some x => turnR x.fields k1 n1 t1 k2 n2 t2 V Ho U Hu r1 r2
theorem turnG_none {Ss : List Sh} {k1 n1 t1 k2 n2 t2 : ByteArray} {V Ho U Hu : List ByteArray} {r1 r2 : Int} (h : okShapeOf Ss k2 = none) : turnG Ss k1 n1 t1 k2 n2 t2 V Ho U Hu r1 r2 = (1, 0) := by unfold turnG; rw [h]
theorem turnG_some {Ss : List Sh} {k1 n1 t1 k2 n2 t2 : ByteArray} {V Ho U Hu : List ByteArray} {r1 r2 : Int} {x : Sh} (h : okShapeOf Ss k2 = some x) : turnG Ss k1 n1 t1 k2 n2 t2 V Ho U Hu r1 r2 = turnR x.fields k1 n1 t1 k2 n2 t2 V Ho U Hu r1 r2 := by unfold turnG; rw [h]
theorem sameB_kind {k1 n1 t1 k2 n2 t2 : ByteArray} (h : sameB k1 n1 t1 k2 n2 t2 = true) (Ss : List Sh) : okShapeOf Ss k1 = okShapeOf Ss k2 := by
  have e : k1.toList = k2.toList := by unfold sameB at h; simp at h; exact h.1
  unfold okShapeOf shOf
  rw [e]
theorem turnG_diff {Ss : List Sh} {k1 n1 t1 k2 n2 t2 : ByteArray} {V Ho U Hu : List ByteArray} {r1 r2 : Int} (h : sameB k1 n1 t1 k2 n2 t2 = false) : turnG Ss k1 n1 t1 k2 n2 t2 V Ho U Hu r1 r2 = (1, 0) := by
  cases hx : okShapeOf Ss k2 with
  | none => exact turnG_none hx
  | some x => rw [turnG_some hx, turnR_diff h]
theorem turnG_old {Ss : List Sh} {k1 n1 t1 k2 n2 t2 : ByteArray} {V Ho U Hu : List ByteArray} {r1 r2 : Int} (h : ¬ (checkG Ss k1 n1 t1 V Ho r1).1 = 0) : turnG Ss k1 n1 t1 k2 n2 t2 V Ho U Hu r1 r2 = (1, 0) := by
  cases hx : okShapeOf Ss k2 with
  | none => exact turnG_none hx
  | some x =>
    cases hs : sameB k1 n1 t1 k2 n2 t2 with
    | false => exact turnG_diff hs
    | true =>
      rw [checkG_some ((sameB_kind hs Ss).trans hx)] at h
      rw [turnG_some hx, turnR_old h]
theorem turnG_new {Ss : List Sh} {k1 n1 t1 k2 n2 t2 : ByteArray} {V Ho U Hu : List ByteArray} {r1 r2 : Int} (h : ¬ (checkG Ss k2 n2 t2 U Hu r2).1 = 0) : turnG Ss k1 n1 t1 k2 n2 t2 V Ho U Hu r1 r2 = (1, 0) := by
  cases hx : okShapeOf Ss k2 with
  | none => exact turnG_none hx
  | some x =>
    rw [checkG_some hx] at h
    rw [turnG_some hx, turnR_new h]
theorem checkG_shape {Ss : List Sh} {kind nm team : ByteArray} {V Ho : List ByteArray} {ver : Int} (h : (checkG Ss kind nm team V Ho ver).1 = 0) : ∃ x, okShapeOf Ss kind = some x ∧ shOf Ss kind = some x ∧ (checkR x.fields nm team V Ho ver).1 = 0 := by
  cases hx : okShapeOf Ss kind with
  | none => rw [checkG_none hx] at h; exact absurd h (by decide)
  | some x =>
    rw [checkG_some hx] at h
    refine ⟨x, rfl, ?_, h⟩
    unfold okShapeOf at hx
    by_cases hb : shapesB Ss = true
    · rw [if_pos hb] at hx; exact hx
    · rw [if_neg hb] at hx; cases hx

section
variable (k1 n1 t1 k2 n2 t2 : ByteArray) (vv hv uu gu sv : Value) (e1 e2 : Bool) (r1 r2 : Int) (V Ho U Hu : List ByteArray) (Ss : List Sh) (w : World) (lo : Nat)
set_option maxRecDepth 20000 in
set_option maxHeartbeats 4000000 in
theorem implTurned_any (hS : ShsAt lo w sv Ss) (hV : StrsAt w vv V) (hH : StrsAt w hv Ho) (hU : StrsAt w uu U) (hG : StrsAt w gu Hu) (s1 : n1.size ≤ maxLen) (s2 : t1.size ≤ maxLen) (s3 : n2.size ≤ maxLen) (s4 : t2.size ≤ maxLen) (hg : Laid w) :
    Calls Tryz.prog 14 #[sv, .agg #[.string k1, .string n1, .string t1, vv, .bool e1, hv, .int .i64 r1], .agg #[.string k2, .string n2, .string t2, uu, .bool e2, gu, .int .i64 r2]] w
      fun e w' => e = .returned (.tuple #[.int .i64 (turnG Ss k1 n1 t1 k2 n2 t2 V Ho U Hu r1 r2).1, .int .i64 (turnG Ss k1 n1 t1 k2 n2 t2 V Ho U Hu r1 r2).2]) ∧ Below w.heap.size w w' := by
  have HV := hide hV
  have HH := hide hH
  have HU := hide hU
  have HGu := hide hG
  have HS := hide hS
  have HG := hide hg
  obtain ⟨a, cap, rfl⟩ := hV.formz
  obtain ⟨a', cap', rfl⟩ := hH.formz
  obtain ⟨b, dap, rfl⟩ := hU.formz
  obtain ⟨b', dap', rfl⟩ := hG.formz
  obtain ⟨a1, cap1, rfl⟩ := hS.form
  clear hV hH hU hG hS hg
  go_enter Tryz.func14, Tryz.ntmps14
  go_wp2_with fail
  generalize hW0 : (w.alloc _).alloc _ = W0
  have HB0 : Hid (Below w.heap.size w W0) := by rw [← hW0]; exact ((Below.refl _ _).alloc (Nat.le_refl _) _).alloc (by simp) _
  have hz0 : w.heap.size + 1 < W0.heap.size := by rw [← hW0]; simp
  have G1 : Hid (∀ i, W0.cell? ⟨w.heap.size, i, none⟩ = (#[.string k1, .string n1, .string t1, .slice a V.length cap, .bool e1, .slice a' Ho.length cap', .int .i64 r1] : Array Value)[i]?) := fun i => by
    rw [← hW0, World.cell?_alloc_lt _ _ _ (by simp)]; exact new_cell _ _ _ _ _ rfl
  have G2 : Hid (∀ i, W0.cell? ⟨w.heap.size + 1, i, none⟩ = (#[.string k2, .string n2, .string t2, .slice b U.length dap, .bool e2, .slice b' Hu.length dap', .int .i64 r2] : Array Value)[i]?) := fun i => by
    rw [← hW0]; exact new_cell _ _ _ _ _ (by simp)
  clear hW0
  refine (okShapeOf_any lo _ Ss k2 _ (HS.out.below HB0.out)).mono ?_
  rintro e w1 ⟨hb1, hsh⟩
  have HB1 : Hid (Below w.heap.size w w1) := btz HB0.out hb1
  have hz1 : w.heap.size + 1 < w1.heap.size := Nat.lt_of_lt_of_le hz0 hb1.size
  have hz1' : w.heap.size < w1.heap.size := by omega
  have g1 : ∀ i, w1.cell? ⟨w.heap.size, i, none⟩ = (#[.string k1, .string n1, .string t1, .slice a V.length cap, .bool e1, .slice a' Ho.length cap', .int .i64 r1] : Array Value)[i]? := fun i => (hb1.cell (p := ⟨w.heap.size, i, none⟩) (by simp only []; omega)).trans (G1.out i)
  have g2 : ∀ i, w1.cell? ⟨w.heap.size + 1, i, none⟩ = (#[.string k2, .string n2, .string t2, .slice b U.length dap, .bool e2, .slice b' Hu.length dap', .int .i64 r2] : Array Value)[i]? := fun i => (hb1.cell (p := ⟨w.heap.size + 1, i, none⟩) (by simp only []; omega)).trans (G2.out i)
  rcases hsh with ⟨x, fv, hx, rfl, hfd⟩ | ⟨hx, rfl⟩
  · obtain ⟨fa, fcap, rfl⟩ := hfd.form
    have HF := hide (hfd.below hb1)
    have HX := hide hx
    clear hx hfd hb1 G1 G2
    go_wp2_with fail
    generalize hW1 : w1.alloc _ = W1
    have HC1 : Hid (Below w1.heap.size w1 W1) := by rw [← hW1]; exact oneAl _ _
    have HB2 : Hid (Below w.heap.size w W1) := btz HB1.out HC1.out
    clear hW1
    refine (checkTurn_any _ _ _ _ _ _ _ _ _ _ _ _ _ _ _ _ V Ho U Hu x.fields _ lo (HV.out.below HB2.out) (HH.out.below HB2.out) (HU.out.below HB2.out) (HGu.out.below HB2.out) (HF.out.below HC1.out) s1 s2 s3 s4).mono ?_
    rintro e w3 ⟨rfl, hb3⟩
    have HB3 : Hid (Below w.heap.size w w3) := btz HB2.out hb3
    clear hb3 g1 g2
    go_wp2_with fail
    refine (faultOf_any _ turnR_zero _ (HG.out.on HB3.out)).mono ?_
    rintro e w4 ⟨rfl, hb4⟩
    have HB4 : Hid (Below w.heap.size w w4) := btz HB3.out hb4
    rw [← turnG_some HX.out]
    clear hb4 HX
    go_wp2
    go_ret2
    exact ⟨rfl, HB4.out⟩
  · have HX : Hid (turnG Ss k1 n1 t1 k2 n2 t2 V Ho U Hu r1 r2 = (1, 0)) := turnG_none hx
    clear hx hb1 G1 G2
    go_wp2
    go_ret2
    exact ⟨by rw [HX.out]; rfl, btz HB1.out (oneAl _ _)⟩

set_option maxRecDepth 20000 in
set_option maxHeartbeats 4000000 in
theorem specTurned_any (hS : ShsAt lo w sv Ss) (hV : StrsAt w vv V) (hH : StrsAt w hv Ho) (hU : StrsAt w uu U) (hG : StrsAt w gu Hu) (s1 : n1.size ≤ maxLen) (s2 : t1.size ≤ maxLen) (s3 : n2.size ≤ maxLen) (s4 : t2.size ≤ maxLen) :
    Calls Tryz.prog 13 #[sv, .agg #[.string k1, .string n1, .string t1, vv, .bool e1, hv, .int .i64 r1], .agg #[.string k2, .string n2, .string t2, uu, .bool e2, gu, .int .i64 r2]] w
      fun e w' => e = .returned (.tuple #[.int .i64 (turnG Ss k1 n1 t1 k2 n2 t2 V Ho U Hu r1 r2).1, .int .i64 (turnG Ss k1 n1 t1 k2 n2 t2 V Ho U Hu r1 r2).2]) ∧ Below w.heap.size w w' := by
  have HV := hide hV
  have HH := hide hH
  have HU := hide hU
  have HGu := hide hG
  have HS := hide hS
  obtain ⟨a, cap, rfl⟩ := hV.formz
  obtain ⟨a', cap', rfl⟩ := hH.formz
  obtain ⟨b, dap, rfl⟩ := hU.formz
  obtain ⟨b', dap', rfl⟩ := hG.formz
  obtain ⟨a1, cap1, rfl⟩ := hS.form
  clear hV hH hU hG hS
  generalize hQ1 : (turnG Ss k1 n1 t1 k2 n2 t2 V Ho U Hu r1 r2).1 = Q1
  generalize hQ2 : (turnG Ss k1 n1 t1 k2 n2 t2 V Ho U Hu r1 r2).2 = Q2
  have HQ1 := hide hQ1
  have HQ2 := hide hQ2
  clear hQ1 hQ2
  go_enter Tryz.func13, Tryz.ntmps13
  go_wp2_with fail
  generalize hW0 : (w.alloc _).alloc _ = W0
  have HB0 : Hid (Below w.heap.size w W0) := by rw [← hW0]; exact ((Below.refl _ _).alloc (Nat.le_refl _) _).alloc (by simp) _
  have hz0 : w.heap.size + 1 < W0.heap.size := by rw [← hW0]; simp
  have G1 : Hid (∀ i, W0.cell? ⟨w.heap.size, i, none⟩ = (#[.string k1, .string n1, .string t1, .slice a V.length cap, .bool e1, .slice a' Ho.length cap', .int .i64 r1] : Array Value)[i]?) := fun i => by
    rw [← hW0, World.cell?_alloc_lt _ _ _ (by simp)]; exact new_cell _ _ _ _ _ rfl
  have G2 : Hid (∀ i, W0.cell? ⟨w.heap.size + 1, i, none⟩ = (#[.string k2, .string n2, .string t2, .slice b U.length dap, .bool e2, .slice b' Hu.length dap', .int .i64 r2] : Array Value)[i]?) := fun i => by
    rw [← hW0]; exact new_cell _ _ _ _ _ (by simp)
  clear hW0
  refine (specCheck_any _ _ _ _ _ _ _ _ V Ho Ss _ lo (HS.out.below HB0.out) (HV.out.below HB0.out) (HH.out.below HB0.out) s1 s2).mono ?_
  rintro e w1 ⟨rfl, hb1⟩
  have HB1 : Hid (Below w.heap.size w w1) := btz HB0.out hb1
  have hz1 : w.heap.size + 1 < w1.heap.size := Nat.lt_of_lt_of_le hz0 hb1.size
  have G1 : Hid (∀ i, w1.cell? ⟨w.heap.size, i, none⟩ = (#[.string k1, .string n1, .string t1, .slice a V.length cap, .bool e1, .slice a' Ho.length cap', .int .i64 r1] : Array Value)[i]?) := fun i => (hb1.cell (p := ⟨w.heap.size, i, none⟩) (by simp only []; omega)).trans (G1.out i)
  have G2 : Hid (∀ i, w1.cell? ⟨w.heap.size + 1, i, none⟩ = (#[.string k2, .string n2, .string t2, .slice b U.length dap, .bool e2, .slice b' Hu.length dap', .int .i64 r2] : Array Value)[i]?) := fun i => (hb1.cell (p := ⟨w.heap.size + 1, i, none⟩) (by simp only []; omega)).trans (G2.out i)
  clear hb1 HB0 hz0
  generalize hA1 : (checkG Ss k1 n1 t1 V Ho r1).1 = A1
  generalize (checkG Ss k1 n1 t1 V Ho r1).2 = A2
  have HA1 := hide hA1
  clear hA1
  have q2 := G2.out
  go_wp2_with fail
  refine (specCheck_any _ _ _ _ _ _ _ _ U Hu Ss _ lo (HS.out.below HB1.out) (HU.out.below HB1.out) (HGu.out.below HB1.out) s3 s4).mono ?_
  rintro e w2 ⟨rfl, hb1⟩
  have HB2 : Hid (Below w.heap.size w w2) := btz HB1.out hb1
  have hz2 : w.heap.size + 1 < w2.heap.size := Nat.lt_of_lt_of_le hz1 hb1.size
  have G1 : Hid (∀ i, w2.cell? ⟨w.heap.size, i, none⟩ = (#[.string k1, .string n1, .string t1, .slice a V.length cap, .bool e1, .slice a' Ho.length cap', .int .i64 r1] : Array Value)[i]?) := fun i => (hb1.cell (p := ⟨w.heap.size, i, none⟩) (by simp only []; omega)).trans (G1.out i)
  have G2 : Hid (∀ i, w2.cell? ⟨w.heap.size + 1, i, none⟩ = (#[.string k2, .string n2, .string t2, .slice b U.length dap, .bool e2, .slice b' Hu.length dap', .int .i64 r2] : Array Value)[i]?) := fun i => (hb1.cell (p := ⟨w.heap.size + 1, i, none⟩) (by simp only []; omega)).trans (G2.out i)
  clear hb1 HB1 hz1 q2
  generalize hB1 : (checkG Ss k2 n2 t2 U Hu r2).1 = B1
  generalize (checkG Ss k2 n2 t2 U Hu r2).2 = B2
  have HC1 := hide hB1
  clear hB1
  have q1 := G1.out
  have q2 := G2.out
  by_cases hA : A1 = 0
  · by_cases hB : B1 = 0
    · obtain ⟨x, hx, hxs, hxc⟩ := checkG_shape (HC1.out.trans hB)
      have HXX := hide hx
      have HXS := hide hxs
      have HXC := hide hxc
      have HL2 : Hid (U.length = x.fields.length) := checkR_len hxc
      clear hx hxs hxc
      cases hs : sameB k1 n1 t1 k2 n2 t2 with
      | false =>
        have HQ : Hid (Q1 = 1 ∧ Q2 = 0) := by unfold Hid; rw [← HQ1.out, ← HQ2.out, turnG_diff hs]; exact ⟨rfl, rfl⟩
        cases he1 : (k1.toList == k2.toList) with
        | false =>
          clear hs
          go_wp2
          go_ret2
          exact ⟨by rw [HQ.out.1, HQ.out.2]; rfl, HB2.out⟩
        | true =>
          cases he2 : (n1.toList == n2.toList) with
          | false =>
            clear hs
            go_wp2
            go_ret2
            exact ⟨by rw [HQ.out.1, HQ.out.2]; rfl, HB2.out⟩
          | true =>
            have he3 : (t1.toList == t2.toList) = false := by unfold sameB at hs; rw [he1, he2] at hs; simpa using hs
            clear hs
            go_wp2
            go_ret2
            exact ⟨by rw [HQ.out.1, HQ.out.2]; rfl, HB2.out⟩
      | true =>
        have hxo : (checkR x.fields n1 t1 V Ho r1).1 = 0 := by rw [← checkG_some ((sameB_kind hs Ss).trans HXX.out), HA1.out]; exact hA
        have HL1 : Hid (V.length = x.fields.length) := checkR_len hxo
        have HQ : Hid (Q1 = (ff (turns x.fields V U) 0).1 ∧ Q2 = (ff (turns x.fields V U) 0).2) := by unfold Hid; rw [← HQ1.out, ← HQ2.out, turnG_some HXX.out, turnR_both hs hxo HXC.out]; exact ⟨rfl, rfl⟩
        have hs1 : (k1.toList == k2.toList) = true := by unfold sameB at hs; simp at hs; simpa using hs.1
        have hs2 : (n1.toList == n2.toList) = true := by unfold sameB at hs; simp at hs; simpa using hs.2.1
        have hs3 : (t1.toList == t2.toList) = true := by unfold sameB at hs; simp at hs; simpa using hs.2.2
        clear hs hxo HXX HXC HQ1 HQ2 HA1 HC1
        go_wp2_with fail
        refine (l2Fields_any _ _ _ _ _ _ _ _ U Hu Ss _ lo w HS.out HB2.out (HU.out.below HB2.out) (HGu.out.below HB2.out)).mono ?_
        rintro e w3 ⟨hb3, hsh⟩
        have HB3 : Hid (Below w.heap.size w w3) := btz HB2.out hb3
        have hz3 : w.heap.size + 1 < w3.heap.size := Nat.lt_of_lt_of_le hz2 hb3.size
        have G1 : Hid (∀ i, w3.cell? ⟨w.heap.size, i, none⟩ = (#[.string k1, .string n1, .string t1, .slice a V.length cap, .bool e1, .slice a' Ho.length cap', .int .i64 r1] : Array Value)[i]?) := fun i => (hb3.cell (p := ⟨w.heap.size, i, none⟩) (by simp only []; omega)).trans (G1.out i)
        have G2 : Hid (∀ i, w3.cell? ⟨w.heap.size + 1, i, none⟩ = (#[.string k2, .string n2, .string t2, .slice b U.length dap, .bool e2, .slice b' Hu.length dap', .int .i64 r2] : Array Value)[i]?) := fun i => (hb3.cell (p := ⟨w.heap.size + 1, i, none⟩) (by simp only []; omega)).trans (G2.out i)
        clear hb3 q1 q2 hs1 hs2 hs3
        rcases hsh with ⟨x', fv, hx, hlen, rfl, hfd⟩ | ⟨hx, fa, fcap, rfl⟩
        · obtain rfl : x' = x := Option.some.inj (hx.symm.trans HXS.out)
          obtain ⟨fa, fcap, rfl⟩ := hfd.form
          have HF := hide hfd
          have hn := hfd.len
          unfold maxLen at hn
          clear hx hfd hlen HXS
          go_wp2
          go_loopw [14] (fun i wr => ∃ k : Nat, i = .int .i64 k ∧ k ≤ x'.fields.length ∧ Below w3.heap.size w3 wr ∧ ∀ j (h1 : j < x'.fields.length) (h2 : j < V.length) (h3 : j < U.length), j < k → turnAt x'.fields[j] V[j] U[j] = 0) (fun i _ => x'.fields.length - (intOf i).toNat)
          case atStart => exact ⟨0, rfl, by omega, Below.refl _ _, fun j _ _ _ h => by omega⟩
          case round =>
            obtain ⟨k, rfl, hk, hb, hall⟩ := hrel
            have HA := hide hall
            have HBB := hide hb
            have hszr : w.heap.size + 1 < wr.heap.size := Nat.lt_of_lt_of_le hz3 hb.size
            have hszs : w.heap.size < wr.heap.size := by omega
            have HBr : Hid (Below w.heap.size w wr) := btz HB3.out hb
            have hO : ∀ i, wr.cell? ⟨w.heap.size, i, none⟩ = (#[.string k1, .string n1, .string t1, .slice a V.length cap, .bool e1, .slice a' Ho.length cap', .int .i64 r1] : Array Value)[i]? := fun i => by
              rw [hb.cell (p := ⟨w.heap.size, i, none⟩) (by simp only []; omega)]; exact G1.out i
            have hN : ∀ i, wr.cell? ⟨w.heap.size + 1, i, none⟩ = (#[.string k2, .string n2, .string t2, .slice b U.length dap, .bool e2, .slice b' Hu.length dap', .int .i64 r2] : Array Value)[i]? := fun i => by
              rw [hb.cell (p := ⟨w.heap.size + 1, i, none⟩) (by simp only []; omega)]; exact G2.out i
            clear hb hall
            by_cases hlt : k < x'.fields.length
            · have hlv : k < V.length := by have := HL1.out; omega
              have hlu : k < U.length := by have := HL2.out; omega
              obtain ⟨fb, foff, rfl, hfb0, hfc⟩ := HF.out.fullz (by omega)
              obtain ⟨hsz, wv, hcell, hst⟩ := hfc k hlt
              obtain ⟨c0, c1, c2, c3, c4, c5, c6, c7, c8, c9, c10⟩ := hcell.below HBr.out hfb0
              obtain ⟨wa, wn, wcap, rfl⟩ := hst.form
              obtain ⟨vb, voff, rfl, hvn, hvb0, hvc⟩ := HV.out.fullz (by omega)
              obtain ⟨ub, uoff, rfl, hun, hub0, huc⟩ := HU.out.fullz (by omega)
              have hvk : wr.cell? ⟨vb, voff + k, none⟩ = some (.string V[k]) := by rw [HBr.out.cell (p := ⟨vb, _, none⟩) hvb0]; exact (hvc k hlv).2
              have huk : wr.cell? ⟨ub, uoff + k, none⟩ = some (.string U[k]) := by rw [HBr.out.cell (p := ⟨ub, _, none⟩) hub0]; exact (huc k hlu).2
              have hfb : fb < wr.heap.size := by have := HBr.out.size; omega
              have hvb : vb < wr.heap.size := by have := HBr.out.size; omega
              have hub : ub < wr.heap.size := by have := HBr.out.size; omega
              clear hcell hst hvc hfc hsz hvn hfb0 hvb0 huc hun hub0
              cases hx : x'.fields[k].fx with
              | false =>
                have HY : Hid (turnAt x'.fields[k] V[k] U[k] = 0) := by unfold Hid turnAt; rw [hx]; rfl
                rw [hx] at c8
                go_wp2
                go_quiet (fail)
                go_wp2
                go_roundw
                case rel => exact ⟨k + 1, by go_num, by omega, below_drewN HBB.out _, fun j h1 h2 h3 hj => by
                              by_cases e : j = k
                              · subst e; exact HY.out
                              · exact HA.out j h1 h2 h3 (by omega)⟩
                case measure => simp [intOf]; omega
              | true =>
                rw [hx] at c8
                cases he : V[k].toList.isEmpty with
                | true =>
                  have HY : Hid (turnAt x'.fields[k] V[k] U[k] = 0) := by unfold Hid turnAt; rw [hx, he]; rfl
                  go_wp2
                  go_quiet (fail)
                  go_wp2
                  go_roundw
                  case rel => exact ⟨k + 1, by go_num, by omega, below_drewN HBB.out _, fun j h1 h2 h3 hj => by
                                by_cases e : j = k
                                · subst e; exact HY.out
                                · exact HA.out j h1 h2 h3 (by omega)⟩
                  case measure => simp [intOf]; omega
                | false =>
                  cases hv : (V[k].toList == U[k].toList) with
                  | true =>
                    have HY : Hid (turnAt x'.fields[k] V[k] U[k] = 0) := by unfold Hid turnAt; rw [hx, he, hv]; rfl
                    go_wp2
                    go_quiet (fail)
                    go_wp2
                    go_roundw
                    case rel => exact ⟨k + 1, by go_num, by omega, below_drewN HBB.out _, fun j h1 h2 h3 hj => by
                                  by_cases e : j = k
                                  · subst e; exact HY.out
                                  · exact HA.out j h1 h2 h3 (by omega)⟩
                    case measure => simp [intOf]; omega
                  | false =>
                    have HY : Hid (ff (turns x'.fields V U) 0 = (4, (k : Int))) := turns_hit HL1.out HL2.out hlt hlv hlu (by unfold turnAt; rw [hx, he, hv]; rfl) (by decide) HA.out
                    clear HA
                    go_wp2
                    go_quiet (fail)
                    go_wp2
                    go_ret2
                    exact ⟨by rw [HQ.out.1, HQ.out.2, HY.out]; rfl, below_drewN HBr.out _⟩
            · have HY : Hid (ff (turns x'.fields V U) 0 = (0, 0)) := turns_done HL1.out HL2.out (fun j h1 h2 h3 _ => HA.out j h1 h2 h3 (by omega))
              clear HA
              go_wp2
              go_ret2
              exact ⟨by rw [HQ.out.1, HQ.out.2, HY.out]; rfl, HBr.out⟩
        · exact absurd HL2.out.symm (hx x HXS.out)
    · have HQ : Hid (Q1 = 1 ∧ Q2 = 0) := by unfold Hid; rw [← HQ1.out, ← HQ2.out, turnG_new (by rw [HC1.out]; exact hB)]; exact ⟨rfl, rfl⟩
      go_wp2
      go_ret2
      exact ⟨by rw [HQ.out.1, HQ.out.2]; rfl, HB2.out⟩
  · have HQ : Hid (Q1 = 1 ∧ Q2 = 0) := by unfold Hid; rw [← HQ1.out, ← HQ2.out, turnG_old (by rw [HA1.out]; exact hA)]; exact ⟨rfl, rfl⟩
    go_wp2
    go_ret2
    exact ⟨by rw [HQ.out.1, HQ.out.2]; rfl, HB2.out⟩
end
end Go.Proofs.YtckdcejbojhlcaaGreatDoor
