import Derived.Test.YtckdcejbojhlcaaGreatDoorE6
namespace Go.Proofs.YtckdcejbojhlcaaGreatDoor
open Go.RowKit Go.Deep

/-- a fixed field that would be turned -/
def turnAt (f : Fd) (u v : ByteArray) : Int := if f.fx = true then (if u.toList.isEmpty = true then 0 else if (u.toList == v.toList) = true then 0 else 4) else 0
def turns (Fs : List Fd) (V U : List ByteArray) : List Int := List.zipWith (fun f (p : ByteArray × ByteArray) => turnAt f p.1 p.2) Fs (List.zip V U)
theorem turns_len {Fs : List Fd} {V U : List ByteArray} (h : V.length = Fs.length) (h' : U.length = Fs.length) : (turns Fs V U).length = Fs.length := by simp [turns, h, h']
theorem turns_get {Fs : List Fd} {V U : List ByteArray} {i : Nat} (h : i < (turns Fs V U).length) (h1 : i < Fs.length) (h2 : i < V.length) (h3 : i < U.length) : (turns Fs V U)[i] = turnAt Fs[i] V[i] U[i] := by simp [turns]
theorem turns_done {Fs : List Fd} {V U : List ByteArray} (hl : V.length = Fs.length) (hl' : U.length = Fs.length) (h : ∀ j (h1 : j < Fs.length) (h2 : j < V.length) (h3 : j < U.length), j < Fs.length → turnAt Fs[j] V[j] U[j] = 0) : ff (turns Fs V U) 0 = (0, 0) :=
  ff_all _ _ fun k hk => by
    have hk' : k < Fs.length := by rw [turns_len hl hl'] at hk; exact hk
    rw [turns_get hk hk' (by omega) (by omega)]; exact h k _ _ _ hk'
theorem turns_hit {Fs : List Fd} {V U : List ByteArray} (hl : V.length = Fs.length) (hl' : U.length = Fs.length) {k : Nat} {c : Int} (h1 : k < Fs.length) (h2 : k < V.length) (h3 : k < U.length) (hc : turnAt Fs[k] V[k] U[k] = c) (h0 : c ≠ 0) (h : ∀ j (h1 : j < Fs.length) (h2 : j < V.length) (h3 : j < U.length), j < k → turnAt Fs[j] V[j] U[j] = 0) : ff (turns Fs V U) 0 = (c, (k : Int)) := by
  have hk : k < (turns Fs V U).length := by rw [turns_len hl hl']; exact h1
  have e : (turns Fs V U)[k] = c := by rw [turns_get hk h1 h2 h3]; exact hc
  rw [ff_hit _ 0 k hk (by rw [e]; exact h0) (fun j hj hjk => by rw [turns_get hj (by rw [turns_len hl hl'] at hj; exact hj) (by omega) (by omega)]; exact h j _ _ _ hjk), e, Nat.zero_add]

def sameB (k1 n1 t1 k2 n2 t2 : ByteArray) : Bool := (k1.toList == k2.toList) && ((n1.toList == n2.toList) && (t1.toList == t2.toList))
/-- what gateCheckTurn tells -/
def turnR (Fs : List Fd) (k1 n1 t1 k2 n2 t2 : ByteArray) (V Ho U Hu : List ByteArray) (r1 r2 : Int) : Int × Int :=
  if sameB k1 n1 t1 k2 n2 t2 = true then (if (checkR Fs n1 t1 V Ho r1).1 = 0 then (if (checkR Fs n2 t2 U Hu r2).1 = 0 then ff (turns Fs V U) 0 else (1, 0)) else (1, 0)) else (1, 0)
theorem turnR_diff {Fs : List Fd} {k1 n1 t1 k2 n2 t2 : ByteArray} {V Ho U Hu : List ByteArray} {r1 r2 : Int} (h : sameB k1 n1 t1 k2 n2 t2 = false) : turnR Fs k1 n1 t1 k2 n2 t2 V Ho U Hu r1 r2 = (1, 0) := by unfold turnR; rw [h]; rfl
theorem turnR_old {Fs : List Fd} {k1 n1 t1 k2 n2 t2 : ByteArray} {V Ho U Hu : List ByteArray} {r1 r2 : Int} (h : ¬ (checkR Fs n1 t1 V Ho r1).1 = 0) : turnR Fs k1 n1 t1 k2 n2 t2 V Ho U Hu r1 r2 = (1, 0) := by unfold turnR; rw [if_neg h]; simp
theorem turnR_new {Fs : List Fd} {k1 n1 t1 k2 n2 t2 : ByteArray} {V Ho U Hu : List ByteArray} {r1 r2 : Int} (h : ¬ (checkR Fs n2 t2 U Hu r2).1 = 0) : turnR Fs k1 n1 t1 k2 n2 t2 V Ho U Hu r1 r2 = (1, 0) := by unfold turnR; rw [if_neg h]; simp
theorem turnR_both {Fs : List Fd} {k1 n1 t1 k2 n2 t2 : ByteArray} {V Ho U Hu : List ByteArray} {r1 r2 : Int} (h : sameB k1 n1 t1 k2 n2 t2 = true) (h1 : (checkR Fs n1 t1 V Ho r1).1 = 0) (h2 : (checkR Fs n2 t2 U Hu r2).1 = 0) : turnR Fs k1 n1 t1 k2 n2 t2 V Ho U Hu r1 r2 = ff (turns Fs V U) 0 := by unfold turnR; rw [h, if_pos rfl, if_pos h1, if_pos h2]
theorem checkR_len {Fs : List Fd} {nm team : ByteArray} {V Ho : List ByteArray} {ver : Int} (h : (checkR Fs nm team V Ho ver).1 = 0) : V.length = Fs.length := by
  unfold checkR at h
  by_cases hb : objB Fs nm team V Ho ver = true
  · unfold objB at hb; simp at hb; exact hb.2.1
  · rw [if_neg hb] at h; exact absurd h (by decide)
theorem turnR_zero {Fs : List Fd} {k1 n1 t1 k2 n2 t2 : ByteArray} {V Ho U Hu : List ByteArray} {r1 r2 : Int} (h : (turnR Fs k1 n1 t1 k2 n2 t2 V Ho U Hu r1 r2).1 = 0) : (turnR Fs k1 n1 t1 k2 n2 t2 V Ho U Hu r1 r2).2 = 0 := by
  cases hs : sameB k1 n1 t1 k2 n2 t2 with
  | false => rw [turnR_diff hs]
  | true =>
    by_cases h1 : (checkR Fs n1 t1 V Ho r1).1 = 0
    · by_cases h2 : (checkR Fs n2 t2 U Hu r2).1 = 0
      · rw [turnR_both hs h1 h2] at h ⊢; rw [ff_zero _ _ h]
      · rw [turnR_new h2]
    · rw [turnR_old h1]
theorem errOf_none {r : Int × Int} (h : r.1 = 0) : errOf r = .nilIface := if_pos h
theorem errOf_some {r : Int × Int} (h : ¬ r.1 = 0) : errOf r = .iface 71 (.agg #[.int .i64 r.1, .int .i64 r.2]) := if_neg h

section
variable (kd k1 n1 t1 k2 n2 t2 : ByteArray) (vv hv uu gu fv : Value) (e1 e2 : Bool) (r1 r2 : Int) (V Ho U Hu : List ByteArray) (Fs : List Fd) (w : World) (lo : Nat)
set_option maxRecDepth 20000 in
set_option maxHeartbeats 4000000 in
theorem checkTurn_any (hV : StrsAt w vv V) (hH : StrsAt w hv Ho) (hU : StrsAt w uu U) (hG : StrsAt w gu Hu) (hF : FdsAt lo w fv Fs) (s1 : n1.size ≤ maxLen) (s2 : t1.size ≤ maxLen) (s3 : n2.size ≤ maxLen) (s4 : t2.size ≤ maxLen) :
    Calls Tryz.prog 27 #[.agg #[.string kd, fv], .agg #[.string k1, .string n1, .string t1, vv, .bool e1, hv, .int .i64 r1], .agg #[.string k2, .string n2, .string t2, uu, .bool e2, gu, .int .i64 r2]] w
      fun e w' => e = .returned (errOf (turnR Fs k1 n1 t1 k2 n2 t2 V Ho U Hu r1 r2)) ∧ Below w.heap.size w w' := by
  have HV := hide hV
  have HH := hide hH
  have HU := hide hU
  have HG := hide hG
  have HF := hide hF
  obtain ⟨a, cap, rfl⟩ := hV.formz
  obtain ⟨a', cap', rfl⟩ := hH.formz
  obtain ⟨b, dap, rfl⟩ := hU.formz
  obtain ⟨b', dap', rfl⟩ := hG.formz
  obtain ⟨a1, cap1, rfl⟩ := hF.form
  have hn := hF.len
  unfold maxLen at hn
  clear hV hH hU hG hF
  generalize hQ : errOf (turnR Fs k1 n1 t1 k2 n2 t2 V Ho U Hu r1 r2) = Q
  have HQ := hide hQ
  clear hQ
  have HW : ∀ o o' o'', Hid (Below w.heap.size w (((w.alloc o).alloc o').alloc o'')) := fun o o' o'' => (((Below.refl _ _).alloc (Nat.le_refl _) _).alloc (by simp) _).alloc (by simp; omega) _
  go_enter Tryz.func27, Tryz.ntmps27
  cases hs : sameB k1 n1 t1 k2 n2 t2 with
  | false =>
    have HQ' : Hid (Q = .iface 71 (.agg #[.int .i64 1, .int .i64 0])) := by unfold Hid; rw [← HQ.out, turnR_diff hs]; rfl
    clear HQ
    cases he1 : (k1.toList == k2.toList) with
    | false =>
      clear hs
      go_wp2
      go_ret
      exact ⟨by rw [HQ'.out]; rfl, (HW _ _ _).out⟩
    | true =>
      cases he2 : (n1.toList == n2.toList) with
      | false =>
        clear hs
        go_wp2
        go_ret
        exact ⟨by rw [HQ'.out]; rfl, (HW _ _ _).out⟩
      | true =>
        have he3 : (t1.toList == t2.toList) = false := by unfold sameB at hs; rw [he1, he2] at hs; simpa using hs
        clear hs
        go_wp2
        go_ret
        exact ⟨by rw [HQ'.out]; rfl, (HW _ _ _).out⟩
  | true =>
    have hs1 : (k1.toList == k2.toList) = true := by unfold sameB at hs; simp at hs; simpa using hs.1
    have hs2 : (n1.toList == n2.toList) = true := by unfold sameB at hs; simp at hs; simpa using hs.2.1
    have hs3 : (t1.toList == t2.toList) = true := by unfold sameB at hs; simp at hs; simpa using hs.2.2
    have HS := hide hs
    clear hs
    go_wp2_with fail
    generalize hW0 : ((w.alloc _).alloc _).alloc _ = W0
    have HB0 : Hid (Below w.heap.size w W0) := by rw [← hW0]; exact (HW _ _ _).out
    have hz0 : w.heap.size + 1 + 1 < W0.heap.size := by rw [← hW0]; simp
    have G0 : Hid (∀ i, W0.cell? ⟨w.heap.size, i, none⟩ = (#[.string kd, .slice a1 Fs.length cap1] : Array Value)[i]?) := fun i => by
      rw [← hW0, World.cell?_alloc_lt _ _ _ (by simp; omega), World.cell?_alloc_lt _ _ _ (by simp)]; simp
    have G1 : Hid (∀ i, W0.cell? ⟨w.heap.size + 1, i, none⟩ = (#[.string k1, .string n1, .string t1, .slice a V.length cap, .bool e1, .slice a' Ho.length cap', .int .i64 r1] : Array Value)[i]?) := fun i => by
      rw [← hW0, World.cell?_alloc_lt _ _ _ (by simp)]; exact new_cell _ _ _ _ _ (by simp)
    have G2 : Hid (∀ i, W0.cell? ⟨w.heap.size + 1 + 1, i, none⟩ = (#[.string k2, .string n2, .string t2, .slice b U.length dap, .bool e2, .slice b' Hu.length dap', .int .i64 r2] : Array Value)[i]?) := fun i => by
      rw [← hW0]; exact new_cell _ _ _ _ _ (by simp)
    clear hW0 hs1 hs2 hs3
    refine (checkObject_any _ _ _ _ _ _ _ _ _ V Ho Fs _ lo (HV.out.below HB0.out) (HH.out.below HB0.out) (HF.out.below HB0.out) s1 s2).mono ?_
    rintro e w1 ⟨he, hb1⟩
    have HB1 : Hid (Below w.heap.size w w1) := btz HB0.out hb1
    have hz1 : w.heap.size + 1 + 1 < w1.heap.size := Nat.lt_of_lt_of_le hz0 hb1.size
    have G0 : Hid (∀ i, w1.cell? ⟨w.heap.size, i, none⟩ = (#[.string kd, .slice a1 Fs.length cap1] : Array Value)[i]?) := fun i => (hb1.cell (p := ⟨w.heap.size, i, none⟩) (by simp only []; omega)).trans (G0.out i)
    have G1 : Hid (∀ i, w1.cell? ⟨w.heap.size + 1, i, none⟩ = (#[.string k1, .string n1, .string t1, .slice a V.length cap, .bool e1, .slice a' Ho.length cap', .int .i64 r1] : Array Value)[i]?) := fun i => (hb1.cell (p := ⟨w.heap.size + 1, i, none⟩) (by simp only []; omega)).trans (G1.out i)
    have G2 : Hid (∀ i, w1.cell? ⟨w.heap.size + 1 + 1, i, none⟩ = (#[.string k2, .string n2, .string t2, .slice b U.length dap, .bool e2, .slice b' Hu.length dap', .int .i64 r2] : Array Value)[i]?) := fun i => (hb1.cell (p := ⟨w.heap.size + 1 + 1, i, none⟩) (by simp only []; omega)).trans (G2.out i)
    clear hb1 HB0 hz0
    by_cases hc1 : (checkR Fs n1 t1 V Ho r1).1 = 0
    · rw [errOf_none hc1] at he
      subst he
      have HC1 := hide hc1
      have HL1 : Hid (V.length = Fs.length) := checkR_len hc1
      clear hc1
      have q0 := G0.out
      have q2 := G2.out
      go_wp2_with fail
      refine (checkObject_any _ _ _ _ _ _ _ _ _ U Hu Fs _ lo (HU.out.below HB1.out) (HG.out.below HB1.out) (HF.out.below HB1.out) s3 s4).mono ?_
      rintro e w2 ⟨he, hb1⟩
      have HB2 : Hid (Below w.heap.size w w2) := btz HB1.out hb1
      have hz2 : w.heap.size + 1 + 1 < w2.heap.size := Nat.lt_of_lt_of_le hz1 hb1.size
      have G0 : Hid (∀ i, w2.cell? ⟨w.heap.size, i, none⟩ = (#[.string kd, .slice a1 Fs.length cap1] : Array Value)[i]?) := fun i => (hb1.cell (p := ⟨w.heap.size, i, none⟩) (by simp only []; omega)).trans (G0.out i)
      have G1 : Hid (∀ i, w2.cell? ⟨w.heap.size + 1, i, none⟩ = (#[.string k1, .string n1, .string t1, .slice a V.length cap, .bool e1, .slice a' Ho.length cap', .int .i64 r1] : Array Value)[i]?) := fun i => (hb1.cell (p := ⟨w.heap.size + 1, i, none⟩) (by simp only []; omega)).trans (G1.out i)
      have G2 : Hid (∀ i, w2.cell? ⟨w.heap.size + 1 + 1, i, none⟩ = (#[.string k2, .string n2, .string t2, .slice b U.length dap, .bool e2, .slice b' Hu.length dap', .int .i64 r2] : Array Value)[i]?) := fun i => (hb1.cell (p := ⟨w.heap.size + 1 + 1, i, none⟩) (by simp only []; omega)).trans (G2.out i)
      clear hb1 HB1 hz1 q0 q2
      by_cases hc2 : (checkR Fs n2 t2 U Hu r2).1 = 0
      · rw [errOf_none hc2] at he
        subst he
        have HQ' : Hid (Q = errOf (ff (turns Fs V U) 0)) := by unfold Hid; rw [← HQ.out, turnR_both HS.out HC1.out hc2]
        have HL2 : Hid (U.length = Fs.length) := checkR_len hc2
        clear hc2 HQ HC1 HS
        have q0 := G0.out
        go_wp2
        clear q0
        go_loopw [48] (fun i wr => ∃ k : Nat, i = .int .i64 k ∧ k ≤ Fs.length ∧ Below w2.heap.size w2 wr ∧ ∀ j (h1 : j < Fs.length) (h2 : j < V.length) (h3 : j < U.length), j < k → turnAt Fs[j] V[j] U[j] = 0) (fun i _ => Fs.length - (intOf i).toNat)
        case atStart => exact ⟨0, rfl, by omega, Below.refl _ _, fun j _ _ _ h => by omega⟩
        case round =>
          obtain ⟨k, rfl, hk, hb, hall⟩ := hrel
          have HA := hide hall
          have HBB := hide hb
          have hszr : w.heap.size + 1 + 1 < wr.heap.size := Nat.lt_of_lt_of_le hz2 hb.size
          have hszs : w.heap.size + 1 < wr.heap.size := by omega
          have HBr : Hid (Below w.heap.size w wr) := btz HB2.out hb
          have hO : ∀ i, wr.cell? ⟨w.heap.size + 1, i, none⟩ = (#[.string k1, .string n1, .string t1, .slice a V.length cap, .bool e1, .slice a' Ho.length cap', .int .i64 r1] : Array Value)[i]? := fun i => by
            rw [hb.cell (p := ⟨w.heap.size + 1, i, none⟩) (by simp only []; omega)]; exact G1.out i
          have hN : ∀ i, wr.cell? ⟨w.heap.size + 1 + 1, i, none⟩ = (#[.string k2, .string n2, .string t2, .slice b U.length dap, .bool e2, .slice b' Hu.length dap', .int .i64 r2] : Array Value)[i]? := fun i => by
            rw [hb.cell (p := ⟨w.heap.size + 1 + 1, i, none⟩) (by simp only []; omega)]; exact G2.out i
          clear hb hall
          by_cases hlt : k < Fs.length
          · have hlv : k < V.length := by have := HL1.out; omega
            have hlu : k < U.length := by have := HL2.out; omega
            obtain ⟨fb, foff, rfl, hfb0, hfc⟩ := HF.out.fullz (by omega)
            obtain ⟨hsz, wv, hcell, hst⟩ := hfc k hlt
            obtain ⟨c0, c1, c2, c3, c4, c5, c6, c7, c8, c9, c10⟩ := hcell.below HBr.out hfb0
            obtain ⟨wa, wn, wcap, rfl⟩ := hst.form
            obtain ⟨vb, voff, rfl, hvn, hvb0, hvc⟩ := HV.out.fullz (by omega)
            obtain ⟨ub, uoff, rfl, hun, hub0, huc⟩ := HU.out.fullz (by omega)
            have hvk : wr.cell? ⟨vb, voff + k, none⟩ = some (.string V[k]) := by rw [HBr.out.cell (p := ⟨vb, _, none⟩) hvb0]; exact (hvc k hlv).2
            have huk : wr.cell? ⟨ub, uoff + k, none⟩ = some (.string U[k]) := by rw [HBr.out.cell (p := ⟨ub, _, none⟩) hub0]; exact (huc k hlu).2
            have hfb : fb < wr.heap.size := by have := HBr.out.size; omega
            have hvb : vb < wr.heap.size := by have := HBr.out.size; omega
            have hub : ub < wr.heap.size := by have := HBr.out.size; omega
            have HBo : ∀ o, Hid (Below w.heap.size w (wr.alloc o)) := fun o => HBr.out.alloc (by omega) o
            have HBp : ∀ o, Hid (Below w2.heap.size w2 (wr.alloc o)) := fun o => HBB.out.alloc HBB.out.size o
            clear hcell hst hvc hfc hsz hvn hfb0 hvb0 huc hun hub0
            cases hx : Fs[k].fx with
            | false =>
              have HY : Hid (turnAt Fs[k] V[k] U[k] = 0) := by unfold Hid turnAt; rw [hx]; rfl
              rw [hx] at c8
              go_wp2
              go_quiet (fail)
              go_wp2
              go_roundw
              case rel => exact ⟨k + 1, by go_num, by omega, below_drewN (HBp _).out _, fun j h1 h2 h3 hj => by
                            by_cases e : j = k
                            · subst e; exact HY.out
                            · exact HA.out j h1 h2 h3 (by omega)⟩
              case measure => simp [intOf]; omega
            | true =>
              rw [hx] at c8
              cases he : V[k].toList.isEmpty with
              | true =>
                have HY : Hid (turnAt Fs[k] V[k] U[k] = 0) := by unfold Hid turnAt; rw [hx, he]; rfl
                go_wp2
                go_quiet (fail)
                go_wp2
                go_roundw
                case rel => exact ⟨k + 1, by go_num, by omega, below_drewN (HBp _).out _, fun j h1 h2 h3 hj => by
                              by_cases e : j = k
                              · subst e; exact HY.out
                              · exact HA.out j h1 h2 h3 (by omega)⟩
                case measure => simp [intOf]; omega
              | false =>
                cases hv : (V[k].toList == U[k].toList) with
                | true =>
                  have HY : Hid (turnAt Fs[k] V[k] U[k] = 0) := by unfold Hid turnAt; rw [hx, he, hv]; rfl
                  go_wp2
                  go_quiet (fail)
                  go_wp2
                  go_roundw
                  case rel => exact ⟨k + 1, by go_num, by omega, below_drewN (HBp _).out _, fun j h1 h2 h3 hj => by
                                by_cases e : j = k
                                · subst e; exact HY.out
                                · exact HA.out j h1 h2 h3 (by omega)⟩
                  case measure => simp [intOf]; omega
                | false =>
                  have HY : Hid (ff (turns Fs V U) 0 = (4, (k : Int))) := turns_hit HL1.out HL2.out hlt hlv hlu (by unfold turnAt; rw [hx, he, hv]; rfl) (by decide) HA.out
                  clear HA
                  go_wp2
                  go_quiet (fail)
                  go_wp2
                  go_ret
                  exact ⟨by rw [HQ'.out, HY.out]; rfl, below_drewN (HBo _).out _⟩
          · have HY : Hid (ff (turns Fs V U) 0 = (0, 0)) := turns_done HL1.out HL2.out (fun j h1 h2 h3 _ => HA.out j h1 h2 h3 (by omega))
            clear HA
            go_wp2
            go_ret
            exact ⟨by rw [HQ'.out, HY.out]; rfl, HBr.out⟩
      · have HQ' : Hid (Q = .iface 71 (.agg #[.int .i64 1, .int .i64 0])) := by unfold Hid; rw [← HQ.out, turnR_new hc2]; rfl
        rw [errOf_some hc2] at he
        subst he
        generalize (checkR Fs n2 t2 U Hu r2).1 = p1 at *
        generalize (checkR Fs n2 t2 U Hu r2).2 = p2 at *
        clear hc2 HQ
        go_wp2
        go_ret
        exact ⟨by rw [HQ'.out]; rfl, HB2.out⟩
    · have HQ' : Hid (Q = .iface 71 (.agg #[.int .i64 1, .int .i64 0])) := by unfold Hid; rw [← HQ.out, turnR_old hc1]; rfl
      rw [errOf_some hc1] at he
      subst he
      generalize (checkR Fs n1 t1 V Ho r1).1 = p1 at *
      generalize (checkR Fs n1 t1 V Ho r1).2 = p2 at *
      clear hc1 HQ
      go_wp2
      go_ret
      exact ⟨by rw [HQ'.out]; rfl, HB1.out⟩
end
end Go.Proofs.YtckdcejbojhlcaaGreatDoor
