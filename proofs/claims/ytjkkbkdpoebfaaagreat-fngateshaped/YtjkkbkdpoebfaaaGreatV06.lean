import Derived.Test.YtjkkbkdpoebfaaaGreatV05
namespace Go.Proofs.YtjkkbkdpoebfaaaGreat
open Go.RowKit Go.Deep

theorem range_all {n : Nat} {p : Nat → Bool} (h : ∀ i, i < n → p i = true) : (List.range n).all p = true := by
  rw [List.all_eq_true]; intro i hi; exact h i (List.mem_range.1 hi)
theorem range_not {n k : Nat} {p : Nat → Bool} (hk : k < n) (h : p k = false) : (List.range n).all p = false := by
  rw [List.all_eq_false]; exact ⟨k, List.mem_range.2 hk, by simp [h]⟩

/-- place i is a name, and above the one ahead -/
def ascAt (L : List ByteArray) (i : Nat) : Bool :=
  nameB (L.getD i ⟨#[]⟩) && (i == 0 || Op.bytesLess (L.getD (i - 1) ⟨#[]⟩).toList (L.getD i ⟨#[]⟩).toList)
def ascB (L : List ByteArray) : Bool := (List.range L.length).all (ascAt L)

theorem getD_of {L : List ByteArray} {i : Nat} (h : i < L.length) : L.getD i ⟨#[]⟩ = L[i] := by
  rw [List.getD_eq_getElem?_getD, List.getElem?_eq_getElem h]; rfl
theorem ascAt_name {L : List ByteArray} {i : Nat} (h : i < L.length) (hn : nameB L[i] = false) : ascAt L i = false := by
  unfold ascAt; rw [getD_of h, hn]; rfl
theorem ascAt_zero {L : List ByteArray} (h : 0 < L.length) (hn : nameB L[0] = true) : ascAt L 0 = true := by
  unfold ascAt; rw [getD_of h, hn]; rfl
theorem ascAt_succ {L : List ByteArray} {j : Nat} (h : j + 1 < L.length) (hn : nameB L[j + 1] = true) : ascAt L (j + 1) = Op.bytesLess L[j].toList L[j + 1].toList := by
  unfold ascAt; rw [getD_of h, hn, Nat.add_sub_cancel, getD_of (by omega)]; simp

theorem asc_one {L : List ByteArray} (h : ascAt L 0 = true) : ∀ i, i < 1 → ascAt L i = true := fun i hi => by
  have e : i = 0 := by omega
  subst e
  exact h

set_option maxHeartbeats 1000000 in
theorem l1Asc_any (v : Value) (L : List ByteArray) (w : World) (hv : StrsAt w v L) :
    Calls Tryz.prog 92 #[v] w fun e w' => e = .returned (.bool (ascB L)) ∧ Below w.heap.size w w' := by
  rcases hv with ⟨a, cap, rfl, rfl⟩ | ⟨b, off, cap, rfl, hne, hm, hbw, hc, hsz⟩
  · go_enter Tryz.func92, Tryz.ntmps92
    go_wp2
    go_loop [3] (fun i => i = .int .i64 0) (fun _ => 0)
    case atStart => rfl
    case round =>
      subst hrel
      go_wp2
      go_ret
      exact ⟨rfl, Below.refl _ _⟩
  · unfold maxLen at hm
    go_enter Tryz.func92, Tryz.ntmps92
    go_wp2
    go_loopw [3] (fun i wr => ∃ k : Nat, i = .int .i64 k ∧ k ≤ L.length ∧ Below w.heap.size w wr ∧ ∀ i, i < k → ascAt L i = true) (fun i _ => L.length - (intOf i).toNat)
    case atStart => exact ⟨0, rfl, by omega, Below.refl _ _, fun i h => by omega⟩
    case round =>
      obtain ⟨k, rfl, hk, hb, hall⟩ := hrel
      have HA := hide hall
      clear hall
      by_cases hlt : k < L.length
      · have hck : wr.cell? ⟨b, off + k, none⟩ = some (.string L[k]) := by rw [hb.cell (p := ⟨b, _, none⟩) hbw]; exact hc k hlt
        have hskk := hsz L[k] (List.getElem_mem hlt)
        by_cases hn : nameB L[k] = true
        · cases k with
          | zero =>
            have HX := hide (ascAt_zero hlt hn)
            have hck0 : wr.cell? ⟨b, off, none⟩ = some (.string L[0]) := by simpa using hck
            clear hck
            go_wp2
            go_quiet ((go_at_call 55; exact Calls.quiet_of_same (nameOk_any _ _ hskk)))
            go_wp2
            go_roundw
            case rel => exact ⟨1, by go_num, by omega, below_drewN hb _, asc_one HX.out⟩
            case measure => simp [intOf]; omega
          | succ j =>
            have HX := hide (ascAt_succ hlt hn)
            have hcj : wr.cell? ⟨b, off + j, none⟩ = some (.string L[j]) := by rw [hb.cell (p := ⟨b, _, none⟩) hbw]; exact hc j (by omega)
            by_cases hls : Op.bytesLess L[j].toList L[j + 1].toList = true
            · go_wp2
              go_quiet ((go_at_call 55; exact Calls.quiet_of_same (nameOk_any _ _ hskk)))
              go_wp2
              go_roundw
              case rel => exact ⟨j + 2, by go_num, by omega, below_drewN hb _, fun i hi => by
                            by_cases e : i = j + 1
                            · subst e; rw [HX.out]; exact hls
                            · exact HA.out i (by omega)⟩
              case measure => simp [intOf]; omega
            · have hls' : Op.bytesLess L[j].toList L[j + 1].toList = false := by simpa using hls
              clear hls
              go_wp2
              go_quiet ((go_at_call 55; exact Calls.quiet_of_same (nameOk_any _ _ hskk)))
              go_wp2
              go_ret
              exact ⟨ret_bool (range_not hlt (by rw [HX.out]; exact hls')).symm, below_drewN hb _⟩
        · have hn' : nameB L[k] = false := by simpa using hn
          have HX := hide (ascAt_name hlt hn')
          go_wp2
          go_quiet ((go_at_call 55; exact Calls.quiet_of_same (nameOk_any _ _ hskk)))
          go_wp2
          go_ret
          exact ⟨ret_bool (range_not hlt HX.out).symm, below_drewN hb _⟩
      · go_wp2
        go_ret
        exact ⟨ret_bool (range_all (fun i hi => HA.out i (by omega))).symm, hb⟩

set_option maxHeartbeats 1000000 in
theorem ascNames_any (v : Value) (L : List ByteArray) (w : World) (hv : StrsAt w v L) :
    Calls Tryz.prog 124 #[v] w fun e w' => e = .returned (.bool (ascB L)) ∧ w' = w := by
  rcases hv with ⟨a, cap, rfl, rfl⟩ | ⟨b, off, cap, rfl, hne, hm, hbw, hc, hsz⟩
  · go_enter Tryz.func124, Tryz.ntmps124
    go_wp2
    go_loop [7] (fun i => i = .int .i64 0) (fun _ => 0)
    case atStart => rfl
    case round =>
      subst hrel
      go_wp2
      go_ret
      exact ⟨rfl, rfl⟩
  · unfold maxLen at hm
    go_enter Tryz.func124, Tryz.ntmps124
    go_wp2
    go_loop [7] (fun i => ∃ k : Nat, i = .int .i64 k ∧ k ≤ L.length ∧ ∀ i, i < k → ascAt L i = true) (fun i => L.length - (intOf i).toNat)
    case atStart => exact ⟨0, rfl, by omega, fun i h => by omega⟩
    case round =>
      obtain ⟨k, rfl, hk, hall⟩ := hrel
      have HA := hide hall
      clear hall
      by_cases hlt : k < L.length
      · have hck := hc k hlt
        have HSK := hide (hsz L[k] (List.getElem_mem hlt))
        by_cases hn : nameB L[k] = true
        · cases k with
          | zero =>
            have HX := hide (ascAt_zero hlt hn)
            have hck0 : w.cell? ⟨b, off, none⟩ = some (.string L[0]) := by simpa using hck
            clear hck
            go_wp2_with fail
            refine (isName_any _ _ HSK.out).mono ?_
            rintro e w1 ⟨rfl, rfl⟩
            go_wp2
            go_round
            case rel => exact ⟨1, by go_num, by omega, asc_one HX.out⟩
            case measure => simp [intOf]; omega
          | succ j =>
            have HX := hide (ascAt_succ hlt hn)
            have hcj := hc j (by omega)
            by_cases hls : Op.bytesLess L[j].toList L[j + 1].toList = true
            · go_wp2_with fail
              refine (isName_any _ _ HSK.out).mono ?_
              rintro e w1 ⟨rfl, rfl⟩
              go_wp2
              go_round
              case rel => exact ⟨j + 2, by go_num, by omega, fun i hi => by
                            by_cases e : i = j + 1
                            · subst e; rw [HX.out]; exact hls
                            · exact HA.out i (by omega)⟩
              case measure => simp [intOf]; omega
            · have hls' : Op.bytesLess L[j].toList L[j + 1].toList = false := by simpa using hls
              clear hls
              go_wp2_with fail
              refine (isName_any _ _ HSK.out).mono ?_
              rintro e w1 ⟨rfl, rfl⟩
              go_wp2
              go_ret
              exact ⟨ret_bool (range_not hlt (by rw [HX.out]; exact hls')).symm, rfl⟩
        · have hn' : nameB L[k] = false := by simpa using hn
          have HX := hide (ascAt_name hlt hn')
          go_wp2_with fail
          refine (isName_any _ _ HSK.out).mono ?_
          rintro e w1 ⟨rfl, rfl⟩
          go_wp2
          go_ret
          exact ⟨ret_bool (range_not hlt HX.out).symm, rfl⟩
      · go_wp2
        go_ret
        exact ⟨ret_bool (range_all (fun i hi => HA.out i (by omega))).symm, rfl⟩
end Go.Proofs.YtjkkbkdpoebfaaaGreat
namespace Go.Proofs.YtjkkbkdpoebfaaaGreat
open Go.RowKit Go.Deep

theorem cell_set_ne (w : World) (p q : Addr) (u : Value) (h : p ≠ q) : (w.setCell p u).cell? q = w.cell? q := by
  apply World.cell?_setCell_other; exact h
theorem cell_set_eq (w : World) (p : Addr) (u v : Value) (h : w.cell? p = some v) : (w.setCell p u).cell? p = some u := by
  apply World.cell?_setCell_same; exact h

def shOf (Ss : List Sh) (s : ByteArray) : Option Sh := Ss.find? fun x => x.kind.toList == s.toList
def hasK (Ss : List Sh) (s : ByteArray) : Bool := (shOf Ss s).isSome

theorem shOf_some {Ss : List Sh} {s : ByteArray} {k : Nat} (hk : k < Ss.length) (h : (Ss[k].kind.toList == s.toList) = true) (hall : ∀ i (h : i < Ss.length), i < k → (Ss[i].kind.toList == s.toList) = false) : shOf Ss s = some Ss[k] := by
  unfold shOf
  rw [List.find?_eq_some_iff_getElem]
  exact ⟨h, k, hk, rfl, fun j hj => by simp [hall j (by omega) hj]⟩
theorem shOf_none {Ss : List Sh} {s : ByteArray} (hall : ∀ i (h : i < Ss.length), (Ss[i].kind.toList == s.toList) = false) : shOf Ss s = none := by
  unfold shOf
  rw [List.find?_eq_none]
  intro x hx
  obtain ⟨i, hi, rfl⟩ := List.getElem_of_mem hx
  simp [hall i hi]
theorem hasK_some {Ss : List Sh} {s : ByteArray} {x : Sh} (h : shOf Ss s = some x) : hasK Ss s = true := by unfold hasK; rw [h]; rfl
theorem hasK_none {Ss : List Sh} {s : ByteArray} (h : shOf Ss s = none) : hasK Ss s = false := by unfold hasK; rw [h]; rfl

set_option maxHeartbeats 400000 in
theorem l1Shape_any (lo : Nat) (v : Value) (Ss : List Sh) (s : ByteArray) (w : World) (hv : ShsAt lo w v Ss) :
    Calls Tryz.prog 57 #[v, .string s] w fun e w' => ∃ r : Int, e = .returned (.int .i64 r) ∧ w' = w ∧ decide (0 ≤ r) = hasK Ss s := by
  by_cases hL : Ss = []
  · subst hL
    obtain ⟨a, cap, rfl⟩ := hv.form
    clear hv
    go_enter Tryz.func57, Tryz.ntmps57
    go_wp2
    go_loop [5] (fun i => i = .int .i64 0) (fun _ => 0)
    case atStart => rfl
    case round =>
      subst hrel
      go_wp2
      go_ret
      exact ⟨-1, rfl, rfl, rfl⟩
  · obtain ⟨b, off, cap, rfl, hm, hbw, hc⟩ := hv.full hL
    clear hv
    unfold maxLen at hm
    go_enter Tryz.func57, Tryz.ntmps57
    go_wp2
    go_loop [5] (fun i => ∃ k : Nat, i = .int .i64 k ∧ k ≤ Ss.length ∧ ∀ i (h : i < Ss.length), i < k → (Ss[i].kind.toList == s.toList) = false) (fun i => Ss.length - (intOf i).toNat)
    case atStart => exact ⟨0, rfl, by omega, fun i _ h => by omega⟩
    case round =>
      obtain ⟨k, rfl, hk, hall⟩ := hrel
      have HA := hide hall
      clear hall
      by_cases hlt : k < Ss.length
      · obtain ⟨_, fv, hck, _, _⟩ := hc k hlt
        by_cases he : (Ss[k].kind.toList == s.toList) = true
        · go_wp2
          go_ret
          exact ⟨k, rfl, rfl, by rw [hasK_some (shOf_some hlt he HA.out)]; simp⟩
        · have he' : (Ss[k].kind.toList == s.toList) = false := by simpa using he
          clear he
          go_wp2
          go_round
          case rel => exact ⟨k + 1, by go_num, by omega, fun i h h' => by
                        by_cases e : i = k
                        · subst e; exact he'
                        · exact HA.out i h (by omega)⟩
          case measure => simp [intOf]; omega
      · go_wp2
        go_ret
        exact ⟨-1, rfl, rfl, by rw [hasK_none (shOf_none fun i h => HA.out i h (by omega))]; rfl⟩

/-- what gateShapeOf tells -/
def ShapeOf (lo : Nat) (Ss : List Sh) (s : ByteArray) (e : Ending) (w' : World) : Prop :=
  (∃ x fv, shOf Ss s = some x ∧ e = .returned (.tuple #[.agg #[.string x.kind, fv], .bool true]) ∧ FdsAt lo w' fv x.fields) ∨
  (shOf Ss s = none ∧ e = .returned (.tuple #[.agg #[.string ⟨#[]⟩, .slice none 0 0], .bool false]))

set_option maxHeartbeats 400000 in
theorem shapeOf_any (lo : Nat) (v : Value) (Ss : List Sh) (s : ByteArray) (w : World) (hv : ShsAt lo w v Ss) :
    Calls Tryz.prog 32 #[v, .string s] w fun e w' => Below w.heap.size w w' ∧ ShapeOf lo Ss s e w' := by
  by_cases hL : Ss = []
  · subst hL
    obtain ⟨a, cap, rfl⟩ := hv.form
    clear hv
    go_enter Tryz.func32, Tryz.ntmps32
    go_wp2
    go_loop [10] (fun i => i = .int .i64 0) (fun _ => 0)
    case atStart => rfl
    case round =>
      subst hrel
      go_wp2
      refine bodyPost_ret (v := .tuple #[.agg #[.string ⟨#[]⟩, .slice none 0 0], .bool false]) (by simp [results, Tryz.results32, go_sem]) rfl ⟨?_, Or.inr ⟨rfl, rfl⟩⟩
      exact (Below.refl _ _).alloc (Nat.le_refl _) _
  · obtain ⟨b, off, cap, rfl, hm, hbw, hc⟩ := hv.full hL
    clear hv
    unfold maxLen at hm
    have hA : ∀ (o : Obj) (wr : World), Below (w.heap.size + 1) (w.alloc o) wr → Below w.heap.size w wr := fun o wr h => ((Below.refl _ _).alloc (Nat.le_refl _) o).trans (h.mono (by omega))
    go_enter Tryz.func32, Tryz.ntmps32
    go_wp2
    go_loopw [10] (fun i wr => ∃ k : Nat, i = .int .i64 k ∧ k ≤ Ss.length ∧ Below (w.heap.size + 1) (w.alloc (.cells #[.string ⟨#[]⟩, .slice none 0 0] 45)) wr ∧ ∀ i (h : i < Ss.length), i < k → (Ss[i].kind.toList == s.toList) = false) (fun i _ => Ss.length - (intOf i).toNat)
    case atStart => exact ⟨0, rfl, by omega, Below.refl _ _, fun i _ h => by omega⟩
    case round =>
      obtain ⟨k, rfl, hk, hb, hall⟩ := hrel
      have HA := hide hall
      clear hall
      have hz : w.heap.size < wr.heap.size := by have := hb.size; simp at this; omega
      have hB : Hid (Below w.heap.size w wr) := hA _ _ hb
      have q0 : wr.cell? ⟨w.heap.size, 0, none⟩ = some (.string ⟨#[]⟩) := by rw [hb.cell (p := ⟨w.heap.size, _, none⟩) (by simp)]; simp
      have q1 : wr.cell? ⟨w.heap.size, 1, none⟩ = some (.slice none 0 0) := by rw [hb.cell (p := ⟨w.heap.size, _, none⟩) (by simp)]; simp
      have qf : ∀ o, wr.frozen? ⟨w.heap.size, o, none⟩ = false := fun o => by rw [hb.frozen (p := ⟨w.heap.size, _, none⟩) (by simp)]; simp
      have HBB := hide hb
      clear hb
      by_cases hlt : k < Ss.length
      · obtain ⟨_, fv, c0, c1, hst⟩ := hc k hlt
        have e0 : wr.cell? ⟨b, off + k * 2, none⟩ = some (.string Ss[k].kind) := by rw [hB.out.cell (p := ⟨b, _, none⟩) hbw]; exact c0
        have e1 : wr.cell? ⟨b, off + k * 2 + 1, none⟩ = some fv := by rw [hB.out.cell (p := ⟨b, _, none⟩) hbw]; exact c1
        obtain ⟨a1, cap1, rfl⟩ := hst.form
        have HST := hide hst
        clear c0 c1 hst
        by_cases he : (Ss[k].kind.toList == s.toList) = true
        · go_wp2
          have HF : Below w.heap.size w (((wr.setCell ⟨w.heap.size, 0, none⟩ (.string Ss[k].kind)).setCell ⟨w.heap.size, 1, none⟩ (.slice a1 Ss[k].fields.length cap1)).alloc (.cells #[.string Ss[k].kind, .slice a1 Ss[k].fields.length cap1] 45)) :=
            ((hB.out.setCell (Nat.le_refl _) _).setCell (Nat.le_refl _) _).alloc (by simp [World.setCell]; omega) _
          have hold : ∀ (X : World) (o : Obj) (j : Nat), w.heap.size < X.heap.size → (X.alloc o).cell? ⟨w.heap.size, j, none⟩ = X.cell? ⟨w.heap.size, j, none⟩ := fun X o j h => ((Below.refl X.heap.size X).alloc (Nat.le_refl _) o).cell (p := ⟨w.heap.size, j, none⟩) h
          have f0 : (((wr.setCell ⟨w.heap.size, 0, none⟩ (.string Ss[k].kind)).setCell ⟨w.heap.size, 1, none⟩ (.slice a1 Ss[k].fields.length cap1)).alloc (.cells #[.string Ss[k].kind, .slice a1 Ss[k].fields.length cap1] 45)).cell? ⟨w.heap.size, 0, none⟩ = some (.string Ss[k].kind) := by
            rw [hold _ _ _ (by simpa [World.setCell] using hz), cell_set_ne _ _ _ _ (by simp), cell_set_eq _ _ _ _ q0]
          have f1 : (((wr.setCell ⟨w.heap.size, 0, none⟩ (.string Ss[k].kind)).setCell ⟨w.heap.size, 1, none⟩ (.slice a1 Ss[k].fields.length cap1)).alloc (.cells #[.string Ss[k].kind, .slice a1 Ss[k].fields.length cap1] 45)).cell? ⟨w.heap.size, 1, none⟩ = some (.slice a1 Ss[k].fields.length cap1) := by
            rw [hold _ _ _ (by simpa [World.setCell] using hz), cell_set_eq _ _ _ _ (by rw [cell_set_ne _ _ _ _ (by simp)]; exact q1)]
          exact bodyPost_ret (v := .tuple #[.agg #[.string Ss[k].kind, .slice a1 Ss[k].fields.length cap1], .bool true]) (by simp [results, Tryz.results32, go_sem, f0, f1]) rfl ⟨HF, Or.inl ⟨Ss[k], _, shOf_some hlt he HA.out, rfl, HST.out.below HF⟩⟩
        · have he' : (Ss[k].kind.toList == s.toList) = false := by simpa using he
          clear he
          go_wp2
          go_roundw
          case rel => exact ⟨k + 1, by go_num, by omega, HBB.out.alloc (by omega) _, fun i h h' => by
                        by_cases e : i = k
                        · subst e; exact he'
                        · exact HA.out i h (by omega)⟩
          case measure => simp [intOf]; omega
      · go_wp2
        refine bodyPost_ret (v := .tuple #[.agg #[.string ⟨#[]⟩, .slice none 0 0], .bool false]) (by simp [results, Tryz.results32, go_sem, q0, q1]) rfl ⟨?_, Or.inr ⟨shOf_none fun i h => HA.out i h (by omega), rfl⟩⟩
        exact (hB.out.setCell (Nat.le_refl _) _).setCell (Nat.le_refl _) _
end Go.Proofs.YtjkkbkdpoebfaaaGreat
