import Derived.Test.YtlnlodleokobeaaGreatS5
namespace Go.Proofs.YtlnlodleokobeaaGreat
open Go.RowKit Go.Deep

theorem cell_set_ne (w : World) (p q : Addr) (u : Value) (h : p ≠ q) : (w.setCell p u).cell? q = w.cell? q := by
  apply World.cell?_setCell_other; exact h
theorem cell_set_eq (w : World) (p : Addr) (u v : Value) (h : w.cell? p = some v) : (w.setCell p u).cell? p = some u := by
  apply World.cell?_setCell_same; exact h

def shOf (Ss : List Sh) (s : ByteArray) : Option Sh := Ss.find? fun x => x.kind.toList == s.toList
def hasK (Ss : List Sh) (s : ByteArray) : Bool := (shOf Ss s).isSome

theorem shOf_some {Ss : List Sh} {s : ByteArray} {k : Nat} (hk : k < Ss.length) (h : (Ss[k].kind.toList == s.toList) = true) (hall : ∀ i (h : i < Ss.length), i < k → (Ss[i].kind.toList == s.toList) = false) : shOf Ss s = some Ss[k] := by
  unfold shOf
  rw [List.find?_eq_some_iff_getElem]
  exact ⟨h, k, hk, rfl, fun j hj => by simp [hall j (by omega) hj]⟩
theorem shOf_none {Ss : List Sh} {s : ByteArray} (hall : ∀ i (h : i < Ss.length), (Ss[i].kind.toList == s.toList) = false) : shOf Ss s = none := by
  unfold shOf
  rw [List.find?_eq_none]
  intro x hx
  obtain ⟨i, hi, rfl⟩ := List.getElem_of_mem hx
  simp [hall i hi]
theorem hasK_some {Ss : List Sh} {s : ByteArray} {x : Sh} (h : shOf Ss s = some x) : hasK Ss s = true := by unfold hasK; rw [h]; rfl
theorem hasK_none {Ss : List Sh} {s : ByteArray} (h : shOf Ss s = none) : hasK Ss s = false := by unfold hasK; rw [h]; rfl

set_option maxHeartbeats 400000 in
theorem l1Shape_any (lo : Nat) (v : Value) (Ss : List Sh) (s : ByteArray) (w : World) (hv : ShsAt lo w v Ss) :
    Calls Tryz.prog 144 #[v, .string s] w fun e w' => ∃ r : Int, e = .returned (.int .i64 r) ∧ w' = w ∧ decide (0 ≤ r) = hasK Ss s := by
  by_cases hL : Ss = []
  · subst hL
    obtain ⟨a, cap, rfl⟩ := hv.form
    clear hv
    go_enter Tryz.func144, Tryz.ntmps144
    go_wp2
    go_loop [5] (fun i => i = .int .i64 0) (fun _ => 0)
    case atStart => rfl
    case round =>
      subst hrel
      go_wp2
      go_ret
      exact ⟨-1, rfl, rfl, rfl⟩
  · obtain ⟨b, off, cap, rfl, hm, hbw, hc⟩ := hv.full hL
    clear hv
    unfold maxLen at hm
    go_enter Tryz.func144, Tryz.ntmps144
    go_wp2
    go_loop [5] (fun i => ∃ k : Nat, i = .int .i64 k ∧ k ≤ Ss.length ∧ ∀ i (h : i < Ss.length), i < k → (Ss[i].kind.toList == s.toList) = false) (fun i => Ss.length - (intOf i).toNat)
    case atStart => exact ⟨0, rfl, by omega, fun i _ h => by omega⟩
    case round =>
      obtain ⟨k, rfl, hk, hall⟩ := hrel
      have HA := hide hall
      clear hall
      by_cases hlt : k < Ss.length
      · obtain ⟨_, fv, hck, _, _⟩ := hc k hlt
        by_cases he : (Ss[k].kind.toList == s.toList) = true
        · go_wp2
          go_ret
          exact ⟨k, rfl, rfl, by rw [hasK_some (shOf_some hlt he HA.out)]; simp⟩
        · have he' : (Ss[k].kind.toList == s.toList) = false := by simpa using he
          clear he
          go_wp2
          go_round
          case rel => exact ⟨k + 1, by go_num, by omega, fun i h h' => by
                        by_cases e : i = k
                        · subst e; exact he'
                        · exact HA.out i h (by omega)⟩
          case measure => simp [intOf]; omega
      · go_wp2
        go_ret
        exact ⟨-1, rfl, rfl, by rw [hasK_none (shOf_none fun i h => HA.out i h (by omega))]; rfl⟩

/-- what gateShapeOf tells -/
def ShapeOf (lo : Nat) (Ss : List Sh) (s : ByteArray) (e : Ending) (w' : World) : Prop :=
  (∃ x fv, shOf Ss s = some x ∧ e = .returned (.tuple #[.agg #[.string x.kind, fv], .bool true]) ∧ FdsAt lo w' fv x.fields) ∨
  (shOf Ss s = none ∧ e = .returned (.tuple #[.agg #[.string ⟨#[]⟩, .slice none 0 0], .bool false]))

set_option maxHeartbeats 400000 in
theorem shapeOf_any (lo : Nat) (v : Value) (Ss : List Sh) (s : ByteArray) (w : World) (hv : ShsAt lo w v Ss) :
    Calls Tryz.prog 153 #[v, .string s] w fun e w' => Below w.heap.size w w' ∧ ShapeOf lo Ss s e w' := by
  by_cases hL : Ss = []
  · subst hL
    obtain ⟨a, cap, rfl⟩ := hv.form
    clear hv
    go_enter Tryz.func153, Tryz.ntmps153
    go_wp2
    go_loop [10] (fun i => i = .int .i64 0) (fun _ => 0)
    case atStart => rfl
    case round =>
      subst hrel
      go_wp2
      refine bodyPost_ret (v := .tuple #[.agg #[.string ⟨#[]⟩, .slice none 0 0], .bool false]) (by simp [results, Tryz.results153, go_sem]) rfl ⟨?_, Or.inr ⟨rfl, rfl⟩⟩
      exact (Below.refl _ _).alloc (Nat.le_refl _) _
  · obtain ⟨b, off, cap, rfl, hm, hbw, hc⟩ := hv.full hL
    clear hv
    unfold maxLen at hm
    have hA : ∀ (o : Obj) (wr : World), Below (w.heap.size + 1) (w.alloc o) wr → Below w.heap.size w wr := fun o wr h => ((Below.refl _ _).alloc (Nat.le_refl _) o).trans (h.mono (by omega))
    go_enter Tryz.func153, Tryz.ntmps153
    go_wp2
    go_loopw [10] (fun i wr => ∃ k : Nat, i = .int .i64 k ∧ k ≤ Ss.length ∧ Below (w.heap.size + 1) (w.alloc (.cells #[.string ⟨#[]⟩, .slice none 0 0] 124)) wr ∧ ∀ i (h : i < Ss.length), i < k → (Ss[i].kind.toList == s.toList) = false) (fun i _ => Ss.length - (intOf i).toNat)
    case atStart => exact ⟨0, rfl, by omega, Below.refl _ _, fun i _ h => by omega⟩
    case round =>
      obtain ⟨k, rfl, hk, hb, hall⟩ := hrel
      have HA := hide hall
      clear hall
      have hz : w.heap.size < wr.heap.size := by have := hb.size; simp at this; omega
      have hB : Hid (Below w.heap.size w wr) := hA _ _ hb
      have q0 : wr.cell? ⟨w.heap.size, 0, none⟩ = some (.string ⟨#[]⟩) := by rw [hb.cell (p := ⟨w.heap.size, _, none⟩) (by simp)]; simp
      have q1 : wr.cell? ⟨w.heap.size, 1, none⟩ = some (.slice none 0 0) := by rw [hb.cell (p := ⟨w.heap.size, _, none⟩) (by simp)]; simp
      have qf : ∀ o, wr.frozen? ⟨w.heap.size, o, none⟩ = false := fun o => by rw [hb.frozen (p := ⟨w.heap.size, _, none⟩) (by simp)]; simp
      have HBB := hide hb
      clear hb
      by_cases hlt : k < Ss.length
      · obtain ⟨_, fv, c0, c1, hst⟩ := hc k hlt
        have e0 : wr.cell? ⟨b, off + k * 2, none⟩ = some (.string Ss[k].kind) := by rw [hB.out.cell (p := ⟨b, _, none⟩) hbw]; exact c0
        have e1 : wr.cell? ⟨b, off + k * 2 + 1, none⟩ = some fv := by rw [hB.out.cell (p := ⟨b, _, none⟩) hbw]; exact c1
        obtain ⟨a1, cap1, rfl⟩ := hst.form
        have HST := hide hst
        clear c0 c1 hst
        by_cases he : (Ss[k].kind.toList == s.toList) = true
        · go_wp2
          have HF : Below w.heap.size w (((wr.setCell ⟨w.heap.size, 0, none⟩ (.string Ss[k].kind)).setCell ⟨w.heap.size, 1, none⟩ (.slice a1 Ss[k].fields.length cap1)).alloc (.cells #[.string Ss[k].kind, .slice a1 Ss[k].fields.length cap1] 124)) :=
            ((hB.out.setCell (Nat.le_refl _) _).setCell (Nat.le_refl _) _).alloc (by simp [World.setCell]; omega) _
          have hold : ∀ (X : World) (o : Obj) (j : Nat), w.heap.size < X.heap.size → (X.alloc o).cell? ⟨w.heap.size, j, none⟩ = X.cell? ⟨w.heap.size, j, none⟩ := fun X o j h => ((Below.refl X.heap.size X).alloc (Nat.le_refl _) o).cell (p := ⟨w.heap.size, j, none⟩) h
          have f0 : (((wr.setCell ⟨w.heap.size, 0, none⟩ (.string Ss[k].kind)).setCell ⟨w.heap.size, 1, none⟩ (.slice a1 Ss[k].fields.length cap1)).alloc (.cells #[.string Ss[k].kind, .slice a1 Ss[k].fields.length cap1] 124)).cell? ⟨w.heap.size, 0, none⟩ = some (.string Ss[k].kind) := by
            rw [hold _ _ _ (by simpa [World.setCell] using hz), cell_set_ne _ _ _ _ (by simp), cell_set_eq _ _ _ _ q0]
          have f1 : (((wr.setCell ⟨w.heap.size, 0, none⟩ (.string Ss[k].kind)).setCell ⟨w.heap.size, 1, none⟩ (.slice a1 Ss[k].fields.length cap1)).alloc (.cells #[.string Ss[k].kind, .slice a1 Ss[k].fields.length cap1] 124)).cell? ⟨w.heap.size, 1, none⟩ = some (.slice a1 Ss[k].fields.length cap1) := by
            rw [hold _ _ _ (by simpa [World.setCell] using hz), cell_set_eq _ _ _ _ (by rw [cell_set_ne _ _ _ _ (by simp)]; exact q1)]
          exact bodyPost_ret (v := .tuple #[.agg #[.string Ss[k].kind, .slice a1 Ss[k].fields.length cap1], .bool true]) (by simp [results, Tryz.results153, go_sem, f0, f1]) rfl ⟨HF, Or.inl ⟨Ss[k], _, shOf_some hlt he HA.out, rfl, HST.out.below HF⟩⟩
        · have he' : (Ss[k].kind.toList == s.toList) = false := by simpa using he
          clear he
          go_wp2
          go_roundw
          case rel => exact ⟨k + 1, by go_num, by omega, HBB.out.alloc (by omega) _, fun i h h' => by
                        by_cases e : i = k
                        · subst e; exact he'
                        · exact HA.out i h (by omega)⟩
          case measure => simp [intOf]; omega
      · go_wp2
        refine bodyPost_ret (v := .tuple #[.agg #[.string ⟨#[]⟩, .slice none 0 0], .bool false]) (by simp [results, Tryz.results153, go_sem, q0, q1]) rfl ⟨?_, Or.inr ⟨shOf_none fun i h => HA.out i h (by omega), rfl⟩⟩
        exact (hB.out.setCell (Nat.le_refl _) _).setCell (Nat.le_refl _) _
end Go.Proofs.YtlnlodleokobeaaGreat

