import Derived.Test.YtmaagbnjpdijnaaYOXF
import Derived.Test.YtmaagbnjpdijnaaYDA
import Derived.Test.YtmaagbnjpdijnaaYB1
import Derived.Test.YtmaagbnjpdijnaaYM2
import Derived.Test.YtmaagbnjpdijnaaYM1
import Derived.Test.YtmaagbnjpdijnaaYA1
import Derived.Test.YtmaagbnjpdijnaaYTD
import Derived.Test.YtmaagbnjpdijnaaYOWX
namespace Go.Proofs.Ytmaagbnjpdijnaa
open Go.RowKit Go.Deep

/-- a list of one shape, of one's own -/
def ShOne (lo hi : Nat) (w : World) (v : Value) (x : Sh) : Prop :=
  ∃ (sb cap : Nat) (fv : Value) (f0 f1 : Nat), v = .slice (some ⟨sb, 0, none⟩) 1 cap ∧ 1 ≤ cap ∧ lo ≤ sb ∧ sb < hi ∧ sb < w.heap.size ∧ lo ≤ f0 ∧ f1 ≤ hi ∧ (sb < f0 ∨ f1 ≤ sb) ∧
    w.cell? ⟨sb, 0, none⟩ = some (.string x.kind) ∧ w.cell? ⟨sb, 1, none⟩ = some fv ∧ (∀ i, w.frozen? ⟨sb, i, none⟩ = false) ∧ x.kind.size ≤ maxLen ∧ FdsOwn f0 f1 w fv x.fields
theorem ShOne.touch {lo hi lo' hi' : Nat} {w w' : World} {v : Value} {x : Sh} (h : ShOne lo hi w v x) (ht : Touch lo' hi' w w') (ho : hi ≤ lo' ∨ hi' ≤ lo) : ShOne lo hi w' v x := by
  obtain ⟨sb, cap, fv, f0, f1, h1, h2, h3, h4, h5, h6, h7, h8, h9, h10, h11, h12, h13⟩ := h
  have hz := ht.size
  exact ⟨sb, cap, fv, f0, f1, h1, h2, h3, h4, by omega, h6, h7, h8, (ht.cell (p := ⟨sb, 0, none⟩) h5 (by simp only []; omega)).trans h9, (ht.cell (p := ⟨sb, 1, none⟩) h5 (by simp only []; omega)).trans h10, fun i => (ht.frozen (p := ⟨sb, i, none⟩) h5 (by simp only []; omega)).trans (h11 i), h12, h13.touch ht (by omega)⟩
theorem ShOne.below {lo hi : Nat} {w w' : World} {v : Value} {x : Sh} (h : ShOne lo hi w v x) (hb : Below w.heap.size w w') : ShOne lo hi w' v x := by
  obtain ⟨sb, cap, fv, f0, f1, h1, h2, h3, h4, h5, h6, h7, h8, h9, h10, h11, h12, h13⟩ := h
  have ht : Touch 0 0 w w' := Touch.below hb
  have hz := ht.size
  exact ⟨sb, cap, fv, f0, f1, h1, h2, h3, h4, by omega, h6, h7, h8, (ht.cell (p := ⟨sb, 0, none⟩) h5 (by simp only []; omega)).trans h9, (ht.cell (p := ⟨sb, 1, none⟩) h5 (by simp only []; omega)).trans h10, fun i => (ht.frozen (p := ⟨sb, i, none⟩) h5 (by simp only []; omega)).trans (h11 i), h12, h13.below hb⟩
theorem ShOne.at {lo hi : Nat} {w : World} {v : Value} {x : Sh} (h : ShOne lo hi w v x) : ShsAt lo w v [x] := by
  obtain ⟨sb, cap, fv, f0, f1, h1, h2, h3, h4, h5, h6, h7, h8, h9, h10, h11, h12, h13⟩ := h
  refine Or.inr ⟨sb, 0, cap, h1, by simp, by simp [maxLen], h5, h3, fun i hi => ?_⟩
  have : i = 0 := by simpa using hi
  subst this
  exact ⟨h12, fv, h9, h10, h13.at.mono h6⟩
def mkSh (k : Int) (x : Sh) : Sh := ⟨mtB k, mkFds (k + 1) x.fields⟩
def endSh (k : Int) (x : Sh) : Int := k + 1 + (posFd x.fields x.fields.length : Int)

set_option maxRecDepth 20000 in
set_option maxHeartbeats 8000000 in
theorem markSh1_any (lo hi : Nat) (v : Value) (x : Sh) (k : Int) (w : World) (h : ShOne lo hi w v x) (hn : FdsSmall x.fields) (h0 : 0 ≤ k) (hk : k ≤ 1900000000000000000) :
    Calls Try.prog 38 #[v, .int .i64 k] w fun e w' => e = .returned (.int .i64 (endSh k x)) ∧ Touch lo hi w w' ∧ ShOne lo hi w' v (mkSh k x) := by
  have HH := hide h
  obtain ⟨sb, cap, fv, f0, f1, rfl, h2, h3, h4, h5, h6, h7, h8, h9, h10, h11, h12, h13⟩ := h
  have HN := hide hn
  have hp := posFd_le hn (Nat.le_refl x.fields.length)
  have hl := hn.1
  have HE : Hid (endSh k x = k + 1 + (posFd x.fields x.fields.length : Int)) := rfl
  have H13 := hide h13
  clear h13
  go_enter Try.func38, Try.ntmps38
  go_wp2
  go_loopw [5, 1] (fun i q wr => (i = .int .i64 0 ∧ q = .int .i64 k ∧ wr = w) ∨ (i = .int .i64 1 ∧ q = .int .i64 (endSh k x) ∧ Touch lo hi w wr ∧ ShOne lo hi wr (.slice (some ⟨sb, 0, none⟩) 1 cap) (mkSh k x))) (fun i _ _ => 1 - (intOf i).toNat)
  case atStart => exact Or.inl ⟨rfl, rfl, rfl⟩
  case round =>
    rcases hrel with ⟨rfl, rfl, hw⟩ | ⟨rfl, rfl, ht, ho⟩
    · subst hw
      go_wp2_with fail
      refine (markText_any k _ (by omega)).mono ?_
      rintro e w1 ⟨rfl, hb⟩
      have hz := hb.size
      have c0 := (hb.cell (p := ⟨sb, 0, none⟩) h5).trans h9
      have c1 := (hb.cell (p := ⟨sb, 1, none⟩) h5).trans h10
      have fz : ∀ i, w1.frozen? ⟨sb, i, none⟩ = false := fun i => ((Touch.below (lo := 0) (hi := 0) hb).frozen (p := ⟨sb, i, none⟩) h5 (by simp only []; omega)).trans (h11 i)
      have H14 := hide (H13.out.below hb)
      have HT : Hid (Touch lo hi wr w1) := Touch.below hb
      clear hb
      go_wp2_with fail
      generalize hW : w1.setCell ⟨sb, 0, none⟩ _ = w2
      have hsb : sb < w1.heap.size := by omega
      have hz2 : w2.heap.size = w1.heap.size := by rw [← hW]; simp [World.setCell]
      have d0 : w2.cell? ⟨sb, 0, none⟩ = some (.string (mtB k)) := by rw [← hW]; exact World.cell?_setCell_same' _ _ _ (by rw [c0]; rfl)
      have d1 : w2.cell? ⟨sb, 1, none⟩ = some fv := by rw [← hW]; exact (World.cell?_setCell_other _ _ _ _ (by simp)).trans c1
      have df : ∀ i, w2.frozen? ⟨sb, i, none⟩ = false := fun i => by rw [← hW, World.frozen?_setCell]; exact fz i
      have ht2 : Touch sb (sb + 1) w1 w2 := by rw [← hW]; exact Touch.setCell _ _ _ _ _ ⟨Nat.le_refl _, Nat.lt_succ_self _⟩
      replace HT : Hid (Touch lo hi wr w2) := HT.out.trans (ht2.wide (by omega) (by omega))
      replace H14 := hide (H14.out.touch ht2 (by omega))
      clear hW ht2 c0 c1 fz
      refine (markFdsO_any f0 f1 _ x.fields _ _ H14.out HN.out (by omega) (by omega)).mono ?_
      rintro e w3 ⟨rfl, ht, ho⟩
      have hz3 := ht.size
      have HO : Hid (ShOne lo hi w3 (.slice (some ⟨sb, 0, none⟩) 1 cap) (mkSh k x)) :=
        ⟨sb, cap, fv, f0, f1, rfl, h2, h3, h4, by omega, h6, h7, h8, (ht.cell (p := ⟨sb, 0, none⟩) (by simp only []; omega) (by simp only []; omega)).trans d0, (ht.cell (p := ⟨sb, 1, none⟩) (by simp only []; omega) (by simp only []; omega)).trans d1, fun i => (ht.frozen (p := ⟨sb, i, none⟩) (by simp only []; omega) (by simp only []; omega)).trans (df i), mt_size k (by omega), ho⟩
      replace HT : Hid (Touch lo hi wr w3) := HT.out.trans (ht.wide h6 h7)
      clear ht ho d0 d1 df
      go_wp2
      go_roundw
      case rel => exact Or.inr ⟨rfl, by rw [HE.out], HT.out, HO.out⟩
      case measure => simp [intOf]
    · go_wp2
      go_ret
      exact ⟨rfl, ht, ho⟩

set_option maxRecDepth 20000 in
set_option maxHeartbeats 8000000 in
theorem heldSh1_any (lo hi : Nat) (v : Value) (x : Sh) (k : Int) (w : World) (h : ShOne lo hi w v (mkSh k x)) (hn : FdsSmall x.fields) (h0 : 0 ≤ k) (hk : k ≤ 1900000000000000000) :
    Calls Try.prog 40 #[v, .int .i64 k] w fun e w' => e = .returned (.int .i64 (endSh k x)) ∧ Below w.heap.size w w' := by
  obtain ⟨sb, cap, fv, f0, f1, rfl, h2, h3, h4, h5, h6, h7, h8, h9, h10, h11, h12, h13⟩ := h
  have h9 : w.cell? ⟨sb, 0, none⟩ = some (.string (mtB k)) := h9
  have HN := hide hn
  have hp := posFd_le hn (Nat.le_refl x.fields.length)
  have hl := hn.1
  have HE : Hid (endSh k x = k + 1 + (posFd x.fields x.fields.length : Int)) := rfl
  have H13 : Hid (FdsOwn f0 f1 w fv (mkFds (k + 1) x.fields)) := h13
  clear h13
  go_enter Try.func40, Try.ntmps40
  go_wp2
  go_loopw [5, 1] (fun i q wr => (i = .int .i64 0 ∧ q = .int .i64 k ∧ wr = w) ∨ (i = .int .i64 1 ∧ q = .int .i64 (endSh k x) ∧ Below w.heap.size w wr)) (fun i _ _ => 1 - (intOf i).toNat)
  case atStart => exact Or.inl ⟨rfl, rfl, rfl⟩
  case round =>
    rcases hrel with ⟨rfl, rfl, hw⟩ | ⟨rfl, rfl, hb⟩
    · subst hw
      have x0 : ∀ X : In (Upo wr), X.w.cell? ⟨sb, 0, none⟩ = some (.string (mtB k)) := fun X => Upo.cell X h9
      have xn : Nonempty (In (Upo wr)) := ⟨⟨wr, Below.refl _ _⟩⟩
      have xs := fun (X : In (Upo wr)) => in_self X
      have HB : Hid (∀ w1, Below wr.heap.size wr w1 → w1.cell? ⟨sb, 1, none⟩ = some fv ∧ FdsOwn f0 f1 w1 fv (mkFds (k + 1) x.fields)) := fun w1 hb => ⟨(hb.cell (p := ⟨sb, 1, none⟩) h5).trans h10, H13.out.below hb⟩
      clear h9 h10
      go_wp2
      refine wp_region_class (Upo wr) (by kernel_rfl) (by kernel_rfl) ((Below.refl _ _).drew) ?_
      repeat (go_big_quiet_step (first | (go_at_call 70; rename_i X; exact (markText_any _ _ (by omega)).mono fun _ _ h => ⟨h.1, Upo.next X h.2⟩)))
      refine wpQuiet_nil ?_
      intro w1 hw
      obtain ⟨Y, hY⟩ := hw
      have HB1 : Hid (Below wr.heap.size wr w1) := by unfold Hid; rw [hY]; exact Y.h
      obtain ⟨c1, ho⟩ := HB.out w1 HB1.out
      have HO := hide ho
      clear hY Y x0 xs xn ho
      go_wp2_with fail
      clear c1
      refine (heldFds_any f0 f1 _ x.fields _ _ HO.out HN.out (by omega) (by omega)).mono ?_
      rintro e w2 ⟨rfl, hb⟩
      replace HB1 : Hid (Below wr.heap.size wr w2) := bt HB1.out hb
      have hg : decide (k + 1 + (posFd x.fields x.fields.length : Int) < 0) = false := by simp; omega
      clear hb
      go_wp2
      go_roundw
      case rel => exact Or.inr ⟨rfl, by rw [HE.out], HB1.out⟩
      case measure => simp [intOf]
    · go_wp2
      go_ret
      exact ⟨rfl, hb⟩
end Go.Proofs.Ytmaagbnjpdijnaa

