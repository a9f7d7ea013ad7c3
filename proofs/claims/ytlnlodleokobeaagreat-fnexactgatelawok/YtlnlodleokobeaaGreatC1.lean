import Derived.Test.YtlnlodleokobeaaGreatM2
import Derived.Laws.IdiomCopy
import Derived.Lib.LazyBuf
import Derived.Test.YtlnlodleokobeaaGreatK1
namespace Go.Proofs.YtlnlodleokobeaaGreat
open Go.RowKit Go.Deep

theorem Tryz.size9 : (Tryz.prog.info? 9).map (·.size) = some 1 := by kernel_rfl

theorem below_setCells {B : Nat} {a : World} (b : Nat) (hb : B ≤ b) : ∀ (vs : List Value) (o : Nat) (w : World), Below B a w → Below B a (w.setCells b o vs)
  | [], _, _, h => h
  | v :: r, o, w, h => by
    rw [World.setCells]
    exact below_setCells b hb r (o + 1) _ (h.setCell hb v)
theorem size_setCells (b : Nat) : ∀ (vs : List Value) (o : Nat) (w : World), (w.setCells b o vs).heap.size = w.heap.size
  | [], _, _ => rfl
  | v :: r, o, w => by rw [World.setCells, size_setCells b r]; simp [World.setCell]

set_option maxRecDepth 20000 in
set_option maxHeartbeats 400000 in
theorem copyTexts_any (v : Value) (L : List ByteArray) (w : World) (hv : StrsAt w v L) (hn : L.length ≤ 1048576) :
    Calls Tryz.prog 228 #[v] w fun e w' => ∃ v', e = .returned v' ∧ Below w.heap.size w w' ∧ StrsOwn w.heap.size w'.heap.size w' v' L := by
  have hnil := fun W a n c => Lib.run_eql_slice_nil (P := Tryz.prog) W 120 9 a n c 0 0 Tryz.underlying120
  rcases hv with ⟨a, cap, rfl, rfl⟩ | ⟨b, off, cap, rfl, hne, hm, hbw, hc, hsz⟩
  · have hmk : ∀ u : World, (Instr.makeSlice 120 (.int .i64 0) (.int .i64 0)).run Tryz.prog u = .ok (.slice (some ⟨u.heap.size, 0, none⟩) 0 0) (u.alloc (.cells (madeCells #[.string ⟨#[]⟩] 0) 9)) :=
      fun u => run_make_row' 120 9 (.string ⟨#[]⟩) 16 Tryz.underlying120 Tryz.info9 rfl .i64 .i64 0 (by omega) (by omega) u
    have hcp := fun (W : World) ty (d : Option Addr) dl dc => run_copy_none (P := Tryz.prog) W 120 120 ty 9 d a dl dc 0 cap Tryz.underlying120 Tryz.size9 (by simp)
    cases a with
    | none =>
      go_enter Tryz.func228, Tryz.ntmps228
      go_wp2
      go_ret
      exact ⟨_, rfl, Below.refl _ _, Or.inl ⟨_, _, rfl, rfl⟩⟩
    | some ad =>
      go_enter Tryz.func228, Tryz.ntmps228
      go_wp2
      go_ret
      exact ⟨_, rfl, (Below.refl _ _).alloc (Nat.le_refl _) _, Or.inl ⟨_, _, rfl, rfl⟩⟩
  · have HM : Hid (L.length ≤ maxLen) := hm
    unfold maxLen at hm
    have hmk : ∀ u : World, (Instr.makeSlice 120 (.int .i64 (L.length : Int)) (.int .i64 (L.length : Int))).run Tryz.prog u = .ok (.slice (some ⟨u.heap.size, 0, none⟩) L.length L.length) (u.alloc (.cells (madeCells #[.string ⟨#[]⟩] L.length) 9)) :=
      fun u => run_make_row' 120 9 (.string ⟨#[]⟩) 16 Tryz.underlying120 Tryz.info9 rfl .i64 .i64 L.length (by omega) (by omega) u
    have hrow := World.rowIs_made w (.string ⟨#[]⟩) L.length 9
    have hcl : (L.map Value.string).length = L.length := by simp
    have hcp : ∀ ty, (Builtin.copy_ #[120, 120] ty #[.slice (some ⟨w.heap.size, 0, none⟩) L.length L.length, .slice (some ⟨b, off, none⟩) L.length cap]).run Tryz.prog (w.alloc (.cells (madeCells #[.string ⟨#[]⟩] L.length) 9)) = .ok (goInt L.length) ((w.alloc (.cells (madeCells #[.string ⟨#[]⟩] L.length) 9)).setCells w.heap.size 0 (L.map Value.string)) := fun ty => by
      have := run_copy_cells (P := Tryz.prog) (w.alloc (.cells (madeCells #[.string ⟨#[]⟩] L.length) 9)) 120 120 ty 9 w.heap.size 0 L.length L.length ⟨b, off, none⟩ L.length cap (L.map Value.string) Tryz.underlying120 Tryz.size9 (by simp) (fun j u hj => by
        obtain ⟨hj1, hj2⟩ := List.getElem?_eq_some_iff.1 hj
        rw [hcl] at hj1
        rw [Go.WideShapes.add_plain, ((Below.refl w.heap.size w).alloc (Nat.le_refl _) _).cell (p := ⟨b, off + j, none⟩) hbw, hc j hj1, ← hj2]
        simp) (fun j hj => by rw [hcl] at hj; rw [Nat.zero_add, hrow.cell hj]; rfl) (fun j _ => by rw [Nat.zero_add]; exact hrow.frozen j) (fun u hu => by
        obtain ⟨s, _, rfl⟩ := List.mem_map.1 hu; rfl)
      rw [hcl] at this
      exact this
    have HOWN : Hid (StrsOwn w.heap.size ((w.alloc (.cells (madeCells #[.string ⟨#[]⟩] L.length) 9)).setCells w.heap.size 0 (L.map Value.string)).heap.size ((w.alloc (.cells (madeCells #[.string ⟨#[]⟩] L.length) 9)).setCells w.heap.size 0 (L.map Value.string)) (.slice (some ⟨w.heap.size, 0, none⟩) L.length L.length) L) := by
      refine Or.inr ⟨w.heap.size, 0, L.length, rfl, hne, HM.out, by rw [size_setCells]; simp, fun i hi => ?_, hsz, Nat.le_refl _, by rw [size_setCells]; simp, fun i => ?_⟩
      · have := World.cell?_setCells_in w.heap.size (L.map Value.string) 0 (w.alloc (.cells (madeCells #[.string ⟨#[]⟩] L.length) 9)) (fun j hj => by rw [hcl] at hj; rw [Nat.zero_add, hrow.cell hj]; rfl) i (by rw [hcl]; exact hi)
        rw [this]; simp
      · rw [World.frozen?_setCells, Nat.zero_add]; exact hrow.frozen i
    have HB : Hid (Below w.heap.size w ((w.alloc (.cells (madeCells #[.string ⟨#[]⟩] L.length) 9)).setCells w.heap.size 0 (L.map Value.string))) := below_setCells _ (Nat.le_refl _) _ _ _ ((Below.refl _ _).alloc (Nat.le_refl _) _)
    clear hrow hcl hc
    generalize hW : (w.alloc (.cells (madeCells #[.string ⟨#[]⟩] L.length) 9)).setCells w.heap.size 0 (L.map Value.string) = W2 at *
    clear hW
    go_enter Tryz.func228, Tryz.ntmps228
    go_wp2
    go_ret
    exact ⟨_, rfl, HB.out, HOWN.out⟩
end Go.Proofs.YtlnlodleokobeaaGreat

