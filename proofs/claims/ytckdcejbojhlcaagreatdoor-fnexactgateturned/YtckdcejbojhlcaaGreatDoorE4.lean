import Derived.Test.YtckdcejbojhlcaaGreatDoorE3
import Derived.Test.YtckdcejbojhlcaaGreatDoorA2
import Derived.Test.YtckdcejbojhlcaaGreatDoorC3
namespace Go.Proofs.YtckdcejbojhlcaaGreatDoor
open Go.RowKit Go.Deep

/-- what GateCheck tells -/
def checkG (Ss : List Sh) (kind nm team : ByteArray) (V Ho : List ByteArray) (ver : Int) : Int × Int :=
  match okShapeOf Ss kind with
  | none => (1, 0)
  | some x => checkR x.fields nm team V Ho ver
theorem checkG_none {Ss : List Sh} {kind nm team : ByteArray} {V Ho : List ByteArray} {ver : Int} (h : okShapeOf Ss kind = none) : checkG Ss kind nm team V Ho ver = (1, 0) := by unfold checkG; rw [h]
theorem checkG_some {Ss : List Sh} {kind nm team : ByteArray} {V Ho : List ByteArray} {ver : Int} {x : Sh} (h : okShapeOf Ss kind = some x) : checkG Ss kind nm team V Ho ver = checkR x.fields nm team V Ho ver := by unfold checkG; rw [h]
theorem checkR_zero {Fs : List Fd} {nm team : ByteArray} {V Ho : List ByteArray} {ver : Int} (h : (checkR Fs nm team V Ho ver).1 = 0) : (checkR Fs nm team V Ho ver).2 = 0 := by
  unfold checkR at h ⊢
  by_cases hb : objB Fs nm team V Ho ver = true
  · rw [if_pos hb] at h ⊢; rw [ff_zero _ _ h]
  · rw [if_neg hb] at h; exact absurd h (by decide)
theorem oneAl (X : World) (o : Obj) : Below X.heap.size X (X.alloc o) := (Below.refl _ _).alloc (Nat.le_refl _) _
theorem btz {a b c : World} (h : Below a.heap.size a b) (k : Below b.heap.size b c) : Below a.heap.size a c := h.trans (k.mono h.size)
theorem StrsAt.formz {w : World} {v : Value} {L : List ByteArray} (h : StrsAt w v L) : ∃ a cap, v = .slice a L.length cap := by
  rcases h with ⟨a, cap, h, rfl⟩ | ⟨b, off, cap, h, _⟩
  · exact ⟨_, _, h⟩
  · exact ⟨_, _, h⟩

section
variable (kind nm team : ByteArray) (vv hv sv : Value) (en : Bool) (ver : Int) (V Ho : List ByteArray) (Ss : List Sh) (w : World) (lo : Nat)
set_option maxRecDepth 20000 in
set_option maxHeartbeats 2000000 in
theorem implCheck_any (hS : ShsAt lo w sv Ss) (hV : StrsAt w vv V) (hH : StrsAt w hv Ho) (s2 : nm.size ≤ maxLen) (s3 : team.size ≤ maxLen) (hg : Laid w) :
    Calls Tryz.prog 10 #[sv, .agg #[.string kind, .string nm, .string team, vv, .bool en, hv, .int .i64 ver]] w
      fun e w' => e = .returned (.tuple #[.int .i64 (checkG Ss kind nm team V Ho ver).1, .int .i64 (checkG Ss kind nm team V Ho ver).2]) ∧ Below w.heap.size w w' := by
  have HV := hide hV
  have HH := hide hH
  have HS := hide hS
  have HG := hide hg
  obtain ⟨a, cap, rfl⟩ := hV.formz
  obtain ⟨a', cap', rfl⟩ := hH.formz
  obtain ⟨a1, cap1, rfl⟩ := hS.form
  clear hV hH hS hg
  go_enter Tryz.func10, Tryz.ntmps10
  go_wp2_with fail
  generalize hW0 : w.alloc _ = W0
  have HB0 : Hid (Below w.heap.size w W0) := by rw [← hW0]; exact oneAl _ _
  have G0 : Hid (∀ i, W0.cell? ⟨w.heap.size, i, none⟩ = (#[.string kind, .string nm, .string team, .slice a V.length cap, .bool en, .slice a' Ho.length cap', .int .i64 ver] : Array Value)[i]?) := fun i => by rw [← hW0]; exact new_cellz _ _ _ _ _ rfl
  have hz0 : w.heap.size < W0.heap.size := by rw [← hW0]; simp
  clear hW0
  refine (okShapeOf_any lo _ Ss kind _ (HS.out.below HB0.out)).mono ?_
  rintro e w1 ⟨hb1, hsh⟩
  have HB1 : Hid (Below w.heap.size w w1) := btz HB0.out hb1
  have hz1 : w.heap.size < w1.heap.size := Nat.lt_of_lt_of_le hz0 hb1.size
  have g1 : ∀ i, w1.cell? ⟨w.heap.size, i, none⟩ = (#[.string kind, .string nm, .string team, .slice a V.length cap, .bool en, .slice a' Ho.length cap', .int .i64 ver] : Array Value)[i]? := fun i => by rw [hb1.cell (p := ⟨w.heap.size, i, none⟩) hz0]; exact G0.out i
  rcases hsh with ⟨x, fv, hx, rfl, hfd⟩ | ⟨hx, rfl⟩
  · obtain ⟨fa, fcap, rfl⟩ := hfd.form
    have HF := hide (hfd.below hb1)
    have HX := hide hx
    clear hx hfd hb1
    go_wp2_with fail
    generalize hW1 : w1.alloc _ = W1
    have HC1 : Hid (Below w1.heap.size w1 W1) := by rw [← hW1]; exact oneAl _ _
    have HB2 : Hid (Below w.heap.size w W1) := btz HB1.out HC1.out
    clear hW1
    refine (checkObject_any _ _ _ _ _ _ _ _ _ V Ho x.fields _ lo (HV.out.below HB2.out) (HH.out.below HB2.out) (HF.out.below HC1.out) s2 s3).mono ?_
    rintro e w3 ⟨rfl, hb3⟩
    have HB3 : Hid (Below w.heap.size w w3) := btz HB2.out hb3
    clear hb3 g1
    go_wp2_with fail
    refine (faultOf_any _ checkR_zero _ (HG.out.on HB3.out)).mono ?_
    rintro e w4 ⟨rfl, hb4⟩
    have HB4 : Hid (Below w.heap.size w w4) := btz HB3.out hb4
    rw [← checkG_some HX.out]
    clear hb4 HX
    go_wp2
    go_ret2
    exact ⟨rfl, HB4.out⟩
  · have HX : Hid (checkG Ss kind nm team V Ho ver = (1, 0)) := checkG_none hx
    clear hx hb1
    go_wp2
    go_ret2
    exact ⟨by rw [HX.out]; rfl, btz HB1.out (oneAl _ _)⟩
end
end Go.Proofs.YtckdcejbojhlcaaGreatDoor
