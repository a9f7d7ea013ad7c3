
import Derived.Test.YthfdfdlojfdckaaGreatVAQ5
import Derived.Test.YthfdfdlojfdckaaGreatVH9
namespace Go.Proofs.YthfdfdlojfdckaaGreat
open Go.RowKit Go.Deep

/-- two boxes and a cell -/
abbrev HeldQ (W0 : World) (b1 : Nat) (cs1 : Array Value) (b2 : Nat) (cs2 : Array Value) (p : Addr) (v : Value) (W : World) : Prop :=
  (∀ i, W.cell? ⟨b1, i, none⟩ = cs1[i]?) ∧ (∀ i, W.cell? ⟨b2, i, none⟩ = cs2[i]?) ∧ W.cell? p = some v ∧ Hid (Below W0.heap.size W0 W ∧ b1 < W0.heap.size ∧ b2 < W0.heap.size ∧ p.block < W0.heap.size)
theorem HeldQ.drew {W0 : World} {b1 b2 : Nat} {cs1 cs2 : Array Value} {p : Addr} {v : Value} (h1 : Box W0 b1 cs1) (h2 : Box W0 b2 cs2) (h3 : W0.cell? p = some v) : HeldQ W0 b1 cs1 b2 cs2 p v W0.drew := ⟨h1.cell, h2.cell, h3, (Below.refl _ _).drew, h1.lt, h2.lt, World.block_lt_of_cell? W0 _ h3⟩
theorem HeldQ.on {W0 W W' : World} {b1 b2 : Nat} {cs1 cs2 : Array Value} {p : Addr} {v : Value} (h : HeldQ W0 b1 cs1 b2 cs2 p v W) (hb : Below W.heap.size W W') : HeldQ W0 b1 cs1 b2 cs2 p v W' := by
  obtain ⟨h1, h2, h3, h4, h5, h6, h7⟩ := h
  have := h4.size
  exact ⟨fun i => (hb.cell (p := ⟨b1, i, none⟩) (by simp only []; omega)).trans (h1 i), fun i => (hb.cell (p := ⟨b2, i, none⟩) (by simp only []; omega)).trans (h2 i), (hb.cell (p := p) (by omega)).trans h3, bt h4 hb, h5, h6, h7⟩

section
variable (b0 b1 b2 : Option Addr) (k0 k1 k2 : Nat) (A : Ak) (w : World)

set_option maxRecDepth 20000 in
set_option maxHeartbeats 4000000 in
theorem rest1_any (hv : A.verb = 1) : Calls Tryz.prog 90 #[.agg #[.string A.who, .int .i64 A.verb, .string A.kd, .string A.nm, .string A.tm, .slice b0 A.vs.length k0, .slice b1 A.hs.length k1, .int .i64 A.seen, .string A.hold, .string A.tw, .slice b2 A.vb.length k2, .string A.rk, .string A.rt, .string A.rp, .int .i64 A.num]] w fun e w' => e = .returned (.agg #[.string ⟨#[]⟩, .int .i64 A.verb, .string ⟨#[]⟩, .string ⟨#[]⟩, .string ⟨#[]⟩, .slice none 0 0, .slice none 0 0, .int .i64 A.seen, .string A.hold, .string A.tw, .slice b2 A.vb.length k2, .string A.rk, .string A.rt, .string A.rp, .int .i64 A.num]) ∧ Below w.heap.size w w' := by
  have e1 : (A.verb == 1) = true := by rw [hv]; rfl
  clear hv
  go_enter Tryz.func90, Tryz.ntmps90
  go_wp2
  refine bodyPost_ret (v := .agg #[.string ⟨#[]⟩, .int .i64 A.verb, .string ⟨#[]⟩, .string ⟨#[]⟩, .string ⟨#[]⟩, .slice none 0 0, .slice none 0 0, .int .i64 A.seen, .string A.hold, .string A.tw, .slice b2 A.vb.length k2, .string A.rk, .string A.rt, .string A.rp, .int .i64 A.num]) (by simp [results, Tryz.results90, go_sem]) rfl ⟨rfl, ?_⟩
  exact (one_al w _).alloc (by simp) _

set_option maxRecDepth 20000 in
set_option maxHeartbeats 4000000 in
theorem rest2_any (hv : A.verb = 2) : Calls Tryz.prog 90 #[.agg #[.string A.who, .int .i64 A.verb, .string A.kd, .string A.nm, .string A.tm, .slice b0 A.vs.length k0, .slice b1 A.hs.length k1, .int .i64 A.seen, .string A.hold, .string A.tw, .slice b2 A.vb.length k2, .string A.rk, .string A.rt, .string A.rp, .int .i64 A.num]] w fun e w' => e = .returned (.agg #[.string ⟨#[]⟩, .int .i64 A.verb, .string ⟨#[]⟩, .string ⟨#[]⟩, .string A.tm, .slice none 0 0, .slice b1 A.hs.length k1, .int .i64 0, .string A.hold, .string A.tw, .slice b2 A.vb.length k2, .string A.rk, .string A.rt, .string A.rp, .int .i64 A.num]) ∧ Below w.heap.size w w' := by
  have e1 : (A.verb == 1) = false := by rw [hv]; rfl
  have e2 : (A.verb == 2) = true := by rw [hv]; rfl
  clear hv
  go_enter Tryz.func90, Tryz.ntmps90
  go_wp2
  refine bodyPost_ret (v := .agg #[.string ⟨#[]⟩, .int .i64 A.verb, .string ⟨#[]⟩, .string ⟨#[]⟩, .string A.tm, .slice none 0 0, .slice b1 A.hs.length k1, .int .i64 0, .string A.hold, .string A.tw, .slice b2 A.vb.length k2, .string A.rk, .string A.rt, .string A.rp, .int .i64 A.num]) (by simp [results, Tryz.results90, go_sem]) rfl ⟨rfl, ?_⟩
  exact (one_al w _).alloc (by simp) _

set_option maxRecDepth 20000 in
set_option maxHeartbeats 4000000 in
theorem rest3_any (hv : A.verb = 3) : Calls Tryz.prog 90 #[.agg #[.string A.who, .int .i64 A.verb, .string A.kd, .string A.nm, .string A.tm, .slice b0 A.vs.length k0, .slice b1 A.hs.length k1, .int .i64 A.seen, .string A.hold, .string A.tw, .slice b2 A.vb.length k2, .string A.rk, .string A.rt, .string A.rp, .int .i64 A.num]] w fun e w' => e = .returned (.agg #[.string ⟨#[]⟩, .int .i64 A.verb, .string ⟨#[]⟩, .string ⟨#[]⟩, .string A.tm, .slice b0 A.vs.length k0, .slice b1 A.hs.length k1, .int .i64 0, .string A.hold, .string A.tw, .slice b2 A.vb.length k2, .string A.rk, .string A.rt, .string A.rp, .int .i64 A.num]) ∧ Below w.heap.size w w' := by
  have e1 : (A.verb == 1) = false := by rw [hv]; rfl
  have e2 : (A.verb == 2) = false := by rw [hv]; rfl
  have e3 : (A.verb == 3) = true := by rw [hv]; rfl
  clear hv
  go_enter Tryz.func90, Tryz.ntmps90
  go_wp2
  refine bodyPost_ret (v := .agg #[.string ⟨#[]⟩, .int .i64 A.verb, .string ⟨#[]⟩, .string ⟨#[]⟩, .string A.tm, .slice b0 A.vs.length k0, .slice b1 A.hs.length k1, .int .i64 0, .string A.hold, .string A.tw, .slice b2 A.vb.length k2, .string A.rk, .string A.rt, .string A.rp, .int .i64 A.num]) (by simp [results, Tryz.results90, go_sem]) rfl ⟨rfl, ?_⟩
  exact (one_al w _).alloc (by simp) _

set_option maxRecDepth 20000 in
set_option maxHeartbeats 4000000 in
theorem rest4_any (hv : A.verb = 4) : Calls Tryz.prog 90 #[.agg #[.string A.who, .int .i64 A.verb, .string A.kd, .string A.nm, .string A.tm, .slice b0 A.vs.length k0, .slice b1 A.hs.length k1, .int .i64 A.seen, .string A.hold, .string A.tw, .slice b2 A.vb.length k2, .string A.rk, .string A.rt, .string A.rp, .int .i64 A.num]] w fun e w' => e = .returned (.agg #[.string ⟨#[]⟩, .int .i64 A.verb, .string ⟨#[]⟩, .string ⟨#[]⟩, .string A.tm, .slice b0 A.vs.length k0, .slice b1 A.hs.length k1, .int .i64 A.seen, .string ⟨#[]⟩, .string A.tw, .slice b2 A.vb.length k2, .string A.rk, .string A.rt, .string A.rp, .int .i64 A.num]) ∧ Below w.heap.size w w' := by
  have e1 : (A.verb == 1) = false := by rw [hv]; rfl
  have e2 : (A.verb == 2) = false := by rw [hv]; rfl
  have e3 : (A.verb == 3) = false := by rw [hv]; rfl
  have e4 : (A.verb == 4) = true := by rw [hv]; rfl
  clear hv
  go_enter Tryz.func90, Tryz.ntmps90
  go_wp2
  refine bodyPost_ret (v := .agg #[.string ⟨#[]⟩, .int .i64 A.verb, .string ⟨#[]⟩, .string ⟨#[]⟩, .string A.tm, .slice b0 A.vs.length k0, .slice b1 A.hs.length k1, .int .i64 A.seen, .string ⟨#[]⟩, .string A.tw, .slice b2 A.vb.length k2, .string A.rk, .string A.rt, .string A.rp, .int .i64 A.num]) (by simp [results, Tryz.results90, go_sem]) rfl ⟨rfl, ?_⟩
  exact (one_al w _).alloc (by simp) _

set_option maxRecDepth 20000 in
set_option maxHeartbeats 4000000 in
theorem rest5_any (hv : A.verb = 5) : Calls Tryz.prog 90 #[.agg #[.string A.who, .int .i64 A.verb, .string A.kd, .string A.nm, .string A.tm, .slice b0 A.vs.length k0, .slice b1 A.hs.length k1, .int .i64 A.seen, .string A.hold, .string A.tw, .slice b2 A.vb.length k2, .string A.rk, .string A.rt, .string A.rp, .int .i64 A.num]] w fun e w' => e = .returned (.agg #[.string ⟨#[]⟩, .int .i64 A.verb, .string A.kd, .string A.nm, .string A.tm, .slice b0 A.vs.length k0, .slice b1 A.hs.length k1, .int .i64 A.seen, .string A.hold, .string ⟨#[]⟩, .slice none 0 0, .string ⟨#[]⟩, .string ⟨#[]⟩, .string ⟨#[]⟩, .int .i64 A.num]) ∧ Below w.heap.size w w' := by
  have e1 : (A.verb == 1) = false := by rw [hv]; rfl
  have e2 : (A.verb == 2) = false := by rw [hv]; rfl
  have e3 : (A.verb == 3) = false := by rw [hv]; rfl
  have e4 : (A.verb == 4) = false := by rw [hv]; rfl
  have e5 : (A.verb == 5) = true := by rw [hv]; rfl
  clear hv
  go_enter Tryz.func90, Tryz.ntmps90
  go_wp2
  refine bodyPost_ret (v := .agg #[.string ⟨#[]⟩, .int .i64 A.verb, .string A.kd, .string A.nm, .string A.tm, .slice b0 A.vs.length k0, .slice b1 A.hs.length k1, .int .i64 A.seen, .string A.hold, .string ⟨#[]⟩, .slice none 0 0, .string ⟨#[]⟩, .string ⟨#[]⟩, .string ⟨#[]⟩, .int .i64 A.num]) (by simp [results, Tryz.results90, go_sem]) rfl ⟨rfl, ?_⟩
  exact (one_al w _).alloc (by simp) _

set_option maxRecDepth 20000 in
set_option maxHeartbeats 4000000 in
theorem rest6_any (hv : A.verb = 6) : Calls Tryz.prog 90 #[.agg #[.string A.who, .int .i64 A.verb, .string A.kd, .string A.nm, .string A.tm, .slice b0 A.vs.length k0, .slice b1 A.hs.length k1, .int .i64 A.seen, .string A.hold, .string A.tw, .slice b2 A.vb.length k2, .string A.rk, .string A.rt, .string A.rp, .int .i64 A.num]] w fun e w' => e = .returned (.agg #[.string ⟨#[]⟩, .int .i64 A.verb, .string A.kd, .string A.nm, .string A.tm, .slice b0 A.vs.length k0, .slice b1 A.hs.length k1, .int .i64 A.seen, .string A.hold, .string A.tw, .slice b2 A.vb.length k2, .string A.rk, .string A.rt, .string A.rp, .int .i64 0]) ∧ Below w.heap.size w w' := by
  have e1 : (A.verb == 1) = false := by rw [hv]; rfl
  have e2 : (A.verb == 2) = false := by rw [hv]; rfl
  have e3 : (A.verb == 3) = false := by rw [hv]; rfl
  have e4 : (A.verb == 4) = false := by rw [hv]; rfl
  have e5 : (A.verb == 5) = false := by rw [hv]; rfl
  have e6 : (A.verb == 6) = true := by rw [hv]; rfl
  clear hv
  go_enter Tryz.func90, Tryz.ntmps90
  go_wp2
  refine bodyPost_ret (v := .agg #[.string ⟨#[]⟩, .int .i64 A.verb, .string A.kd, .string A.nm, .string A.tm, .slice b0 A.vs.length k0, .slice b1 A.hs.length k1, .int .i64 A.seen, .string A.hold, .string A.tw, .slice b2 A.vb.length k2, .string A.rk, .string A.rt, .string A.rp, .int .i64 0]) (by simp [results, Tryz.results90, go_sem]) rfl ⟨rfl, ?_⟩
  exact (one_al w _).alloc (by simp) _
end
end Go.Proofs.YthfdfdlojfdckaaGreat
