import Derived.Test.YthfdfdlojfdckaaGreatVAQ
import Derived.Test.YthfdfdlojfdckaaGreatVDA
namespace Go.Proofs.YthfdfdlojfdckaaGreat
open Go.RowKit Go.Deep
section
variable (b0 b1 b2 : Option Addr) (k0 k1 k2 : Nat) (A : Ak) (w : World)

set_option maxRecDepth 20000 in
set_option maxHeartbeats 4000000 in
theorem without1_any : Calls Tryz.prog 257 #[.agg #[], .agg #[.string A.who, .int .i64 A.verb, .string A.kd, .string A.nm, .string A.tm, .slice b0 A.vs.length k0, .slice b1 A.hs.length k1, .int .i64 A.seen, .string A.hold, .string A.tw, .slice b2 A.vb.length k2, .string A.rk, .string A.rt, .string A.rp, .int .i64 A.num]] w fun e w' => e = .returned (.agg #[.string A.who, .int .i64 A.verb, .string ⟨#[]⟩, .string ⟨#[]⟩, .string ⟨#[]⟩, .slice none 0 0, .slice none 0 0, .int .i64 A.seen, .string A.hold, .string A.tw, .slice b2 A.vb.length k2, .string A.rk, .string A.rt, .string A.rp, .int .i64 A.num]) ∧ Below w.heap.size w w' := by
  go_enter Tryz.func257, Tryz.ntmps257
  go_wp2
  refine bodyPost_ret (v := .agg #[.string A.who, .int .i64 A.verb, .string ⟨#[]⟩, .string ⟨#[]⟩, .string ⟨#[]⟩, .slice none 0 0, .slice none 0 0, .int .i64 A.seen, .string A.hold, .string A.tw, .slice b2 A.vb.length k2, .string A.rk, .string A.rt, .string A.rp, .int .i64 A.num]) (by simp [results, Tryz.results257, go_sem]) rfl ⟨rfl, ?_⟩
  exact ((one_al w _).alloc (by simp) _).alloc (by simp; omega) _

set_option maxRecDepth 20000 in
set_option maxHeartbeats 4000000 in
theorem without2_any : Calls Tryz.prog 263 #[.agg #[], .agg #[.string A.who, .int .i64 A.verb, .string A.kd, .string A.nm, .string A.tm, .slice b0 A.vs.length k0, .slice b1 A.hs.length k1, .int .i64 A.seen, .string A.hold, .string A.tw, .slice b2 A.vb.length k2, .string A.rk, .string A.rt, .string A.rp, .int .i64 A.num]] w fun e w' => e = .returned (.agg #[.string A.who, .int .i64 A.verb, .string ⟨#[]⟩, .string ⟨#[]⟩, .string A.tm, .slice none 0 0, .slice b1 A.hs.length k1, .int .i64 0, .string A.hold, .string A.tw, .slice b2 A.vb.length k2, .string A.rk, .string A.rt, .string A.rp, .int .i64 A.num]) ∧ Below w.heap.size w w' := by
  go_enter Tryz.func263, Tryz.ntmps263
  go_wp2
  refine bodyPost_ret (v := .agg #[.string A.who, .int .i64 A.verb, .string ⟨#[]⟩, .string ⟨#[]⟩, .string A.tm, .slice none 0 0, .slice b1 A.hs.length k1, .int .i64 0, .string A.hold, .string A.tw, .slice b2 A.vb.length k2, .string A.rk, .string A.rt, .string A.rp, .int .i64 A.num]) (by simp [results, Tryz.results263, go_sem]) rfl ⟨rfl, ?_⟩
  exact ((one_al w _).alloc (by simp) _).alloc (by simp; omega) _

set_option maxRecDepth 20000 in
set_option maxHeartbeats 4000000 in
theorem without3_any : Calls Tryz.prog 267 #[.agg #[], .agg #[.string A.who, .int .i64 A.verb, .string A.kd, .string A.nm, .string A.tm, .slice b0 A.vs.length k0, .slice b1 A.hs.length k1, .int .i64 A.seen, .string A.hold, .string A.tw, .slice b2 A.vb.length k2, .string A.rk, .string A.rt, .string A.rp, .int .i64 A.num]] w fun e w' => e = .returned (.agg #[.string A.who, .int .i64 A.verb, .string ⟨#[]⟩, .string ⟨#[]⟩, .string A.tm, .slice b0 A.vs.length k0, .slice b1 A.hs.length k1, .int .i64 0, .string A.hold, .string A.tw, .slice b2 A.vb.length k2, .string A.rk, .string A.rt, .string A.rp, .int .i64 A.num]) ∧ Below w.heap.size w w' := by
  go_enter Tryz.func267, Tryz.ntmps267
  go_wp2
  refine bodyPost_ret (v := .agg #[.string A.who, .int .i64 A.verb, .string ⟨#[]⟩, .string ⟨#[]⟩, .string A.tm, .slice b0 A.vs.length k0, .slice b1 A.hs.length k1, .int .i64 0, .string A.hold, .string A.tw, .slice b2 A.vb.length k2, .string A.rk, .string A.rt, .string A.rp, .int .i64 A.num]) (by simp [results, Tryz.results267, go_sem]) rfl ⟨rfl, ?_⟩
  exact ((one_al w _).alloc (by simp) _).alloc (by simp; omega) _

set_option maxRecDepth 20000 in
set_option maxHeartbeats 4000000 in
theorem without4_any : Calls Tryz.prog 271 #[.agg #[], .agg #[.string A.who, .int .i64 A.verb, .string A.kd, .string A.nm, .string A.tm, .slice b0 A.vs.length k0, .slice b1 A.hs.length k1, .int .i64 A.seen, .string A.hold, .string A.tw, .slice b2 A.vb.length k2, .string A.rk, .string A.rt, .string A.rp, .int .i64 A.num]] w fun e w' => e = .returned (.agg #[.string A.who, .int .i64 A.verb, .string ⟨#[]⟩, .string ⟨#[]⟩, .string A.tm, .slice b0 A.vs.length k0, .slice b1 A.hs.length k1, .int .i64 A.seen, .string ⟨#[]⟩, .string A.tw, .slice b2 A.vb.length k2, .string A.rk, .string A.rt, .string A.rp, .int .i64 A.num]) ∧ Below w.heap.size w w' := by
  go_enter Tryz.func271, Tryz.ntmps271
  go_wp2
  refine bodyPost_ret (v := .agg #[.string A.who, .int .i64 A.verb, .string ⟨#[]⟩, .string ⟨#[]⟩, .string A.tm, .slice b0 A.vs.length k0, .slice b1 A.hs.length k1, .int .i64 A.seen, .string ⟨#[]⟩, .string A.tw, .slice b2 A.vb.length k2, .string A.rk, .string A.rt, .string A.rp, .int .i64 A.num]) (by simp [results, Tryz.results271, go_sem]) rfl ⟨rfl, ?_⟩
  exact ((one_al w _).alloc (by simp) _).alloc (by simp; omega) _

set_option maxRecDepth 20000 in
set_option maxHeartbeats 4000000 in
theorem without5_any : Calls Tryz.prog 275 #[.agg #[], .agg #[.string A.who, .int .i64 A.verb, .string A.kd, .string A.nm, .string A.tm, .slice b0 A.vs.length k0, .slice b1 A.hs.length k1, .int .i64 A.seen, .string A.hold, .string A.tw, .slice b2 A.vb.length k2, .string A.rk, .string A.rt, .string A.rp, .int .i64 A.num]] w fun e w' => e = .returned (.agg #[.string A.who, .int .i64 A.verb, .string A.kd, .string A.nm, .string A.tm, .slice b0 A.vs.length k0, .slice b1 A.hs.length k1, .int .i64 A.seen, .string A.hold, .string ⟨#[]⟩, .slice none 0 0, .string ⟨#[]⟩, .string ⟨#[]⟩, .string ⟨#[]⟩, .int .i64 A.num]) ∧ Below w.heap.size w w' := by
  go_enter Tryz.func275, Tryz.ntmps275
  go_wp2
  refine bodyPost_ret (v := .agg #[.string A.who, .int .i64 A.verb, .string A.kd, .string A.nm, .string A.tm, .slice b0 A.vs.length k0, .slice b1 A.hs.length k1, .int .i64 A.seen, .string A.hold, .string ⟨#[]⟩, .slice none 0 0, .string ⟨#[]⟩, .string ⟨#[]⟩, .string ⟨#[]⟩, .int .i64 A.num]) (by simp [results, Tryz.results275, go_sem]) rfl ⟨rfl, ?_⟩
  exact ((one_al w _).alloc (by simp) _).alloc (by simp; omega) _

set_option maxRecDepth 20000 in
set_option maxHeartbeats 4000000 in
theorem without6_any : Calls Tryz.prog 279 #[.agg #[], .agg #[.string A.who, .int .i64 A.verb, .string A.kd, .string A.nm, .string A.tm, .slice b0 A.vs.length k0, .slice b1 A.hs.length k1, .int .i64 A.seen, .string A.hold, .string A.tw, .slice b2 A.vb.length k2, .string A.rk, .string A.rt, .string A.rp, .int .i64 A.num]] w fun e w' => e = .returned (.agg #[.string A.who, .int .i64 A.verb, .string A.kd, .string A.nm, .string A.tm, .slice b0 A.vs.length k0, .slice b1 A.hs.length k1, .int .i64 A.seen, .string A.hold, .string A.tw, .slice b2 A.vb.length k2, .string A.rk, .string A.rt, .string A.rp, .int .i64 0]) ∧ Below w.heap.size w w' := by
  go_enter Tryz.func279, Tryz.ntmps279
  go_wp2
  refine bodyPost_ret (v := .agg #[.string A.who, .int .i64 A.verb, .string A.kd, .string A.nm, .string A.tm, .slice b0 A.vs.length k0, .slice b1 A.hs.length k1, .int .i64 A.seen, .string A.hold, .string A.tw, .slice b2 A.vb.length k2, .string A.rk, .string A.rt, .string A.rp, .int .i64 0]) (by simp [results, Tryz.results279, go_sem]) rfl ⟨rfl, ?_⟩
  exact ((one_al w _).alloc (by simp) _).alloc (by simp; omega) _
end
end Go.Proofs.YthfdfdlojfdckaaGreat

