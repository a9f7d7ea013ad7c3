import Derived.Test.YtfohnageehneoaaGreatUAQA
import Derived.Test.YtfohnageehneoaaGreatUHC
import Derived.Test.YtfohnageehneoaaGreatUDA
namespace Go.Proofs.YtfohnageehneoaaGreat
open Go.RowKit Go.Deep

section
variable (b0 b1 b2 : Option Addr) (k0 k1 k2 : Nat) (A : Ak) (w : World)

set_option maxRecDepth 20000 in
set_option maxHeartbeats 4000000 in
theorem rest1_any (hv : A.verb = 1) : Calls Tryz.prog 188 #[.agg #[.string A.who, .int .i64 A.verb, .string A.kd, .string A.nm, .string A.tm, .slice b0 A.vs.length k0, .slice b1 A.hs.length k1, .int .i64 A.seen, .string A.hold, .string A.tw, .slice b2 A.vb.length k2, .string A.rk, .string A.rt, .string A.rp, .int .i64 A.num]] w fun e w' => e = .returned (.agg #[.string ⟨#[]⟩, .int .i64 A.verb, .string ⟨#[]⟩, .string ⟨#[]⟩, .string ⟨#[]⟩, .slice none 0 0, .slice none 0 0, .int .i64 A.seen, .string A.hold, .string A.tw, .slice b2 A.vb.length k2, .string A.rk, .string A.rt, .string A.rp, .int .i64 A.num]) ∧ Below w.heap.size w w' := by
  have e1 : (A.verb == 1) = true := by rw [hv]; rfl
  clear hv
  go_enter Tryz.func188, Tryz.ntmps188
  go_wp2
  refine bodyPost_ret (v := .agg #[.string ⟨#[]⟩, .int .i64 A.verb, .string ⟨#[]⟩, .string ⟨#[]⟩, .string ⟨#[]⟩, .slice none 0 0, .slice none 0 0, .int .i64 A.seen, .string A.hold, .string A.tw, .slice b2 A.vb.length k2, .string A.rk, .string A.rt, .string A.rp, .int .i64 A.num]) (by simp [results, Tryz.results188, go_sem]) rfl ⟨rfl, ?_⟩
  exact (one_al w _).alloc (by simp) _

set_option maxRecDepth 20000 in
set_option maxHeartbeats 4000000 in
theorem rest2_any (hv : A.verb = 2) : Calls Tryz.prog 188 #[.agg #[.string A.who, .int .i64 A.verb, .string A.kd, .string A.nm, .string A.tm, .slice b0 A.vs.length k0, .slice b1 A.hs.length k1, .int .i64 A.seen, .string A.hold, .string A.tw, .slice b2 A.vb.length k2, .string A.rk, .string A.rt, .string A.rp, .int .i64 A.num]] w fun e w' => e = .returned (.agg #[.string ⟨#[]⟩, .int .i64 A.verb, .string ⟨#[]⟩, .string ⟨#[]⟩, .string A.tm, .slice none 0 0, .slice b1 A.hs.length k1, .int .i64 0, .string A.hold, .string A.tw, .slice b2 A.vb.length k2, .string A.rk, .string A.rt, .string A.rp, .int .i64 A.num]) ∧ Below w.heap.size w w' := by
  have e1 : (A.verb == 1) = false := by rw [hv]; rfl
  have e2 : (A.verb == 2) = true := by rw [hv]; rfl
  clear hv
  go_enter Tryz.func188, Tryz.ntmps188
  go_wp2
  refine bodyPost_ret (v := .agg #[.string ⟨#[]⟩, .int .i64 A.verb, .string ⟨#[]⟩, .string ⟨#[]⟩, .string A.tm, .slice none 0 0, .slice b1 A.hs.length k1, .int .i64 0, .string A.hold, .string A.tw, .slice b2 A.vb.length k2, .string A.rk, .string A.rt, .string A.rp, .int .i64 A.num]) (by simp [results, Tryz.results188, go_sem]) rfl ⟨rfl, ?_⟩
  exact (one_al w _).alloc (by simp) _

set_option maxRecDepth 20000 in
set_option maxHeartbeats 4000000 in
theorem rest3_any (hv : A.verb = 3) : Calls Tryz.prog 188 #[.agg #[.string A.who, .int .i64 A.verb, .string A.kd, .string A.nm, .string A.tm, .slice b0 A.vs.length k0, .slice b1 A.hs.length k1, .int .i64 A.seen, .string A.hold, .string A.tw, .slice b2 A.vb.length k2, .string A.rk, .string A.rt, .string A.rp, .int .i64 A.num]] w fun e w' => e = .returned (.agg #[.string ⟨#[]⟩, .int .i64 A.verb, .string ⟨#[]⟩, .string ⟨#[]⟩, .string A.tm, .slice b0 A.vs.length k0, .slice b1 A.hs.length k1, .int .i64 0, .string A.hold, .string A.tw, .slice b2 A.vb.length k2, .string A.rk, .string A.rt, .string A.rp, .int .i64 A.num]) ∧ Below w.heap.size w w' := by
  have e1 : (A.verb == 1) = false := by rw [hv]; rfl
  have e2 : (A.verb == 2) = false := by rw [hv]; rfl
  have e3 : (A.verb == 3) = true := by rw [hv]; rfl
  clear hv
  go_enter Tryz.func188, Tryz.ntmps188
  go_wp2
  refine bodyPost_ret (v := .agg #[.string ⟨#[]⟩, .int .i64 A.verb, .string ⟨#[]⟩, .string ⟨#[]⟩, .string A.tm, .slice b0 A.vs.length k0, .slice b1 A.hs.length k1, .int .i64 0, .string A.hold, .string A.tw, .slice b2 A.vb.length k2, .string A.rk, .string A.rt, .string A.rp, .int .i64 A.num]) (by simp [results, Tryz.results188, go_sem]) rfl ⟨rfl, ?_⟩
  exact (one_al w _).alloc (by simp) _

set_option maxRecDepth 20000 in
set_option maxHeartbeats 4000000 in
theorem rest4_any (hv : A.verb = 4) : Calls Tryz.prog 188 #[.agg #[.string A.who, .int .i64 A.verb, .string A.kd, .string A.nm, .string A.tm, .slice b0 A.vs.length k0, .slice b1 A.hs.length k1, .int .i64 A.seen, .string A.hold, .string A.tw, .slice b2 A.vb.length k2, .string A.rk, .string A.rt, .string A.rp, .int .i64 A.num]] w fun e w' => e = .returned (.agg #[.string ⟨#[]⟩, .int .i64 A.verb, .string ⟨#[]⟩, .string ⟨#[]⟩, .string A.tm, .slice b0 A.vs.length k0, .slice b1 A.hs.length k1, .int .i64 A.seen, .string ⟨#[]⟩, .string A.tw, .slice b2 A.vb.length k2, .string A.rk, .string A.rt, .string A.rp, .int .i64 A.num]) ∧ Below w.heap.size w w' := by
  have e1 : (A.verb == 1) = false := by rw [hv]; rfl
  have e2 : (A.verb == 2) = false := by rw [hv]; rfl
  have e3 : (A.verb == 3) = false := by rw [hv]; rfl
  have e4 : (A.verb == 4) = true := by rw [hv]; rfl
  clear hv
  go_enter Tryz.func188, Tryz.ntmps188
  go_wp2
  refine bodyPost_ret (v := .agg #[.string ⟨#[]⟩, .int .i64 A.verb, .string ⟨#[]⟩, .string ⟨#[]⟩, .string A.tm, .slice b0 A.vs.length k0, .slice b1 A.hs.length k1, .int .i64 A.seen, .string ⟨#[]⟩, .string A.tw, .slice b2 A.vb.length k2, .string A.rk, .string A.rt, .string A.rp, .int .i64 A.num]) (by simp [results, Tryz.results188, go_sem]) rfl ⟨rfl, ?_⟩
  exact (one_al w _).alloc (by simp) _

set_option maxRecDepth 20000 in
set_option maxHeartbeats 4000000 in
theorem rest5_any (hv : A.verb = 5) : Calls Tryz.prog 188 #[.agg #[.string A.who, .int .i64 A.verb, .string A.kd, .string A.nm, .string A.tm, .slice b0 A.vs.length k0, .slice b1 A.hs.length k1, .int .i64 A.seen, .string A.hold, .string A.tw, .slice b2 A.vb.length k2, .string A.rk, .string A.rt, .string A.rp, .int .i64 A.num]] w fun e w' => e = .returned (.agg #[.string ⟨#[]⟩, .int .i64 A.verb, .string A.kd, .string A.nm, .string A.tm, .slice b0 A.vs.length k0, .slice b1 A.hs.length k1, .int .i64 A.seen, .string A.hold, .string ⟨#[]⟩, .slice none 0 0, .string ⟨#[]⟩, .string ⟨#[]⟩, .string ⟨#[]⟩, .int .i64 A.num]) ∧ Below w.heap.size w w' := by
  have e1 : (A.verb == 1) = false := by rw [hv]; rfl
  have e2 : (A.verb == 2) = false := by rw [hv]; rfl
  have e3 : (A.verb == 3) = false := by rw [hv]; rfl
  have e4 : (A.verb == 4) = false := by rw [hv]; rfl
  have e5 : (A.verb == 5) = true := by rw [hv]; rfl
  clear hv
  go_enter Tryz.func188, Tryz.ntmps188
  go_wp2
  refine bodyPost_ret (v := .agg #[.string ⟨#[]⟩, .int .i64 A.verb, .string A.kd, .string A.nm, .string A.tm, .slice b0 A.vs.length k0, .slice b1 A.hs.length k1, .int .i64 A.seen, .string A.hold, .string ⟨#[]⟩, .slice none 0 0, .string ⟨#[]⟩, .string ⟨#[]⟩, .string ⟨#[]⟩, .int .i64 A.num]) (by simp [results, Tryz.results188, go_sem]) rfl ⟨rfl, ?_⟩
  exact (one_al w _).alloc (by simp) _

set_option maxRecDepth 20000 in
set_option maxHeartbeats 4000000 in
theorem rest6_any (hv : A.verb = 6) : Calls Tryz.prog 188 #[.agg #[.string A.who, .int .i64 A.verb, .string A.kd, .string A.nm, .string A.tm, .slice b0 A.vs.length k0, .slice b1 A.hs.length k1, .int .i64 A.seen, .string A.hold, .string A.tw, .slice b2 A.vb.length k2, .string A.rk, .string A.rt, .string A.rp, .int .i64 A.num]] w fun e w' => e = .returned (.agg #[.string ⟨#[]⟩, .int .i64 A.verb, .string A.kd, .string A.nm, .string A.tm, .slice b0 A.vs.length k0, .slice b1 A.hs.length k1, .int .i64 A.seen, .string A.hold, .string A.tw, .slice b2 A.vb.length k2, .string A.rk, .string A.rt, .string A.rp, .int .i64 0]) ∧ Below w.heap.size w w' := by
  have e1 : (A.verb == 1) = false := by rw [hv]; rfl
  have e2 : (A.verb == 2) = false := by rw [hv]; rfl
  have e3 : (A.verb == 3) = false := by rw [hv]; rfl
  have e4 : (A.verb == 4) = false := by rw [hv]; rfl
  have e5 : (A.verb == 5) = false := by rw [hv]; rfl
  have e6 : (A.verb == 6) = true := by rw [hv]; rfl
  clear hv
  go_enter Tryz.func188, Tryz.ntmps188
  go_wp2
  refine bodyPost_ret (v := .agg #[.string ⟨#[]⟩, .int .i64 A.verb, .string A.kd, .string A.nm, .string A.tm, .slice b0 A.vs.length k0, .slice b1 A.hs.length k1, .int .i64 A.seen, .string A.hold, .string A.tw, .slice b2 A.vb.length k2, .string A.rk, .string A.rt, .string A.rp, .int .i64 0]) (by simp [results, Tryz.results188, go_sem]) rfl ⟨rfl, ?_⟩
  exact (one_al w _).alloc (by simp) _
end
end Go.Proofs.YtfohnageehneoaaGreat

