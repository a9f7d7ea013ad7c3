
import Derived.Test.YthecacabcgaenaaIK1
namespace Go.Proofs.Ythecacabcgaenaa
open Go.RowKit Go.Deep Go.Maps

def servB (B : Sb) (c : Cp) : Bool := match svF B.ss c.se with
  | none => false
  | some x => inB 1 (x.nx - 1) c.nu
theorem svF_mem {S : List Sv} {s : ByteArray} {x : Sv} (h : svF S s = some x) : x ∈ S := List.mem_of_find?_eq_some h

set_option maxRecDepth 100000 in
set_option maxHeartbeats 4000000 in
theorem nowOk_any (lo m : Nat) (sv cv bv : Value) (B : Sb) (w : World) (h : SbAt lo w sv cv bv B) :
    Calls Try.prog 55 #[.agg #[.int .i64 B.now, sv, cv, bv, .map (some m)]] w fun e w' => e = .returned (.bool (inB 0 1000000 B.now)) ∧ Below w.heap.size w w' := by
  obtain ⟨a0, k0, rfl⟩ := h.svs.form
  obtain ⟨a1, k1, rfl⟩ := h.cps.form
  obtain ⟨a2, k2, rfl⟩ := h.bes.form
  clear h
  go_enter Try.func55, Try.ntmps55
  go_wp2_with (first | (go_at_call 59; refine (within_any _ _ _ _).mono ?_; rintro e w' ⟨rfl, rfl⟩))
  go_ret
  exact ⟨rfl, one_al _ _⟩

set_option maxRecDepth 100000 in
set_option maxHeartbeats 4000000 in
theorem cpBerthed_any (lo m : Nat) (sv cv bv : Value) (B : Sb) (x : Cp) (w : World) (h : SbAt lo w sv cv bv B) (hx : IxAt w m B) (hz : CpSize x) :
    Calls Try.prog 82 #[.agg #[.int .i64 B.now, sv, cv, bv, .map (some m)], .agg #[.string x.se, .int .i64 x.nu, .int .i64 x.ve, .int .i64 x.im, .int .i64 x.st, .bool x.en, .string x.be]] w fun e w' => e = .returned (.bool (if x.st == 1 then x.be.toList.isEmpty else hasBe B.bs x.be)) ∧ Below w.heap.size w w' := by
  have HK := hide h
  have HX := hide hx
  have HZ := hide hz.s1
  obtain ⟨a0, k0, rfl⟩ := h.svs.form
  obtain ⟨a1, k1, rfl⟩ := h.cps.form
  obtain ⟨a2, k2, rfl⟩ := h.bes.form
  clear h
  clear hx hz
  have HO : ∀ o o', Hid (Below w.heap.size w ((w.alloc o).alloc o')) := fun o o' => (one_al w o).alloc (by simp) o'
  go_enter Try.func82, Try.ntmps82
  cases h1 : (x.st == 1) with
  | true =>
    go_wp2
    go_ret
    exact ⟨ret_bool (by simp), (HO _ _).out⟩
  | false =>
    go_wp2_with fail
    refine (berthPlace_any lo m _ _ _ B x.be _ (HK.out.below (HO _ _).out) (HX.out.below (HO _ _).out) HZ.out).mono ?_
    rintro e w1 ⟨c, t, rfl, hb1, hf⟩
    have HB1 := hide (bt (HO _ _).out hb1)
    have HE : Hid (t = hasBe B.bs x.be) := hf.out.1
    clear hb1 hf
    go_wp2
    go_ret
    exact ⟨ret_bool (by simp [HE.out]), HB1.out⟩

set_option maxRecDepth 100000 in
set_option maxHeartbeats 4000000 in
theorem cpServed_any (lo m : Nat) (sv cv bv : Value) (B : Sb) (x : Cp) (w : World) (h : SbAt lo w sv cv bv B) (hx : IxAt w m B) (hz : CpSize x) (hu : risR rSv B.ss = true) (hss : B.ss.all (svB B.now) = true) :
    Calls Try.prog 80 #[.agg #[.int .i64 B.now, sv, cv, bv, .map (some m)], .agg #[.string x.se, .int .i64 x.nu, .int .i64 x.ve, .int .i64 x.im, .int .i64 x.st, .bool x.en, .string x.be]] w fun e w' => e = .returned (.bool (servB B x)) ∧ Below w.heap.size w w' := by
  have HK := hide h
  have HX := hide hx
  have HZ := hide hz.s0
  have HU := hide hu
  have HSS := hide hss
  obtain ⟨a0, k0, rfl⟩ := h.svs.form
  obtain ⟨a1, k1, rfl⟩ := h.cps.form
  obtain ⟨a2, k2, rfl⟩ := h.bes.form
  clear h
  clear hx hz hu hss
  go_enter Try.func80, Try.ntmps80
  go_wp2_with fail
  generalize hWa : World.alloc (w.alloc _) _ = Wa
  have HB0 : Hid (Below w.heap.size w Wa) := by rw [← hWa]; exact (one_al w _).alloc (by simp) _
  have HC0 : Hid (Box Wa (w.heap.size + 1) #[.string x.se, .int .i64 x.nu, .int .i64 x.ve, .int .i64 x.im, .int .i64 x.st, .bool x.en, .string x.be]) := by rw [← hWa]; exact Box.new _ _ _ _ (by simp)
  clear hWa
  refine (svcOf_any lo m _ _ _ B x.se _ (HK.out.below HB0.out) (HX.out.below HB0.out) HZ.out HU.out).mono ?_
  rintro e w1 ⟨y, t, rfl, hb1, hf⟩
  have HB1 := hide (bt HB0.out hb1)
  have HC1 := hide (HC0.out.on hb1)
  clear hb1 HB0 HC0
  have c1 : ∀ o, (w1.alloc o).cell? ⟨w.heap.size + 1, 1, none⟩ = some (.int .i64 x.nu) := fun o => by rw [(HC1.out.on (one_al _ o)).cell 1]; rfl
  cases t with
  | false =>
    have HE : Hid (servB B x = false) := by unfold Hid servB; rw [hf.out]; rfl
    go_wp2
    go_ret
    exact ⟨ret_bool HE.out.symm, bt HB1.out (one_al _ _)⟩
  | true =>
    have HE : Hid (servB B x = inB 1 (y.nx - 1) x.nu) := by unfold Hid servB; rw [hf.out]; rfl
    have hnx := svB_nx (List.all_eq_true.1 HSS.out _ (svF_mem (hf.out.trans (if_pos rfl))))
    have hw : IntKind.i64.wrap (y.nx - 1) = y.nx - 1 := by rw [IntWalk.i64_left]; unfold wrap64; omega
    clear hnx hf
    go_wp2_with (first | (go_at_call 59; refine (within_any _ _ _ _).mono ?_; rintro e w' ⟨rfl, rfl⟩))
    go_ret
    exact ⟨ret_bool HE.out.symm, bt HB1.out (one_al _ _)⟩
end Go.Proofs.Ythecacabcgaenaa
