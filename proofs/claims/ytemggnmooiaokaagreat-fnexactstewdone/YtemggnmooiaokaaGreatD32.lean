import Derived.Test.YtemggnmooiaokaaGreatD30
import Derived.Test.YtemggnmooiaokaaGreatD31
namespace Go.Proofs.YtemggnmooiaokaaGreat
open Go.RowKit Go.Deep Go.Maps

def servB (B : Sb) (c : Cp) : Bool := match svF B.ss c.se with
  | none => false
  | some x => inB 1 (x.nx - 1) c.nu
theorem svF_mem {S : List Sv} {s : ByteArray} {x : Sv} (h : svF S s = some x) : x ∈ S := List.mem_of_find?_eq_some h

set_option maxRecDepth 100000 in
set_option maxHeartbeats 4000000 in
theorem nowOk_any (lo m : Nat) (sv cv bv : Value) (B : Sb) (w : World) (h : SbAt lo w sv cv bv B) :
    Calls Tryz.prog 72 #[.agg #[.int .i64 B.now, sv, cv, bv, .map (some m)]] w fun e w' => e = .returned (.bool (inB 0 1000000 B.now)) ∧ Below w.heap.size w w' := by
  obtain ⟨a0, k0, rfl⟩ := h.svs.form
  obtain ⟨a1, k1, rfl⟩ := h.cps.form
  obtain ⟨a2, k2, rfl⟩ := h.bes.form
  clear h
  go_enter Tryz.func72, Tryz.ntmps72
  go_wp2_with (first | (go_at_call 31; refine (within_any _ _ _ _).mono ?_; rintro e w' ⟨rfl, rfl⟩))
  go_ret
  exact ⟨rfl, one_al _ _⟩

set_option maxRecDepth 100000 in
set_option maxHeartbeats 4000000 in
theorem cpBerthed_any (lo m : Nat) (sv cv bv : Value) (B : Sb) (x : Cp) (w : World) (h : SbAt lo w sv cv bv B) (hx : IxAt w m B) (hz : CpSize x) :
    Calls Tryz.prog 140 #[.agg #[.int .i64 B.now, sv, cv, bv, .map (some m)], .agg #[.string x.se, .int .i64 x.nu, .int .i64 x.ve, .int .i64 x.im, .int .i64 x.st, .bool x.en, .string x.be]] w fun e w' => e = .returned (.bool (if x.st == 1 then x.be.toList.isEmpty else hasBe B.bs x.be)) ∧ Below w.heap.size w w' := by
  have HK := hide h
  have HX := hide hx
  have HZ := hide hz.s1
  obtain ⟨a0, k0, rfl⟩ := h.svs.form
  obtain ⟨a1, k1, rfl⟩ := h.cps.form
  obtain ⟨a2, k2, rfl⟩ := h.bes.form
  clear h
  clear hx hz
  have HO : ∀ o o', Hid (Below w.heap.size w ((w.alloc o).alloc o')) := fun o o' => (one_al w o).alloc (by simp) o'
  go_enter Tryz.func140, Tryz.ntmps140
  cases h1 : (x.st == 1) with
  | true =>
    go_wp2
    go_ret
    exact ⟨ret_bool (by simp), (HO _ _).out⟩
  | false =>
    go_wp2_with fail
    refine (berthPlace_any lo m _ _ _ B x.be _ (HK.out.below (HO _ _).out) (HX.out.below (HO _ _).out) HZ.out).mono ?_
    rintro e w1 ⟨c, t, rfl, hb1, hf⟩
    have HB1 := hide (bt (HO _ _).out hb1)
    have HE : Hid (t = hasBe B.bs x.be) := hf.out.1
    clear hb1 hf
    go_wp2
    go_ret
    exact ⟨ret_bool (by simp [HE.out]), HB1.out⟩

set_option maxRecDepth 100000 in
set_option maxHeartbeats 4000000 in
theorem cpServed_any (lo m : Nat) (sv cv bv : Value) (B : Sb) (x : Cp) (w : World) (h : SbAt lo w sv cv bv B) (hx : IxAt w m B) (hz : CpSize x) (hu : risR rSv B.ss = true) (hss : B.ss.all (svB B.now) = true) :
    Calls Tryz.prog 138 #[.agg #[.int .i64 B.now, sv, cv, bv, .map (some m)], .agg #[.string x.se, .int .i64 x.nu, .int .i64 x.ve, .int .i64 x.im, .int .i64 x.st, .bool x.en, .string x.be]] w fun e w' => e = .returned (.bool (servB B x)) ∧ Below w.heap.size w w' := by
  have HK := hide h
  have HX := hide hx
  have HZ := hide hz.s0
  have HU := hide hu
  have HSS := hide hss
  obtain ⟨a0, k0, rfl⟩ := h.svs.form
  obtain ⟨a1, k1, rfl⟩ := h.cps.form
  obtain ⟨a2, k2, rfl⟩ := h.bes.form
  clear h
  clear hx hz hu hss
  go_enter Tryz.func138, Tryz.ntmps138
  go_wp2_with fail
  generalize hWa : World.alloc (w.alloc _) _ = Wa
  have HB0 : Hid (Below w.heap.size w Wa) := by rw [← hWa]; exact (one_al w _).alloc (by simp) _
  have HC0 : Hid (Box Wa (w.heap.size + 1) #[.string x.se, .int .i64 x.nu, .int .i64 x.ve, .int .i64 x.im, .int .i64 x.st, .bool x.en, .string x.be]) := by rw [← hWa]; exact Box.new _ _ _ _ (by simp)
  clear hWa
  refine (svcOf_any lo m _ _ _ B x.se _ (HK.out.below HB0.out) (HX.out.below HB0.out) HZ.out HU.out).mono ?_
  rintro e w1 ⟨y, t, rfl, hb1, hf⟩
  have HB1 := hide (bt HB0.out hb1)
  have HC1 := hide (HC0.out.on hb1)
  clear hb1 HB0 HC0
  have c1 : ∀ o, (w1.alloc o).cell? ⟨w.heap.size + 1, 1, none⟩ = some (.int .i64 x.nu) := fun o => by rw [(HC1.out.on (one_al _ o)).cell 1]; rfl
  cases t with
  | false =>
    have HE : Hid (servB B x = false) := by unfold Hid servB; rw [hf.out]; rfl
    go_wp2
    go_ret
    exact ⟨ret_bool HE.out.symm, bt HB1.out (one_al _ _)⟩
  | true =>
    have HE : Hid (servB B x = inB 1 (y.nx - 1) x.nu) := by unfold Hid servB; rw [hf.out]; rfl
    have hnx := svB_nx (List.all_eq_true.1 HSS.out _ (svF_mem (hf.out.trans (if_pos rfl))))
    have hw : IntKind.i64.wrap (y.nx - 1) = y.nx - 1 := by rw [IntWalk.i64_left]; unfold wrap64; omega
    clear hnx hf
    go_wp2_with (first | (go_at_call 31; refine (within_any _ _ _ _).mono ?_; rintro e w' ⟨rfl, rfl⟩))
    go_ret
    exact ⟨ret_bool HE.out.symm, bt HB1.out (one_al _ _)⟩
end Go.Proofs.YtemggnmooiaokaaGreat
namespace Go.Proofs.YtemggnmooiaokaaGreat
open Go.RowKit Go.Deep Go.Maps

def ckSv (now : Int) (x : Sv) : Nat → Bool
  | 0 => nmB x.nm && inB 1 now x.ve
  | 1 => inB 1 1000000 x.im && inB 1 1000000 x.nx
  | 2 => inB 0 10 x.wa && (inB 0 10 x.dn && (inB 0 10 x.ov && (decide (0 < x.dn) || decide (0 < x.ov))))
  | 3 => inB 0 1000000 x.pr && (inB 0 1000000 x.ld && (inB 0 10 x.ms && (inB 0 x.ms x.ls && inB 0 3 x.cl)))
  | _ => decide (0 < x.pr) || ((x.ls == 0) && ((x.ms == 0) && ((x.ld == 0) && (x.cl == 0))))
theorem inB_iff {lo hi n : Int} : inB lo hi n = true ↔ lo ≤ n ∧ n ≤ hi := by unfold inB; simp
theorem ckSv_all (now : Int) (x : Sv) : svB now x = (ckSv now x 0 && (ckSv now x 1 && (ckSv now x 2 && (ckSv now x 3 && ckSv now x 4)))) := by
  have h1 : (x.dn + x.ov == 0) = decide (x.dn + x.ov = 0) := by by_cases h : x.dn + x.ov = 0 <;> simp [h]
  simp only [svB, ckSv, perB, h1]
  cases nmB x.nm with
  | false => rfl
  | true =>
    rw [Bool.eq_iff_iff]
    by_cases hp : x.pr = 0
    · simp only [hp, Bool.true_and, Bool.and_eq_true, Bool.or_eq_true, inB_iff, decide_eq_true_iff, Bool.not_eq_true', decide_eq_false_iff_not, beq_self_eq_true, if_true, beq_iff_eq]
      constructor <;> intro h <;> omega
    · have hp' : (x.pr == 0) = false := by simpa using hp
      simp only [hp', Bool.true_and, Bool.and_eq_true, Bool.or_eq_true, inB_iff, decide_eq_true_iff, Bool.not_eq_true', decide_eq_false_iff_not, Bool.false_eq_true, if_false, beq_iff_eq]
      constructor <;> intro h <;> omega
def ckCp (B : Sb) (x : Cp) : Nat → Bool
  | 0 => servB B x
  | 1 => inB 1 B.now x.ve && (inB 1 1000000 x.im && inB 1 4 x.st)
  | _ => if x.st == 1 then x.be.toList.isEmpty else hasBe B.bs x.be
theorem ckCp_all (B : Sb) (x : Cp) : cpB B x = (ckCp B x 0 && (ckCp B x 1 && ckCp B x 2)) := by
  simp only [cpB, ckCp, servB, cpT]
  cases svF B.ss x.se with
  | none => rfl
  | some y => simp only [Bool.and_assoc]
def ckBe (x : Be) : Nat → Bool
  | _ => nmB x.nm
theorem and5 {f : Nat → Bool} {b : Bool} (h : b = (f 0 && (f 1 && (f 2 && (f 3 && f 4))))) : (∀ j, j < 5 → f j = true) → b = true := fun hf => by
  rw [h, hf 0 (by omega), hf 1 (by omega), hf 2 (by omega), hf 3 (by omega), hf 4 (by omega)]; rfl
theorem and5n {f : Nat → Bool} {b : Bool} (h : b = (f 0 && (f 1 && (f 2 && (f 3 && f 4))))) {j : Nat} (hj : j < 5) (hf : f j = false) : b = false := by
  have hj' : j = 0 ∨ j = 1 ∨ j = 2 ∨ j = 3 ∨ j = 4 := by omega
  rcases hj' with rfl | rfl | rfl | rfl | rfl <;> simp [h, hf]
theorem and3 {f : Nat → Bool} {b : Bool} (h : b = (f 0 && (f 1 && f 2))) : (∀ j, j < 3 → f j = true) → b = true := fun hf => by
  rw [h, hf 0 (by omega), hf 1 (by omega), hf 2 (by omega)]; rfl
theorem and3n {f : Nat → Bool} {b : Bool} (h : b = (f 0 && (f 1 && f 2))) {j : Nat} (hj : j < 3) (hf : f j = false) : b = false := by
  have hj' : j = 0 ∨ j = 1 ∨ j = 2 := by omega
  rcases hj' with rfl | rfl | rfl <;> simp [h, hf]
theorem and1 {f : Nat → Bool} {b : Bool} (h : b = f 0) : (∀ j, j < 1 → f j = true) → b = true := fun hf => by rw [h, hf 0 (by omega)]
theorem and1n {f : Nat → Bool} {b : Bool} (h : b = f 0) {j : Nat} (hj : j < 1) (hf : f j = false) : b = false := by
  have hj' : j = 0 := by omega
  subst hj'
  rw [h, hf]

end Go.Proofs.YtemggnmooiaokaaGreat
