import Derived.Test.YtpdlcccnlciecaaGreatV43
import Derived.Test.YtpdlcccnlciecaaGreatV45
namespace Go.Proofs.YtpdlcccnlciecaaGreat
open Go.RowKit Go.Deep

/-- may a copy that is there end, by a service? -/
def mayQ (B : Sb) (x : Sv) (c : Cp) : Bool := match cpF B.cs c.se c.nu with
  | some y => mayC B.cs x y
  | none => false
theorem mayQ_is {B : Sb} {x : Sv} {c : Cp} (hr : risR aheadB B.cs = true) (hm : c ∈ B.cs) (hx : svF B.ss c.se = some x) : mayQ B x c = mayT B c.se c.nu := by
  unfold mayQ
  cases h : cpF B.cs c.se c.nu with
  | none => exact absurd h (cpF_some hm)
  | some y =>
    obtain ⟨k, hk, rfl⟩ := List.getElem_of_mem (List.mem_of_find?_eq_some h)
    exact may_is hr hk h hx
section
variable (lo m : Nat) (sv cv bv : Value) (B : Sb) (x : Sv) (n : Ct) (d : Int) (lk : List Value) (w : World)

set_option maxRecDepth 100000 in
set_option maxHeartbeats 8000000 in
theorem lookMayQ_any (c : Cp) (hlk : LkIs lk m sv cv bv B x n d) (h : SbAt lo w sv cv bv B) (hm : cpF B.cs c.se c.nu ≠ none) (h200 : B.cs.length ≤ 200) (hr : risR aheadB B.cs = true) (hnu : ∀ i (h : i < B.cs.length), 1 ≤ B.cs[i].nu) (hw : (0 ≤ x.wa ∧ x.wa ≤ 10) ∧ (0 ≤ x.dn ∧ x.dn ≤ 10)) :
    Calls Tryz.prog 104 #[.agg lk.toArray, .agg #[.string c.se, .int .i64 c.nu, .int .i64 c.ve, .int .i64 c.im, .int .i64 c.st, .bool c.en, .string c.be]] w fun e w' => e = .returned (.bool (mayQ B x c)) ∧ Below w.heap.size w w' := by
  have HK := hide h
  have HM := hide hm
  have HR := hide hr
  have HNU := hide hnu
  have HW := hide hw
  have h2 := h200
  obtain ⟨a0, k0, rfl⟩ := h.svs.form
  obtain ⟨a1, k1, rfl⟩ := h.cps.form
  obtain ⟨a2, k2, rfl⟩ := h.bes.form
  unfold LkIs at hlk
  clear h hm hr hnu hw h200
  subst hlk
  go_enter Tryz.func104, Tryz.ntmps104
  go_wp2_with fail
  generalize hWa : World.alloc (w.alloc _) _ = Wa
  have HB0 : Hid (Below w.heap.size w Wa) := by rw [← hWa]; exact (one_al w _).alloc (by simp) _
  have FA0 : Hid (Box Wa w.heap.size #[.int .i64 B.now, .slice a0 B.ss.length k0, .slice a1 B.cs.length k1, .slice a2 B.bs.length k2, .map (some m), .string x.nm, .int .i64 x.ve, .bool x.gn, .int .i64 x.im, .int .i64 x.wa, .int .i64 x.dn, .int .i64 x.ov, .int .i64 x.nx, .int .i64 x.pr, .int .i64 x.ls, .int .i64 x.ms, .int .i64 x.ld, .int .i64 x.cl, .int .i64 n.li, .int .i64 n.re, .int .i64 n.ol, .int .i64 n.fa, .int .i64 n.en, .int .i64 d]) := by rw [← hWa]; exact (Box.new _ _ _ _ rfl).on (one_al _ _)
  clear hWa
  refine (copyPlace_any lo B.now _ _ _ B.cs c.se c.nu _ (HK.out.below HB0.out).cps (by omega) HR.out ⟨_, _, _, rfl⟩ ⟨_, _, _, rfl⟩).mono ?_
  rintro e w3 ⟨⟨p, hsp, rfl⟩, hb3⟩
  have HB3 := hide (bt HB0.out hb3)
  have FA3 := hide (FA0.out.on hb3)
  have HCI := hide (cp_is HR.out hsp)
  clear hb3 hsp HB0 FA0
  rcases HCI.out with ⟨ht, hn⟩ | ⟨ht, hp, hc, -, -, -⟩
  · exact absurd hn HM.out
  · have HE : Hid (mayQ B x c = mayC B.cs x B.cs[p]) := by unfold Hid mayQ; rw [hc]
    rw [ht]
    have g1 := FA3.out.cell
    clear hc ht HCI
    go_wp2_with fail
    refine (mayAt_any lo B.now _ _ _ B.cs x p hp _ (HK.out.below HB3.out).cps (by omega) HR.out HNU.out ⟨_, _, _, rfl⟩ ⟨_, _, _, rfl⟩ HW.out).mono ?_
    rintro e w4 ⟨rfl, hb4⟩
    have HB4 := hide (bt HB3.out hb4)
    clear hb4 g1
    go_wp2
    go_ret
    exact ⟨ret_bool HE.out.symm, HB4.out⟩

set_option maxRecDepth 100000 in
set_option maxHeartbeats 8000000 in
theorem mayGo_any (b2 b3 : Nat) (pf : Nat) (b0 : Value) (q : Cp → Bool) (c : Cp) (hlk : LkIs lk m sv cv bv B x n d) (h : SbAt lo w sv cv bv B) (hm : cpF B.cs c.se c.nu ≠ none) (h200 : B.cs.length ≤ 200) (hr : risR aheadB B.cs = true) (hnu : ∀ i (h : i < B.cs.length), 1 ≤ B.cs[i].nu) (hw : (0 ≤ x.wa ∧ x.wa ≤ 10) ∧ (0 ≤ x.dn ∧ x.dn ≤ 10))
    (hX2 : Box w b2 lk.toArray) (hX3 : Box w b3 #[.func (.func pf) #[b0] #[]]) (ep : ∀ args W, (callFunc pf args).run Tryz.prog W = .ok (.enter pf args) W)
    (hp : ∀ W, Below w.heap.size w W → Calls Tryz.prog pf #[b0, .agg #[.string c.se, .int .i64 c.nu, .int .i64 c.ve, .int .i64 c.im, .int .i64 c.st, .bool c.en, .string c.be]] W fun e W' => e = .returned (.bool (q c)) ∧ Below W.heap.size W W') :
    Calls Tryz.prog 132 #[.agg #[.string c.se, .int .i64 c.nu, .int .i64 c.ve, .int .i64 c.im, .int .i64 c.st, .bool c.en, .string c.be], .pointer (some ⟨b3, 0, none⟩), .pointer (some ⟨b2, 0, none⟩)] w fun e w' => e = .returned (.bool (q c && mayQ B x c)) ∧ Below w.heap.size w w' := by
  have HK := hide h
  have HM := hide hm
  have HR := hide hr
  have HNU := hide hnu
  have HW := hide hw
  have HLK := hide hlk
  have HP := hide hp
  have g3 : ∀ o, (w.alloc o).cell? ⟨b3, 0, none⟩ = some (.func (.func pf) #[b0] #[]) := fun o => by rw [(hX3.on (one_al _ _)).cell 0]; rfl
  have HX2 := hide hX2
  clear h hm hr hnu hw hlk hp hX2 hX3
  go_enter Tryz.func132, Tryz.ntmps132
  go_wp2_with fail
  generalize hWa : w.alloc _ = Wa
  have HB0 : Hid (Below w.heap.size w Wa) := by unfold Hid; rw [← hWa]; exact one_al w _
  have FC : Hid (Box Wa w.heap.size #[.string c.se, .int .i64 c.nu, .int .i64 c.ve, .int .i64 c.im, .int .i64 c.st, .bool c.en, .string c.be]) := by unfold Hid; rw [← hWa]; exact Box.new _ _ _ _ rfl
  clear hWa g3
  refine (HP.out _ HB0.out).mono ?_
  rintro e w1 ⟨rfl, hb1⟩
  have HB1 := hide (bt HB0.out hb1)
  have FC1 : Hid (w1.rangeAt w.heap.size 0 [.string c.se, .int .i64 c.nu, .int .i64 c.ve, .int .i64 c.im, .int .i64 c.st, .bool c.en, .string c.be]) := (FC.out.on hb1).range rfl
  have FX1 : Hid (w1.rangeAt b2 0 lk) := (HX2.out.on HB1.out).rng
  clear hb1 HB0 FC
  cases hq : q c with
  | false =>
    go_wp2
    go_ret
    exact ⟨ret_bool (by rw [hq]; rfl), HB1.out⟩
  | true =>
    go_wp2_with (first
      | (refine wpList_load_gd (by rfl) 105 (.tmp 2) rfl b2 0 rfl lk _ FX1.out Tryz.underlying105 rfl HLK.out.size ?_)
      | (refine wpList_load_gd (by rfl) 82 (.tmp 3) rfl w.heap.size 0 rfl [.string c.se, .int .i64 c.nu, .int .i64 c.ve, .int .i64 c.im, .int .i64 c.st, .bool c.en, .string c.be] _ FC1.out Tryz.underlying82 rfl Tryz.sizeCopy ?_)
      | (go_at_call 104; refine (lookMayQ_any lo m sv cv bv B x n d lk _ c HLK.out (HK.out.below HB1.out) HM.out h200 HR.out HNU.out HW.out).mono ?_; rintro e w2 ⟨rfl, hb2⟩))
    go_ret
    exact ⟨ret_bool (by rw [hq]; rfl), bt HB1.out hb2⟩
end
end Go.Proofs.YtpdlcccnlciecaaGreat
