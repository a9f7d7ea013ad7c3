
import Derived.Test.YtdcomaelhpjejaaGM3
namespace Go.Proofs.Ytdcomaelhpjejaa
open Go.RowKit Go.Deep

theorem below_grownN {w w' : World} (h : w.grownBy w' none) : Below w.heap.size w w' := ⟨h.os, h.tape, h.output, h.size, fun k hk => h.block k hk fun e => by cases e⟩
theorem roomZ : (Try.prog.info? 48).map (fun i => match i.zero with | some (.agg Z) => Z.size | _ => 0) = some 240 := by kernel_rfl
theorem room_zero : ∃ Z : Array Value, Z.size = 240 ∧ ∀ u, Sem.run Try.prog (zeroValue 48) u = .ok (.agg Z) u := by
  have h := roomZ
  cases hi : Try.prog.info? 48 with
  | none => rw [hi] at h; simp at h
  | some i =>
    rw [hi] at h
    simp only [Option.map_some, Option.some.injEq] at h
    split at h
    · rename_i Z hz
      exact ⟨Z, h, fun u => by simp [zeroValue, typeInfo, hi, hz]⟩
    · omega

set_option maxRecDepth 20000 in
set_option maxHeartbeats 8000000 in
theorem implMerge_any (lo : Nat) (va vb : Value) (A B : List Rs) (w : World) (ha : RssAt lo w va A) (hb : RssAt lo w vb B) (hna : A.length ≤ 1048576) (hnb : B.length ≤ 1048576) :
    Calls Try.prog 8 #[va, vb] w fun e w' => ∃ v', e = .returned v' ∧ Below w.heap.size w w' ∧ RssOwn w.heap.size w'.heap.size w' v' (mergeL A B) := by
  have HVA := hide ha
  have HVB := hide hb
  obtain ⟨aa, ca, rfl⟩ := ha.form
  obtain ⟨ab, cb, rfl⟩ := hb.form
  clear ha hb
  obtain ⟨Z, hZs, hZ⟩ := room_zero
  have HZS := hide hZs
  clear hZs
  go_enter Try.func8, Try.ntmps8
  go_wp2_with fail
  refine (behind_any lo w _ _ _ A B _ HVA.out HVB.out hna hnb (one_al _ _) ⟨w.heap.size, 120, rfl, lr_new w Z _ 120 HZS.out (by unfold maxLen; omega)⟩).mono ?_
  rintro e w1 ⟨v1, rfl, hb1, hl1⟩
  have HB1 := hide hb1
  have HL1 := hide hl1
  obtain ⟨g, cap, rfl, hr⟩ := hl1
  have HSZ := hide hr.sz
  clear hb1 hr hZ
  have HRl : Hid ((mergeL A B).length ≤ 1048576) := by unfold Hid; rw [mergeL_len]; omega
  obtain ⟨i0, hi, hz0, hz1, hz2⟩ := info_parts infoRs
  have HI := hide (And.intro hi (And.intro hz0 (And.intro hz1 hz2)))
  clear hi hz0 hz1 hz2
  go_wp2_with (at_builtin; refine wpList_append_own_at w1 rfl (.const (.slice none 0 0)) (.tmp 11) 24 rfl w1.heap.size 46 i0 (.agg #[.int .i64 0, .string ⟨#[]⟩]) 2 24 Try.underlying24 HI.out.1 HI.out.2.1 HI.out.2.2.1 HI.out.2.2.2 rfl (by decide) _ 0 [] rfl (World.ownsRow_nil _ _ _ _) ⟨g, 0, none⟩ (mergeL A B).length cap (flatV rsL (mergeL A B)) rfl (flatV_len rsL_len _) (HL1.out.at.src _ rfl) (rsL_one _) (by have := HRl.out; unfold maxLen; omega) (by have := HRl.out; omega) (Nat.le_refl _) ?_; intro v' w' hown hgrow h3 h4; have HO := hide hown; have HG : Hid (w1.grownBy w' none) := hgrow; clear hown hgrow h3 h4)
  go_ret
  have ho := HO.out
  rw [Nat.zero_add, List.nil_append] at ho
  refine ⟨v', rfl, HB1.out.trans ((below_grownN HG.out).mono HB1.out.size), ?_⟩
  obtain ⟨R, hR⟩ : ∃ R, R = mergeL A B := ⟨_, rfl⟩
  rw [← hR] at ho
  have hsz := HSZ.out
  rw [← hR] at hsz
  rw [← hR]
  clear hR
  by_cases h0 : R.length = 0
  · obtain rfl := List.eq_nil_of_length_eq_zero h0
    rcases ho.2 with ⟨hv, _⟩ | ⟨_, _, _, hv, _⟩
    · exact Or.inl ⟨_, _, hv, rfl⟩
    · exact Or.inl ⟨_, _, hv, rfl⟩
  · obtain ⟨g', cap', e1, e2⟩ := owns_lr ho rfl (by omega) hsz
    exact LRow.own ⟨g', cap', e1, ⟨Nat.le_trans HB1.out.size e2.bs, e2.lt, e2.le, e2.mx, e2.th, e2.fz, e2.rg, e2.sz⟩⟩
end Go.Proofs.Ytdcomaelhpjejaa
