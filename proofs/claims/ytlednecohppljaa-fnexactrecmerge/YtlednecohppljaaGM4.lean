
import Derived.Test.YtlednecohppljaaGM3
import Derived.Test.YtlednecohppljaaCSl
namespace Go.Proofs.Ytlednecohppljaa
open Go.RowKit Go.Deep

theorem below_grownN {w w' : World} (h : w.grownBy w' none) : Below w.heap.size w w' := ⟨h.os, h.tape, h.output, h.size, fun k hk => h.block k hk fun e => by cases e⟩
theorem roomZ : (Try.prog.info? 58).map (fun i => match i.zero with | some (.agg Z) => Z.size | _ => 0) = some 240 := by kernel_rfl
theorem room_zero : ∃ Z : Array Value, Z.size = 240 ∧ ∀ u, Sem.run Try.prog (zeroValue 58) u = .ok (.agg Z) u := by
  have h := roomZ
  cases hi : Try.prog.info? 58 with
  | none => rw [hi] at h; simp at h
  | some i =>
    rw [hi] at h
    simp only [Option.map_some, Option.some.injEq] at h
    split at h
    · rename_i Z hz
      exact ⟨Z, h, fun u => by simp [zeroValue, typeInfo, hi, hz]⟩
    · omega

set_option maxRecDepth 20000 in
set_option maxHeartbeats 8000000 in
theorem implMergeN_any (lo : Nat) (va vb : Value) (A B : List Rs) (w : World) (ha : RssAt lo w va A) (hb : RssAt lo w vb B) (hna : A.length ≤ 1048576) (hnb : B.length ≤ 1048576) :
    Calls Try.prog 8 #[va, vb] w fun e w' => ∃ v', e = .returned v' ∧ Below w.heap.size w w' ∧ (∃ n, w.heap.size ≤ n ∧ NRow rsL 2 w' n w'.heap.size v' (mergeL A B)) ∧ ∀ i (h : i < (mergeL A B).length), RsSize (mergeL A B)[i] := by
  have HVA := hide ha
  have HVB := hide hb
  obtain ⟨aa, ca, rfl⟩ := ha.form
  obtain ⟨ab, cb, rfl⟩ := hb.form
  clear ha hb
  obtain ⟨Z, hZs, hZ⟩ := room_zero
  have HZS := hide hZs
  clear hZs
  go_enter Try.func8, Try.ntmps8
  go_wp2_with fail
  refine (behind_any lo w _ _ _ A B _ HVA.out HVB.out hna hnb (one_al _ _) ⟨w.heap.size, 120, rfl, lr_new w Z _ 120 HZS.out (by unfold maxLen; omega)⟩).mono ?_
  rintro e w1 ⟨v1, rfl, hb1, hl1⟩
  have HB1 := hide hb1
  have HL1 := hide hl1
  have hsz : ∀ i (h : i < (mergeL A B).length), RsSize (mergeL A B)[i] := by
    obtain ⟨g, cap, -, hr⟩ := hl1
    exact hr.sz
  have HSZ := hide hsz
  obtain ⟨g, cap, rfl, hr⟩ := hl1
  clear hb1 hr hZ hsz
  have HRl : Hid ((mergeL A B).length ≤ 1048576) := by unfold Hid; rw [mergeL_len]; omega
  go_wp2_with fail
  refine (copySl_any w.heap.size _ (mergeL A B) _ HL1.out.at HRl.out).mono ?_
  rintro e w2 ⟨v2, rfl, hb2, hl2⟩
  have HB2 : Hid (Below w.heap.size w w2) := bt HB1.out hb2
  have HN2 := hide hl2
  clear hb2 hl2
  go_wp2
  go_ret
  exact ⟨v2, rfl, HB2.out, ⟨_, HB1.out.size, HN2.out⟩, HSZ.out⟩
theorem implMerge_any (lo : Nat) (va vb : Value) (A B : List Rs) (w : World) (ha : RssAt lo w va A) (hb : RssAt lo w vb B) (hna : A.length ≤ 1048576) (hnb : B.length ≤ 1048576) :
    Calls Try.prog 8 #[va, vb] w fun e w' => ∃ v', e = .returned v' ∧ Below w.heap.size w w' ∧ RssOwn w.heap.size w'.heap.size w' v' (mergeL A B) := by
  refine (implMergeN_any lo va vb A B w ha hb hna hnb).mono ?_
  rintro e w' ⟨v', rfl, h1, ⟨n, h2, h3⟩, h4⟩
  exact ⟨v', rfl, h1, (h3.wide h2 (Nat.le_refl _)).rss h4⟩
end Go.Proofs.Ytlednecohppljaa
