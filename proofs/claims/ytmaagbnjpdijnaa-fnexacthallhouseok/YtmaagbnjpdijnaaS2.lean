import Derived.Test.YtmaagbnjpdijnaaS1
import Derived.Deep.RegionWith
namespace Go.Proofs.Ytmaagbnjpdijnaa
open Go.RowKit Go.Deep

theorem nil_form {lo : Nat} {w : World} {v : Value} (h : FdsAt lo w v []) : ∃ a cap, v = .slice a 0 cap := h.form
theorem FdsAt.full {lo : Nat} {w : World} {v : Value} {Fs : List Fd} (h : FdsAt lo w v Fs) (hne : Fs ≠ []) : ∃ (b off cap : Nat), v = .slice (some ⟨b, off, none⟩) Fs.length cap ∧ Fs.length ≤ maxLen ∧ b < w.heap.size ∧ Fs.length ≤ cap ∧
    ∀ i (h : i < Fs.length), FdSize Fs[i] ∧ ∃ wv, FdCells w b (off + i * 11) Fs[i] wv ∧ StrsIn lo w wv Fs[i].words := by
  rcases h with ⟨_, _, _, h⟩ | ⟨b, off, cap, h1, _, h3, h4, _, h6, h7⟩
  · exact absurd h hne
  · exact ⟨b, off, cap, h1, h3, h4, h6, h7⟩
theorem ShsAt.full {lo : Nat} {w : World} {v : Value} {Ss : List Sh} (h : ShsAt lo w v Ss) (hne : Ss ≠ []) : ∃ (b off cap : Nat), v = .slice (some ⟨b, off, none⟩) Ss.length cap ∧ Ss.length ≤ maxLen ∧ b < w.heap.size ∧
    ∀ i (h : i < Ss.length), Ss[i].kind.size ≤ maxLen ∧ ∃ fv, w.cell? ⟨b, off + i * 2, none⟩ = some (.string Ss[i].kind) ∧ w.cell? ⟨b, off + i * 2 + 1, none⟩ = some fv ∧ FdsAt lo w fv Ss[i].fields := by
  rcases h with ⟨_, _, _, h⟩ | ⟨b, off, cap, h1, _, h3, h4, _, h7⟩
  · exact absurd h hne
  · exact ⟨b, off, cap, h1, h3, h4, h7⟩

set_option maxHeartbeats 1000000 in
theorem eqFds_same (lo lo' : Nat) (v v' : Value) (Fs : List Fd) (w : World) (hv : FdsAt lo w v Fs) (hv' : FdsAt lo' w v' Fs) :
    Calls Try.prog 107 #[v, v'] w fun e w' => e = .returned (.bool true) ∧ Below w.heap.size w w' := by
  by_cases hL : Fs = []
  · subst hL
    obtain ⟨a, cap, rfl⟩ := nil_form hv
    obtain ⟨a', cap', rfl⟩ := nil_form hv'
    clear hv hv'
    go_enter Try.func107, Try.ntmps107
    go_wp2
    go_loop [5] (fun i => i = .int .i64 0) (fun _ => 0)
    case atStart => rfl
    case round =>
      subst hrel
      go_wp2
      go_ret
      exact ⟨rfl, Below.refl _ _⟩
  · obtain ⟨b, off, cap, rfl, hm, hbw, _, hc⟩ := hv.full hL
    obtain ⟨b', off', cap', rfl, _, hbw', _, hc'⟩ := hv'.full hL
    clear hv hv'
    unfold maxLen at hm
    go_enter Try.func107, Try.ntmps107
    go_wp2
    go_loopw [5] (fun i wr => ∃ k : Nat, i = .int .i64 k ∧ k ≤ Fs.length ∧ Below w.heap.size w wr) (fun i _ => Fs.length - (intOf i).toNat)
    case atStart => exact ⟨0, rfl, by omega, Below.refl _ _⟩
    case round =>
      obtain ⟨k, rfl, hk, hb⟩ := hrel
      by_cases hlt : k < Fs.length
      · obtain ⟨_, wv, hcell, hst⟩ := hc k hlt
        obtain ⟨_, wv', hcell', hst'⟩ := hc' k hlt
        have HST : Hid (StrsAt wr wv Fs[k].words) := hst.at.below hb
        have HST' : Hid (StrsAt wr wv' Fs[k].words) := hst'.at.below hb
        obtain ⟨a1, n1, cap1, rfl⟩ := hst.form
        obtain ⟨a2, n2, cap2, rfl⟩ := hst'.form
        clear hst hst'
        obtain ⟨c0, c1, c2, c3, c4, c5, c6, c7, c8, c9, c10⟩ := hcell.below hb hbw
        obtain ⟨d0, d1, d2, d3, d4, d5, d6, d7, d8, d9, d10⟩ := hcell'.below hb hbw'
        clear hcell hcell'
        have HB := hide hb
        clear hb
        go_wp2
        go_region_with (go_at_call 123; refine (eqField_same _ _ _ _ _ _ _ _ _ _ _ _ Fs[k].words _ (HST.out.below (Below.drew (Below.refl _ _))) (HST'.out.below (Below.drew (Below.refl _ _)))).mono ?_; rintro e w1 ⟨rfl, hb1⟩; have hB : Hid (Below w.heap.size w w1) := (HB.out.drew).trans (hb1.mono HB.out.size); clear hb1)
        all_goals
          go_wp2
          go_roundw
          case rel => exact ⟨k + 1, by go_num, by omega, hB.out⟩
          case measure => simp [intOf]; omega
      · go_wp2
        go_ret
        exact ⟨rfl, hb⟩

set_option maxHeartbeats 1000000 in
theorem eqShape_same (lo lo' : Nat) (kind : ByteArray) (v v' : Value) (Fs : List Fd) (w : World) (hv : FdsAt lo w v Fs) (hv' : FdsAt lo' w v' Fs) :
    Calls Try.prog 66 #[.agg #[.string kind, v], .agg #[.string kind, v']] w fun e w' => e = .returned (.bool true) ∧ Below w.heap.size w w' := by
  have HV := hide hv
  have HV' := hide hv'
  obtain ⟨a, cap, rfl⟩ := hv.form
  obtain ⟨a', cap', rfl⟩ := hv'.form
  clear hv hv'
  have HW : ∀ o o', Hid (Below w.heap.size w ((w.alloc o).alloc o')) := fun o o' => ((Below.refl _ _).alloc (Nat.le_refl _) _).alloc (by simp) _
  go_enter Try.func66, Try.ntmps66
  go_wp2_with fail
  refine (eqFds_same lo lo' _ _ Fs _ (HV.out.below (HW _ _).out) (HV'.out.below (HW _ _).out)).mono ?_
  rintro e w1 ⟨rfl, hb⟩
  have HB : Hid (Below w.heap.size w w1) := (HW _ _).out.trans (hb.mono (by simp; omega))
  clear hb
  go_wp2
  go_ret
  exact ⟨rfl, HB.out⟩

set_option maxHeartbeats 1000000 in
theorem eqShs_same (lo lo' : Nat) (v v' : Value) (Ss : List Sh) (w : World) (hv : ShsAt lo w v Ss) (hv' : ShsAt lo' w v' Ss) :
    Calls Try.prog 32 #[v, v'] w fun e w' => e = .returned (.bool true) ∧ Below w.heap.size w w' := by
  by_cases hL : Ss = []
  · subst hL
    obtain ⟨a, cap, rfl⟩ := hv.form
    obtain ⟨a', cap', rfl⟩ := hv'.form
    clear hv hv'
    go_enter Try.func32, Try.ntmps32
    go_wp2
    go_loop [5] (fun i => i = .int .i64 0) (fun _ => 0)
    case atStart => rfl
    case round =>
      subst hrel
      go_wp2
      go_ret
      exact ⟨rfl, Below.refl _ _⟩
  · obtain ⟨b, off, cap, rfl, hm, hbw, hc⟩ := hv.full hL
    obtain ⟨b', off', cap', rfl, _, hbw', hc'⟩ := hv'.full hL
    clear hv hv'
    unfold maxLen at hm
    go_enter Try.func32, Try.ntmps32
    go_wp2
    go_loopw [5] (fun i wr => ∃ k : Nat, i = .int .i64 k ∧ k ≤ Ss.length ∧ Below w.heap.size w wr) (fun i _ => Ss.length - (intOf i).toNat)
    case atStart => exact ⟨0, rfl, by omega, Below.refl _ _⟩
    case round =>
      obtain ⟨k, rfl, hk, hb⟩ := hrel
      by_cases hlt : k < Ss.length
      · obtain ⟨_, fv, c0, c1, hst⟩ := hc k hlt
        obtain ⟨_, fv', d0, d1, hst'⟩ := hc' k hlt
        have HST : Hid (FdsAt lo wr fv Ss[k].fields) := hst.below hb
        have HST' : Hid (FdsAt lo' wr fv' Ss[k].fields) := hst'.below hb
        obtain ⟨a1, cap1, rfl⟩ := hst.form
        obtain ⟨a2, cap2, rfl⟩ := hst'.form
        clear hst hst'
        have e0 : wr.cell? ⟨b, off + k * 2, none⟩ = some (.string Ss[k].kind) := by rw [hb.cell (p := ⟨b, _, none⟩) hbw]; exact c0
        have e1 : wr.cell? ⟨b, off + k * 2 + 1, none⟩ = some (.slice a1 Ss[k].fields.length cap1) := by rw [hb.cell (p := ⟨b, _, none⟩) hbw]; exact c1
        have g0 : wr.cell? ⟨b', off' + k * 2, none⟩ = some (.string Ss[k].kind) := by rw [hb.cell (p := ⟨b', _, none⟩) hbw']; exact d0
        have g1 : wr.cell? ⟨b', off' + k * 2 + 1, none⟩ = some (.slice a2 Ss[k].fields.length cap2) := by rw [hb.cell (p := ⟨b', _, none⟩) hbw']; exact d1
        clear c0 c1 d0 d1
        have HB := hide hb
        clear hb
        go_wp2
        go_region_with (go_at_call 66; refine (eqShape_same lo lo' _ _ _ Ss[k].fields _ (HST.out.below (Below.drew (Below.refl _ _))) (HST'.out.below (Below.drew (Below.refl _ _)))).mono ?_; rintro e w1 ⟨rfl, hb1⟩; have hB : Hid (Below w.heap.size w w1) := (HB.out.drew).trans (hb1.mono HB.out.size); clear hb1)
        all_goals
          go_wp2
          go_roundw
          case rel => exact ⟨k + 1, by go_num, by omega, hB.out⟩
          case measure => simp [intOf]; omega
      · go_wp2
        go_ret
        exact ⟨rfl, hb⟩
end Go.Proofs.Ytmaagbnjpdijnaa

