import Derived.Test.YtfohnageehneoaaGreatUP1
import Derived.Deep.AppendLies
import Derived.Test.YtfohnageehneoaaGreatUA1
import Derived.Test.YtfohnageehneoaaGreatUB1
namespace Go.Proofs.YtfohnageehneoaaGreat
open Go.RowKit Go.Deep

/-- THE SIX CELLS OF A MEND, from place o of block b on. -/
structure MdCells (w : World) (b o : Nat) (m : Md) : Prop where
  c0 : w.cell? ⟨b, o, none⟩ = some (.string m.kind)
  c1 : w.cell? ⟨b, o + 1, none⟩ = some (.string m.field)
  c2 : w.cell? ⟨b, o + 2, none⟩ = some (.string m.wh)
  c3 : w.cell? ⟨b, o + 3, none⟩ = some (.string m.is)
  c4 : w.cell? ⟨b, o + 4, none⟩ = some (.string m.put)
  c5 : w.cell? ⟨b, o + 5, none⟩ = some (.string m.fr)
structure MdSize (m : Md) : Prop where
  s0 : m.kind.size ≤ maxLen
  s1 : m.field.size ≤ maxLen
  s2 : m.wh.size ≤ maxLen
  s3 : m.is.size ≤ maxLen
  s4 : m.put.size ≤ maxLen
  s5 : m.fr.size ≤ maxLen
theorem MdCells.below {w w' : World} {b o : Nat} {m : Md} (h : MdCells w b o m) (hb : Below w.heap.size w w') (hlt : b < w.heap.size) : MdCells w' b o m := by
  have e : ∀ o, w'.cell? ⟨b, o, none⟩ = w.cell? ⟨b, o, none⟩ := fun o => hb.cell (p := ⟨b, o, none⟩) hlt
  exact ⟨by rw [e]; exact h.c0, by rw [e]; exact h.c1, by rw [e]; exact h.c2, by rw [e]; exact h.c3, by rw [e]; exact h.c4, by rw [e]; exact h.c5⟩
/-- A []GateMend THAT HOLDS Ms; its cells lie from block lo on. -/
def MdsAt (lo : Nat) (w : World) (v : Value) (Ms : List Md) : Prop :=
  (∃ (a : Option Addr) (cap : Nat), v = .slice a 0 cap ∧ Ms = []) ∨
  ∃ (b off cap : Nat), v = .slice (some ⟨b, off, none⟩) Ms.length cap ∧ Ms ≠ [] ∧ Ms.length ≤ maxLen ∧ b < w.heap.size ∧ lo ≤ b ∧ Ms.length ≤ cap ∧
    ∀ i (h : i < Ms.length), MdSize Ms[i] ∧ MdCells w b (off + i * 6) Ms[i]
theorem MdsAt.below {lo : Nat} {w w' : World} {v : Value} {Ms : List Md} (h : MdsAt lo w v Ms) (hb : Below w.heap.size w w') : MdsAt lo w' v Ms := by
  rcases h with h | ⟨b, off, cap, h1, h2, h3, h4, h5, h6, h7⟩
  · exact Or.inl h
  · refine Or.inr ⟨b, off, cap, h1, h2, h3, Nat.lt_of_lt_of_le h4 hb.size, h5, h6, fun i hi => ?_⟩
    obtain ⟨hs, hc⟩ := h7 i hi
    exact ⟨hs, hc.below hb h4⟩
theorem MdsAt.mono {lo lo' : Nat} {w : World} {v : Value} {Ms : List Md} (h : MdsAt lo w v Ms) (hl : lo' ≤ lo) : MdsAt lo' w v Ms := by
  rcases h with h | ⟨b, off, cap, h1, h2, h3, h4, h5, h6, h7⟩
  · exact Or.inl h
  · exact Or.inr ⟨b, off, cap, h1, h2, h3, h4, Nat.le_trans hl h5, h6, h7⟩
theorem MdsAt.form {lo : Nat} {w : World} {v : Value} {Ms : List Md} (h : MdsAt lo w v Ms) : ∃ a cap, v = .slice a Ms.length cap := by
  rcases h with ⟨a, cap, h, rfl⟩ | ⟨b, off, cap, h, _⟩
  · exact ⟨a, cap, h⟩
  · exact ⟨_, cap, h⟩
theorem MdsAt.full {lo : Nat} {w : World} {v : Value} {Ms : List Md} (h : MdsAt lo w v Ms) (hne : Ms ≠ []) : ∃ (b off cap : Nat), v = .slice (some ⟨b, off, none⟩) Ms.length cap ∧ Ms.length ≤ maxLen ∧ b < w.heap.size ∧ Ms.length ≤ cap ∧
    ∀ i (h : i < Ms.length), MdSize Ms[i] ∧ MdCells w b (off + i * 6) Ms[i] := by
  rcases h with ⟨_, _, _, h⟩ | ⟨b, off, cap, h1, _, h3, h4, _, h6, h7⟩
  · exact absurd h hne
  · exact ⟨b, off, cap, h1, h3, h4, h6, h7⟩
theorem MdsAt.full' {lo : Nat} {w : World} {a : Option Addr} {n cap : Nat} {Ms : List Md} (h : MdsAt lo w (.slice a n cap) Ms) (hL : 0 < Ms.length) :
    ∃ b off, a = some ⟨b, off, none⟩ ∧ b < w.heap.size ∧ ∀ i (h : i < Ms.length), MdSize Ms[i] ∧ MdCells w b (off + i * 6) Ms[i] := by
  rcases h with ⟨a', cap', h, rfl⟩ | ⟨b', off', cap', h1, h2, h3, h4, h5, h6, h7⟩
  · simp at hL
  · injection h1 with e1 e2 e3
    exact ⟨b', off', e1, h4, h7⟩

set_option maxHeartbeats 1000000 in
theorem szMend_any (k f h i p r : ByteArray) (left : Int) (w : World) (h0 : 0 ≤ left) (h1 : left ≤ 1048576)
    (s0 : k.size ≤ maxLen) (s1 : f.size ≤ maxLen) (s2 : h.size ≤ maxLen) (s3 : i.size ≤ maxLen) (s4 : p.size ≤ maxLen) (s5 : r.size ≤ maxLen) :
    Calls Tryz.prog 87 #[.agg #[.string k, .string f, .string h, .string i, .string p, .string r], .int .i64 left] w
      fun e w' => ∃ r : Int, e = .returned (.int .i64 r) ∧ Below w.heap.size w w' ∧ -1 ≤ r ∧ r ≤ left := by
  unfold maxLen at s0 s1 s2 s3 s4 s5
  have HW : ∀ o, Hid (Below w.heap.size w (w.alloc o)) := fun o => (Below.refl _ _).alloc (Nat.le_refl _) _
  go_enter Tryz.func87, Tryz.ntmps87
  go_wp2
  all_goals go_ret
  all_goals exact ⟨_, rfl, (HW _).out, by omega, by omega⟩

set_option maxHeartbeats 1000000 in
theorem szMds_any (lo : Nat) (v : Value) (Ms : List Md) (left : Int) (w : World) (h0 : 0 ≤ left) (h1 : left ≤ 1048576) (hv : MdsAt lo w v Ms) :
    Calls Tryz.prog 28 #[v, .int .i64 left] w fun e w' => ∃ r : Int, e = .returned (.int .i64 r) ∧ Below w.heap.size w w' ∧ SzOk Ms.length left r := by
  rcases hv with ⟨a, cap, rfl, rfl⟩ | ⟨b, off, cap, rfl, hne, hm, hbw, _, _, hc⟩
  · go_enter Tryz.func28, Tryz.ntmps28
    go_wp2
    go_loop [1, 5] (fun l i => ∃ r : Int, l = .int .i64 r ∧ 0 ≤ r ∧ r ≤ left ∧ i = .int .i64 0) (fun _ _ => 0)
    case atStart => exact ⟨_, rfl, by omega, by omega, rfl⟩
    case round =>
      obtain ⟨r, rfl, hr0, hr1, rfl⟩ := hrel
      go_wp2
      go_ret
      exact ⟨r, rfl, Below.refl _ _, by omega, by omega, fun _ => by simp; omega⟩
  · unfold maxLen at hm
    by_cases hle : (Ms.length : Int) ≤ left
    · go_enter Tryz.func28, Tryz.ntmps28
      go_wp2
      go_loopw [1, 5] (fun l i wr => ∃ (r : Int) (k : Nat), l = .int .i64 r ∧ 0 ≤ r ∧ r ≤ left ∧ i = .int .i64 k ∧ k ≤ Ms.length ∧ Below w.heap.size w wr) (fun _ i _ => Ms.length - (intOf i).toNat)
      case atStart => exact ⟨_, 0, rfl, by omega, by omega, rfl, by omega, Below.refl _ _⟩
      case round =>
        obtain ⟨r, k, rfl, hr0, hr1, rfl, hk, hb⟩ := hrel
        by_cases hlt : k < Ms.length
        · obtain ⟨hsz, hcell⟩ := hc k hlt
          obtain ⟨c0, c1, c2, c3, c4, c5⟩ := hcell.below hb hbw
          go_wp2_with fail
          refine (szMend_any _ _ _ _ _ _ _ _ hr0 (by omega) hsz.s0 hsz.s1 hsz.s2 hsz.s3 hsz.s4 hsz.s5).mono ?_
          rintro e w1 ⟨r1, rfl, hb1, q0, q1⟩
          have hB : Hid (Below w.heap.size w w1) := hb.trans (hb1.mono hb.size)
          clear hb1 c0 c1 c2 c3 c4 c5 hb
          go_wp2
          all_goals first
            | (go_roundw
               case rel => exact ⟨_, k + 1, rfl, by omega, by omega, by go_num, by omega, hB.out⟩
               case measure => simp [intOf]; omega)
            | (go_ret
               exact ⟨-1, rfl, hB.out, by omega, by omega, fun h => by omega⟩)
        · go_wp2
          go_ret
          exact ⟨r, rfl, hb, by omega, by omega, fun _ => hle⟩
    · go_enter Tryz.func28, Tryz.ntmps28
      go_wp2
      go_ret
      exact ⟨-1, rfl, Below.refl _ _, by omega, by omega, fun h => by omega⟩

set_option maxHeartbeats 1000000 in
theorem toMend_any (k f h i p r : ByteArray) (w : World) :
    Calls Tryz.prog 101 #[.agg #[.string k, .string f, .string h, .string i, .string p, .string r]] w
      fun e w' => e = .returned (.agg #[.string k, .string f, .string h, .string i, .string p, .string r]) ∧ Below w.heap.size w w' := by
  go_enter Tryz.func101, Tryz.ntmps101
  go_wp2
  refine bodyPost_ret (v := .agg #[.string k, .string f, .string h, .string i, .string p, .string r]) (by simp [results, Tryz.results101, go_sem]) rfl ⟨rfl, ?_⟩
  repeat (refine Below.setCell ?_ (by simp only []; omega) _)
  exact (((Below.refl _ _).alloc (Nat.le_refl _) _).alloc (by simp) _).alloc (by simp; omega) _

set_option maxHeartbeats 1000000 in
theorem eqMend_same (k f h i p r : ByteArray) (w : World) :
    Calls Tryz.prog 119 #[.agg #[.string k, .string f, .string h, .string i, .string p, .string r], .agg #[.string k, .string f, .string h, .string i, .string p, .string r]] w
      fun e w' => e = .returned (.bool true) ∧ Below w.heap.size w w' := by
  go_enter Tryz.func119, Tryz.ntmps119
  go_wp2
  go_ret
  exact ⟨rfl, ((Below.refl _ _).alloc (Nat.le_refl _) _).alloc (by simp) _⟩

set_option maxHeartbeats 1000000 in
theorem eqMds_same (lo lo' : Nat) (v v' : Value) (Ms : List Md) (w : World) (hv : MdsAt lo w v Ms) (hv' : MdsAt lo' w v' Ms) :
    Calls Tryz.prog 56 #[v, v'] w fun e w' => e = .returned (.bool true) ∧ Below w.heap.size w w' := by
  by_cases hL : Ms = []
  · subst hL
    obtain ⟨a, cap, rfl⟩ := hv.form
    obtain ⟨a', cap', rfl⟩ := hv'.form
    clear hv hv'
    go_enter Tryz.func56, Tryz.ntmps56
    go_wp2
    go_loop [5] (fun i => i = .int .i64 0) (fun _ => 0)
    case atStart => rfl
    case round =>
      subst hrel
      go_wp2
      go_ret
      exact ⟨rfl, Below.refl _ _⟩
  · obtain ⟨b, off, cap, rfl, hm, hbw, _, hc⟩ := hv.full hL
    obtain ⟨b', off', cap', rfl, _, hbw', _, hc'⟩ := hv'.full hL
    clear hv hv'
    unfold maxLen at hm
    go_enter Tryz.func56, Tryz.ntmps56
    go_wp2
    go_loopw [5] (fun i wr => ∃ k : Nat, i = .int .i64 k ∧ k ≤ Ms.length ∧ Below w.heap.size w wr) (fun i _ => Ms.length - (intOf i).toNat)
    case atStart => exact ⟨0, rfl, by omega, Below.refl _ _⟩
    case round =>
      obtain ⟨k, rfl, hk, hb⟩ := hrel
      by_cases hlt : k < Ms.length
      · obtain ⟨_, hcell⟩ := hc k hlt
        obtain ⟨_, hcell'⟩ := hc' k hlt
        obtain ⟨c0, c1, c2, c3, c4, c5⟩ := hcell.below hb hbw
        obtain ⟨d0, d1, d2, d3, d4, d5⟩ := hcell'.below hb hbw'
        clear hcell hcell'
        have HB := hide hb
        clear hb
        go_wp2
        go_region_with (go_at_call 119; refine (eqMend_same _ _ _ _ _ _ _).mono ?_; rintro e w1 ⟨rfl, hb1⟩; have hB : Hid (Below w.heap.size w w1) := (HB.out.drew).trans (hb1.mono HB.out.size); clear hb1)
        all_goals go_wp2
        all_goals go_roundw
        all_goals first
          | (case rel => exact ⟨k + 1, by go_num, by omega, hB.out⟩)
          | (case measure => simp [intOf]; omega)
      · go_wp2
        go_ret
        exact ⟨rfl, hb⟩
end Go.Proofs.YtfohnageehneoaaGreat

namespace Go.Proofs.YtfohnageehneoaaGreat
open Go.RowKit Go.Deep

/-- a number that tells a place, or that there is none -/
def placeI (Fs : List Fd) (s : ByteArray) : Int := if plOf Fs s < Fs.length then (plOf Fs s : Int) else -1
theorem placeI_yes {Fs : List Fd} {s : ByteArray} {k : Nat} (hk : k < Fs.length) (h : (Fs[k].nm.toList == s.toList) = true) (hall : ∀ i (h : i < Fs.length), i < k → (Fs[i].nm.toList == s.toList) = false) : placeI Fs s = k := by
  unfold placeI; rw [plOf_at hk h hall, if_pos hk]
theorem placeI_no {Fs : List Fd} {s : ByteArray} (hall : ∀ i (h : i < Fs.length), (Fs[i].nm.toList == s.toList) = false) : placeI Fs s = -1 := by
  unfold placeI; rw [plOf_no hall, if_neg (Nat.lt_irrefl _)]
theorem placeI_lt {Fs : List Fd} {s : ByteArray} (h : plOf Fs s < Fs.length) : placeI Fs s = plOf Fs s := if_pos h
theorem placeI_ge {Fs : List Fd} {s : ByteArray} (h : ¬ plOf Fs s < Fs.length) : placeI Fs s = -1 := if_neg h

set_option maxHeartbeats 1000000 in
theorem l3Field_any (lo : Nat) (v : Value) (Fs : List Fd) (s : ByteArray) (w : World) (hv : FdsAt lo w v Fs) :
    Calls Tryz.prog 221 #[v, .string s] w fun e w' => e = .returned (.int .i64 (placeI Fs s)) ∧ w' = w := by
  by_cases hL : Fs = []
  · subst hL
    obtain ⟨a, cap, rfl⟩ := nil_form hv
    clear hv
    go_enter Tryz.func221, Tryz.ntmps221
    go_wp2
    go_loop [5] (fun i => i = .int .i64 0) (fun _ => 0)
    case atStart => rfl
    case round =>
      subst hrel
      go_wp2
      go_ret
      exact ⟨rfl, rfl⟩
  · obtain ⟨b, off, cap, rfl, hm, hbw, _, hc⟩ := hv.full hL
    clear hv
    unfold maxLen at hm
    go_enter Tryz.func221, Tryz.ntmps221
    go_wp2
    go_loop [5] (fun i => ∃ k : Nat, i = .int .i64 k ∧ k ≤ Fs.length ∧ ∀ i (h : i < Fs.length), i < k → (Fs[i].nm.toList == s.toList) = false) (fun i => Fs.length - (intOf i).toNat)
    case atStart => exact ⟨0, rfl, by omega, fun i _ h => by omega⟩
    case round =>
      obtain ⟨k, rfl, hk, hall⟩ := hrel
      have HA := hide hall
      clear hall
      by_cases hlt : k < Fs.length
      · obtain ⟨_, wv, hcell, _⟩ := hc k hlt
        have c0 := hcell.c0
        clear hcell
        by_cases he : (Fs[k].nm.toList == s.toList) = true
        · go_wp2
          go_ret
          exact ⟨by rw [placeI_yes hlt he HA.out]; rfl, rfl⟩
        · have he' : (Fs[k].nm.toList == s.toList) = false := by simpa using he
          clear he
          go_wp2
          go_round
          case rel => exact ⟨k + 1, by go_num, by omega, fun i h h' => by
                        by_cases e : i = k
                        · subst e; exact he'
                        · exact HA.out i h (by omega)⟩
          case measure => simp [intOf]; omega
      · go_wp2
        go_ret
        exact ⟨by rw [placeI_no fun i h => HA.out i h (by omega)]; rfl, rfl⟩

set_option maxHeartbeats 1000000 in
theorem l3Plain_any (lo : Nat) (v : Value) (Fs : List Fd) (s : ByteArray) (w : World) (hv : FdsAt lo w v Fs) :
    Calls Tryz.prog 220 #[v, .string s] w fun e w' => e = .returned (.bool (plainB Fs s)) ∧ w' = w := by
  have HV := hide hv
  by_cases hp : plOf Fs s < Fs.length
  · obtain ⟨b, off, cap, rfl, hm, hbw, _, hc⟩ := hv.full (by intro e; rw [e] at hp; simp at hp)
    clear hv
    unfold maxLen at hm
    obtain ⟨_, wv, hcell, _⟩ := hc _ hp
    have c1 := hcell.c1
    have HQ : Hid (plainB Fs s = !(Fs[plOf Fs s].kd == 4)) := plain_at hp
    have HP : Hid (placeI Fs s = plOf Fs s) := placeI_lt hp
    clear hcell hc
    go_enter Tryz.func220, Tryz.ntmps220
    go_wp2_with fail
    refine (l3Field_any lo _ Fs s _ HV.out).mono ?_
    rintro e w1 ⟨rfl, rfl⟩
    rw [HP.out]
    cases hk : (Fs[plOf Fs s].kd == 4) with
    | true =>
      have HQ2 : Hid (plainB Fs s = false) := by unfold Hid; rw [HQ.out, hk]; rfl
      have e4 : Fs[plOf Fs s].kd = 4 := by simpa using hk
      rw [e4] at c1
      clear e4 hk HQ HP
      go_wp2
      go_ret
      exact ⟨ret_bool HQ2.out.symm, rfl⟩
    | false =>
      have HQ2 : Hid (plainB Fs s = true) := by unfold Hid; rw [HQ.out, hk]; rfl
      have e4 : ¬ Fs[plOf Fs s].kd = 4 := by simpa using hk
      clear hk HQ HP
      go_wp2
      go_ret
      exact ⟨ret_bool (by rw [HQ2.out]; simp [e4]), rfl⟩
  · obtain ⟨a, cap, rfl⟩ := hv.form
    clear hv
    have HQ : Hid (plainB Fs s = false) := plain_no hp
    have HP : Hid (placeI Fs s = -1) := placeI_ge hp
    go_enter Tryz.func220, Tryz.ntmps220
    go_wp2_with fail
    refine (l3Field_any lo _ Fs s _ HV.out).mono ?_
    rintro e w1 ⟨rfl, rfl⟩
    rw [HP.out]
    clear HP hp
    go_wp2
    go_ret
    exact ⟨ret_bool HQ.out.symm, rfl⟩
end Go.Proofs.YtfohnageehneoaaGreat

namespace Go.Proofs.YtfohnageehneoaaGreat
open Go.RowKit Go.Deep

theorem hasB_mem {L : List ByteArray} {s : ByteArray} : hasB L s = true ↔ s ∈ L := by
  unfold hasB
  rw [List.any_eq_true]
  constructor
  · rintro ⟨x, hx, h⟩; rw [bytes_eq] at h; subst h; exact hx
  · exact fun h => ⟨s, h, bytes_refl _⟩
theorem hasB_not {L : List ByteArray} {s : ByteArray} (h : hasB L s = false) : s ∉ L := fun hm => by rw [hasB_mem.2 hm] at h; cases h
/-- all that the mends of a field read is in a row -/
def readyB (Ms : List Md) (kind field : ByteArray) (row : List ByteArray) : Bool := (readsOf kind Ms field).all (hasB row)
theorem ready_all {Ms : List Md} {kind field : ByteArray} {row : List ByteArray} : readyB Ms kind field row = true ↔ ∀ r ∈ readsOf kind Ms field, r ∈ row := by
  unfold readyB
  rw [List.all_eq_true]
  exact ⟨fun h r hr => hasB_mem.1 (h r hr), fun h r hr => hasB_mem.2 (h r hr)⟩
/-- .. of one mend -/
def rdy1 (kind field : ByteArray) (row : List ByteArray) (m : Md) : Bool := !forB kind field m || ((m.wh.toList.isEmpty || hasB row m.wh) && (m.fr.toList.isEmpty || hasB row m.fr))
theorem ready_of {Ms : List Md} {kind field : ByteArray} {row : List ByteArray} (h : ∀ i (h : i < Ms.length), rdy1 kind field row Ms[i] = true) : readyB Ms kind field row = true := by
  rw [ready_all]
  intro r hr
  obtain ⟨m, hm, hf, hrd⟩ := mem_readsOf.1 hr
  obtain ⟨i, hi, rfl⟩ := List.getElem_of_mem hm
  have := h i hi
  unfold rdy1 at this
  rw [hf] at this
  simp only [Bool.not_true, Bool.false_or, Bool.and_eq_true, Bool.or_eq_true] at this
  unfold rdOf at hrd
  rcases List.mem_append.1 hrd with h1 | h1
  · by_cases he : Ms[i].wh.toList.isEmpty = true
    · rw [if_pos he] at h1; cases h1
    · rw [if_neg he] at h1
      rw [List.mem_singleton.1 h1]
      rcases this.1 with h2 | h2
      · exact absurd h2 he
      · exact hasB_mem.1 h2
  · by_cases he : Ms[i].fr.toList.isEmpty = true
    · rw [if_pos he] at h1; cases h1
    · rw [if_neg he] at h1
      rw [List.mem_singleton.1 h1]
      rcases this.2 with h2 | h2
      · exact absurd h2 he
      · exact hasB_mem.1 h2
theorem ready_not {Ms : List Md} {kind field : ByteArray} {row : List ByteArray} {i : Nat} (hi : i < Ms.length) (h : rdy1 kind field row Ms[i] = false) : readyB Ms kind field row = false := by
  cases hr : readyB Ms kind field row with
  | false => rfl
  | true =>
    rw [ready_all] at hr
    have hf : forB kind field Ms[i] = true := by
      cases hf : forB kind field Ms[i] with
      | true => rfl
      | false => unfold rdy1 at h; rw [hf] at h; cases h
    have key : ∀ r ∈ rdOf Ms[i], hasB row r = true := fun r hrr => hasB_mem.2 (hr r (mem_readsOf.2 ⟨Ms[i], List.getElem_mem hi, hf, hrr⟩))
    have hx : rdy1 kind field row Ms[i] = true := by
      unfold rdy1
      simp only [hf, Bool.not_true, Bool.false_or, Bool.and_eq_true, Bool.or_eq_true]
      refine ⟨?_, ?_⟩
      · cases hw : Ms[i].wh.toList.isEmpty with
        | true => exact Or.inl rfl
        | false => exact Or.inr (key _ (rd_wh hw))
      · cases hw : Ms[i].fr.toList.isEmpty with
        | true => exact Or.inl rfl
        | false => exact Or.inr (key _ (rd_fr hw))
    rw [hx] at h; cases h

set_option maxHeartbeats 4000000 in
theorem l3Ready_any (lo : Nat) (v rv : Value) (Ms : List Md) (kind field : ByteArray) (row : List ByteArray) (w : World) (hv : MdsAt lo w v Ms) (hr : StrsAt w rv row) :
    Calls Tryz.prog 223 #[v, .string kind, .string field, rv] w fun e w' => e = .returned (.bool (readyB Ms kind field row)) ∧ Below w.heap.size w w' := by
  have HR := hide hr
  obtain ⟨ra, rn, rcap, rfl⟩ := hr.form
  clear hr
  by_cases hL : Ms = []
  · subst hL
    obtain ⟨a, cap, rfl⟩ := hv.form
    clear hv
    have HQ : Hid (readyB [] kind field row = true) := rfl
    go_enter Tryz.func223, Tryz.ntmps223
    go_wp2
    go_loop [9] (fun i => i = .int .i64 0) (fun _ => 0)
    case atStart => rfl
    case round =>
      subst hrel
      go_wp2
      go_ret
      exact ⟨ret_bool HQ.out.symm, Below.refl _ _⟩
  obtain ⟨b, off, cap, rfl, hm, hbw, _, hc⟩ := hv.full hL
  clear hv
  unfold maxLen at hm
  go_enter Tryz.func223, Tryz.ntmps223
  go_wp2
  go_loopw [9] (fun i wr => ∃ k : Nat, i = .int .i64 k ∧ k ≤ Ms.length ∧ Below w.heap.size w wr ∧ ∀ i (h : i < Ms.length), i < k → rdy1 kind field row Ms[i] = true) (fun i _ => Ms.length - (intOf i).toNat)
  case atStart => exact ⟨0, rfl, by omega, Below.refl _ _, fun i _ h => by omega⟩
  case round =>
    obtain ⟨k, rfl, hk, hb, hall⟩ := hrel
    have HA := hide hall
    have HB := hide hb
    clear hall hb
    by_cases hlt : k < Ms.length
    · obtain ⟨_, hcell⟩ := hc k hlt
      obtain ⟨c0, c1, c2, c3, c4, c5⟩ := hcell.below HB.out hbw
      clear hcell
      have HB1 : ∀ o, Hid (Below w.heap.size w (wr.alloc o)) := fun o => HB.out.alloc HB.out.size _
      have HNX : Hid (rdy1 kind field row Ms[k] = true → ∀ i (h : i < Ms.length), i < k + 1 → rdy1 kind field row Ms[i] = true) := fun h i hi hik => by
        by_cases e : i = k
        · subst e; exact h
        · exact HA.out i hi (by omega)
      cases hk1 : (Ms[k].kind.toList == kind.toList) with
      | false =>
        go_wp2
        go_roundw
        case rel => exact ⟨k + 1, by go_num, by omega, (HB1 _).out, HNX.out (by unfold rdy1 forB; simp [hk1])⟩
        case measure => simp [intOf]; omega
      | true =>
        cases hf1 : (Ms[k].field.toList == field.toList) with
        | false =>
          go_wp2
          go_roundw
          case rel => exact ⟨k + 1, by go_num, by omega, (HB1 _).out, HNX.out (by unfold rdy1 forB; simp [hk1, hf1])⟩
          case measure => simp [intOf]; omega
        | true =>
          cases hwe : Ms[k].wh.toList.isEmpty with
          | true =>
            cases hfe : Ms[k].fr.toList.isEmpty with
            | true =>
              go_wp2
              go_roundw
              case rel => exact ⟨k + 1, by go_num, by omega, (HB1 _).out, HNX.out (by unfold rdy1 forB; simp [hk1, hf1, hwe, hfe])⟩
              case measure => simp [intOf]; omega
            | false =>
              go_wp2_with fail
              refine (l1Has_any _ row Ms[k].fr _ (HR.out.below (HB1 _).out)).mono ?_
              rintro e w1 ⟨rfl, rfl⟩
              cases hfh : hasB row Ms[k].fr with
              | true =>
                go_wp2
                go_roundw
                case rel => exact ⟨k + 1, by go_num, by omega, (HB1 _).out, HNX.out (by unfold rdy1 forB; simp [hk1, hf1, hwe, hfe, hfh])⟩
                case measure => simp [intOf]; omega
              | false =>
                go_wp2
                go_ret
                exact ⟨ret_bool (ready_not hlt (by unfold rdy1 forB; simp [hk1, hf1, hwe, hfe, hfh])).symm, (HB1 _).out⟩
          | false =>
            go_wp2_with fail
            refine (l1Has_any _ row Ms[k].wh _ (HR.out.below (HB1 _).out)).mono ?_
            rintro e w1 ⟨rfl, rfl⟩
            cases hwh : hasB row Ms[k].wh with
            | false =>
              go_wp2
              go_ret
              exact ⟨ret_bool (ready_not hlt (by unfold rdy1 forB; simp [hk1, hf1, hwe, hwh])).symm, (HB1 _).out⟩
            | true =>
              cases hfe : Ms[k].fr.toList.isEmpty with
              | true =>
                go_wp2
                go_roundw
                case rel => exact ⟨k + 1, by go_num, by omega, (HB1 _).out, HNX.out (by unfold rdy1 forB; simp [hk1, hf1, hwe, hwh, hfe])⟩
                case measure => simp [intOf]; omega
              | false =>
                go_wp2_with fail
                refine (l1Has_any _ row Ms[k].fr _ (HR.out.below (HB1 _).out)).mono ?_
                rintro e w1 ⟨rfl, rfl⟩
                cases hfh : hasB row Ms[k].fr with
                | true =>
                  go_wp2
                  go_roundw
                  case rel => exact ⟨k + 1, by go_num, by omega, (HB1 _).out, HNX.out (by unfold rdy1 forB; simp [hk1, hf1, hwe, hwh, hfe, hfh])⟩
                  case measure => simp [intOf]; omega
                | false =>
                  go_wp2
                  go_ret
                  exact ⟨ret_bool (ready_not hlt (by unfold rdy1 forB; simp [hk1, hf1, hwe, hwh, hfe, hfh])).symm, (HB1 _).out⟩
    · go_wp2
      go_ret
      exact ⟨ret_bool (ready_of fun i h => HA.out i h (by omega)).symm, HB.out⟩
end Go.Proofs.YtfohnageehneoaaGreat

namespace Go.Proofs.YtfohnageehneoaaGreat
open Go.RowKit Go.Deep

/-- A []string THAT THE CALL MADE ITSELF: its block lies from base on, with room behind. -/
structure OwnS (base : Nat) (W : World) (v : Value) (R : List ByteArray) : Prop where
  row : W.ownsRow base 9 1 v R.length (R.map Value.string)
  sz : ∀ s ∈ R, s.size ≤ maxLen
theorem OwnS.form {base : Nat} {W : World} {v : Value} {R : List ByteArray} (h : OwnS base W v R) : ∃ a cap, v = .slice a R.length cap := by
  rcases h.row.2 with ⟨hv, hn⟩ | ⟨g, cap, cur, hv, _⟩
  · rw [hn]; exact ⟨_, _, hv⟩
  · exact ⟨_, _, hv⟩
theorem OwnS.below {base : Nat} {W W' : World} {v : Value} {R : List ByteArray} (h : OwnS base W v R) (hb : Below W.heap.size W W') : OwnS base W' v R := by
  refine ⟨⟨h.row.1, ?_⟩, h.sz⟩
  rcases h.row.2 with hv | ⟨g, cap, cur, hv, h1, h2, h3⟩
  · exact Or.inl hv
  · have hg : g < W.heap.size := by
      rcases Nat.lt_or_ge g W.heap.size with h | h
      · exact h
      · rw [Array.getElem?_eq_none h] at h2; cases h2
    exact Or.inr ⟨g, cap, cur, hv, h1, by rw [hb.block g hg]; exact h2, h3⟩
theorem OwnS.strs {base : Nat} {W : World} {v : Value} {R : List ByteArray} (h : OwnS base W v R) : StrsAt W v R := by
  rcases h.row.2 with ⟨hv, hn⟩ | ⟨g, cap, cur, hv, h1, h2, h3, h4, h5, h6⟩
  · exact Or.inl ⟨none, 0, hv, List.length_eq_zero_iff.1 hn⟩
  · by_cases hR : R = []
    · subst hR; exact Or.inl ⟨_, _, hv, rfl⟩
    · have hg : g < W.heap.size := by
        rcases Nat.lt_or_ge g W.heap.size with h | h
        · exact h
        · rw [Array.getElem?_eq_none h] at h2; cases h2
      refine Or.inr ⟨g, 0, cap, hv, hR, Nat.le_trans h3 h4, hg, fun i hi => ?_, h.sz⟩
      rw [Nat.zero_add, cell_of_row W g i cur 9 (0, 0) h2]
      have : (cur.toList.take (R.length * 1))[i]? = (R.map Value.string)[i]? := by rw [h6]
      rw [List.getElem?_take_of_lt (by omega)] at this
      simpa [hi] using this
theorem OwnS.mono {base base' : Nat} {W : World} {v : Value} {R : List ByteArray} (h : OwnS base W v R) (hb : base' ≤ base) : OwnS base' W v R := by
  refine ⟨⟨h.row.1, ?_⟩, h.sz⟩
  rcases h.row.2 with hv | ⟨g, cap, cur, hv, h1, h2⟩
  · exact Or.inl hv
  · exact Or.inr ⟨g, cap, cur, hv, Nat.le_trans hb h1, h2⟩
theorem OwnS.nil (base : Nat) (W : World) : OwnS base W (.slice none 0 0) [] := ⟨World.ownsRow_nil _ _ _ _, fun s h => by simp at h⟩
theorem OwnS.made {base : Nat} (W : World) (g : Nat) (hg : W.heap.size = g) (hb : base ≤ g) : OwnS base (W.alloc (.cells #[] 9)) (.slice (some ⟨g, 0, none⟩) 0 0) [] := by
  subst hg
  exact ⟨World.ownsRow_made (base := base) (e := 9) (size := 1) W #[] 0 hb (Nat.zero_le _) (by simp), fun s h => by simp at h⟩
theorem OwnS.grown {base : Nat} {W w' : World} {v : Value} {R : List ByteArray} (h : OwnS base W v R) (hg : W.grownBy w' v.ownBlock) (hb : base ≤ W.heap.size) : Below base W w' := by
  refine ⟨hg.os, hg.tape, hg.output, hg.size, fun k hk => hg.block k (by omega) ?_⟩
  rcases h.row.2 with ⟨hv, _⟩ | ⟨g, cap, cur, hv, h1, _⟩
  · rw [hv]; intro e; cases e
  · rw [hv]; intro e
    have : k = g := by simpa [Value.ownBlock] using e
    omega
theorem OwnS.snoc {base : Nat} {W w' : World} {v v' : Value} {R : List ByteArray} {s : ByteArray} (h : OwnS base W v R) (hown : w'.ownsRow base 9 1 v' (R.length + 1) (R.map Value.string ++ [.string s])) (hs : s.size ≤ maxLen) : OwnS base w' v' (R ++ [s]) := by
  refine ⟨by rw [List.length_append, List.map_append]; exact hown, fun t ht => ?_⟩
  rcases List.mem_append.1 ht with h1 | h1
  · exact h.sz t h1
  · rw [List.mem_singleton.1 h1]; exact hs
theorem cell_new1 (X : World) (g : Nat) (u : Value) (t : TypeId) (hg : X.heap.size = g) : ∀ j x, [u][j]? = some x → (X.alloc (.cells #[u] t)).cell? ((⟨g, 0, none⟩ : Addr).add j) = some x := by
  subst hg
  intro j x hj
  rw [Go.WideShapes.add_plain, Nat.zero_add]
  cases j with
  | zero => simp at hj; subst hj; simp
  | succ j => simp at hj
theorem one_oneCell (s : ByteArray) : ∀ u ∈ [Value.string s], u.oneCell' = true := fun u hu => by rw [List.mem_singleton.1 hu]; rfl

/-- none of the first k can be put behind the row -/
def NoneYet (Fs : List Fd) (rd : ByteArray → List ByteArray) (R : List ByteArray) (k : Nat) : Prop := ∀ i (h : i < Fs.length), i < k → Fs[i].nm ∈ R ∨ ¬ ∀ r ∈ rd Fs[i].nm, r ∈ R
theorem NoneYet.stuck {Fs : List Fd} {rd : ByteArray → List ByteArray} {R : List ByteArray} {k : Nat} (h : NoneYet Fs rd R k) (hk : Fs.length ≤ k) : Stuck (namesF Fs) rd R := by
  intro x hx hn
  obtain ⟨i, hi, rfl⟩ := mem_namesF.1 hx
  rcases h i hi (by omega) with h1 | h1
  · exact absurd h1 hn
  · exact h1
theorem NoneYet.succ {Fs : List Fd} {rd : ByteArray → List ByteArray} {R : List ByteArray} {k : Nat} (h : NoneYet Fs rd R k) (hk : k < Fs.length) (hx : Fs[k].nm ∈ R ∨ ¬ ∀ r ∈ rd Fs[k].nm, r ∈ R) : NoneYet Fs rd R (k + 1) := by
  intro i hi hik
  by_cases e : i = k
  · subst e; exact hx
  · exact h i hi (by omega)
theorem names_len (Fs : List Fd) : (namesF Fs).length = Fs.length := by simp [namesF]
theorem good_len {Fs : List Fd} {rd : ByteArray → List ByteArray} {R : List ByteArray} (h : Good (namesF Fs) rd R) : R.length ≤ Fs.length := by
  have := List.Nodup.length_le_of_subset h.nodup h.sub
  rwa [names_len] at this

/-- WHAT l3Row GIVES -/
def RowOf (x : Sh) (Ms : List Md) (R : List ByteArray) : Prop :=
  Good (namesF x.fields) (readsOf x.kind Ms) R ∧ R.length ≤ x.fields.length ∧ (R.length = x.fields.length ↔ shapeRowB Ms x = true)
theorem RowOf.mk' {x : Sh} {Ms : List Md} {R : List ByteArray} {n : Nat} (hg : Good (namesF x.fields) (readsOf x.kind Ms) R) (hn : x.fields.length ≤ n) (h : R.length = n ∨ Stuck (namesF x.fields) (readsOf x.kind Ms) R) : RowOf x Ms R := by
  have hl := good_len hg
  refine ⟨hg, hl, fun e => rowB_yes hg (by rw [names_len]; omega), fun hb => ?_⟩
  rcases h with h | h
  · omega
  · rcases Nat.lt_or_ge R.length x.fields.length with hlt | hge
    · unfold shapeRowB at hb
      rw [rowB_no h (by rw [names_len]; exact hlt)] at hb; cases hb
    · omega
end Go.Proofs.YtfohnageehneoaaGreat


