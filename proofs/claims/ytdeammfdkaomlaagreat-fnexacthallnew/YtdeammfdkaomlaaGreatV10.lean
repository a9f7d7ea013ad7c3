import Derived.Test.YtdeammfdkaomlaaGreatV05
import Derived.Test.YtdeammfdkaomlaaGreatV06
import Derived.Test.YtdeammfdkaomlaaGreatV09
import Derived.Deep.AppendLies
import Derived.WalkKit
import Derived.WalkSpells
import Derived.WalkLawsBesides
import Derived.Deep.QuietTactic
import Derived.BigQuiet
import Derived.Deep.OwnRows
import Derived.Deep.RegionWith
import Derived.Deep.RegionHeld3
import Derived.WideMake
import Derived.ProofKit
import Derived.Deep.Strs
import Derived.Deep.RegionHeld
namespace Go.Proofs.YtdeammfdkaomlaaGreat
open Go.RowKit Go.Deep

/-- a team -/
structure Tm where
  nm : ByteArray
  ov : ByteArray
/-- the place of the first team of a name; the length where there is none -/
def plT (Ts : List Tm) (s : ByteArray) : Nat := Ts.findIdx fun t => t.nm.toList == s.toList
theorem plT_at {Ts : List Tm} {s : ByteArray} {k : Nat} (hk : k < Ts.length) (h : (Ts[k].nm.toList == s.toList) = true) (hall : ∀ i (h : i < Ts.length), i < k → (Ts[i].nm.toList == s.toList) = false) : plT Ts s = k := by
  unfold plT
  rw [List.findIdx_eq hk]
  exact ⟨h, fun j hj => hall j (by omega) hj⟩
theorem plT_no {Ts : List Tm} {s : ByteArray} (hall : ∀ i (h : i < Ts.length), (Ts[i].nm.toList == s.toList) = false) : plT Ts s = Ts.length := by
  unfold plT
  rw [List.findIdx_eq_length]
  intro x hx
  obtain ⟨i, hi, rfl⟩ := List.getElem_of_mem hx
  exact hall i hi
theorem plT_hit {Ts : List Tm} {s : ByteArray} (h : plT Ts s < Ts.length) : (Ts[plT Ts s].nm.toList == s.toList) = true := by
  unfold plT at h ⊢
  exact List.findIdx_getElem (w := h)
def placeT (Ts : List Tm) (s : ByteArray) : Int := if plT Ts s < Ts.length then (plT Ts s : Int) else -1
theorem placeT_yes {Ts : List Tm} {s : ByteArray} {k : Nat} (hk : k < Ts.length) (h : (Ts[k].nm.toList == s.toList) = true) (hall : ∀ i (h : i < Ts.length), i < k → (Ts[i].nm.toList == s.toList) = false) : placeT Ts s = k := by
  unfold placeT; rw [plT_at hk h hall, if_pos hk]
theorem placeT_no {Ts : List Tm} {s : ByteArray} (hall : ∀ i (h : i < Ts.length), (Ts[i].nm.toList == s.toList) = false) : placeT Ts s = -1 := by
  unfold placeT; rw [plT_no hall, if_neg (Nat.lt_irrefl _)]
theorem placeT_lt {Ts : List Tm} {s : ByteArray} (h : plT Ts s < Ts.length) : placeT Ts s = plT Ts s := if_pos h
theorem placeT_ge {Ts : List Tm} {s : ByteArray} (h : ¬ plT Ts s < Ts.length) : placeT Ts s = -1 := if_neg h
/-- the team over a team -/
def ovB (Ts : List Tm) (s : ByteArray) : ByteArray := match Ts[plT Ts s]? with
  | some t => t.ov
  | none => ⟨#[]⟩
theorem ovB_lt {Ts : List Tm} {s : ByteArray} (h : plT Ts s < Ts.length) : ovB Ts s = Ts[plT Ts s].ov := by
  unfold ovB; rw [List.getElem?_eq_getElem h]
theorem ovB_ge {Ts : List Tm} {s : ByteArray} (h : ¬ plT Ts s < Ts.length) : ovB Ts s = ⟨#[]⟩ := by
  unfold ovB; rw [List.getElem?_eq_none (by omega)]
theorem ovB_at {Ts : List Tm} {s : ByteArray} {k : Nat} (hk : k < Ts.length) (h : (Ts[k].nm.toList == s.toList) = true) (hall : ∀ i (h : i < Ts.length), i < k → (Ts[i].nm.toList == s.toList) = false) : ovB Ts s = Ts[k].ov := by
  have e := plT_at hk h hall
  unfold ovB; rw [e, List.getElem?_eq_getElem hk]
theorem ovB_no {Ts : List Tm} {s : ByteArray} (hall : ∀ i (h : i < Ts.length), (Ts[i].nm.toList == s.toList) = false) : ovB Ts s = ⟨#[]⟩ := ovB_ge (by rw [plT_no hall]; omega)
/-- there are n teams over a team -/
def deepN (Ts : List Tm) : Nat → ByteArray → Bool
  | 0, _ => true
  | n + 1, a => if (ovB Ts a).toList.isEmpty then false else deepN Ts n (ovB Ts a)
def hasT (Ts : List Tm) (s : ByteArray) : Bool := Ts.any fun t => t.nm.toList == s.toList
theorem hasT_stop {Ts : List Tm} {s : ByteArray} {k : Nat} (h : k < Ts.length) (hp : (Ts[k].nm.toList == s.toList) = true) : hasT Ts s = true := by
  unfold hasT; rw [List.any_eq_true]; exact ⟨Ts[k], List.getElem_mem h, hp⟩
theorem hasT_no {Ts : List Tm} {s : ByteArray} (hall : ∀ i (h : i < Ts.length), (Ts[i].nm.toList == s.toList) = false) : hasT Ts s = false := by
  unfold hasT; rw [List.any_eq_false]
  intro x hx
  obtain ⟨i, hi, rfl⟩ := List.getElem_of_mem hx
  simp [hall i hi]
theorem hasT_eq (Ts : List Tm) (s : ByteArray) : hasT Ts s = decide (plT Ts s < Ts.length) := by
  by_cases h : plT Ts s < Ts.length
  · rw [decide_eq_true h]
    exact hasT_stop h (plT_hit h)
  · rw [decide_eq_false h]
    refine hasT_no fun i hi => ?_
    have := List.not_of_lt_findIdx (p := fun t : Tm => t.nm.toList == s.toList) (xs := Ts) (i := i) (by show i < plT Ts s; omega)
    simpa using this
def teamAt (Ts : List Tm) (i : Nat) : Bool := match Ts[i]? with
  | none => false
  | some t => nameB t.nm && (i == 0 || Op.bytesLess ((Ts[i - 1]?.map Tm.nm).getD ⟨#[]⟩).toList t.nm.toList) && (t.ov.toList.isEmpty || hasT Ts t.ov) && !deepN Ts 5 t.nm
def teamsB (Ts : List Tm) : Bool := decide (Ts.length ≤ 12) && (List.range Ts.length).all (teamAt Ts)
theorem teamAt_eq {Ts : List Tm} {i : Nat} (h : i < Ts.length) : teamAt Ts i = (nameB Ts[i].nm && (i == 0 || Op.bytesLess ((Ts[i - 1]?.map Tm.nm).getD ⟨#[]⟩).toList Ts[i].nm.toList) && (Ts[i].ov.toList.isEmpty || hasT Ts Ts[i].ov) && !deepN Ts 5 Ts[i].nm) := by
  unfold teamAt; rw [List.getElem?_eq_getElem h]
theorem before_eq {Ts : List Tm} {j : Nat} (h : j + 1 < Ts.length) : ((Ts[j + 1 - 1]?.map Tm.nm).getD ⟨#[]⟩) = Ts[j].nm := by
  rw [Nat.add_sub_cancel, List.getElem?_eq_getElem (by omega)]; rfl
theorem teams_big {Ts : List Tm} (h : ¬ Ts.length ≤ 12) : teamsB Ts = false := by unfold teamsB; simp [h]
theorem teams_no {Ts : List Tm} {k : Nat} (hk : k < Ts.length) (h : teamAt Ts k = false) : teamsB Ts = false := by
  unfold teamsB; rw [range_not hk h]; simp
theorem teams_yes {Ts : List Tm} {k : Nat} (h : Ts.length ≤ 12) (hk : Ts.length ≤ k) (hall : ∀ i, i < k → teamAt Ts i = true) : teamsB Ts = true := by
  unfold teamsB; rw [range_all (fun i hi => hall i (by omega))]; simp [h]

structure TmCells (w : World) (b o : Nat) (t : Tm) : Prop where
  c0 : w.cell? ⟨b, o, none⟩ = some (.string t.nm)
  c1 : w.cell? ⟨b, o + 1, none⟩ = some (.string t.ov)
structure TmSize (t : Tm) : Prop where
  s0 : t.nm.size ≤ maxLen
  s1 : t.ov.size ≤ maxLen
theorem TmCells.below {w w' : World} {b o : Nat} {t : Tm} (h : TmCells w b o t) (hb : Below w.heap.size w w') (hlt : b < w.heap.size) : TmCells w' b o t := by
  have e : ∀ o, w'.cell? ⟨b, o, none⟩ = w.cell? ⟨b, o, none⟩ := fun o => hb.cell (p := ⟨b, o, none⟩) hlt
  exact ⟨by rw [e]; exact h.c0, by rw [e]; exact h.c1⟩
/-- A []GateTeam THAT HOLDS Ts; its cells lie from block lo on. -/
def TmsAt (lo : Nat) (w : World) (v : Value) (Ts : List Tm) : Prop :=
  (∃ (a : Option Addr) (cap : Nat), v = .slice a 0 cap ∧ Ts = []) ∨
  ∃ (b off cap : Nat), v = .slice (some ⟨b, off, none⟩) Ts.length cap ∧ Ts ≠ [] ∧ Ts.length ≤ maxLen ∧ b < w.heap.size ∧ lo ≤ b ∧ Ts.length ≤ cap ∧
    ∀ i (h : i < Ts.length), TmSize Ts[i] ∧ TmCells w b (off + i * 2) Ts[i]
theorem TmsAt.below {lo : Nat} {w w' : World} {v : Value} {Ts : List Tm} (h : TmsAt lo w v Ts) (hb : Below w.heap.size w w') : TmsAt lo w' v Ts := by
  rcases h with h | ⟨b, off, cap, h1, h2, h3, h4, h5, h6, h7⟩
  · exact Or.inl h
  · refine Or.inr ⟨b, off, cap, h1, h2, h3, Nat.lt_of_lt_of_le h4 hb.size, h5, h6, fun i hi => ?_⟩
    obtain ⟨hs, hc⟩ := h7 i hi
    exact ⟨hs, hc.below hb h4⟩
theorem TmsAt.mono {lo lo' : Nat} {w : World} {v : Value} {Ts : List Tm} (h : TmsAt lo w v Ts) (hl : lo' ≤ lo) : TmsAt lo' w v Ts := by
  rcases h with h | ⟨b, off, cap, h1, h2, h3, h4, h5, h6, h7⟩
  · exact Or.inl h
  · exact Or.inr ⟨b, off, cap, h1, h2, h3, h4, Nat.le_trans hl h5, h6, h7⟩
theorem TmsAt.form {lo : Nat} {w : World} {v : Value} {Ts : List Tm} (h : TmsAt lo w v Ts) : ∃ a cap, v = .slice a Ts.length cap := by
  rcases h with ⟨a, cap, h, rfl⟩ | ⟨b, off, cap, h, _⟩
  · exact ⟨a, cap, h⟩
  · exact ⟨_, cap, h⟩
theorem TmsAt.max {lo : Nat} {w : World} {v : Value} {Ts : List Tm} (h : TmsAt lo w v Ts) : Ts.length ≤ maxLen := by
  rcases h with ⟨a, cap, h, rfl⟩ | ⟨b, off, cap, h, _, h3, _⟩
  · exact Nat.zero_le _
  · exact h3
theorem TmsAt.full {lo : Nat} {w : World} {v : Value} {Ts : List Tm} (h : TmsAt lo w v Ts) (hne : Ts ≠ []) : ∃ (b off cap : Nat), v = .slice (some ⟨b, off, none⟩) Ts.length cap ∧ Ts.length ≤ maxLen ∧ b < w.heap.size ∧ Ts.length ≤ cap ∧
    ∀ i (h : i < Ts.length), TmSize Ts[i] ∧ TmCells w b (off + i * 2) Ts[i] := by
  rcases h with ⟨_, _, _, h⟩ | ⟨b, off, cap, h1, _, h3, h4, _, h6, h7⟩
  · exact absurd h hne
  · exact ⟨b, off, cap, h1, h3, h4, h6, h7⟩
theorem TmsAt.full' {lo : Nat} {w : World} {a : Option Addr} {n cap : Nat} {Ts : List Tm} (h : TmsAt lo w (.slice a n cap) Ts) (hL : 0 < Ts.length) :
    ∃ b off, a = some ⟨b, off, none⟩ ∧ b < w.heap.size ∧ ∀ i (h : i < Ts.length), TmSize Ts[i] ∧ TmCells w b (off + i * 2) Ts[i] := by
  rcases h with ⟨a', cap', h, rfl⟩ | ⟨b', off', cap', h1, h2, h3, h4, h5, h6, h7⟩
  · simp at hL
  · injection h1 with e1 e2 e3
    exact ⟨b', off', e1, h4, h7⟩
theorem TmsAt.setCell {lo : Nat} {w : World} {v : Value} {Ts : List Tm} (h : TmsAt lo w v Ts) {p : Addr} (hp : p.block < lo) (u : Value) : TmsAt lo (w.setCell p u) v Ts := by
  rcases h with h | ⟨b, off, cap, h1, h2, h3, h4, h5, h6, h7⟩
  · exact Or.inl h
  · refine Or.inr ⟨b, off, cap, h1, h2, h3, by simpa [World.setCell] using h4, h5, h6, fun i hi => ?_⟩
    obtain ⟨hs, hc⟩ := h7 i hi
    have e : ∀ o, (w.setCell p u).cell? ⟨b, o, none⟩ = w.cell? ⟨b, o, none⟩ := fun o => cell_setCell_ne _ _ _ _ (by show b ≠ p.block; omega)
    exact ⟨hs, by rw [e]; exact hc.c0, by rw [e]; exact hc.c1⟩

set_option maxHeartbeats 1000000 in
theorem szTeam_any (k f : ByteArray) (left : Int) (w : World) (h0 : 0 ≤ left) (h1 : left ≤ 1048576)
    (s0 : k.size ≤ maxLen) (s1 : f.size ≤ maxLen) :
    Calls Tryz.prog 90 #[.agg #[.string k, .string f], .int .i64 left] w
      fun e w' => ∃ r : Int, e = .returned (.int .i64 r) ∧ Below w.heap.size w w' ∧ -1 ≤ r ∧ r ≤ left := by
  unfold maxLen at s0 s1
  have HW : ∀ o, Hid (Below w.heap.size w (w.alloc o)) := fun o => (Below.refl _ _).alloc (Nat.le_refl _) _
  go_enter Tryz.func90, Tryz.ntmps90
  go_wp2
  all_goals go_ret
  all_goals exact ⟨_, rfl, (HW _).out, by omega, by omega⟩

set_option maxHeartbeats 1000000 in
theorem szTms_any (lo : Nat) (v : Value) (Ts : List Tm) (left : Int) (w : World) (h0 : 0 ≤ left) (h1 : left ≤ 1048576) (hv : TmsAt lo w v Ts) :
    Calls Tryz.prog 24 #[v, .int .i64 left] w fun e w' => ∃ r : Int, e = .returned (.int .i64 r) ∧ Below w.heap.size w w' ∧ SzOk Ts.length left r := by
  rcases hv with ⟨a, cap, rfl, rfl⟩ | ⟨b, off, cap, rfl, hne, hm, hbw, _, _, hc⟩
  · go_enter Tryz.func24, Tryz.ntmps24
    go_wp2
    go_loop [1, 5] (fun l i => ∃ r : Int, l = .int .i64 r ∧ 0 ≤ r ∧ r ≤ left ∧ i = .int .i64 0) (fun _ _ => 0)
    case atStart => exact ⟨_, rfl, by omega, by omega, rfl⟩
    case round =>
      obtain ⟨r, rfl, hr0, hr1, rfl⟩ := hrel
      go_wp2
      go_ret
      exact ⟨r, rfl, Below.refl _ _, by omega, by omega, fun _ => by simp; omega⟩
  · unfold maxLen at hm
    by_cases hle : (Ts.length : Int) ≤ left
    · go_enter Tryz.func24, Tryz.ntmps24
      go_wp2
      go_loopw [1, 5] (fun l i wr => ∃ (r : Int) (k : Nat), l = .int .i64 r ∧ 0 ≤ r ∧ r ≤ left ∧ i = .int .i64 k ∧ k ≤ Ts.length ∧ Below w.heap.size w wr) (fun _ i _ => Ts.length - (intOf i).toNat)
      case atStart => exact ⟨_, 0, rfl, by omega, by omega, rfl, by omega, Below.refl _ _⟩
      case round =>
        obtain ⟨r, k, rfl, hr0, hr1, rfl, hk, hb⟩ := hrel
        by_cases hlt : k < Ts.length
        · obtain ⟨hsz, hcell⟩ := hc k hlt
          obtain ⟨c0, c1⟩ := hcell.below hb hbw
          go_wp2_with fail
          refine (szTeam_any _ _ _ _ hr0 (by omega) hsz.s0 hsz.s1).mono ?_
          rintro e w1 ⟨r1, rfl, hb1, q0, q1⟩
          have hB : Hid (Below w.heap.size w w1) := hb.trans (hb1.mono hb.size)
          clear hb1 c0 c1 hb
          go_wp2
          all_goals first
            | (go_roundw
               case rel => exact ⟨_, k + 1, rfl, by omega, by omega, by go_num, by omega, hB.out⟩
               case measure => simp [intOf]; omega)
            | (go_ret
               exact ⟨-1, rfl, hB.out, by omega, by omega, fun h => by omega⟩)
        · go_wp2
          go_ret
          exact ⟨r, rfl, hb, by omega, by omega, fun _ => hle⟩
    · go_enter Tryz.func24, Tryz.ntmps24
      go_wp2
      go_ret
      exact ⟨-1, rfl, Below.refl _ _, by omega, by omega, fun h => by omega⟩

set_option maxHeartbeats 1000000 in
theorem toTeam_any (k f : ByteArray) (w : World) :
    Calls Tryz.prog 98 #[.agg #[.string k, .string f]] w
      fun e w' => e = .returned (.agg #[.string k, .string f]) ∧ Below w.heap.size w w' := by
  go_enter Tryz.func98, Tryz.ntmps98
  go_wp2
  refine bodyPost_ret (v := .agg #[.string k, .string f]) (by simp [results, Tryz.results98, go_sem]) rfl ⟨rfl, ?_⟩
  repeat (refine Below.setCell ?_ (by simp only []; omega) _)
  exact (((Below.refl _ _).alloc (Nat.le_refl _) _).alloc (by simp) _).alloc (by simp; omega) _

set_option maxHeartbeats 1000000 in
theorem eqTeam_same (k f : ByteArray) (w : World) :
    Calls Tryz.prog 109 #[.agg #[.string k, .string f], .agg #[.string k, .string f]] w
      fun e w' => e = .returned (.bool true) ∧ Below w.heap.size w w' := by
  go_enter Tryz.func109, Tryz.ntmps109
  go_wp2
  go_ret
  exact ⟨rfl, ((Below.refl _ _).alloc (Nat.le_refl _) _).alloc (by simp) _⟩

set_option maxHeartbeats 1000000 in
theorem eqTms_same (lo lo' : Nat) (v v' : Value) (Ts : List Tm) (w : World) (hv : TmsAt lo w v Ts) (hv' : TmsAt lo' w v' Ts) :
    Calls Tryz.prog 38 #[v, v'] w fun e w' => e = .returned (.bool true) ∧ Below w.heap.size w w' := by
  by_cases hL : Ts = []
  · subst hL
    obtain ⟨a, cap, rfl⟩ := hv.form
    obtain ⟨a', cap', rfl⟩ := hv'.form
    clear hv hv'
    go_enter Tryz.func38, Tryz.ntmps38
    go_wp2
    go_loop [5] (fun i => i = .int .i64 0) (fun _ => 0)
    case atStart => rfl
    case round =>
      subst hrel
      go_wp2
      go_ret
      exact ⟨rfl, Below.refl _ _⟩
  · obtain ⟨b, off, cap, rfl, hm, hbw, _, hc⟩ := hv.full hL
    obtain ⟨b', off', cap', rfl, _, hbw', _, hc'⟩ := hv'.full hL
    clear hv hv'
    unfold maxLen at hm
    go_enter Tryz.func38, Tryz.ntmps38
    go_wp2
    go_loopw [5] (fun i wr => ∃ k : Nat, i = .int .i64 k ∧ k ≤ Ts.length ∧ Below w.heap.size w wr) (fun i _ => Ts.length - (intOf i).toNat)
    case atStart => exact ⟨0, rfl, by omega, Below.refl _ _⟩
    case round =>
      obtain ⟨k, rfl, hk, hb⟩ := hrel
      by_cases hlt : k < Ts.length
      · obtain ⟨_, hcell⟩ := hc k hlt
        obtain ⟨_, hcell'⟩ := hc' k hlt
        obtain ⟨c0, c1⟩ := hcell.below hb hbw
        obtain ⟨d0, d1⟩ := hcell'.below hb hbw'
        clear hcell hcell'
        have HB := hide hb
        clear hb
        go_wp2
        go_region_with (go_at_call 109; refine (eqTeam_same _ _ _).mono ?_; rintro e w1 ⟨rfl, hb1⟩; have hB : Hid (Below w.heap.size w w1) := (HB.out.drew).trans (hb1.mono HB.out.size); clear hb1)
        all_goals go_wp2
        all_goals go_roundw
        all_goals first
          | (case rel => exact ⟨k + 1, by go_num, by omega, hB.out⟩)
          | (case measure => simp [intOf]; omega)
      · go_wp2
        go_ret
        exact ⟨rfl, hb⟩

theorem Tryz.info138 : (Tryz.prog.info? 138).map (fun i => (i.zero, i.size, i.bytes)) = some (some (.agg #[.string ⟨#[]⟩, .string ⟨#[]⟩]), 2, 32) := by kernel_rfl
def TmsFill (wr : World) (B : Nat) (Ts : List Tm) (k : Nat) : Prop :=
  ∃ f, wr.rowIs B 138 (Ts.length * 2) f ∧ ∀ i (h : i < Ts.length), i < k → TmSize Ts[i] ∧ f (i * 2) = .string Ts[i].nm ∧ f (i * 2 + 1) = .string Ts[i].ov
theorem TmsFill.below {wr w1 : World} {B : Nat} {Ts : List Tm} {k : Nat} (h : TmsFill wr B Ts k) (hb : Below wr.heap.size wr w1) : TmsFill w1 B Ts k := by
  obtain ⟨f, hr, hall⟩ := h
  exact ⟨f, hr.of_block (hb.block B hr.lt), hall⟩
theorem TmsFill.free {wr : World} {B : Nat} {Ts : List Tm} {k : Nat} (h : TmsFill wr B Ts k) (i : Nat) : wr.frozen? ⟨B, i, none⟩ = false := by
  obtain ⟨f, hr, _⟩ := h
  exact hr.frozen i
theorem TmsFill.there {wr : World} {B : Nat} {Ts : List Tm} {k : Nat} (h : TmsFill wr B Ts k) (i : Nat) (hi : i < Ts.length * 2) : ∃ v, wr.cell? ⟨B, i, none⟩ = some v := by
  obtain ⟨f, hr, _⟩ := h
  exact ⟨_, hr.cell hi⟩
theorem TmsFill.lt {wr : World} {B : Nat} {Ts : List Tm} {k : Nat} (h : TmsFill wr B Ts k) : B < wr.heap.size := by
  obtain ⟨f, hr, _⟩ := h
  exact hr.lt
theorem TmsFill.step {w1 : World} {B : Nat} {Ts : List Tm} {k : Nat} (h : TmsFill w1 B Ts k) (hk : k < Ts.length) (hz : TmSize Ts[k]) :
    TmsFill ((w1.setCell ⟨B, k * 2, none⟩ (.string Ts[k].nm)).setCell ⟨B, k * 2 + 1, none⟩ (.string Ts[k].ov)) B Ts (k + 1) := by
  obtain ⟨f, hr, hall⟩ := h
  refine ⟨_, ((hr.set _ _).set _ _), fun i hi hik => ?_⟩
  by_cases e : i = k
  · subst e
    exact ⟨hz, by simp, by simp⟩
  · obtain ⟨hz', h0, h1⟩ := hall i hi (by omega)
    refine ⟨hz', ?_, ?_⟩
    · rw [if_neg (by omega), if_neg (by omega)]; exact h0
    · rw [if_neg (by omega), if_neg (by omega)]; exact h1
theorem TmsFill.done {wr : World} {B : Nat} {Ts : List Tm} {k : Nat} (h : TmsFill wr B Ts k) (hk : Ts.length ≤ k) (hne : Ts ≠ []) (hm : Ts.length ≤ maxLen) : TmsAt B wr (.slice (some ⟨B, 0, none⟩) Ts.length Ts.length) Ts := by
  obtain ⟨f, hr, hall⟩ := h
  refine Or.inr ⟨B, 0, Ts.length, rfl, hne, hm, hr.lt, Nat.le_refl _, Nat.le_refl _, fun i hi => ?_⟩
  obtain ⟨hz, h0, h1⟩ := hall i hi (by omega)
  rw [Nat.zero_add]
  exact ⟨hz, by rw [hr.cell (by omega), h0], by rw [hr.cell (by omega), h1]⟩
theorem TmsFill.new (w : World) (Ts : List Tm) (z : Array Value) : TmsFill (w.alloc (.cells (madeCells z (Ts.length * 2)) 138)) w.heap.size Ts 0 := by
  refine ⟨fun i => (madeCells z (Ts.length * 2)).getD i default, ?_, fun i _ h => by omega⟩
  have := World.rowIs_alloc w (madeCells z (Ts.length * 2)) 138 (fun i => (madeCells z (Ts.length * 2)).getD i default) (fun i hi => by simp [Array.getD, hi])
  rwa [size_madeCells] at this

set_option maxHeartbeats 1000000 in
theorem toTms_any (lo : Nat) (v : Value) (Ts : List Tm) (w : World) (hv : TmsAt lo w v Ts) (hn : Ts.length ≤ 1048576) :
    Calls Tryz.prog 30 #[v] w fun e w' => ∃ v', e = .returned v' ∧ Below w.heap.size w w' ∧ TmsAt w.heap.size w' v' Ts := by
  obtain ⟨i0, hi, hz0, hz1, hz2⟩ := info_parts Tryz.info138
  by_cases hL : Ts = []
  · subst hL
    obtain ⟨a, cap, rfl⟩ := hv.form
    clear hv
    have hmk : ∀ u : World, (Instr.makeSlice 27 (.int .i64 0) (.int .i64 0)).run Tryz.prog u = .ok (.slice (some ⟨u.heap.size, 0, none⟩) 0 0) (u.alloc (.cells (madeCells (Value.cells (.agg #[.string ⟨#[]⟩, .string ⟨#[]⟩])) 0) 138)) := fun u => by
      have h := run_make (P := Tryz.prog) u 27 138 i0 _ Tryz.underlying27 hi hz0 .i64 .i64 0 0 (by omega) (by omega) (by omega) (by omega)
      simpa [hz1] using h
    go_enter Tryz.func30, Tryz.ntmps30
    go_wp2
    go_loop [4] (fun i => i = .int .i64 0) (fun _ => 0)
    case atStart => rfl
    case round =>
      subst hrel
      go_wp2
      go_ret
      exact ⟨_, rfl, (Below.refl _ _).alloc (Nat.le_refl _) _, Or.inl ⟨_, _, rfl, rfl⟩⟩
  · obtain ⟨b, off, cap, rfl, hm, hbw, _, hc⟩ := hv.full hL
    clear hv
    have HM : Hid (Ts.length ≤ maxLen) := hm
    unfold maxLen at hm
    have hmk : ∀ u : World, (Instr.makeSlice 27 (.int .i64 (Ts.length : Int)) (.int .i64 (Ts.length : Int))).run Tryz.prog u = .ok (.slice (some ⟨u.heap.size, 0, none⟩) Ts.length Ts.length) (u.alloc (.cells (madeCells (Value.cells (.agg #[.string ⟨#[]⟩, .string ⟨#[]⟩])) (Ts.length * 2)) 138)) := fun u => by
      have h := run_make (P := Tryz.prog) u 27 138 i0 _ Tryz.underlying27 hi hz0 .i64 .i64 Ts.length Ts.length (by omega) (by omega) (by rw [hz2]; omega) (by omega)
      rw [hz1] at h
      simpa using h
    clear hi hz0 hz1 hz2
    go_enter Tryz.func30, Tryz.ntmps30
    go_wp2
    clear hmk
    go_loopw [4] (fun i wr => ∃ k : Nat, i = .int .i64 k ∧ k ≤ Ts.length ∧ Below w.heap.size w wr ∧ TmsFill wr w.heap.size Ts k) (fun i _ => Ts.length - (intOf i).toNat)
    case atStart => exact ⟨0, rfl, by omega, (Below.refl _ _).alloc (Nat.le_refl _) _, TmsFill.new w Ts _⟩
    case round =>
      obtain ⟨k, rfl, hk, hb, hf⟩ := hrel
      by_cases hlt : k < Ts.length
      · obtain ⟨hsz, hcell⟩ := hc k hlt
        obtain ⟨c0, c1⟩ := hcell.below hb hbw
        clear hcell
        go_wp2_with fail
        refine (toTeam_any _ _ _).mono ?_
        rintro e w1 ⟨rfl, hb1⟩
        have hf1 := hf.below hb1
        have HST := hide (hf1.step hlt hsz)
        have hB : Hid (Below w.heap.size w w1) := hb.trans (hb1.mono hb.size)
        have hfr := hf1.free
        obtain ⟨o0, ho0⟩ := hf1.there (k * 2) (by omega)
        obtain ⟨o1, ho1⟩ := hf1.there (k * 2 + 1) (by omega)
        clear hf hf1 hb1 hb c0 c1
        go_wp2
        go_roundw
        case rel =>
          exact ⟨k + 1, by go_num, by omega, (hB.out.setCell (Nat.le_refl _) _).setCell (Nat.le_refl _) _, HST.out⟩
        case measure => simp [intOf]; omega
      · go_wp2
        go_ret
        exact ⟨_, rfl, hb, hf.done (by omega) hL HM.out⟩
end Go.Proofs.YtdeammfdkaomlaaGreat
namespace Go.Proofs.YtdeammfdkaomlaaGreat

/-- A ROW: each differs from those ahead of it, is one of N, and what it reads is ahead of it. -/
def Good {α : Type} (N : List α) (rd : α → List α) (R : List α) : Prop := ∀ i (h : i < R.length), R[i] ∈ N ∧ R[i] ∉ R.take i ∧ ∀ r ∈ rd R[i], r ∈ R.take i
/-- none of N can be put behind the row -/
def Stuck {α : Type} (N : List α) (rd : α → List α) (row : List α) : Prop := ∀ x ∈ N, x ∉ row → ¬ ∀ r ∈ rd x, r ∈ row

section
variable {α : Type} {N : List α} {rd : α → List α} {R R' : List α}
theorem Good.nil : Good N rd [] := fun i h => absurd h (Nat.not_lt_zero i)
theorem Good.snoc {x : α} (hg : Good N rd R) (hn : x ∈ N) (hx : x ∉ R) (hr : ∀ r ∈ rd x, r ∈ R) : Good N rd (R ++ [x]) := by
  intro i h
  have h' : i < R.length + 1 := by rw [List.length_append] at h; exact h
  by_cases hi : i < R.length
  · rw [List.getElem_append_left hi, List.take_append_of_le_length (Nat.le_of_lt hi)]
    exact hg i hi
  · have e : i = R.length := by omega
    subst e
    have e1 : (R ++ [x])[R.length] = x := by simp
    have e2 : (R ++ [x]).take R.length = R := by simp
    rw [e1, e2]
    exact ⟨hn, hx, hr⟩
theorem Good.init {x : α} (h : Good N rd (R ++ [x])) : Good N rd R ∧ x ∈ N ∧ x ∉ R ∧ ∀ r ∈ rd x, r ∈ R := by
  constructor
  · intro i hi
    have := h i (by rw [List.length_append]; omega)
    rw [List.getElem_append_left hi, List.take_append_of_le_length (Nat.le_of_lt hi)] at this
    exact this
  · have := h R.length (by simp)
    have e1 : (R ++ [x])[R.length] = x := by simp
    have e2 : (R ++ [x]).take R.length = R := by simp
    rw [e1, e2] at this
    exact this
/-- from the beginning to the end -/
theorem Good.along {p : List α → Prop} (h0 : p []) (hs : ∀ row x, Good N rd row → x ∈ N → x ∉ row → (∀ r ∈ rd x, r ∈ row) → p row → p (row ++ [x])) : ∀ (n : Nat) (R : List α), R.length = n → Good N rd R → p R := by
  intro n
  induction n with
  | zero => intro R hl _; rw [List.length_eq_zero_iff.1 hl]; exact h0
  | succ n ih =>
    intro R hl hg
    have hne : R ≠ [] := by intro e; rw [e] at hl; cases hl
    have e : R.dropLast ++ [R.getLast hne] = R := List.dropLast_concat_getLast hne
    rw [← e] at hg ⊢
    obtain ⟨h1, h2, h3, h4⟩ := hg.init
    exact hs _ _ h1 h2 h3 h4 (ih _ (by rw [List.length_dropLast, hl]; rfl) h1)
theorem Good.nodup (h : Good N rd R) : R.Nodup := by
  refine Good.along (p := fun R => R.Nodup) List.nodup_nil (fun row x _ _ hx _ ih => ?_) _ R rfl h
  rw [List.nodup_append]
  exact ⟨ih, by simp, fun a ha b hb => by simp at hb; subst hb; exact fun e => hx (e ▸ ha)⟩
theorem Good.sub (h : Good N rd R) : R ⊆ N := by
  intro y hy
  obtain ⟨i, hi, rfl⟩ := List.getElem_of_mem hy
  exact (h i hi).1
theorem Good.into (h : Good N rd R) (hs : Stuck N rd R') : R ⊆ R' := by
  refine Good.along (p := fun R => R ⊆ R') (List.nil_subset _) (fun row x _ hn _ hr ih => ?_) _ R rfl h
  intro z hz
  rcases List.mem_append.1 hz with h | h
  · exact ih h
  · simp at h; subst h
    exact Classical.byContradiction fun hc => hs z hn hc fun r hrr => ih (hr r hrr)
theorem Good.all (h : Good N rd R) (hl : N.length ≤ R.length) : ∀ x ∈ N, x ∈ R := by
  intro x hx
  refine Classical.byContradiction fun hc => ?_
  have : (x :: R).length ≤ N.length := List.Nodup.length_le_of_subset (List.nodup_cons.2 ⟨hc, h.nodup⟩) (List.cons_subset.2 ⟨hx, h.sub⟩)
  simp at this; omega
end

/-- one more, the first that can be put -/
def stepG {α : Type} [DecidableEq α] (N : List α) (rd : α → List α) (R : List α) : List α :=
  match N.find? fun x => decide (x ∉ R) && (rd x).all fun r => decide (r ∈ R) with
  | some x => R ++ [x]
  | none => R
def greedy {α : Type} [DecidableEq α] (N : List α) (rd : α → List α) : Nat → List α
  | 0 => []
  | n + 1 => stepG N rd (greedy N rd n)
/-- there is a row of all -/
def rowB {α : Type} [DecidableEq α] (N : List α) (rd : α → List α) : Bool := decide (N.length ≤ (greedy N rd N.length).length)
section
variable {α : Type} [DecidableEq α] {N : List α} {rd : α → List α} {R : List α}
theorem greedy_good (n : Nat) : Good N rd (greedy N rd n) ∧ ((greedy N rd n).length = n ∨ Stuck N rd (greedy N rd n)) := by
  induction n with
  | zero => exact ⟨Good.nil, Or.inl rfl⟩
  | succ n ih =>
    obtain ⟨hg, hc⟩ := ih
    show Good N rd (stepG N rd (greedy N rd n)) ∧ ((stepG N rd (greedy N rd n)).length = n + 1 ∨ Stuck N rd (stepG N rd (greedy N rd n)))
    generalize greedy N rd n = R at *
    unfold stepG
    cases hf : N.find? fun x => decide (x ∉ R) && (rd x).all fun r => decide (r ∈ R) with
    | none =>
      refine ⟨hg, Or.inr fun x hx hn hr => ?_⟩
      have := List.find?_eq_none.1 hf x hx
      exact this (by simp only [Bool.and_eq_true, decide_eq_true_eq, List.all_eq_true]; exact ⟨hn, hr⟩)
    | some x =>
      have hp := List.find?_some hf
      simp only [Bool.and_eq_true, decide_eq_true_eq, List.all_eq_true] at hp
      have hx := List.mem_of_find?_eq_some hf
      refine ⟨hg.snoc hx hp.1 hp.2, ?_⟩
      rcases hc with hc | hc
      · exact Or.inl (by simp [hc])
      · exact absurd hp.2 (hc x hx hp.1)
theorem rowB_yes (h : Good N rd R) (hl : N.length ≤ R.length) : rowB N rd = true := by
  unfold rowB
  refine decide_eq_true ?_
  rcases (greedy_good (N := N) (rd := rd) N.length).2 with hc | hc
  · omega
  · have := List.Nodup.length_le_of_subset h.nodup (h.into hc)
    omega
theorem rowB_no (hs : Stuck N rd R) (hl : R.length < N.length) : rowB N rd = false := by
  unfold rowB
  refine decide_eq_false ?_
  have hg := (greedy_good (N := N) (rd := rd) N.length).1
  have := List.Nodup.length_le_of_subset hg.nodup (hg.into hs)
  omega
end

section
variable {α β : Type} (pl : α → Nat) (dec : List β → α → Option β)
/-- what mending V comes to -/
structure Fix (N : List α) (V F : List β) : Prop where
  len : F.length = V.length
  at' : ∀ x ∈ N, F[pl x]? = (dec F x).or V[pl x]?
  off : ∀ i, (∀ x ∈ N, pl x ≠ i) → F[i]? = V[i]?

variable {pl dec} {N : List α} {rd : α → List α}
end
end Go.Proofs.YtdeammfdkaomlaaGreat
namespace Go.Proofs.YtdeammfdkaomlaaGreat
open Go.RowKit Go.Deep

theorem bytes_eq {x y : ByteArray} : (x.toList == y.toList) = true ↔ x = y := by
  rw [beq_iff_eq]
  refine ⟨fun h => ?_, fun h => by rw [h]⟩
  rw [ByteArray.toList_eq, ByteArray.toList_eq] at h
  exact ByteArray.ext (Array.toList_inj.1 h)
theorem bytes_refl (x : ByteArray) : (x.toList == x.toList) = true := bytes_eq.2 rfl
/-- a mend -/
structure Md where
  kind : ByteArray
  field : ByteArray
  wh : ByteArray
  is : ByteArray
  put : ByteArray
  fr : ByteArray

/-- the names of fields -/
def namesF (Fs : List Fd) : List ByteArray := Fs.map Fd.nm
/-- the place of a field by its name; behind the last where there is none -/
def plOf (Fs : List Fd) (s : ByteArray) : Nat := Fs.findIdx fun f => f.nm.toList == s.toList
/-- the name of a field that is no link -/
def plainB (Fs : List Fd) (s : ByteArray) : Bool := match Fs[plOf Fs s]? with
  | some f => !(f.kd == 4)
  | none => false
/-- what is put fits the field -/
def fitF (Fs : List Fd) (s t : ByteArray) : Bool := match Fs[plOf Fs s]? with
  | some f => fitsB f.kd f.le f.mo f.words t
  | none => false
def formB (m : Md) : Bool := !(m.wh.toList.isEmpty && !m.is.toList.isEmpty) && !(m.put.toList.isEmpty == m.fr.toList.isEmpty)
/-- as the specification asks it -/
def mendS (Fs : List Fd) (m : Md) : Bool :=
  plainB Fs m.field && (m.wh.toList.isEmpty || plainB Fs m.wh) && (m.fr.toList.isEmpty || plainB Fs m.fr) && !(m.wh.toList == m.field.toList) && !(m.fr.toList == m.field.toList) && formB m && (m.put.toList.isEmpty || fitF Fs m.field m.put)
/-- what a mend reads -/
def rdOf (m : Md) : List ByteArray := (if m.wh.toList.isEmpty = true then [] else [m.wh]) ++ (if m.fr.toList.isEmpty = true then [] else [m.fr])
def forB (kind field : ByteArray) (m : Md) : Bool := (m.kind.toList == kind.toList) && (m.field.toList == field.toList)
/-- what the mends of a field read -/
def readsOf (kind : ByteArray) (Ms : List Md) (field : ByteArray) : List ByteArray := (Ms.filter (forB kind field)).flatMap rdOf
/-- a mend applies -/
def valAt (Fs : List Fd) (V : List ByteArray) (s : ByteArray) : ByteArray := (V[plOf Fs s]?).getD ⟨#[]⟩
def appB (Fs : List Fd) (V : List ByteArray) (m : Md) : Bool := (m.wh.toList.isEmpty || (valAt Fs V m.wh).toList == m.is.toList) && (m.fr.toList.isEmpty || !(valAt Fs V m.fr).toList.isEmpty)
def givenV (Fs : List Fd) (V : List ByteArray) (m : Md) : ByteArray := if m.fr.toList.isEmpty = true then m.put else valAt Fs V m.fr
/-- what the first mend of a field that applies gives it -/
def decM (Fs : List Fd) (kind : ByteArray) (Ms : List Md) (V : List ByteArray) (field : ByteArray) : Option ByteArray := (Ms.find? fun m => forB kind field m && appB Fs V m).map (givenV Fs V)

/-- MENDS ARE OK -/
def mendB (Ss : List Sh) (m : Md) : Bool := match shOf Ss m.kind with
  | some x => mendS x.fields m
  | none => false
def shapeRowB (Ms : List Md) (x : Sh) : Bool := rowB (namesF x.fields) (readsOf x.kind Ms)
def mendsB (Ss : List Sh) (Ms : List Md) : Bool := shapesB Ss && decide (Ms.length ≤ 12) && Ms.all (mendB Ss) && Ss.all (shapeRowB Ms)

/-- WHAT MENDING AN OBJECT'S VALUES COMES TO -/
def FixM (x : Sh) (Ms : List Md) (V F : List ByteArray) : Prop := Fix (plOf x.fields) (decM x.fields x.kind Ms) (namesF x.fields) V F
def MendTo (Ss : List Sh) (Ms : List Md) (kind : ByteArray) (V F : List ByteArray) : Prop :=
  (∃ x, mendsB Ss Ms = true ∧ shOf Ss kind = some x ∧ x.fields.length = V.length ∧ FixM x Ms V F) ∨
  ((mendsB Ss Ms = false ∨ ∀ x, shOf Ss kind = some x → x.fields.length ≠ V.length) ∧ F = V)
end Go.Proofs.YtdeammfdkaomlaaGreat
namespace Go.Proofs.YtdeammfdkaomlaaGreat
open Go.RowKit Go.Deep

end Go.Proofs.YtdeammfdkaomlaaGreat
namespace Go.Proofs.YtdeammfdkaomlaaGreat
open Go.RowKit Go.Deep

/-- THE SIX CELLS OF A MEND, from place o of block b on. -/
structure MdCells (w : World) (b o : Nat) (m : Md) : Prop where
  c0 : w.cell? ⟨b, o, none⟩ = some (.string m.kind)
  c1 : w.cell? ⟨b, o + 1, none⟩ = some (.string m.field)
  c2 : w.cell? ⟨b, o + 2, none⟩ = some (.string m.wh)
  c3 : w.cell? ⟨b, o + 3, none⟩ = some (.string m.is)
  c4 : w.cell? ⟨b, o + 4, none⟩ = some (.string m.put)
  c5 : w.cell? ⟨b, o + 5, none⟩ = some (.string m.fr)
structure MdSize (m : Md) : Prop where
  s0 : m.kind.size ≤ maxLen
  s1 : m.field.size ≤ maxLen
  s2 : m.wh.size ≤ maxLen
  s3 : m.is.size ≤ maxLen
  s4 : m.put.size ≤ maxLen
  s5 : m.fr.size ≤ maxLen
theorem MdCells.below {w w' : World} {b o : Nat} {m : Md} (h : MdCells w b o m) (hb : Below w.heap.size w w') (hlt : b < w.heap.size) : MdCells w' b o m := by
  have e : ∀ o, w'.cell? ⟨b, o, none⟩ = w.cell? ⟨b, o, none⟩ := fun o => hb.cell (p := ⟨b, o, none⟩) hlt
  exact ⟨by rw [e]; exact h.c0, by rw [e]; exact h.c1, by rw [e]; exact h.c2, by rw [e]; exact h.c3, by rw [e]; exact h.c4, by rw [e]; exact h.c5⟩
/-- A []GateMend THAT HOLDS Ms; its cells lie from block lo on. -/
def MdsAt (lo : Nat) (w : World) (v : Value) (Ms : List Md) : Prop :=
  (∃ (a : Option Addr) (cap : Nat), v = .slice a 0 cap ∧ Ms = []) ∨
  ∃ (b off cap : Nat), v = .slice (some ⟨b, off, none⟩) Ms.length cap ∧ Ms ≠ [] ∧ Ms.length ≤ maxLen ∧ b < w.heap.size ∧ lo ≤ b ∧ Ms.length ≤ cap ∧
    ∀ i (h : i < Ms.length), MdSize Ms[i] ∧ MdCells w b (off + i * 6) Ms[i]
theorem MdsAt.below {lo : Nat} {w w' : World} {v : Value} {Ms : List Md} (h : MdsAt lo w v Ms) (hb : Below w.heap.size w w') : MdsAt lo w' v Ms := by
  rcases h with h | ⟨b, off, cap, h1, h2, h3, h4, h5, h6, h7⟩
  · exact Or.inl h
  · refine Or.inr ⟨b, off, cap, h1, h2, h3, Nat.lt_of_lt_of_le h4 hb.size, h5, h6, fun i hi => ?_⟩
    obtain ⟨hs, hc⟩ := h7 i hi
    exact ⟨hs, hc.below hb h4⟩
theorem MdsAt.mono {lo lo' : Nat} {w : World} {v : Value} {Ms : List Md} (h : MdsAt lo w v Ms) (hl : lo' ≤ lo) : MdsAt lo' w v Ms := by
  rcases h with h | ⟨b, off, cap, h1, h2, h3, h4, h5, h6, h7⟩
  · exact Or.inl h
  · exact Or.inr ⟨b, off, cap, h1, h2, h3, h4, Nat.le_trans hl h5, h6, h7⟩
theorem MdsAt.form {lo : Nat} {w : World} {v : Value} {Ms : List Md} (h : MdsAt lo w v Ms) : ∃ a cap, v = .slice a Ms.length cap := by
  rcases h with ⟨a, cap, h, rfl⟩ | ⟨b, off, cap, h, _⟩
  · exact ⟨a, cap, h⟩
  · exact ⟨_, cap, h⟩
theorem MdsAt.full {lo : Nat} {w : World} {v : Value} {Ms : List Md} (h : MdsAt lo w v Ms) (hne : Ms ≠ []) : ∃ (b off cap : Nat), v = .slice (some ⟨b, off, none⟩) Ms.length cap ∧ Ms.length ≤ maxLen ∧ b < w.heap.size ∧ Ms.length ≤ cap ∧
    ∀ i (h : i < Ms.length), MdSize Ms[i] ∧ MdCells w b (off + i * 6) Ms[i] := by
  rcases h with ⟨_, _, _, h⟩ | ⟨b, off, cap, h1, _, h3, h4, _, h6, h7⟩
  · exact absurd h hne
  · exact ⟨b, off, cap, h1, h3, h4, h6, h7⟩
theorem MdsAt.full' {lo : Nat} {w : World} {a : Option Addr} {n cap : Nat} {Ms : List Md} (h : MdsAt lo w (.slice a n cap) Ms) (hL : 0 < Ms.length) :
    ∃ b off, a = some ⟨b, off, none⟩ ∧ b < w.heap.size ∧ ∀ i (h : i < Ms.length), MdSize Ms[i] ∧ MdCells w b (off + i * 6) Ms[i] := by
  rcases h with ⟨a', cap', h, rfl⟩ | ⟨b', off', cap', h1, h2, h3, h4, h5, h6, h7⟩
  · simp at hL
  · injection h1 with e1 e2 e3
    exact ⟨b', off', e1, h4, h7⟩

abbrev Md.agg (m : Md) : Value := .agg #[.string m.kind, .string m.field, .string m.wh, .string m.is, .string m.put, .string m.fr]

end Go.Proofs.YtdeammfdkaomlaaGreat

namespace Go.Proofs.YtdeammfdkaomlaaGreat
open Go.RowKit Go.Deep

end Go.Proofs.YtdeammfdkaomlaaGreat

namespace Go.Proofs.YtdeammfdkaomlaaGreat
open Go.RowKit Go.Deep

end Go.Proofs.YtdeammfdkaomlaaGreat

namespace Go.Proofs.YtdeammfdkaomlaaGreat
open Go.RowKit Go.Deep

/-- A []string THAT THE CALL MADE ITSELF: its block lies from base on, with room behind. -/
structure OwnS (base : Nat) (W : World) (v : Value) (R : List ByteArray) : Prop where
  row : W.ownsRow base 9 1 v R.length (R.map Value.string)
  sz : ∀ s ∈ R, s.size ≤ maxLen
theorem OwnS.form {base : Nat} {W : World} {v : Value} {R : List ByteArray} (h : OwnS base W v R) : ∃ a cap, v = .slice a R.length cap := by
  rcases h.row.2 with ⟨hv, hn⟩ | ⟨g, cap, cur, hv, _⟩
  · rw [hn]; exact ⟨_, _, hv⟩
  · exact ⟨_, _, hv⟩
theorem OwnS.below {base : Nat} {W W' : World} {v : Value} {R : List ByteArray} (h : OwnS base W v R) (hb : Below W.heap.size W W') : OwnS base W' v R := by
  refine ⟨⟨h.row.1, ?_⟩, h.sz⟩
  rcases h.row.2 with hv | ⟨g, cap, cur, hv, h1, h2, h3⟩
  · exact Or.inl hv
  · have hg : g < W.heap.size := by
      rcases Nat.lt_or_ge g W.heap.size with h | h
      · exact h
      · rw [Array.getElem?_eq_none h] at h2; cases h2
    exact Or.inr ⟨g, cap, cur, hv, h1, by rw [hb.block g hg]; exact h2, h3⟩
theorem OwnS.mono {base base' : Nat} {W : World} {v : Value} {R : List ByteArray} (h : OwnS base W v R) (hb : base' ≤ base) : OwnS base' W v R := by
  refine ⟨⟨h.row.1, ?_⟩, h.sz⟩
  rcases h.row.2 with hv | ⟨g, cap, cur, hv, h1, h2⟩
  · exact Or.inl hv
  · exact Or.inr ⟨g, cap, cur, hv, Nat.le_trans hb h1, h2⟩
theorem OwnS.nil (base : Nat) (W : World) : OwnS base W (.slice none 0 0) [] := ⟨World.ownsRow_nil _ _ _ _, fun s h => by simp at h⟩
theorem OwnS.grown {base : Nat} {W w' : World} {v : Value} {R : List ByteArray} (h : OwnS base W v R) (hg : W.grownBy w' v.ownBlock) (hb : base ≤ W.heap.size) : Below base W w' := by
  refine ⟨hg.os, hg.tape, hg.output, hg.size, fun k hk => hg.block k (by omega) ?_⟩
  rcases h.row.2 with ⟨hv, _⟩ | ⟨g, cap, cur, hv, h1, _⟩
  · rw [hv]; intro e; cases e
  · rw [hv]; intro e
    have : k = g := by simpa [Value.ownBlock] using e
    omega
theorem OwnS.snoc {base : Nat} {W w' : World} {v v' : Value} {R : List ByteArray} {s : ByteArray} (h : OwnS base W v R) (hown : w'.ownsRow base 9 1 v' (R.length + 1) (R.map Value.string ++ [.string s])) (hs : s.size ≤ maxLen) : OwnS base w' v' (R ++ [s]) := by
  refine ⟨by rw [List.length_append, List.map_append]; exact hown, fun t ht => ?_⟩
  rcases List.mem_append.1 ht with h1 | h1
  · exact h.sz t h1
  · rw [List.mem_singleton.1 h1]; exact hs
theorem names_len (Fs : List Fd) : (namesF Fs).length = Fs.length := by simp [namesF]
theorem good_len {Fs : List Fd} {rd : ByteArray → List ByteArray} {R : List ByteArray} (h : Good (namesF Fs) rd R) : R.length ≤ Fs.length := by
  have := List.Nodup.length_le_of_subset h.nodup h.sub
  rwa [names_len] at this

/-- WHAT l3Row GIVES -/
def RowOf (x : Sh) (Ms : List Md) (R : List ByteArray) : Prop :=
  Good (namesF x.fields) (readsOf x.kind Ms) R ∧ R.length ≤ x.fields.length ∧ (R.length = x.fields.length ↔ shapeRowB Ms x = true)
theorem RowOf.mk' {x : Sh} {Ms : List Md} {R : List ByteArray} {n : Nat} (hg : Good (namesF x.fields) (readsOf x.kind Ms) R) (hn : x.fields.length ≤ n) (h : R.length = n ∨ Stuck (namesF x.fields) (readsOf x.kind Ms) R) : RowOf x Ms R := by
  have hl := good_len hg
  refine ⟨hg, hl, fun e => rowB_yes hg (by rw [names_len]; omega), fun hb => ?_⟩
  rcases h with h | h
  · omega
  · rcases Nat.lt_or_ge R.length x.fields.length with hlt | hge
    · unfold shapeRowB at hb
      rw [rowB_no h (by rw [names_len]; exact hlt)] at hb; cases hb
    · omega
end Go.Proofs.YtdeammfdkaomlaaGreat
namespace Go.Proofs.YtdeammfdkaomlaaGreat
open Go.RowKit Go.Deep

theorem MdsAt.setCell {lo : Nat} {w : World} {v : Value} {Ms : List Md} (h : MdsAt lo w v Ms) {p : Addr} (hp : p.block < lo) (u : Value) : MdsAt lo (w.setCell p u) v Ms := by
  rcases h with h | ⟨b, off, cap, h1, h2, h3, h4, h5, h6, h7⟩
  · exact Or.inl h
  · refine Or.inr ⟨b, off, cap, h1, h2, h3, by simpa [World.setCell] using h4, h5, h6, fun i hi => ?_⟩
    obtain ⟨hs, hc⟩ := h7 i hi
    have e : ∀ o, (w.setCell p u).cell? ⟨b, o, none⟩ = w.cell? ⟨b, o, none⟩ := fun o => cell_setCell_ne _ _ _ _ (by show b ≠ p.block; omega)
    exact ⟨hs, by rw [e]; exact hc.c0, by rw [e]; exact hc.c1, by rw [e]; exact hc.c2, by rw [e]; exact hc.c3, by rw [e]; exact hc.c4, by rw [e]; exact hc.c5⟩

/-- A []GateMend OF n MENDS THAT MAY BE WRITTEN. -/
def MdsW (lo hi : Nat) (w : World) (v : Value) (n : Nat) : Prop :=
  (∃ (a : Option Addr) (cap : Nat), v = .slice a 0 cap ∧ n = 0) ∨
  ∃ (b off cap : Nat), v = .slice (some ⟨b, off, none⟩) n cap ∧ 0 < n ∧ n ≤ maxLen ∧ lo ≤ b ∧ b < hi ∧ b < w.heap.size ∧ (∀ i, i < n * 6 → (w.cell? ⟨b, off + i, none⟩).isSome = true) ∧ ∀ i, w.frozen? ⟨b, i, none⟩ = false
theorem MdsW.kept {lo hi lo' hi' : Nat} {w w' : World} {v : Value} {n : Nat} (h : MdsW lo hi w v n) (k : Kept lo' hi' w w') : MdsW lo hi w' v n := by
  rcases h with h | ⟨b, off, cap, h1, h2, h3, h4, h5, h6, h7, h8⟩
  · exact Or.inl h
  · exact Or.inr ⟨b, off, cap, h1, h2, h3, h4, h5, Nat.lt_of_lt_of_le h6 k.touch.size, fun i hi' => k.there _ h6 (h7 i hi'), fun i => (k.frz _ h6).trans (h8 i)⟩
theorem MdsW.below {lo hi : Nat} {w w' : World} {v : Value} {n : Nat} (h : MdsW lo hi w v n) (hb : Below w.heap.size w w') : MdsW lo hi w' v n := h.kept (Kept.below (lo := 0) (hi := 0) hb)
end Go.Proofs.YtdeammfdkaomlaaGreat
namespace Go.Proofs.YtdeammfdkaomlaaGreat
open Go.RowKit Go.Deep

def RiSize (x : Int) : Prop := x = x
def RisAt (lo : Nat) (w : World) (v : Value) (Xl : List Int) : Prop :=
  (∃ (a : Option Addr) (cap : Nat), v = .slice a 0 cap ∧ Xl = []) ∨
  ∃ (b off cap : Nat), v = .slice (some ⟨b, off, none⟩) Xl.length cap ∧ Xl ≠ [] ∧ Xl.length ≤ maxLen ∧ b < w.heap.size ∧ lo ≤ b ∧ Xl.length ≤ cap ∧
    ∀ i (h : i < Xl.length), RiSize Xl[i] ∧ w.cell? ⟨b, off + i, none⟩ = some (.int .i64 Xl[i])
theorem RisAt.below {lo : Nat} {w w' : World} {v : Value} {Xl : List Int} (h : RisAt lo w v Xl) (hb : Below w.heap.size w w') : RisAt lo w' v Xl := by
  rcases h with h | ⟨b, off, cap, h1, h2, h3, h4, h5, h6, h7⟩
  · exact Or.inl h
  · refine Or.inr ⟨b, off, cap, h1, h2, h3, Nat.lt_of_lt_of_le h4 hb.size, h5, h6, fun i hi => ⟨(h7 i hi).1, ?_⟩⟩
    rw [hb.cell (p := ⟨b, _, none⟩) h4]
    exact (h7 i hi).2
theorem RisAt.mono {lo lo' : Nat} {w : World} {v : Value} {Xl : List Int} (h : RisAt lo w v Xl) (hl : lo' ≤ lo) : RisAt lo' w v Xl := by
  rcases h with h | ⟨b, off, cap, h1, h2, h3, h4, h5, h6, h7⟩
  · exact Or.inl h
  · exact Or.inr ⟨b, off, cap, h1, h2, h3, h4, Nat.le_trans hl h5, h6, h7⟩
theorem RisAt.set {lo : Nat} {w : World} {v : Value} {Xl : List Int} (h : RisAt lo w v Xl) {p : Addr} (hp : p.block < lo) (u : Value) : RisAt lo (w.setCell p u) v Xl := by
  rcases h with h | ⟨b, off, cap, h1, h2, h3, h4, h5, h6, h7⟩
  · exact Or.inl h
  · refine Or.inr ⟨b, off, cap, h1, h2, h3, by simpa [World.setCell] using h4, h5, h6, fun i hi => ⟨(h7 i hi).1, ?_⟩⟩
    rw [cell_setCell_ne _ _ _ _ (by show b ≠ p.block; omega)]
    exact (h7 i hi).2
theorem RisAt.form {lo : Nat} {w : World} {v : Value} {Xl : List Int} (h : RisAt lo w v Xl) : ∃ a cap, v = .slice a Xl.length cap := by
  rcases h with ⟨a, cap, h, rfl⟩ | ⟨b, off, cap, h, _⟩
  · exact ⟨a, cap, h⟩
  · exact ⟨_, cap, h⟩
theorem RisAt.max {lo : Nat} {w : World} {v : Value} {Xl : List Int} (h : RisAt lo w v Xl) : Xl.length ≤ maxLen := by
  rcases h with ⟨a, cap, h, rfl⟩ | ⟨b, off, cap, h, _, h3, _⟩
  · exact Nat.zero_le _
  · exact h3
theorem RisAt.full {lo : Nat} {w : World} {v : Value} {Xl : List Int} (h : RisAt lo w v Xl) (hne : Xl ≠ []) : ∃ (b off cap : Nat), v = .slice (some ⟨b, off, none⟩) Xl.length cap ∧ Xl.length ≤ maxLen ∧ b < w.heap.size ∧ Xl.length ≤ cap ∧
    ∀ i (h : i < Xl.length), RiSize Xl[i] ∧ w.cell? ⟨b, off + i, none⟩ = some (.int .i64 Xl[i]) := by
  rcases h with ⟨_, _, _, h⟩ | ⟨b, off, cap, h1, _, h3, h4, _, h6, h7⟩
  · exact absurd h hne
  · exact ⟨b, off, cap, h1, h3, h4, h6, h7⟩
theorem RisAt.full' {lo : Nat} {w : World} {a : Option Addr} {n cap : Nat} {Xl : List Int} (h : RisAt lo w (.slice a n cap) Xl) (hL : 0 < Xl.length) :
    ∃ b off, a = some ⟨b, off, none⟩ ∧ b < w.heap.size ∧ lo ≤ b ∧ ∀ i (h : i < Xl.length), RiSize Xl[i] ∧ w.cell? ⟨b, off + i, none⟩ = some (.int .i64 Xl[i]) := by
  rcases h with ⟨a', cap', h, rfl⟩ | ⟨b', off', cap', h1, h2, h3, h4, h5, h6, h7⟩
  · simp at hL
  · injection h1 with e1 e2 e3
    exact ⟨b', off', e1, h4, h5, h7⟩
set_option maxHeartbeats 1000000 in
theorem eqRis_same (lo lo' : Nat) (v v' : Value) (Xl : List Int) (w : World) (hv : RisAt lo w v Xl) (hv' : RisAt lo' w v' Xl) :
    Calls Tryz.prog 75 #[v, v'] w fun e w' => e = .returned (.bool true) ∧ Below w.heap.size w w' := by
  by_cases hL : Xl = []
  · subst hL
    obtain ⟨a, cap, rfl⟩ := hv.form
    obtain ⟨a', cap', rfl⟩ := hv'.form
    clear hv hv'
    go_enter Tryz.func75, Tryz.ntmps75
    go_wp2
    go_loop [5] (fun i => i = .int .i64 0) (fun _ => 0)
    case atStart => rfl
    case round =>
      subst hrel
      go_wp2
      go_ret
      exact ⟨rfl, Below.refl _ _⟩
  · obtain ⟨b, off, cap, rfl, hm, hbw, _, hc⟩ := hv.full hL
    obtain ⟨b', off', cap', rfl, _, hbw', _, hc'⟩ := hv'.full hL
    clear hv hv'
    unfold maxLen at hm
    go_enter Tryz.func75, Tryz.ntmps75
    go_wp2
    go_loopw [5] (fun i wr => ∃ k : Nat, i = .int .i64 k ∧ k ≤ Xl.length ∧ Below w.heap.size w wr) (fun i _ => Xl.length - (intOf i).toNat)
    case atStart => exact ⟨0, rfl, by omega, Below.refl _ _⟩
    case round =>
      obtain ⟨k, rfl, hk, hb⟩ := hrel
      by_cases hlt : k < Xl.length
      · have c0 : wr.cell? ⟨b, off + k, none⟩ = some (.int .i64 Xl[k]) := by rw [hb.cell (p := ⟨b, _, none⟩) hbw]; exact (hc k hlt).2
        have d0 : wr.cell? ⟨b', off' + k, none⟩ = some (.int .i64 Xl[k]) := by rw [hb.cell (p := ⟨b', _, none⟩) hbw']; exact (hc' k hlt).2
        have HB := hide hb
        clear hb
        go_wp2
        try go_quiet (fail)
        try go_wp2
        go_roundw
        case rel => exact ⟨k + 1, by go_num, by omega, by first | exact HB.out | exact below_drewN HB.out _⟩
        case measure => simp [intOf]; omega
      · go_wp2
        go_ret
        exact ⟨rfl, hb⟩

def RisFill (wr : World) (B : Nat) (Xl : List Int) (k : Nat) : Prop := ∃ f, wr.rowIs B 3 Xl.length f ∧ ∀ i (h : i < Xl.length), i < k → RiSize Xl[i] ∧ f i = .int .i64 Xl[i]
theorem RisFill.there {wr : World} {B : Nat} {Xl : List Int} {k : Nat} (h : RisFill wr B Xl k) (i : Nat) (hi : i < Xl.length) : ∃ v, wr.cell? ⟨B, i, none⟩ = some v := by
  obtain ⟨f, hr, _⟩ := h
  exact ⟨_, hr.cell hi⟩
theorem RisFill.free {wr : World} {B : Nat} {Xl : List Int} {k : Nat} (h : RisFill wr B Xl k) (i : Nat) : wr.frozen? ⟨B, i, none⟩ = false := by
  obtain ⟨f, hr, _⟩ := h
  exact hr.frozen i

end Go.Proofs.YtdeammfdkaomlaaGreat
namespace Go.Proofs.YtdeammfdkaomlaaGreat
open Go.ChangeShapes Go.WideShapes Go.ChangeAt Go.RowKit Go.Deep
open Go.ChangeMaps (open_string shut_string)

theorem Tryz.own : ownKnob Tryz.prog.godebug = none := by kernel_rfl
theorem Tryz.laidOut : laidOutB Tryz.prog = true := by kernel_rfl
theorem Tryz.cells9 : Tryz.prog.cellsOf 9 = 1 := by kernel_rfl
theorem Tryz.cells3 : Tryz.prog.cellsOf 3 = 1 := by kernel_rfl

end Go.Proofs.YtdeammfdkaomlaaGreat

namespace Go.Proofs.YtdeammfdkaomlaaGreat
open Go.ChangeShapes Go.WideShapes Go.ChangeAt Go.RowKit Go.Deep

theorem choose_list {α : Type} {p : Nat → α → Prop} (n : Nat) : (∀ i, i < n → ∃ x, p i x) → ∃ L : List α, L.length = n ∧ ∀ i (h : i < L.length), p i L[i] := by
  induction n with
  | zero => intro _; exact ⟨[], rfl, fun i h => absurd h (by simp)⟩
  | succ n ih =>
    intro h
    obtain ⟨L, hl, hL⟩ := ih (fun i hi => h i (by omega))
    obtain ⟨x, hx⟩ := h n (by omega)
    refine ⟨L ++ [x], by simp [hl], fun i hi => ?_⟩
    by_cases e : i < L.length
    · rw [List.getElem_append_left e]; exact hL i e
    · have e2 : i = n := by simp at hi; omega
      subst e2
      have : (L ++ [x])[i] = x := by rw [List.getElem_append_right (by omega)]; simp [hl]
      rw [this]; exact hx

theorem list2 {l : List Value} (h : l.length = 2) : ∃ c0 c1, l = [c0, c1] := by
  match l, h with
  | [c0, c1], _ => exact ⟨c0, c1, rfl⟩


end Go.Proofs.YtdeammfdkaomlaaGreat

namespace Go.Proofs.YtdeammfdkaomlaaGreat
open Go.ChangeShapes Go.WideShapes Go.ChangeAt Go.RowKit Go.Deep


end Go.Proofs.YtdeammfdkaomlaaGreat

namespace Go.Proofs.YtdeammfdkaomlaaGreat
open Go.ChangeShapes Go.WideShapes Go.ChangeAt Go.RowKit Go.Deep

end Go.Proofs.YtdeammfdkaomlaaGreat
