import Derived.Test.YtoklnkojacdciaaG03
import Derived.Sort.Walk0
namespace Go.Proofs.Ytoklnkojacdciaa
open Go.RowKit Go.Deep

def RiSize (x : Int) : Prop := x = x
def RisAt (lo : Nat) (w : World) (v : Value) (Xl : List Int) : Prop :=
  (∃ (a : Option Addr) (cap : Nat), v = .slice a 0 cap ∧ Xl = []) ∨
  ∃ (b off cap : Nat), v = .slice (some ⟨b, off, none⟩) Xl.length cap ∧ Xl ≠ [] ∧ Xl.length ≤ maxLen ∧ b < w.heap.size ∧ lo ≤ b ∧ Xl.length ≤ cap ∧
    ∀ i (h : i < Xl.length), RiSize Xl[i] ∧ w.cell? ⟨b, off + i, none⟩ = some (.int .i64 Xl[i])
theorem RisAt.below {lo : Nat} {w w' : World} {v : Value} {Xl : List Int} (h : RisAt lo w v Xl) (hb : Below w.heap.size w w') : RisAt lo w' v Xl := by
  rcases h with h | ⟨b, off, cap, h1, h2, h3, h4, h5, h6, h7⟩
  · exact Or.inl h
  · refine Or.inr ⟨b, off, cap, h1, h2, h3, Nat.lt_of_lt_of_le h4 hb.size, h5, h6, fun i hi => ⟨(h7 i hi).1, ?_⟩⟩
    rw [hb.cell (p := ⟨b, _, none⟩) h4]
    exact (h7 i hi).2
theorem RisAt.mono {lo lo' : Nat} {w : World} {v : Value} {Xl : List Int} (h : RisAt lo w v Xl) (hl : lo' ≤ lo) : RisAt lo' w v Xl := by
  rcases h with h | ⟨b, off, cap, h1, h2, h3, h4, h5, h6, h7⟩
  · exact Or.inl h
  · exact Or.inr ⟨b, off, cap, h1, h2, h3, h4, Nat.le_trans hl h5, h6, h7⟩
theorem RisAt.set {lo : Nat} {w : World} {v : Value} {Xl : List Int} (h : RisAt lo w v Xl) {p : Addr} (hp : p.block < lo) (u : Value) : RisAt lo (w.setCell p u) v Xl := by
  rcases h with h | ⟨b, off, cap, h1, h2, h3, h4, h5, h6, h7⟩
  · exact Or.inl h
  · refine Or.inr ⟨b, off, cap, h1, h2, h3, by simpa [World.setCell] using h4, h5, h6, fun i hi => ⟨(h7 i hi).1, ?_⟩⟩
    rw [cell_setCell_ne _ _ _ _ (by show b ≠ p.block; omega)]
    exact (h7 i hi).2
theorem RisAt.form {lo : Nat} {w : World} {v : Value} {Xl : List Int} (h : RisAt lo w v Xl) : ∃ a cap, v = .slice a Xl.length cap := by
  rcases h with ⟨a, cap, h, rfl⟩ | ⟨b, off, cap, h, _⟩
  · exact ⟨a, cap, h⟩
  · exact ⟨_, cap, h⟩
theorem RisAt.max {lo : Nat} {w : World} {v : Value} {Xl : List Int} (h : RisAt lo w v Xl) : Xl.length ≤ maxLen := by
  rcases h with ⟨a, cap, h, rfl⟩ | ⟨b, off, cap, h, _, h3, _⟩
  · exact Nat.zero_le _
  · exact h3
theorem RisAt.full {lo : Nat} {w : World} {v : Value} {Xl : List Int} (h : RisAt lo w v Xl) (hne : Xl ≠ []) : ∃ (b off cap : Nat), v = .slice (some ⟨b, off, none⟩) Xl.length cap ∧ Xl.length ≤ maxLen ∧ b < w.heap.size ∧ Xl.length ≤ cap ∧
    ∀ i (h : i < Xl.length), RiSize Xl[i] ∧ w.cell? ⟨b, off + i, none⟩ = some (.int .i64 Xl[i]) := by
  rcases h with ⟨_, _, _, h⟩ | ⟨b, off, cap, h1, _, h3, h4, _, h6, h7⟩
  · exact absurd h hne
  · exact ⟨b, off, cap, h1, h3, h4, h6, h7⟩
theorem RisAt.full' {lo : Nat} {w : World} {a : Option Addr} {n cap : Nat} {Xl : List Int} (h : RisAt lo w (.slice a n cap) Xl) (hL : 0 < Xl.length) :
    ∃ b off, a = some ⟨b, off, none⟩ ∧ b < w.heap.size ∧ lo ≤ b ∧ ∀ i (h : i < Xl.length), RiSize Xl[i] ∧ w.cell? ⟨b, off + i, none⟩ = some (.int .i64 Xl[i]) := by
  rcases h with ⟨a', cap', h, rfl⟩ | ⟨b', off', cap', h1, h2, h3, h4, h5, h6, h7⟩
  · simp at hL
  · injection h1 with e1 e2 e3
    exact ⟨b', off', e1, h4, h5, h7⟩
def RisSmall (Xl : List Int) : Prop := Xl.length ≤ 1048576
def SzRis (Xl : List Int) (left r : Int) : Prop := -1 ≤ r ∧ r ≤ left ∧ (0 ≤ r → RisSmall Xl)

set_option maxHeartbeats 1000000 in
theorem szRis_any (lo : Nat) (v : Value) (Xl : List Int) (left : Int) (w : World) (h0 : 0 ≤ left) (h1 : left ≤ 1048576) (hv : RisAt lo w v Xl) :
    Calls Try.prog 90 #[v, .int .i64 left] w fun e w' => ∃ r : Int, e = .returned (.int .i64 r) ∧ Below w.heap.size w w' ∧ SzRis Xl left r := by
  have hm := hv.max
  unfold maxLen at hm
  obtain ⟨a, cap, rfl⟩ := hv.form
  clear hv
  by_cases hle : (Xl.length : Int) ≤ left
  · go_enter Try.func90, Try.ntmps90
    go_wp2
    go_ret
    exact ⟨_, rfl, Below.refl _ _, by omega, by omega, fun _ => by unfold RisSmall; omega⟩
  · go_enter Try.func90, Try.ntmps90
    go_wp2
    go_ret
    exact ⟨-1, rfl, Below.refl _ _, by omega, by omega, fun h => by omega⟩

set_option maxHeartbeats 1000000 in
theorem eqRis_same (lo lo' : Nat) (v v' : Value) (Xl : List Int) (w : World) (hv : RisAt lo w v Xl) (hv' : RisAt lo' w v' Xl) :
    Calls Try.prog 85 #[v, v'] w fun e w' => e = .returned (.bool true) ∧ Below w.heap.size w w' := by
  by_cases hL : Xl = []
  · subst hL
    obtain ⟨a, cap, rfl⟩ := hv.form
    obtain ⟨a', cap', rfl⟩ := hv'.form
    clear hv hv'
    go_enter Try.func85, Try.ntmps85
    go_wp2
    go_loop [5] (fun i => i = .int .i64 0) (fun _ => 0)
    case atStart => rfl
    case round =>
      subst hrel
      go_wp2
      go_ret
      exact ⟨rfl, Below.refl _ _⟩
  · obtain ⟨b, off, cap, rfl, hm, hbw, _, hc⟩ := hv.full hL
    obtain ⟨b', off', cap', rfl, _, hbw', _, hc'⟩ := hv'.full hL
    clear hv hv'
    unfold maxLen at hm
    go_enter Try.func85, Try.ntmps85
    go_wp2
    go_loopw [5] (fun i wr => ∃ k : Nat, i = .int .i64 k ∧ k ≤ Xl.length ∧ Below w.heap.size w wr) (fun i _ => Xl.length - (intOf i).toNat)
    case atStart => exact ⟨0, rfl, by omega, Below.refl _ _⟩
    case round =>
      obtain ⟨k, rfl, hk, hb⟩ := hrel
      by_cases hlt : k < Xl.length
      · have c0 : wr.cell? ⟨b, off + k, none⟩ = some (.int .i64 Xl[k]) := by rw [hb.cell (p := ⟨b, _, none⟩) hbw]; exact (hc k hlt).2
        have d0 : wr.cell? ⟨b', off' + k, none⟩ = some (.int .i64 Xl[k]) := by rw [hb.cell (p := ⟨b', _, none⟩) hbw']; exact (hc' k hlt).2
        have HB := hide hb
        clear hb
        go_wp2
        try go_quiet (fail)
        try go_wp2
        go_roundw
        case rel => exact ⟨k + 1, by go_num, by omega, by first | exact HB.out | exact below_drewN HB.out _⟩
        case measure => simp [intOf]; omega
      · go_wp2
        go_ret
        exact ⟨rfl, hb⟩

theorem Try.infoRis : (Try.prog.info? 3).map (fun i => (i.zero, i.size, i.bytes)) = some (some (.int .i64 0), 1, 8) := by kernel_rfl
def RisFill (wr : World) (B : Nat) (Xl : List Int) (k : Nat) : Prop := ∃ f, wr.rowIs B 3 Xl.length f ∧ ∀ i (h : i < Xl.length), i < k → RiSize Xl[i] ∧ f i = .int .i64 Xl[i]
theorem RisFill.step {wr : World} {B : Nat} {Xl : List Int} {k : Nat} (h : RisFill wr B Xl k) (hk : k < Xl.length) (hz : RiSize Xl[k]) : RisFill (wr.setCell ⟨B, k, none⟩ (.int .i64 Xl[k])) B Xl (k + 1) := by
  obtain ⟨f, hr, hall⟩ := h
  refine ⟨_, hr.set _ _, fun i hi hik => ?_⟩
  by_cases e : i = k
  · subst e
    exact ⟨hz, by simp⟩
  · obtain ⟨hz', h0⟩ := hall i hi (by omega)
    exact ⟨hz', by rw [if_neg e]; exact h0⟩
theorem RisFill.done {wr : World} {B : Nat} {Xl : List Int} {k : Nat} (h : RisFill wr B Xl k) (hk : Xl.length ≤ k) (hne : Xl ≠ []) (hm : Xl.length ≤ maxLen) : RisAt B wr (.slice (some ⟨B, 0, none⟩) Xl.length Xl.length) Xl := by
  obtain ⟨f, hr, hall⟩ := h
  refine Or.inr ⟨B, 0, Xl.length, rfl, hne, hm, hr.lt, Nat.le_refl _, Nat.le_refl _, fun i hi => ?_⟩
  obtain ⟨hz, h0⟩ := hall i hi (by omega)
  exact ⟨hz, by rw [Nat.zero_add, hr.cell hi, h0]⟩
theorem RisFill.there {wr : World} {B : Nat} {Xl : List Int} {k : Nat} (h : RisFill wr B Xl k) (i : Nat) (hi : i < Xl.length) : ∃ v, wr.cell? ⟨B, i, none⟩ = some v := by
  obtain ⟨f, hr, _⟩ := h
  exact ⟨_, hr.cell hi⟩
theorem RisFill.free {wr : World} {B : Nat} {Xl : List Int} {k : Nat} (h : RisFill wr B Xl k) (i : Nat) : wr.frozen? ⟨B, i, none⟩ = false := by
  obtain ⟨f, hr, _⟩ := h
  exact hr.frozen i

set_option maxHeartbeats 1000000 in
theorem toRis_any (lo : Nat) (v : Value) (Xl : List Int) (w : World) (hv : RisAt lo w v Xl) (hn : RisSmall Xl) :
    Calls Try.prog 95 #[v] w fun e w' => ∃ v', e = .returned v' ∧ Below w.heap.size w w' ∧ RisAt w.heap.size w' v' Xl := by
  unfold RisSmall at hn
  by_cases hL : Xl = []
  · subst hL
    obtain ⟨a, cap, rfl⟩ := hv.form
    clear hv
    have hmk : ∀ u : World, (Instr.makeSlice 48 (.int .i64 0) (.int .i64 0)).run Try.prog u = .ok (.slice (some ⟨u.heap.size, 0, none⟩) 0 0) (u.alloc (.cells (madeCells #[.int .i64 0] 0) 3)) :=
      fun u => run_make_row' 48 3 (.int .i64 0) 8 Try.underlying48 Try.infoRis rfl .i64 .i64 0 (by omega) (by omega) u
    go_enter Try.func95, Try.ntmps95
    go_wp2
    go_loop [4] (fun i => i = .int .i64 0) (fun _ => 0)
    case atStart => rfl
    case round =>
      subst hrel
      go_wp2
      go_ret
      exact ⟨_, rfl, (Below.refl _ _).alloc (Nat.le_refl _) _, Or.inl ⟨_, _, rfl, rfl⟩⟩
  · obtain ⟨b, off, cap, rfl, hm, hbw, _, hc⟩ := hv.full hL
    clear hv
    have HM : Hid (Xl.length ≤ maxLen) := hm
    unfold maxLen at hm
    have hmk : ∀ u : World, (Instr.makeSlice 48 (.int .i64 (Xl.length : Int)) (.int .i64 (Xl.length : Int))).run Try.prog u = .ok (.slice (some ⟨u.heap.size, 0, none⟩) Xl.length Xl.length) (u.alloc (.cells (madeCells #[.int .i64 0] Xl.length) 3)) :=
      fun u => run_make_row' 48 3 (.int .i64 0) 8 Try.underlying48 Try.infoRis rfl .i64 .i64 Xl.length (by omega) (by omega) u
    go_enter Try.func95, Try.ntmps95
    go_wp2
    clear hmk
    go_loopw [4] (fun i wr => ∃ k : Nat, i = .int .i64 k ∧ k ≤ Xl.length ∧ Below w.heap.size w wr ∧ RisFill wr w.heap.size Xl k) (fun i _ => Xl.length - (intOf i).toNat)
    case atStart => exact ⟨0, rfl, by omega, (Below.refl _ _).alloc (Nat.le_refl _) _, ⟨_, World.rowIs_made w (.int .i64 0) Xl.length 3, fun i _ h => by omega⟩⟩
    case round =>
      obtain ⟨k, rfl, hk, hb, hf⟩ := hrel
      by_cases hlt : k < Xl.length
      · obtain ⟨hz, hck⟩ := hc k hlt
        rw [← hb.cell (p := ⟨b, off + k, none⟩) hbw] at hck
        obtain ⟨v0, hold⟩ := hf.there k hlt
        have hfz := hf.free k
        have HZ := hide hz
        have HF := hide hf
        have HB := hide hb
        clear hz hf hb
        go_wp2
        go_roundw
        case rel => exact ⟨k + 1, by go_num, by omega, HB.out.setCell (Nat.le_refl _) _, HF.out.step hlt HZ.out⟩
        case measure => simp [intOf]; omega
      · go_wp2
        go_ret
        exact ⟨_, rfl, hb, hf.done (by omega) hL HM.out⟩
end Go.Proofs.Ytoklnkojacdciaa
namespace Go.Proofs.Ytoklnkojacdciaa
open Go.RowKit Go.Deep

def svF (L : List Sv) (s : ByteArray) : Option Sv := L.find? fun x => x.nm.toList == s.toList
def hasBe (L : List Be) (s : ByteArray) : Bool := L.any fun x => x.nm.toList == s.toList
def cpT (B : Sb) (c : Cp) (x : Sv) : Bool := inB 1 (x.nx - 1) c.nu && (inB 1 B.now c.ve && (inB 1 1000000 c.im && (inB 1 4 c.st && (if c.st == 1 then c.be.toList.isEmpty else hasBe B.bs c.be))))
def cpB (B : Sb) (c : Cp) : Bool := match svF B.ss c.se with
  | none => false
  | some x => cpT B c x
def aheadB (a b : Cp) : Bool := Op.bytesLess a.se.toList b.se.toList || ((a.se.toList == b.se.toList) && decide (a.nu < b.nu))
/-- each stands behind the one ahead of it -/
def risN {X : Type} (r : X → X → Bool) (L : List X) : Nat → Bool
  | 0 => true
  | j + 1 => match L[j]?, L[j + 1]? with
    | some x, some y => r x y
    | _, _ => true
def risR {X : Type} (r : X → X → Bool) (L : List X) : Bool := (List.range L.length).all (risN r L)
theorem risN_at {X : Type} {r : X → X → Bool} {L : List X} {j : Nat} (h : j + 1 < L.length) : risN r L (j + 1) = r L[j] L[j + 1] := by
  show (match L[j]?, L[j + 1]? with | some x, some y => r x y | _, _ => true) = _
  rw [List.getElem?_eq_getElem (by omega), List.getElem?_eq_getElem h]
def rSv (x y : Sv) : Bool := Op.bytesLess x.nm.toList y.nm.toList
def rBe (x y : Be) : Bool := Op.bytesLess x.nm.toList y.nm.toList
def beB (x : Be) : Bool := nmB x.nm
/-- where a service stands; whether a berth is there -/
def svI (L : List Sv) (s : ByteArray) : Nat := L.findIdx fun x => x.nm.toList == s.toList
def SvPl (L : List Sv) (s : ByteArray) (r : Int) : Prop := (r = -1 ∧ svF L s = none) ∨ (r = (svI L s : Int) ∧ ∃ (h : svI L s < L.length), svF L s = some L[svI L s])
def BePl (L : List Be) (s : ByteArray) (r : Int) : Prop := decide (0 ≤ r) = hasBe L s
/-- a valid book -/
def validB (B : Sb) : Bool := inB 0 1000000 B.now && (decide (B.ss.length ≤ 8) && (decide (B.cs.length ≤ 200) && (decide (B.bs.length ≤ 6) && ((B.ss.all (svB B.now) && risR rSv B.ss) && ((B.bs.all beB && risR rBe B.bs) && (B.cs.all (cpB B) && risR aheadB B.cs))))))
theorem zall_no {X : Type} {L : List X} {f : X → Bool} {k : Nat} (hk : k < L.length) (h : f L[k] = false) : L.all f = false := by
  rw [List.all_eq_false]
  exact ⟨L[k], List.getElem_mem hk, by simp [h]⟩
theorem zall_yes {X : Type} {L : List X} {f : X → Bool} (h : ∀ i (h : i < L.length), f L[i] = true) : L.all f = true := by
  rw [List.all_eq_true]
  intro x hx
  obtain ⟨i, hi, rfl⟩ := List.getElem_of_mem hx
  exact h i hi
theorem zall_at {X : Type} {L : List X} {f : X → Bool} (h : L.all f = true) {k : Nat} (hk : k < L.length) : f L[k] = true := List.all_eq_true.1 h _ (List.getElem_mem hk)
theorem zstep_all {X : Type} {L : List X} {f : X → Bool} {k : Nat} (hall : ∀ j (h : j < L.length), j < k → f L[j] = true) (hk : k < L.length) (h : f L[k] = true) : ∀ j (h : j < L.length), j < k + 1 → f L[j] = true := fun j hj hjk => by
  by_cases e : j = k
  · subst e; exact h
  · exact hall j hj (by omega)
theorem find_at {X : Type} {L : List X} {f : X → Bool} {k : Nat} (hk : k < L.length) (hno : ∀ j (h : j < L.length), j < k → f L[j] = false) (h : f L[k] = true) : L.find? f = some L[k] := by
  rw [List.find?_eq_some_iff_getElem]
  exact ⟨h, k, hk, rfl, fun j hj => by rw [hno j (by omega) hj]; rfl⟩
theorem idx_at {X : Type} {L : List X} {f : X → Bool} {k : Nat} (hk : k < L.length) (hno : ∀ j (h : j < L.length), j < k → f L[j] = false) (h : f L[k] = true) : L.findIdx f = k := (List.findIdx_eq hk).2 ⟨h, fun j hj => hno j (by omega) hj⟩
theorem SvPl.at {L : List Sv} {s : ByteArray} {k : Nat} (hk : k < L.length) (hno : ∀ j (h : j < L.length), j < k → (L[j].nm.toList == s.toList) = false) (h : (L[k].nm.toList == s.toList) = true) : SvPl L s (k : Int) := by
  have hi : svI L s = k := idx_at (f := fun x : Sv => x.nm.toList == s.toList) hk hno h
  refine Or.inr ?_
  rw [hi]
  exact ⟨rfl, hk, find_at (f := fun x : Sv => x.nm.toList == s.toList) hk hno h⟩
theorem find_none {X : Type} {L : List X} {f : X → Bool} (hno : ∀ j (h : j < L.length), f L[j] = false) : L.find? f = none := by
  rw [List.find?_eq_none]
  intro x hx
  obtain ⟨i, hi, rfl⟩ := List.getElem_of_mem hx
  rw [hno i hi]; exact Bool.false_ne_true
theorem any_at {X : Type} {L : List X} {f : X → Bool} {k : Nat} (hk : k < L.length) (h : f L[k] = true) : L.any f = true := List.any_eq_true.2 ⟨_, List.getElem_mem hk, h⟩
theorem any_none {X : Type} {L : List X} {f : X → Bool} (hno : ∀ j (h : j < L.length), f L[j] = false) : L.any f = false := by
  rw [List.any_eq_false]
  intro x hx
  obtain ⟨i, hi, rfl⟩ := List.getElem_of_mem hx
  rw [hno i hi]; exact Bool.false_ne_true
theorem svB_nx {now : Int} {x : Sv} (h : svB now x = true) : 1 ≤ x.nx ∧ x.nx ≤ 1000000 := by
  unfold svB at h
  simp only [Bool.and_eq_true] at h
  have := h.2.2.2.1
  exact ⟨inB_lo this, inB_hi this⟩
end Go.Proofs.Ytoklnkojacdciaa
namespace Go.Proofs.Ytoklnkojacdciaa
open Go.RowKit Go.Deep

/-- how two texts stand to each other -/
def cmpS (a b : ByteArray) : Int := if Op.bytesLess a.toList b.toList = true then -1 else if (a.toList == b.toList) = true then 0 else 1
theorem less_irrefl (a : List UInt8) : Op.bytesLess a a = false := by rw [bytesLess_eq]; exact decide_eq_false (List.lt_irrefl _)
theorem less_asymm {a b : List UInt8} (h : Op.bytesLess a b = true) : Op.bytesLess b a = false := by
  rw [bytesLess_eq] at h ⊢
  exact decide_eq_false (fun h' => List.lt_irrefl _ (List.lt_trans (of_decide_eq_true h) h'))
theorem less_trans {a b c : List UInt8} (h : Op.bytesLess a b = true) (h' : Op.bytesLess b c = true) : Op.bytesLess a c = true := by
  rw [bytesLess_eq] at h h' ⊢
  exact decide_eq_true (List.lt_trans (of_decide_eq_true h) (of_decide_eq_true h'))
theorem less_tri {a b : List UInt8} (h : Op.bytesLess a b = false) (h' : Op.bytesLess b a = false) : a = b := by
  rw [bytesLess_eq] at h h'
  exact List.le_antisymm (List.not_lt.1 (of_decide_eq_false h')) (List.not_lt.1 (of_decide_eq_false h))
theorem toList_inj {a b : ByteArray} (h : a.toList = b.toList) : a = b := bytes_eq.1 (by rw [h]; simp)
theorem cmpS_self (a : ByteArray) : cmpS a a = 0 := by unfold cmpS; simp [less_irrefl]
theorem cmpS_zero {a b : ByteArray} : cmpS a b = 0 ↔ a = b := by
  refine ⟨fun h => ?_, fun h => by rw [h]; exact cmpS_self _⟩
  unfold cmpS at h
  split at h
  · omega
  · split at h
    · rename_i h2
      exact bytes_eq.1 h2
    · omega
theorem cmpS_neg {a b : ByteArray} : cmpS a b < 0 ↔ Op.bytesLess a.toList b.toList = true := by
  unfold cmpS
  split
  · rename_i h; simp [h]
  · rename_i h
    split <;> simp [h]
theorem cmpS_pos {a b : ByteArray} : 0 < cmpS a b ↔ Op.bytesLess b.toList a.toList = true := by
  unfold cmpS
  split
  · rename_i h; simp [less_asymm h]
  · rename_i h
    split
    · rename_i h2
      rw [bytes_eq.1 h2]; simp [less_irrefl]
    · rename_i h2
      have : Op.bytesLess b.toList a.toList = true := by
        cases h3 : Op.bytesLess b.toList a.toList with
        | true => rfl
        | false => exact absurd (bytes_eq.2 (toList_inj (less_tri (by simpa using h) h3))) h2
      simp [this]
theorem cmpS_bd (a b : ByteArray) : -1 ≤ cmpS a b ∧ cmpS a b ≤ 1 := by unfold cmpS; split <;> (try split) <;> omega
/-- the first that is not 0 -/
def orI (a b : Int) : Int := if a = 0 then b else a
theorem orI_zero {a b : Int} : orI a b = 0 ↔ a = 0 ∧ b = 0 := by unfold orI; split <;> omega
theorem orI_bd {a b : Int} (h : -1 ≤ a ∧ a ≤ 1) (h' : -1 ≤ b ∧ b ≤ 1) : -1 ≤ orI a b ∧ orI a b ≤ 1 := by unfold orI; split <;> omega

/-- the first of a list that is not 0 -/
def orL : List Int → Int
  | [] => 0
  | x :: r => if x = 0 then orL r else x
theorem orL_skip {L : List Int} {k : Nat} (hk : k < L.length) (h : L[k] = 0) : orL (L.drop k) = orL (L.drop (k + 1)) := by
  rw [List.drop_eq_getElem_cons hk, orL, if_pos h]
theorem orL_stop {L : List Int} {k : Nat} (hk : k < L.length) (h : L[k] ≠ 0) : orL (L.drop k) = L[k] := by
  rw [List.drop_eq_getElem_cons hk, orL, if_neg h]

theorem orL_two (a b : Int) : orL [a, b] = orI a b := by simp only [orL]; unfold orI; split <;> (try split) <;> omega
def cmpI (a b : Int) : Int := if a < b then -1 else if b < a then 1 else 0
theorem cmpI_neg {a b : Int} : cmpI a b < 0 ↔ a < b := by unfold cmpI; split <;> (try split) <;> omega
theorem nanI_any (a : Int) (w : World) : Calls Try.prog 118 #[.int .i64 a] w fun e w' => e = .returned (.bool false) ∧ w' = w := by
  go_enter Try.func118, Try.ntmps118
  go_wp2
  go_ret
  exact ⟨rfl, rfl⟩
set_option maxHeartbeats 400000 in
theorem cmpInt_any (a b : Int) (w : World) :
    Calls Try.prog 106 #[.int .i64 a, .int .i64 b] w fun e w' => e = .returned (.int .i64 (cmpI a b)) ∧ w' = w := by
  by_cases h1 : a < b
  · have HE : Hid (cmpI a b = -1) := if_pos h1
    go_enter Try.func106, Try.ntmps106
    go_wp2_with (go_at_call 118; refine (nanI_any _ _).mono ?_; rintro e w' ⟨rfl, rfl⟩)
    go_ret
    exact ⟨ret_int HE.out.symm, rfl⟩
  · by_cases h2 : b < a
    · have HE : Hid (cmpI a b = 1) := by unfold Hid cmpI; rw [if_neg h1, if_pos h2]
      go_enter Try.func106, Try.ntmps106
      go_wp2_with (go_at_call 118; refine (nanI_any _ _).mono ?_; rintro e w' ⟨rfl, rfl⟩)
      go_ret
      exact ⟨ret_int HE.out.symm, rfl⟩
    · have HE : Hid (cmpI a b = 0) := by unfold Hid cmpI; rw [if_neg h1, if_neg h2]
      go_enter Try.func106, Try.ntmps106
      go_wp2_with (go_at_call 118; refine (nanI_any _ _).mono ?_; rintro e w' ⟨rfl, rfl⟩)
      go_ret
      exact ⟨ret_int HE.out.symm, rfl⟩
theorem within_any (n lo hi : Int) (w : World) :
    Calls Try.prog 22 #[.int .i64 n, .int .i64 lo, .int .i64 hi] w fun e w' => e = .returned (.bool (inB lo hi n)) ∧ w' = w := by
  rw [inB_eq]
  by_cases h : lo ≤ n
  · by_cases h2 : n ≤ hi
    · go_enter Try.func22, Try.ntmps22
      go_wp2
      go_ret
      exact ⟨by rw [decide_eq_true h, decide_eq_true h2]; rfl, rfl⟩
    · go_enter Try.func22, Try.ntmps22
      go_wp2
      go_ret
      exact ⟨by simp [h2], rfl⟩
  · go_enter Try.func22, Try.ntmps22
    go_wp2
    go_ret
    exact ⟨by rw [decide_eq_false (show ¬ lo ≤ n by omega)]; rfl, rfl⟩

end Go.Proofs.Ytoklnkojacdciaa
