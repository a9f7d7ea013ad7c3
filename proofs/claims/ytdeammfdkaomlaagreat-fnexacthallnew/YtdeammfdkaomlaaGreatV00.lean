import Derived.Test.YtdeammfdkaomlaaGreatRows
import Derived.WalkKit
import Derived.WalkSpells
import Derived.WalkLawsBesides
import Derived.Deep.QuietTactic
import Derived.BigQuiet
import Derived.Deep.OwnRows
namespace Go.Proofs.YtdeammfdkaomlaaGreat
open Go.RowKit

theorem hide {p : Prop} (h : p) : Hid p := h

def inB (lo hi n : Int) : Bool := decide (lo ≤ n ∧ n ≤ hi)
theorem inB_eq (lo hi n : Int) : inB lo hi n = (decide (lo ≤ n) && decide (n ≤ hi)) := by unfold inB; simp

theorem ret_bool {a b : Bool} (h : a = b) : Ending.returned (.bool a) = .returned (.bool b) := by rw [h]

set_option maxHeartbeats 400000 in
theorem in_any (n lo hi : Int) (w : World) :
    Calls Tryz.prog 27 #[.int .i64 n, .int .i64 lo, .int .i64 hi] w fun e w' => e = .returned (.bool (inB lo hi n)) ∧ w' = w := by
  rw [inB_eq]
  by_cases h1 : lo ≤ n
  · by_cases h2 : n ≤ hi
    all_goals
      go_enter Tryz.func27, Tryz.ntmps27
      go_wp2
      go_ret
      exact ⟨ret_bool (by simp [h1, h2]), rfl⟩
  · go_enter Tryz.func27, Tryz.ntmps27
    go_wp2
    go_ret
    refine ⟨ret_bool ?_, rfl⟩
    rw [Bool.eq_iff_iff]; simp; omega

def nameByte (c : UInt8) : Bool := decide (97 ≤ c.toNat ∧ c.toNat ≤ 122 ∨ 48 ≤ c.toNat ∧ c.toNat ≤ 57 ∨ c.toNat = 45)

set_option maxHeartbeats 400000 in
theorem byte_any (c : UInt8) (w : World) :
    Calls Tryz.prog 159 #[.int .u8 c.toNat] w fun e w' => e = .returned (.bool (nameByte c)) ∧ w' = w := by
  have hc := c.toNat_lt
  generalize hb : nameByte c = b
  have hb' : b = decide (97 ≤ c.toNat ∧ c.toNat ≤ 122 ∨ 48 ≤ c.toNat ∧ c.toNat ≤ 57 ∨ c.toNat = 45) := by rw [← hb]; rfl
  clear hb
  generalize c.toNat = x at *
  have H : Hid (b = decide (97 ≤ x ∧ x ≤ 122 ∨ 48 ≤ x ∧ x ≤ 57 ∨ x = 45)) := hb'
  clear hb'
  go_enter Tryz.func159, Tryz.ntmps159
  go_wp2
  all_goals go_ret
  all_goals refine ⟨ret_bool ?_, rfl⟩
  all_goals rw [H.out]
  all_goals (rw [Bool.eq_iff_iff]; simp; omega)

def allB (p : UInt8 → Bool) (s : ByteArray) : Bool := s.data.toList.all p

theorem take_snoc (s : ByteArray) (k : Nat) (h : k < s.size) : s.data.toList.take (k + 1) = s.data.toList.take k ++ [s[k]] := by
  rw [List.take_succ_eq_append_getElem (by simpa using h)]; rfl

/-- what a walk over bytes finds: all of them, or one that is not so -/
theorem all_stop {p : UInt8 → Bool} {s : ByteArray} {k : Nat} (h : k < s.size) (hp : p s[k] = false) : allB p s = false := by
  unfold allB
  rw [List.all_eq_false]
  exact ⟨s[k], by simp only [Array.mem_toList_iff]; exact Array.getElem_mem h, by simp [hp]⟩
theorem all_end {p : UInt8 → Bool} {s : ByteArray} {k : Nat} (h : (s.data.toList.take k).all p = true) (hk : s.size ≤ k) : allB p s = true := by
  unfold allB
  rwa [List.take_of_length_le (by simpa using hk)] at h
theorem all_step {p : UInt8 → Bool} {s : ByteArray} {k : Nat} (h : (s.data.toList.take k).all p = true) (hk : k < s.size) (hp : p s[k] = true) : (s.data.toList.take (k + 1)).all p = true := by
  rw [take_snoc s k hk, List.all_append, h]; simp [hp]

theorem nameByte_iff (c : UInt8) : nameByte c = true ↔ (97 ≤ (c.toNat : Int) ∧ (c.toNat : Int) ≤ 122 ∨ 48 ≤ (c.toNat : Int) ∧ (c.toNat : Int) ≤ 57 ∨ (c.toNat : Int) = 45) := by
  unfold nameByte; simp; omega

set_option maxHeartbeats 400000 in
theorem nameBytes_any (s : ByteArray) (w : World) (hs : s.size ≤ maxLen) :
    Calls Tryz.prog 163 #[.string s] w fun e w' => e = .returned (.bool (allB nameByte s)) ∧ w' = w := by
  unfold maxLen at hs
  go_enter Tryz.func163, Tryz.ntmps163
  go_wp2
  go_loop [7] (fun i => ∃ k : Nat, k ≤ s.size ∧ i = .int .i64 k ∧ (s.data.toList.take k).all nameByte = true) (fun i => s.size - (intOf i).toNat)
  case atStart => exact ⟨0, Nat.zero_le _, rfl, rfl⟩
  case round =>
    obtain ⟨k, hk, rfl, hall⟩ := hrel
    have HA : Hid ((s.data.toList.take k).all nameByte = true) := hall
    clear hall
    by_cases hlt : k < s.size
    · have hsn := nameByte_iff s[k]
      have HS : Hid (nameByte s[k] = true ↔ (97 ≤ (s[k].toNat : Int) ∧ (s[k].toNat : Int) ≤ 122 ∨ 48 ≤ (s[k].toNat : Int) ∧ (s[k].toNat : Int) ≤ 57 ∨ (s[k].toNat : Int) = 45)) := hsn
      clear hsn
      go_wp2
      all_goals try simp only [bne_iff_ne, ne_eq, bne_eq_false_iff_eq] at *
      all_goals first
        | (go_round
           case rel => exact ⟨k + 1, by omega, by go_num, all_step HA.out hlt (HS.out.2 (by omega))⟩
           case measure => simp [intOf]; omega)
        | (go_ret
           exact ⟨ret_bool (all_stop hlt (Bool.eq_false_iff.2 fun h => by have := HS.out.1 h; omega)).symm, rfl⟩)
    · go_wp2
      go_ret
      exact ⟨ret_bool (all_end HA.out (by omega)).symm, rfl⟩

def nameB (s : ByteArray) : Bool := inB 1 16 s.size && allB nameByte s

set_option maxHeartbeats 400000 in
theorem isName_any (s : ByteArray) (w : World) (hs : s.size ≤ maxLen) :
    Calls Tryz.prog 101 #[.string s] w fun e w' => e = .returned (.bool (nameB s)) ∧ w' = w := by
  have hk := nameBytes_any s w hs
  unfold maxLen at hs
  by_cases h1 : 1 ≤ (s.size : Int)
  · by_cases h2 : (s.size : Int) ≤ 16
    · have HB : Hid (nameB s = allB nameByte s) := by unfold Hid nameB inB; simp; intro h; omega
      go_enter Tryz.func101, Tryz.ntmps101
      go_wp2_with (go_at_call 163; refine hk.mono ?_; rintro e w' ⟨rfl, rfl⟩)
      go_ret
      exact ⟨ret_bool HB.out.symm, rfl⟩
    · have HB : Hid (nameB s = false) := by unfold Hid nameB inB; simp; intro h; omega
      go_enter Tryz.func101, Tryz.ntmps101
      go_wp2
      go_ret
      exact ⟨ret_bool HB.out.symm, rfl⟩
  · have HB : Hid (nameB s = false) := by unfold Hid nameB inB; simp; intro h; omega
    go_enter Tryz.func101, Tryz.ntmps101
    go_wp2
    go_ret
    exact ⟨ret_bool HB.out.symm, rfl⟩

set_option maxHeartbeats 400000 in
theorem nameOk_any (s : ByteArray) (w : World) (hs : s.size ≤ maxLen) :
    Calls Tryz.prog 93 #[.string s] w fun e w' => e = .returned (.bool (nameB s)) ∧ w' = w := by
  unfold maxLen at hs
  by_cases h1 : inB 1 16 s.size = true
  · have HB : Hid (nameB s = allB nameByte s) := by unfold Hid nameB; simp [h1]
    go_enter Tryz.func93, Tryz.ntmps93
    go_wp2_with (go_at_call 27; refine (in_any _ _ _ _).mono ?_; rintro e w' ⟨rfl, rfl⟩)
    go_loop [3] (fun i => ∃ k : Nat, k ≤ s.size ∧ i = .int .i64 k ∧ (s.data.toList.take k).all nameByte = true) (fun i => s.size - (intOf i).toNat)
    case atStart => exact ⟨0, Nat.zero_le _, rfl, rfl⟩
    case round =>
      obtain ⟨k, hk, rfl, hall⟩ := hrel
      have HA : Hid ((s.data.toList.take k).all nameByte = true) := hall
      clear hall
      by_cases hlt : k < s.size
      · by_cases hn : nameByte s[k] = true
        · go_wp2_with (go_at_call 159; refine (byte_any _ _).mono ?_; rintro e w' ⟨rfl, rfl⟩)
          go_round
          case rel => exact ⟨k + 1, by omega, by go_num, all_step HA.out hlt hn⟩
          case measure => simp [intOf]; omega
        · have hn' : nameByte s[k] = false := by simpa using hn
          go_wp2_with (go_at_call 159; refine (byte_any _ _).mono ?_; rintro e w' ⟨rfl, rfl⟩)
          go_ret
          exact ⟨ret_bool (by rw [HB.out, all_stop hlt hn']), rfl⟩
      · go_wp2
        go_ret
        exact ⟨ret_bool (by rw [HB.out, all_end HA.out (by omega)]), rfl⟩
  · have h1' : inB 1 16 s.size = false := by simpa using h1
    have HB : Hid (nameB s = false) := by unfold Hid nameB; simp [h1']
    go_enter Tryz.func93, Tryz.ntmps93
    go_wp2_with (go_at_call 27; refine (in_any _ _ _ _).mono ?_; rintro e w' ⟨rfl, rfl⟩)
    go_ret
    exact ⟨ret_bool HB.out.symm, rfl⟩
end Go.Proofs.YtdeammfdkaomlaaGreat
namespace Go.Proofs.YtdeammfdkaomlaaGreat
open Go.RowKit

def digit (c : UInt8) : Bool := decide (48 ≤ c.toNat ∧ c.toNat ≤ 57)
def valOf (l : List UInt8) : Int := l.foldl (fun n c => 10 * n + ((c.toNat : Int) - 48)) 0
/-- no needless zero ahead -/
def headOk (s : ByteArray) : Bool := !(decide (1 < s.size) && (s.data.toList.head? == some 48))
def decB (s : ByteArray) : Bool := inB 1 7 s.size && headOk s && allB digit s
def decV (s : ByteArray) : Int := valOf s.data.toList
end Go.Proofs.YtdeammfdkaomlaaGreat
namespace Go.Proofs.YtdeammfdkaomlaaGreat
open Go.RowKit

theorem empty_no {s : ByteArray} (h : 0 < s.size) : s.toList.isEmpty = false := by
  rw [ByteArray.toList_eq, List.isEmpty_eq_false_iff_exists_mem]
  exact ⟨s[0], by simp only [Array.mem_toList_iff]; exact Array.getElem_mem h⟩

def textByte (c : UInt8) : Bool := decide (33 ≤ c.toNat ∧ c.toNat ≤ 126)
def textB (lo hi : Int) (s : ByteArray) : Bool := decide (0 < s.size) && inB lo hi s.size && allB textByte s
end Go.Proofs.YtdeammfdkaomlaaGreat
namespace Go.Proofs.YtdeammfdkaomlaaGreat
open Go.RowKit

/-- THE VALUE v IS A []string THAT HOLDS L, IN THE WORLD w. -/
def StrsAt (w : World) (v : Value) (L : List ByteArray) : Prop :=
  (∃ (a : Option Addr) (cap : Nat), v = .slice a 0 cap ∧ L = []) ∨
  ∃ (b off cap : Nat), v = .slice (some ⟨b, off, none⟩) L.length cap ∧ L ≠ [] ∧ L.length ≤ maxLen ∧ b < w.heap.size ∧
    (∀ i (h : i < L.length), w.cell? ⟨b, off + i, none⟩ = some (.string L[i])) ∧ ∀ s ∈ L, s.size ≤ maxLen

theorem StrsAt.below {w w' : World} {v : Value} {L : List ByteArray} (h : StrsAt w v L) (hb : Below w.heap.size w w') : StrsAt w' v L := by
  rcases h with h | ⟨b, off, cap, h1, h2, h3, h4, h5, h6⟩
  · exact Or.inl h
  · exact Or.inr ⟨b, off, cap, h1, h2, h3, Nat.lt_of_lt_of_le h4 hb.size, fun i hi => by rw [hb.cell (p := ⟨b, off + i, none⟩) h4]; exact h5 i hi, h6⟩

def SzOk (n : Nat) (left r : Int) : Prop := -1 ≤ r ∧ r ≤ left ∧ (0 ≤ r → (n : Int) ≤ left)

def hasB (L : List ByteArray) (s : ByteArray) : Bool := L.any fun x => x.toList == s.toList
end Go.Proofs.YtdeammfdkaomlaaGreat
namespace Go.Proofs.YtdeammfdkaomlaaGreat
open Go.RowKit Go.Deep

/-- the first k of a new row are set -/
def fillF (L : List ByteArray) (k i : Nat) : Value := if i < k then .string (L.getD i ⟨#[]⟩) else .string ⟨#[]⟩
def Filled (wr : World) (B : Nat) (L : List ByteArray) (k : Nat) : Prop := wr.rowIs B 9 L.length (fillF L k)
theorem Filled.step {wr : World} {B : Nat} {L : List ByteArray} {k : Nat} (h : Filled wr B L k) (hk : k < L.length) : Filled (wr.setCell ⟨B, k, none⟩ (.string L[k])) B L (k + 1) := by
  unfold Filled at *
  refine (h.set k (.string L[k])).congr fun i hi => ?_
  unfold fillF
  by_cases e : i = k
  · subst e; simp [hk]
  · by_cases e2 : i < k
    · simp [e, e2, Nat.lt_succ_of_lt e2]
    · have : ¬ i < k + 1 := by omega
      simp [e, e2, this]
theorem Filled.frozen {wr : World} {B : Nat} {L : List ByteArray} {k : Nat} (h : Filled wr B L k) (i : Nat) : wr.frozen? ⟨B, i, none⟩ = false := World.rowIs.frozen h i
/-- .. AND ITS CELLS LIE FROM BLOCK lo ON. -/
def StrsIn (lo : Nat) (w : World) (v : Value) (L : List ByteArray) : Prop :=
  (∃ (a : Option Addr) (cap : Nat), v = .slice a 0 cap ∧ L = []) ∨
  ∃ (b off cap : Nat), v = .slice (some ⟨b, off, none⟩) L.length cap ∧ L ≠ [] ∧ L.length ≤ maxLen ∧ b < w.heap.size ∧
    (∀ i (h : i < L.length), w.cell? ⟨b, off + i, none⟩ = some (.string L[i])) ∧ (∀ s ∈ L, s.size ≤ maxLen) ∧ lo ≤ b
theorem StrsIn.at {lo : Nat} {w : World} {v : Value} {L : List ByteArray} (h : StrsIn lo w v L) : StrsAt w v L := by
  rcases h with h | ⟨b, off, cap, h1, h2, h3, h4, h5, h6, _⟩
  · exact Or.inl h
  · exact Or.inr ⟨b, off, cap, h1, h2, h3, h4, h5, h6⟩
theorem StrsIn.mono {lo lo' : Nat} {w : World} {v : Value} {L : List ByteArray} (h : StrsIn lo w v L) (hl : lo' ≤ lo) : StrsIn lo' w v L := by
  rcases h with h | ⟨b, off, cap, h1, h2, h3, h4, h5, h6, h7⟩
  · exact Or.inl h
  · exact Or.inr ⟨b, off, cap, h1, h2, h3, h4, h5, h6, Nat.le_trans hl h7⟩
theorem StrsIn.below {lo : Nat} {w w' : World} {v : Value} {L : List ByteArray} (h : StrsIn lo w v L) (hb : Below w.heap.size w w') : StrsIn lo w' v L := by
  rcases h with h | ⟨b, off, cap, h1, h2, h3, h4, h5, h6, h7⟩
  · exact Or.inl h
  · exact Or.inr ⟨b, off, cap, h1, h2, h3, Nat.lt_of_lt_of_le h4 hb.size, fun i hi => by rw [hb.cell (p := ⟨b, off + i, none⟩) h4]; exact h5 i hi, h6, h7⟩
theorem cell_setCell_ne (w : World) (p q : Addr) (u : Value) (h : q.block ≠ p.block) : (w.setCell p u).cell? q = w.cell? q :=
  World.cell?_of_block (w := w) (Below.heap_setCell w p u q.block h)
theorem StrsIn.setCell {lo : Nat} {w : World} {v : Value} {L : List ByteArray} (h : StrsIn lo w v L) {p : Addr} (hp : p.block < lo) (u : Value) : StrsIn lo (w.setCell p u) v L := by
  rcases h with h | ⟨b, off, cap, h1, h2, h3, h4, h5, h6, h7⟩
  · exact Or.inl h
  · exact Or.inr ⟨b, off, cap, h1, h2, h3, by simpa [World.setCell] using h4, fun i hi => by rw [cell_setCell_ne _ _ _ _ (by show b ≠ p.block; omega)]; exact h5 i hi, h6, h7⟩
theorem StrsIn.form {lo : Nat} {w : World} {v : Value} {L : List ByteArray} (h : StrsIn lo w v L) : ∃ a n cap, v = .slice a n cap := by
  rcases h with ⟨a, cap, h, _⟩ | ⟨b, off, cap, h, _⟩
  · exact ⟨a, _, cap, h⟩
  · exact ⟨_, _, cap, h⟩
theorem StrsAt.form {w : World} {v : Value} {L : List ByteArray} (h : StrsAt w v L) : ∃ a n cap, v = .slice a n cap := by
  rcases h with ⟨a, cap, h, _⟩ | ⟨b, off, cap, h, _⟩
  · exact ⟨a, _, cap, h⟩
  · exact ⟨_, _, cap, h⟩
theorem Filled.done {wr : World} {B : Nat} {L : List ByteArray} {k : Nat} (h : Filled wr B L k) (hk : L.length ≤ k) (hne : L ≠ []) (hm : L.length ≤ maxLen) (hs : ∀ s ∈ L, s.size ≤ maxLen) : StrsIn B wr (.slice (some ⟨B, 0, none⟩) L.length L.length) L := by
  refine Or.inr ⟨B, 0, L.length, rfl, hne, hm, World.rowIs.lt h, fun i hi => ?_, hs, Nat.le_refl _⟩
  rw [Nat.zero_add, World.rowIs.cell h hi]
  unfold fillF
  rw [if_pos (by omega), List.getD_eq_getElem?_getD, List.getElem?_eq_getElem hi]; rfl

end Go.Proofs.YtdeammfdkaomlaaGreat
namespace Go.Proofs.YtdeammfdkaomlaaGreat
open Go.RowKit Go.Deep

/-- which values fit, by the field's kind -/
def fitsB (kd le mo : Int) (L : List ByteArray) (s : ByteArray) : Bool :=
  if kd = 1 then decB s && inB le mo (decV s) else if kd = 2 then decide (0 < s.size) && hasB L s else if kd = 3 then textB le mo s else if kd = 4 then nameB s else false

end Go.Proofs.YtdeammfdkaomlaaGreat
