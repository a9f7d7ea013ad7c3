import Derived.Test.YthfdfdlojfdckaaGreatVTA
import Derived.Sort.Walk0
import Derived.Deep.RegionHeld3
import Derived.Test.YthfdfdlojfdckaaGreatVDA
import Derived.Test.YthfdfdlojfdckaaGreatVBOG
import Derived.Test.YthfdfdlojfdckaaGreatVBLP
import Derived.Test.YthfdfdlojfdckaaGreatVBBL
import Derived.Test.YthfdfdlojfdckaaGreatVP1
import Derived.Test.YthfdfdlojfdckaaGreatVA1
import Derived.Test.YthfdfdlojfdckaaGreatVB1
namespace Go.Proofs.YthfdfdlojfdckaaGreat
open Go.RowKit Go.Deep

/-- how two texts stand to each other -/
def cmpS (a b : ByteArray) : Int := if Op.bytesLess a.toList b.toList = true then -1 else if (a.toList == b.toList) = true then 0 else 1
theorem less_irrefl (a : List UInt8) : Op.bytesLess a a = false := by rw [bytesLess_eq]; exact decide_eq_false (List.lt_irrefl _)
theorem less_trans {a b c : List UInt8} (h : Op.bytesLess a b = true) (h' : Op.bytesLess b c = true) : Op.bytesLess a c = true := by
  rw [bytesLess_eq] at h h' ⊢
  exact decide_eq_true (List.lt_trans (of_decide_eq_true h) (of_decide_eq_true h'))
theorem cmpS_self (a : ByteArray) : cmpS a a = 0 := by unfold cmpS; simp [less_irrefl]
theorem cmpS_zero {a b : ByteArray} : cmpS a b = 0 ↔ a = b := by
  refine ⟨fun h => ?_, fun h => by rw [h]; exact cmpS_self _⟩
  unfold cmpS at h
  split at h
  · omega
  · split at h
    · rename_i h2
      exact bytes_eq.1 h2
    · omega
theorem cmpS_neg {a b : ByteArray} : cmpS a b < 0 ↔ Op.bytesLess a.toList b.toList = true := by
  unfold cmpS
  split
  · rename_i h; simp [h]
  · rename_i h
    split <;> simp [h]
theorem cmpS_bd (a b : ByteArray) : -1 ≤ cmpS a b ∧ cmpS a b ≤ 1 := by unfold cmpS; split <;> (try split) <;> omega
/-- the first that is not 0 -/
def orI (a b : Int) : Int := if a = 0 then b else a
def cmp2 (a b c d : ByteArray) : Int := orI (cmpS a c) (cmpS b d)
def cmp3 (a b c d e f : ByteArray) : Int := orI (cmpS a d) (orI (cmpS b e) (cmpS c f))
theorem orI_zero {a b : Int} : orI a b = 0 ↔ a = 0 ∧ b = 0 := by unfold orI; split <;> omega
set_option maxHeartbeats 400000 in
theorem l5Key_any (a b : ByteArray) (w : World) :
    Calls Tryz.prog 140 #[.string a, .string b] w fun e w' => e = .returned (.int .i64 (cmpS a b)) ∧ w' = w := by
  cases h1 : Op.bytesLess a.toList b.toList with
  | true =>
    have HE : Hid (cmpS a b = -1) := by unfold Hid cmpS; rw [h1]; rfl
    go_enter Tryz.func140, Tryz.ntmps140
    go_wp2
    go_ret
    exact ⟨ret_int HE.out.symm, rfl⟩
  | false =>
    cases h2 : (a.toList == b.toList) with
    | true =>
      have HE : Hid (cmpS a b = 0) := by unfold Hid cmpS; rw [h1, h2]; rfl
      go_enter Tryz.func140, Tryz.ntmps140
      go_wp2
      go_ret
      exact ⟨ret_int HE.out.symm, rfl⟩
    | false =>
      have HE : Hid (cmpS a b = 1) := by unfold Hid cmpS; rw [h1, h2]; rfl
      go_enter Tryz.func140, Tryz.ntmps140
      go_wp2
      go_ret
      exact ⟨ret_int HE.out.symm, rfl⟩

theorem nanS_any (a : ByteArray) (w : World) : Calls Tryz.prog 208 #[.string a] w fun e w' => e = .returned (.bool false) ∧ w' = w := by
  have h := bytes_refl a
  go_enter Tryz.func208, Tryz.ntmps208
  go_wp2
  go_ret
  exact ⟨rfl, rfl⟩
set_option maxHeartbeats 400000 in
theorem cmpStr_any (a b : ByteArray) (w : World) :
    Calls Tryz.prog 182 #[.string a, .string b] w fun e w' => e = .returned (.int .i64 (cmpS a b)) ∧ w' = w := by
  cases h1 : Op.bytesLess a.toList b.toList with
  | true =>
    have HE : Hid (cmpS a b = -1) := by unfold Hid cmpS; rw [h1]; rfl
    go_enter Tryz.func182, Tryz.ntmps182
    go_wp2_with (go_at_call 208; refine (nanS_any _ _).mono ?_; rintro e w' ⟨rfl, rfl⟩)
    go_ret
    exact ⟨ret_int HE.out.symm, rfl⟩
  | false =>
    cases h2 : (a.toList == b.toList) with
    | true =>
      have HE : Hid (cmpS a b = 0) := by unfold Hid cmpS; rw [h1, h2]; rfl
      go_enter Tryz.func182, Tryz.ntmps182
      go_wp2_with (go_at_call 208; refine (nanS_any _ _).mono ?_; rintro e w' ⟨rfl, rfl⟩)
      go_ret
      exact ⟨ret_int HE.out.symm, rfl⟩
    | false =>
      have HE : Hid (cmpS a b = 1) := by unfold Hid cmpS; rw [h1, h2]; rfl
      go_enter Tryz.func182, Tryz.ntmps182
      go_wp2_with (go_at_call 208; refine (nanS_any _ _).mono ?_; rintro e w' ⟨rfl, rfl⟩)
      go_ret
      exact ⟨ret_int HE.out.symm, rfl⟩

set_option maxHeartbeats 400000 in
theorem l5Two_any (a b c d : ByteArray) (w : World) :
    Calls Tryz.prog 105 #[.string a, .string b, .string c, .string d] w fun e w' => e = .returned (.int .i64 (cmp2 a b c d)) ∧ w' = w := by
  have hk := cmpS_bd a c
  by_cases h0 : cmpS a c = 0
  · have HE : Hid (cmp2 a b c d = cmpS b d) := by unfold Hid cmp2 orI; rw [if_pos h0]
    have h0' : (cmpS a c != 0) = false := by simp [h0]
    have H0 := hide h0
    clear h0
    go_enter Tryz.func105, Tryz.ntmps105
    go_wp2_with (go_at_call 140; refine (l5Key_any _ _ _).mono ?_; rintro e w' ⟨rfl, rfl⟩)
    go_ret
    exact ⟨ret_int HE.out.symm, rfl⟩
  · have HE : Hid (cmp2 a b c d = cmpS a c) := by unfold Hid cmp2 orI; rw [if_neg h0]
    have h0' : (cmpS a c != 0) = true := by simp [h0]
    clear h0
    go_enter Tryz.func105, Tryz.ntmps105
    go_wp2_with (go_at_call 140; refine (l5Key_any _ _ _).mono ?_; rintro e w' ⟨rfl, rfl⟩)
    go_ret
    exact ⟨ret_int HE.out.symm, rfl⟩
end Go.Proofs.YthfdfdlojfdckaaGreat

namespace Go.Proofs.YthfdfdlojfdckaaGreat
open Go.RowKit Go.Deep

/-- the first of a list that is not 0 -/
def orL : List Int → Int
  | [] => 0
  | x :: r => if x = 0 then orL r else x
theorem cmp3_ne {a b c d e f : ByteArray} (h : a ≠ d) : cmp3 a b c d e f = cmpS a d := by
  unfold cmp3 orI
  rw [if_neg (fun h0 => h (cmpS_zero.1 h0))]
theorem cmp3_eq {a b c d e f : ByteArray} (h : a = d) : cmp3 a b c d e f = cmp2 b c e f := by
  unfold cmp3 cmp2
  rw [cmpS_zero.2 h]
  rfl
theorem orL_skip {L : List Int} {k : Nat} (hk : k < L.length) (h : L[k] = 0) : orL (L.drop k) = orL (L.drop (k + 1)) := by
  rw [List.drop_eq_getElem_cons hk, orL, if_pos h]
theorem orL_stop {L : List Int} {k : Nat} (hk : k < L.length) (h : L[k] ≠ 0) : orL (L.drop k) = L[k] := by
  rw [List.drop_eq_getElem_cons hk, orL, if_neg h]

theorem orL_two (a b : Int) : orL [a, b] = orI a b := by simp only [orL]; unfold orI; split <;> (try split) <;> omega
theorem orL_three (a b c : Int) : orL [a, b, c] = orI a (orI b c) := by simp only [orL]; unfold orI; split <;> (try split) <;> (try split) <;> omega
set_option maxHeartbeats 400000 in
theorem cmpOr_any (w : World) (b off cap : Nat) (L : List Int) (hm : L.length ≤ 1000) (hc : ∀ i (h : i < L.length), w.cell? ⟨b, off + i, none⟩ = some (.int .i64 L[i])) :
    Calls Tryz.prog 181 #[.slice (some ⟨b, off, none⟩) L.length cap] w fun e w' => e = .returned (.int .i64 (orL L)) ∧ w' = w := by
  go_enter Tryz.func181, Tryz.ntmps181
  go_wp2
  go_loop [8] (fun i => ∃ k : Nat, i = .int .i64 k ∧ k ≤ L.length ∧ orL L = orL (L.drop k)) (fun i => L.length - (intOf i).toNat)
  case atStart => exact ⟨0, rfl, by omega, by simp⟩
  case round =>
    obtain ⟨k, rfl, hk, he⟩ := hrel
    have HE := hide he
    clear he
    by_cases hlt : k < L.length
    · have c := hc k hlt
      by_cases h0 : L[k] = 0
      · have HS := hide (orL_skip hlt h0)
        have h0' : (L[k] != 0) = false := by simp [h0]
        clear h0
        go_wp2
        go_round
        case rel => exact ⟨k + 1, by go_num, by omega, HE.out.trans HS.out⟩
        case measure => simp [intOf]; omega
      · have HS := hide (orL_stop hlt h0)
        have h0' : (L[k] != 0) = true := by simp [h0]
        clear h0
        go_wp2
        go_ret
        exact ⟨ret_int (by rw [HE.out, HS.out]), rfl⟩
    · have HS : Hid (orL (L.drop k) = 0) := by unfold Hid; rw [List.drop_of_length_le (by omega)]; rfl
      go_wp2
      go_ret
      exact ⟨ret_int (by rw [HE.out, HS.out]), rfl⟩

set_option maxRecDepth 20000 in
set_option maxHeartbeats 2000000 in
theorem cmpObjs_any (x y : Ob) (va : Option Addr) (vn vc : Nat) (ha : Option Addr) (hn hc : Nat) (va' : Option Addr) (vn' vc' : Nat) (ha' : Option Addr) (hn' hc' : Nat) (w : World) :
    Calls Tryz.prog 146 #[.agg #[.string x.kd, .string x.nm, .string x.tm, .slice va vn vc, .bool x.en, .slice ha hn hc, .int .i64 x.ver], .agg #[.string y.kd, .string y.nm, .string y.tm, .slice va' vn' vc', .bool y.en, .slice ha' hn' hc', .int .i64 y.ver]] w fun e w' => e = .returned (.int .i64 (cmp2 x.kd x.nm y.kd y.nm)) ∧ Below w.heap.size w w' := by
  have HO : Hid (orL [cmpS x.kd y.kd, cmpS x.nm y.nm] = cmp2 x.kd x.nm y.kd y.nm) := orL_two _ _
  go_enter Tryz.func146, Tryz.ntmps146
  go_wp2
  generalize hWa : (World.alloc (w.alloc _) _) = Wa
  have HBa : Hid (Below w.heap.size w Wa) := by rw [← hWa]; exact (one_al w _).alloc (by simp) _
  have FA : Hid (Box Wa w.heap.size #[.string x.kd, .string x.nm, .string x.tm, .slice va vn vc, .bool x.en, .slice ha hn hc, .int .i64 x.ver]) := by rw [← hWa]; exact (Box.new _ _ _ _ rfl).on (one_al _ _)
  have FB : Hid (Box Wa (w.heap.size + 1) #[.string y.kd, .string y.nm, .string y.tm, .slice va' vn' vc', .bool y.en, .slice ha' hn' hc', .int .i64 y.ver]) := by rw [← hWa]; exact Box.new _ _ _ _ (by simp)
  clear hWa
  go_region_held3 (Held2 Wa w.heap.size #[.string x.kd, .string x.nm, .string x.tm, .slice va vn vc, .bool x.en, .slice ha hn hc, .int .i64 x.ver] (w.heap.size + 1) #[.string y.kd, .string y.nm, .string y.tm, .slice va' vn' vc', .bool y.en, .slice ha' hn' hc', .int .i64 y.ver])
    (first
      | (with_reducible exact Held2.drew FA.out FB.out)
      | (with_reducible exact Held2.on (by assumption) (Below.refl _ _))
      | (with_reducible exact Held2.on (by assumption) (one_al _ _))
      | (with_reducible exact Held2.on (by assumption) (by assumption)))
    (first
      | (go_at_call 182
         refine (cmpStr_any _ _ _).mono ?_
         rintro e w1 ⟨rfl, rfl⟩)
      | (go_at_call 181
         refine (cmpOr_any _ _ _ _ [cmpS x.kd y.kd, cmpS x.nm y.nm] (by simp) ?_).mono ?_
         · intro i hi
           have hi' : i = 0 ∨ i = 1 := by simp at hi; omega
           rcases hi' with rfl | rfl <;> simp
         rintro e w2 ⟨rfl, rfl⟩))
  go_wp2
  go_ret
  exact ⟨ret_int HO.out, (HBa.out.trans ((one_al _ _).mono HBa.out.size)).drew⟩

set_option maxRecDepth 20000 in
set_option maxHeartbeats 2000000 in
theorem cmpLes_any (x y : Le) (w : World) :
    Calls Tryz.prog 156 #[.agg #[.string x.tm, .string x.re, .int .i64 x.mo, .int .i64 x.fr], .agg #[.string y.tm, .string y.re, .int .i64 y.mo, .int .i64 y.fr]] w fun e w' => e = .returned (.int .i64 (cmp2 x.tm x.re y.tm y.re)) ∧ Below w.heap.size w w' := by
  have HO : Hid (orL [cmpS x.tm y.tm, cmpS x.re y.re] = cmp2 x.tm x.re y.tm y.re) := orL_two _ _
  go_enter Tryz.func156, Tryz.ntmps156
  go_wp2
  generalize hWa : (World.alloc (w.alloc _) _) = Wa
  have HBa : Hid (Below w.heap.size w Wa) := by rw [← hWa]; exact (one_al w _).alloc (by simp) _
  have FA : Hid (Box Wa w.heap.size #[.string x.tm, .string x.re, .int .i64 x.mo, .int .i64 x.fr]) := by rw [← hWa]; exact (Box.new _ _ _ _ rfl).on (one_al _ _)
  have FB : Hid (Box Wa (w.heap.size + 1) #[.string y.tm, .string y.re, .int .i64 y.mo, .int .i64 y.fr]) := by rw [← hWa]; exact Box.new _ _ _ _ (by simp)
  clear hWa
  go_region_held3 (Held2 Wa w.heap.size #[.string x.tm, .string x.re, .int .i64 x.mo, .int .i64 x.fr] (w.heap.size + 1) #[.string y.tm, .string y.re, .int .i64 y.mo, .int .i64 y.fr])
    (first
      | (with_reducible exact Held2.drew FA.out FB.out)
      | (with_reducible exact Held2.on (by assumption) (Below.refl _ _))
      | (with_reducible exact Held2.on (by assumption) (one_al _ _))
      | (with_reducible exact Held2.on (by assumption) (by assumption)))
    (first
      | (go_at_call 182
         refine (cmpStr_any _ _ _).mono ?_
         rintro e w1 ⟨rfl, rfl⟩)
      | (go_at_call 181
         refine (cmpOr_any _ _ _ _ [cmpS x.tm y.tm, cmpS x.re y.re] (by simp) ?_).mono ?_
         · intro i hi
           have hi' : i = 0 ∨ i = 1 := by simp at hi; omega
           rcases hi' with rfl | rfl <;> simp
         rintro e w2 ⟨rfl, rfl⟩))
  go_wp2
  go_ret
  exact ⟨ret_int HO.out, (HBa.out.trans ((one_al _ _).mono HBa.out.size)).drew⟩

set_option maxRecDepth 20000 in
set_option maxHeartbeats 2000000 in
theorem cmpPus_any (x y : Pu) (w : World) :
    Calls Tryz.prog 158 #[.agg #[.string x.dr, .string x.tm, .string x.re, .int .i64 x.am, .int .i64 x.un], .agg #[.string y.dr, .string y.tm, .string y.re, .int .i64 y.am, .int .i64 y.un]] w fun e w' => e = .returned (.int .i64 (cmp3 x.dr x.tm x.re y.dr y.tm y.re)) ∧ Below w.heap.size w w' := by
  have HO : Hid (orL [cmpS x.dr y.dr, cmpS x.tm y.tm, cmpS x.re y.re] = cmp3 x.dr x.tm x.re y.dr y.tm y.re) := orL_three _ _ _
  go_enter Tryz.func158, Tryz.ntmps158
  go_wp2
  generalize hWa : (World.alloc (w.alloc _) _) = Wa
  have HBa : Hid (Below w.heap.size w Wa) := by rw [← hWa]; exact (one_al w _).alloc (by simp) _
  have FA : Hid (Box Wa w.heap.size #[.string x.dr, .string x.tm, .string x.re, .int .i64 x.am, .int .i64 x.un]) := by rw [← hWa]; exact (Box.new _ _ _ _ rfl).on (one_al _ _)
  have FB : Hid (Box Wa (w.heap.size + 1) #[.string y.dr, .string y.tm, .string y.re, .int .i64 y.am, .int .i64 y.un]) := by rw [← hWa]; exact Box.new _ _ _ _ (by simp)
  clear hWa
  go_region_held3 (Held2 Wa w.heap.size #[.string x.dr, .string x.tm, .string x.re, .int .i64 x.am, .int .i64 x.un] (w.heap.size + 1) #[.string y.dr, .string y.tm, .string y.re, .int .i64 y.am, .int .i64 y.un])
    (first
      | (with_reducible exact Held2.drew FA.out FB.out)
      | (with_reducible exact Held2.on (by assumption) (Below.refl _ _))
      | (with_reducible exact Held2.on (by assumption) (one_al _ _))
      | (with_reducible exact Held2.on (by assumption) (by assumption)))
    (first
      | (go_at_call 182
         refine (cmpStr_any _ _ _).mono ?_
         rintro e w1 ⟨rfl, rfl⟩)
      | (go_at_call 181
         refine (cmpOr_any _ _ _ _ [cmpS x.dr y.dr, cmpS x.tm y.tm, cmpS x.re y.re] (by simp) ?_).mono ?_
         · intro i hi
           have hi' : i = 0 ∨ i = 1 ∨ i = 2 := by simp at hi; omega
           rcases hi' with rfl | rfl | rfl <;> simp
         rintro e w2 ⟨rfl, rfl⟩))
  go_wp2
  go_ret
  exact ⟨ret_int HO.out, (HBa.out.trans ((one_al _ _).mono HBa.out.size)).drew⟩

set_option maxHeartbeats 1000000 in
theorem purseKey_any (x y : Pu) (w : World) :
    Calls Tryz.prog 111 #[.agg #[.string x.dr, .string x.tm, .string x.re, .int .i64 x.am, .int .i64 x.un], .agg #[.string y.dr, .string y.tm, .string y.re, .int .i64 y.am, .int .i64 y.un]] w fun e w' => e = .returned (.int .i64 (cmp3 x.dr x.tm x.re y.dr y.tm y.re)) ∧ Below w.heap.size w w' := by
  have HW : ∀ o o', Hid (Below w.heap.size w ((w.alloc o).alloc o')) := fun o o' => ((Below.refl _ _).alloc (Nat.le_refl _) _).alloc (by simp) _
  cases h : (x.dr.toList == y.dr.toList) with
  | true =>
    have HE := hide (cmp3_eq (b := x.tm) (c := x.re) (e := y.tm) (f := y.re) (bytes_eq.1 h))
    go_enter Tryz.func111, Tryz.ntmps111
    go_wp2_with (go_at_call 105; refine (l5Two_any _ _ _ _ _).mono ?_; rintro e w' ⟨rfl, rfl⟩)
    go_ret
    exact ⟨ret_int HE.out.symm, (HW _ _).out⟩
  | false =>
    have HE := hide (cmp3_ne (b := x.tm) (c := x.re) (e := y.tm) (f := y.re) (bytes_ne.1 h))
    go_enter Tryz.func111, Tryz.ntmps111
    go_wp2_with (go_at_call 140; refine (l5Key_any _ _ _).mono ?_; rintro e w' ⟨rfl, rfl⟩)
    go_ret
    exact ⟨ret_int HE.out.symm, (HW _ _).out⟩
end Go.Proofs.YthfdfdlojfdckaaGreat

namespace Go.Proofs.YthfdfdlojfdckaaGreat
open Go.RowKit Go.Deep

def cmpI (a b : Int) : Int := if a < b then -1 else if b < a then 1 else 0
theorem cmpI_neg {a b : Int} : cmpI a b < 0 ↔ a < b := by unfold cmpI; split <;> (try split) <;> omega
theorem nanI_any (a : Int) (w : World) : Calls Tryz.prog 213 #[.int .i64 a] w fun e w' => e = .returned (.bool false) ∧ w' = w := by
  go_enter Tryz.func213, Tryz.ntmps213
  go_wp2
  go_ret
  exact ⟨rfl, rfl⟩
set_option maxHeartbeats 400000 in
theorem cmpInt_any (a b : Int) (w : World) :
    Calls Tryz.prog 188 #[.int .i64 a, .int .i64 b] w fun e w' => e = .returned (.int .i64 (cmpI a b)) ∧ w' = w := by
  by_cases h1 : a < b
  · have HE : Hid (cmpI a b = -1) := if_pos h1
    go_enter Tryz.func188, Tryz.ntmps188
    go_wp2_with (go_at_call 213; refine (nanI_any _ _).mono ?_; rintro e w' ⟨rfl, rfl⟩)
    go_ret
    exact ⟨ret_int HE.out.symm, rfl⟩
  · by_cases h2 : b < a
    · have HE : Hid (cmpI a b = 1) := by unfold Hid cmpI; rw [if_neg h1, if_pos h2]
      go_enter Tryz.func188, Tryz.ntmps188
      go_wp2_with (go_at_call 213; refine (nanI_any _ _).mono ?_; rintro e w' ⟨rfl, rfl⟩)
      go_ret
      exact ⟨ret_int HE.out.symm, rfl⟩
    · have HE : Hid (cmpI a b = 0) := by unfold Hid cmpI; rw [if_neg h1, if_neg h2]
      go_enter Tryz.func188, Tryz.ntmps188
      go_wp2_with (go_at_call 213; refine (nanI_any _ _).mono ?_; rintro e w' ⟨rfl, rfl⟩)
      go_ret
      exact ⟨ret_int HE.out.symm, rfl⟩
set_option maxHeartbeats 1000000 in
theorem cmpGrs_any (x y : Gr) (va : Option Addr) (vn vc : Nat) (va' : Option Addr) (vn' vc' : Nat) (w : World) :
    Calls Tryz.prog 152 #[.agg #[.int .i64 x.nu, .string x.tw, .string x.gb, .slice va vn vc, .string x.kd, .string x.tm, .string x.pf], .agg #[.int .i64 y.nu, .string y.tw, .string y.gb, .slice va' vn' vc', .string y.kd, .string y.tm, .string y.pf]] w fun e w' => e = .returned (.int .i64 (cmpI x.nu y.nu)) ∧ Below w.heap.size w w' := by
  go_enter Tryz.func152, Tryz.ntmps152
  go_wp2_with (go_at_call 188; refine (cmpInt_any _ _ _).mono ?_; rintro e w' ⟨rfl, rfl⟩)
  go_ret
  exact ⟨rfl, ((Below.refl _ _).alloc (Nat.le_refl _) _).alloc (by simp) _⟩

theorem within_any (n lo hi : Int) (w : World) :
    Calls Tryz.prog 99 #[.int .i64 n, .int .i64 lo, .int .i64 hi] w fun e w' => e = .returned (.bool (inB lo hi n)) ∧ w' = w := by
  rw [inB_eq]
  by_cases h : lo ≤ n
  · by_cases h2 : n ≤ hi
    · go_enter Tryz.func99, Tryz.ntmps99
      go_wp2
      go_ret
      exact ⟨by rw [decide_eq_true h, decide_eq_true h2]; rfl, rfl⟩
    · go_enter Tryz.func99, Tryz.ntmps99
      go_wp2
      go_ret
      exact ⟨by simp [h2], rfl⟩
  · go_enter Tryz.func99, Tryz.ntmps99
    go_wp2
    go_ret
    exact ⟨by rw [decide_eq_false (show ¬ lo ≤ n by omega)]; rfl, rfl⟩

/-- each stands behind the one ahead of it -/
def risI {X : Type} (c : X → X → Int) (L : List X) : Nat → Bool
  | 0 => true
  | j + 1 => match L[j]?, L[j + 1]? with
    | some x, some y => decide (c x y < 0)
    | _, _ => true
def risB {X : Type} (c : X → X → Int) (L : List X) : Bool := (List.range L.length).all (risI c L)
theorem risI_at {X : Type} {c : X → X → Int} {L : List X} {j : Nat} (h : j + 1 < L.length) : risI c L (j + 1) = decide (c L[j] L[j + 1] < 0) := by
  show (match L[j]?, L[j + 1]? with | some x, some y => decide (c x y < 0) | _, _ => true) = _
  rw [List.getElem?_eq_getElem (by omega), List.getElem?_eq_getElem h]
def cObs (x y : Ob) : Int := cmp2 x.kd x.nm y.kd y.nm
def cGrs (x y : Gr) : Int := cmpI x.nu y.nu
def cLes (x y : Le) : Int := cmp2 x.tm x.re y.tm y.re
def cPus (x y : Pu) : Int := cmp3 x.dr x.tm x.re y.dr y.tm y.re

set_option maxRecDepth 20000 in
set_option maxHeartbeats 2000000 in
theorem ascObs_any (lo : Nat) (v : Value) (Xl : List Ob) (w : World) (hv : ObsAt lo w v Xl) :
    Calls Tryz.prog 145 #[v, .func (.func 146) #[] #[]] w fun e w' => e = .returned (.bool (risB cObs Xl)) ∧ Below w.heap.size w w' := by
  have HV := hide hv
  have hm := hv.max
  unfold maxLen at hm
  obtain ⟨a, cap, rfl⟩ := hv.form
  clear hv
  go_enter Tryz.func145, Tryz.ntmps145
  go_wp2
  go_loopw [5] (fun i wr => ∃ m : Nat, i = .int .i64 m ∧ 1 ≤ m ∧ (m ≤ Xl.length ∨ m = 1) ∧ Below w.heap.size w wr ∧ ∀ j, j < m → risI cObs Xl j = true) (fun i _ => Xl.length + 1 - (intOf i).toNat)
  case atStart => exact ⟨1, rfl, Nat.le_refl _, Or.inr rfl, Below.refl _ _, fun j hj => by rw [show j = 0 by omega]; rfl⟩
  case round =>
    obtain ⟨m, rfl, hm1, hk, hb, hall⟩ := hrel
    have HB := hide hb
    have HA := hide hall
    clear hb hall
    by_cases hlt : m < Xl.length
    · obtain ⟨k, hkm⟩ : ∃ k, m = k + 1 := ⟨m - 1, by omega⟩
      have hlt0 : k < Xl.length := by omega
      obtain ⟨b, off, rfl, hbw, -, hc⟩ := HV.out.full' (by omega)
      obtain ⟨hs, vv0, vv1, hcell, hv0, hv1⟩ := hc k hlt0
      obtain ⟨ht, vv0', vv1', hdell, hw0, hw1⟩ := hc m hlt
      obtain ⟨va0, vc0, rfl⟩ := hv0.at.form'
      obtain ⟨va1, vc1, rfl⟩ := hv1.at.form'
      obtain ⟨vb0, vd0, rfl⟩ := hw0.at.form'
      obtain ⟨vb1, vd1, rfl⟩ := hw1.at.form'
      obtain ⟨c0, c1, c2, c3, c4, c5, c6⟩ := hcell.below HB.out hbw
      obtain ⟨d0, d1, d2, d3, d4, d5, d6⟩ := hdell.below HB.out hbw
      have HS : Hid (risI cObs Xl m = decide (cObs Xl[k] Xl[m] < 0)) := by
        subst hkm
        exact risI_at hlt
      have e2 : IntKind.i64.wrap ((m : Int) - 1) = k := by rw [IntWalk.i64_left]; unfold wrap64; omega
      have HKM := hide hkm
      clear hc hcell hdell hs ht hkm hk hv0 hw0 hv1 hw1
      go_wp2
      go_region_with (go_at_call 146; refine (cmpObjs_any Xl[k] Xl[m] _ _ _ _ _ _ _ _ _ _ _ _ _).mono ?_; rintro e w1 ⟨rfl, hb1⟩; have hB : Hid (Below w.heap.size w w1) := (HB.out.drew).trans (hb1.mono HB.out.size); clear hb1)
      all_goals by_cases hq : 0 ≤ cmp2 Xl[k].kd Xl[k].nm Xl[m].kd Xl[m].nm
      all_goals first
        | (have HN : Hid (risB cObs Xl = false) := range_not hlt (HS.out.trans (decide_eq_false (by unfold cObs; omega)))
           go_wp2
           go_ret
           exact ⟨ret_bool HN.out.symm, hB.out⟩)
        | (have HT : Hid (risI cObs Xl m = true) := HS.out.trans (decide_eq_true (by unfold cObs; omega))
           go_wp2
           go_roundw
           case rel => exact ⟨m + 1, by go_num, by omega, by omega, hB.out, fun j hj => by
                         by_cases e : j = m
                         · rw [e]; exact HT.out
                         · exact HA.out j (by omega)⟩
           case measure => simp [intOf]; omega)
    · have HT : Hid (risB cObs Xl = true) := range_all (fun i hi => HA.out i (by omega))
      go_wp2
      go_ret
      exact ⟨ret_bool HT.out.symm, HB.out⟩

set_option maxRecDepth 20000 in
set_option maxHeartbeats 2000000 in
theorem ascGrs_any (lo : Nat) (v : Value) (Xl : List Gr) (w : World) (hv : GrsAt lo w v Xl) :
    Calls Tryz.prog 151 #[v, .func (.func 152) #[] #[]] w fun e w' => e = .returned (.bool (risB cGrs Xl)) ∧ Below w.heap.size w w' := by
  have HV := hide hv
  have hm := hv.max
  unfold maxLen at hm
  obtain ⟨a, cap, rfl⟩ := hv.form
  clear hv
  go_enter Tryz.func151, Tryz.ntmps151
  go_wp2
  go_loopw [5] (fun i wr => ∃ m : Nat, i = .int .i64 m ∧ 1 ≤ m ∧ (m ≤ Xl.length ∨ m = 1) ∧ Below w.heap.size w wr ∧ ∀ j, j < m → risI cGrs Xl j = true) (fun i _ => Xl.length + 1 - (intOf i).toNat)
  case atStart => exact ⟨1, rfl, Nat.le_refl _, Or.inr rfl, Below.refl _ _, fun j hj => by rw [show j = 0 by omega]; rfl⟩
  case round =>
    obtain ⟨m, rfl, hm1, hk, hb, hall⟩ := hrel
    have HB := hide hb
    have HA := hide hall
    clear hb hall
    by_cases hlt : m < Xl.length
    · obtain ⟨k, hkm⟩ : ∃ k, m = k + 1 := ⟨m - 1, by omega⟩
      have hlt0 : k < Xl.length := by omega
      obtain ⟨b, off, rfl, hbw, -, hc⟩ := HV.out.full' (by omega)
      obtain ⟨hs, vv0, hcell, hv0⟩ := hc k hlt0
      obtain ⟨ht, vv0', hdell, hw0⟩ := hc m hlt
      obtain ⟨va0, vc0, rfl⟩ := hv0.form
      obtain ⟨vb0, vd0, rfl⟩ := hw0.form
      obtain ⟨c0, c1, c2, c3, c4, c5, c6⟩ := hcell.below HB.out hbw
      obtain ⟨d0, d1, d2, d3, d4, d5, d6⟩ := hdell.below HB.out hbw
      have HS : Hid (risI cGrs Xl m = decide (cGrs Xl[k] Xl[m] < 0)) := by
        subst hkm
        exact risI_at hlt
      have e2 : IntKind.i64.wrap ((m : Int) - 1) = k := by rw [IntWalk.i64_left]; unfold wrap64; omega
      have HKM := hide hkm
      clear hc hcell hdell hs ht hkm hk hv0 hw0
      go_wp2
      go_region_with (go_at_call 152; refine (cmpGrs_any Xl[k] Xl[m] _ _ _ _ _ _ _).mono ?_; rintro e w1 ⟨rfl, hb1⟩; have hB : Hid (Below w.heap.size w w1) := (HB.out.drew).trans (hb1.mono HB.out.size); clear hb1)
      all_goals by_cases hq : 0 ≤ cmpI Xl[k].nu Xl[m].nu
      all_goals first
        | (have HN : Hid (risB cGrs Xl = false) := range_not hlt (HS.out.trans (decide_eq_false (by unfold cGrs; omega)))
           go_wp2
           go_ret
           exact ⟨ret_bool HN.out.symm, hB.out⟩)
        | (have HT : Hid (risI cGrs Xl m = true) := HS.out.trans (decide_eq_true (by unfold cGrs; omega))
           go_wp2
           go_roundw
           case rel => exact ⟨m + 1, by go_num, by omega, by omega, hB.out, fun j hj => by
                         by_cases e : j = m
                         · rw [e]; exact HT.out
                         · exact HA.out j (by omega)⟩
           case measure => simp [intOf]; omega)
    · have HT : Hid (risB cGrs Xl = true) := range_all (fun i hi => HA.out i (by omega))
      go_wp2
      go_ret
      exact ⟨ret_bool HT.out.symm, HB.out⟩

set_option maxRecDepth 20000 in
set_option maxHeartbeats 2000000 in
theorem ascLes_any (lo : Nat) (v : Value) (Xl : List Le) (w : World) (hv : LesAt lo w v Xl) :
    Calls Tryz.prog 155 #[v, .func (.func 156) #[] #[]] w fun e w' => e = .returned (.bool (risB cLes Xl)) ∧ Below w.heap.size w w' := by
  have HV := hide hv
  have hm := hv.max
  unfold maxLen at hm
  obtain ⟨a, cap, rfl⟩ := hv.form
  clear hv
  go_enter Tryz.func155, Tryz.ntmps155
  go_wp2
  go_loopw [5] (fun i wr => ∃ m : Nat, i = .int .i64 m ∧ 1 ≤ m ∧ (m ≤ Xl.length ∨ m = 1) ∧ Below w.heap.size w wr ∧ ∀ j, j < m → risI cLes Xl j = true) (fun i _ => Xl.length + 1 - (intOf i).toNat)
  case atStart => exact ⟨1, rfl, Nat.le_refl _, Or.inr rfl, Below.refl _ _, fun j hj => by rw [show j = 0 by omega]; rfl⟩
  case round =>
    obtain ⟨m, rfl, hm1, hk, hb, hall⟩ := hrel
    have HB := hide hb
    have HA := hide hall
    clear hb hall
    by_cases hlt : m < Xl.length
    · obtain ⟨k, hkm⟩ : ∃ k, m = k + 1 := ⟨m - 1, by omega⟩
      have hlt0 : k < Xl.length := by omega
      obtain ⟨b, off, rfl, hbw, -, hc⟩ := HV.out.full' (by omega)
      obtain ⟨hs, hcell⟩ := hc k hlt0
      obtain ⟨ht, hdell⟩ := hc m hlt
      obtain ⟨c0, c1, c2, c3⟩ := hcell.below HB.out hbw
      obtain ⟨d0, d1, d2, d3⟩ := hdell.below HB.out hbw
      have HS : Hid (risI cLes Xl m = decide (cLes Xl[k] Xl[m] < 0)) := by
        subst hkm
        exact risI_at hlt
      have e2 : IntKind.i64.wrap ((m : Int) - 1) = k := by rw [IntWalk.i64_left]; unfold wrap64; omega
      have HKM := hide hkm
      clear hc hcell hdell hs ht hkm hk
      go_wp2
      go_region_with (go_at_call 156; refine (cmpLes_any Xl[k] Xl[m] _).mono ?_; rintro e w1 ⟨rfl, hb1⟩; have hB : Hid (Below w.heap.size w w1) := (HB.out.drew).trans (hb1.mono HB.out.size); clear hb1)
      all_goals by_cases hq : 0 ≤ cmp2 Xl[k].tm Xl[k].re Xl[m].tm Xl[m].re
      all_goals first
        | (have HN : Hid (risB cLes Xl = false) := range_not hlt (HS.out.trans (decide_eq_false (by unfold cLes; omega)))
           go_wp2
           go_ret
           exact ⟨ret_bool HN.out.symm, hB.out⟩)
        | (have HT : Hid (risI cLes Xl m = true) := HS.out.trans (decide_eq_true (by unfold cLes; omega))
           go_wp2
           go_roundw
           case rel => exact ⟨m + 1, by go_num, by omega, by omega, hB.out, fun j hj => by
                         by_cases e : j = m
                         · rw [e]; exact HT.out
                         · exact HA.out j (by omega)⟩
           case measure => simp [intOf]; omega)
    · have HT : Hid (risB cLes Xl = true) := range_all (fun i hi => HA.out i (by omega))
      go_wp2
      go_ret
      exact ⟨ret_bool HT.out.symm, HB.out⟩

set_option maxRecDepth 20000 in
set_option maxHeartbeats 2000000 in
theorem ascPus_any (lo : Nat) (v : Value) (Xl : List Pu) (w : World) (hv : PusAt lo w v Xl) :
    Calls Tryz.prog 157 #[v, .func (.func 158) #[] #[]] w fun e w' => e = .returned (.bool (risB cPus Xl)) ∧ Below w.heap.size w w' := by
  have HV := hide hv
  have hm := hv.max
  unfold maxLen at hm
  obtain ⟨a, cap, rfl⟩ := hv.form
  clear hv
  go_enter Tryz.func157, Tryz.ntmps157
  go_wp2
  go_loopw [5] (fun i wr => ∃ m : Nat, i = .int .i64 m ∧ 1 ≤ m ∧ (m ≤ Xl.length ∨ m = 1) ∧ Below w.heap.size w wr ∧ ∀ j, j < m → risI cPus Xl j = true) (fun i _ => Xl.length + 1 - (intOf i).toNat)
  case atStart => exact ⟨1, rfl, Nat.le_refl _, Or.inr rfl, Below.refl _ _, fun j hj => by rw [show j = 0 by omega]; rfl⟩
  case round =>
    obtain ⟨m, rfl, hm1, hk, hb, hall⟩ := hrel
    have HB := hide hb
    have HA := hide hall
    clear hb hall
    by_cases hlt : m < Xl.length
    · obtain ⟨k, hkm⟩ : ∃ k, m = k + 1 := ⟨m - 1, by omega⟩
      have hlt0 : k < Xl.length := by omega
      obtain ⟨b, off, rfl, hbw, -, hc⟩ := HV.out.full' (by omega)
      obtain ⟨hs, hcell⟩ := hc k hlt0
      obtain ⟨ht, hdell⟩ := hc m hlt
      obtain ⟨c0, c1, c2, c3, c4⟩ := hcell.below HB.out hbw
      obtain ⟨d0, d1, d2, d3, d4⟩ := hdell.below HB.out hbw
      have HS : Hid (risI cPus Xl m = decide (cPus Xl[k] Xl[m] < 0)) := by
        subst hkm
        exact risI_at hlt
      have e2 : IntKind.i64.wrap ((m : Int) - 1) = k := by rw [IntWalk.i64_left]; unfold wrap64; omega
      have HKM := hide hkm
      clear hc hcell hdell hs ht hkm hk
      go_wp2
      go_region_with (go_at_call 158; refine (cmpPus_any Xl[k] Xl[m] _).mono ?_; rintro e w1 ⟨rfl, hb1⟩; have hB : Hid (Below w.heap.size w w1) := (HB.out.drew).trans (hb1.mono HB.out.size); clear hb1)
      all_goals by_cases hq : 0 ≤ cmp3 Xl[k].dr Xl[k].tm Xl[k].re Xl[m].dr Xl[m].tm Xl[m].re
      all_goals first
        | (have HN : Hid (risB cPus Xl = false) := range_not hlt (HS.out.trans (decide_eq_false (by unfold cPus; omega)))
           go_wp2
           go_ret
           exact ⟨ret_bool HN.out.symm, hB.out⟩)
        | (have HT : Hid (risI cPus Xl m = true) := HS.out.trans (decide_eq_true (by unfold cPus; omega))
           go_wp2
           go_roundw
           case rel => exact ⟨m + 1, by go_num, by omega, by omega, hB.out, fun j hj => by
                         by_cases e : j = m
                         · rw [e]; exact HT.out
                         · exact HA.out j (by omega)⟩
           case measure => simp [intOf]; omega)
    · have HT : Hid (risB cPus Xl = true) := range_all (fun i hi => HA.out i (by omega))
      go_wp2
      go_ret
      exact ⟨ret_bool HT.out.symm, HB.out⟩
end Go.Proofs.YthfdfdlojfdckaaGreat

