import Derived.Test.YtobijdenhbpdfaaDoorU0
namespace Go.Proofs.YtobijdenhbpdfaaDoor
open Go.RowKit Go.Deep

/-- of what there was, nothing but block ρ may have changed -/
structure Tch (ρ : Nat) (w w' : World) : Prop where
  os : w'.os = w.os
  tape : w'.tape = w.tape
  output : w'.output = w.output
  size : w.heap.size ≤ w'.heap.size
  block : ∀ k, k < w.heap.size → k ≠ ρ → w'.heap[k]? = w.heap[k]?
theorem Tch.refl (ρ : Nat) (w : World) : Tch ρ w w := ⟨rfl, rfl, rfl, Nat.le_refl _, fun _ _ _ => rfl⟩
theorem Tch.trans {ρ : Nat} {a b c : World} (h : Tch ρ a b) (k : Tch ρ b c) : Tch ρ a c :=
  ⟨k.os.trans h.os, k.tape.trans h.tape, k.output.trans h.output, Nat.le_trans h.size k.size, fun j hj hn => (k.block j (Nat.lt_of_lt_of_le hj h.size) hn).trans (h.block j hj hn)⟩
theorem Tch.below {ρ : Nat} {a b : World} (h : Below a.heap.size a b) : Tch ρ a b := ⟨h.os, h.tape, h.output, h.size, fun k hk _ => h.block k hk⟩
theorem Tch.setCell (ρ : Nat) (w : World) (i : Nat) (u : Value) : Tch ρ w (w.setCell ⟨ρ, i, none⟩ u) :=
  ⟨rfl, rfl, rfl, by simp [World.setCell], fun k _ hn => Below.heap_setCell w ⟨ρ, i, none⟩ u k hn⟩
theorem Tch.cell {ρ : Nat} {w w' : World} (h : Tch ρ w w') {p : Addr} (hp : p.block < w.heap.size) (hn : p.block ≠ ρ) : w'.cell? p = w.cell? p := World.cell?_of_block (h.block _ hp hn)
theorem Tch.frozen {ρ : Nat} {w w' : World} (h : Tch ρ w w') {p : Addr} (hp : p.block < w.heap.size) (hn : p.block ≠ ρ) : w'.frozen? p = w.frozen? p := World.frozen?_of_block (h.block _ hp hn)
theorem Tch.under {ρ B : Nat} {a b : World} (h : Tch ρ a b) (hB : B ≤ ρ) (hs : B ≤ a.heap.size) : Below B a b := ⟨h.os, h.tape, h.output, h.size, fun k hk => h.block k (by omega) (by omega)⟩
theorem Tch.box {ρ β : Nat} {w w' : World} {cs : Array Value} (h : Tch ρ w w') (hb : Box w β cs) (hn : β ≠ ρ) : Box w' β cs :=
  ⟨Nat.lt_of_lt_of_le hb.lt h.size, fun i => (h.cell (p := ⟨β, i, none⟩) hb.lt hn).trans (hb.cell i), fun i => (h.frozen (p := ⟨β, i, none⟩) hb.lt hn).trans (hb.free i)⟩

/-- the bytes of a code; they lie below block ρ -/
def CodeAt (ρ : Nat) (w : World) (v : Value) (bs : List UInt8) : Prop :=
  (∃ (a : Option Addr) (cap : Nat), v = .slice a 0 cap ∧ bs = []) ∨
  ∃ (b off cap : Nat), v = .slice (some ⟨b, off, none⟩) bs.length cap ∧ bs ≠ [] ∧ bs.length ≤ 2000 ∧ b < ρ ∧ ∀ i (h : i < bs.length), w.cell? ⟨b, off + i, none⟩ = some (.int .u8 (bs[i].toNat : Int))
theorem CodeAt.form {ρ : Nat} {w : World} {v : Value} {bs : List UInt8} (h : CodeAt ρ w v bs) : ∃ a cap, v = .slice a bs.length cap := by
  rcases h with ⟨a, cap, h, rfl⟩ | ⟨b, off, cap, h, _⟩
  · exact ⟨a, cap, h⟩
  · exact ⟨_, cap, h⟩
theorem CodeAt.tch {ρ : Nat} {w w' : World} {v : Value} {bs : List UInt8} (h : CodeAt ρ w v bs) (ht : Tch ρ w w') (hρ : ρ ≤ w.heap.size) : CodeAt ρ w' v bs := by
  rcases h with h | ⟨b, off, cap, h1, h2, h3, h4, h5⟩
  · exact Or.inl h
  · exact Or.inr ⟨b, off, cap, h1, h2, h3, h4, fun i hi => (ht.cell (p := ⟨b, off + i, none⟩) (by show b < _; omega) (by show b ≠ ρ; omega)).trans (h5 i hi)⟩
/-- a reader at block ρ, at place p of a code -/
structure Rd (w : World) (ρ p : Nat) (bs : List UInt8) : Prop where
  lt : ρ < w.heap.size
  code : ∃ v, w.cell? ⟨ρ, 0, none⟩ = some v ∧ CodeAt ρ w v bs
  place : w.cell? ⟨ρ, 1, none⟩ = some (.int .i64 p)
  free : ∀ i, w.frozen? ⟨ρ, i, none⟩ = false
theorem Rd.below {w w' : World} {ρ p : Nat} {bs : List UInt8} (h : Rd w ρ p bs) (hb : Below w.heap.size w w') : Rd w' ρ p bs := by
  obtain ⟨v, h1, h2⟩ := h.code
  have ht : Tch ρ w w' := Tch.below hb
  exact ⟨Nat.lt_of_lt_of_le h.lt hb.size, ⟨v, (hb.cell (p := ⟨ρ, 0, none⟩) h.lt).trans h1, h2.tch ht (Nat.le_of_lt h.lt)⟩, (hb.cell (p := ⟨ρ, 1, none⟩) h.lt).trans h.place, fun i => (hb.frozen (p := ⟨ρ, i, none⟩) h.lt).trans (h.free i)⟩
theorem Rd.step {w : World} {ρ p : Nat} {bs : List UInt8} (h : Rd w ρ p bs) (q : Nat) : Rd (w.setCell ⟨ρ, 1, none⟩ (.int .i64 q)) ρ q bs := by
  obtain ⟨v, h1, h2⟩ := h.code
  refine ⟨by simpa [World.setCell] using h.lt, ⟨v, ?_, h2.tch (Tch.setCell ρ w 1 _) (Nat.le_of_lt h.lt)⟩, ?_, fun i => ?_⟩
  · rw [show (w.setCell ⟨ρ, 1, none⟩ (.int .i64 q)).cell? ⟨ρ, 0, none⟩ = w.cell? ⟨ρ, 0, none⟩ from by apply World.cell?_setCell_other; simp]; exact h1
  · apply World.cell?_setCell_same; exact h.place
  · rw [World.frozen?_setCell]; exact h.free i
theorem wrap64_byte (c : UInt8) : wrap64 (c.toNat : Int) = c.toNat := by
  have := c.toNat_lt
  unfold wrap64
  omega
theorem xor_i64_nat (a b : Nat) (ha : a < 4611686018427387904) (hb : b < 4611686018427387904) : bits .xor .i64 (a : Int) (b : Int) = ((a ^^^ b : Nat) : Int) := by
  have hx : a ^^^ b < 2 ^ 62 := Nat.xor_lt_two_pow (by omega) (by omega)
  have h1 : (BitVec.ofInt 64 (a : Int)).toNat = a := by
    rw [BitVec.ofInt_natCast, BitVec.toNat_ofNat]; exact Nat.mod_eq_of_lt (by omega)
  have h2 : (BitVec.ofInt 64 (b : Int)).toNat = b := by
    rw [BitVec.ofInt_natCast, BitVec.toNat_ofNat]; exact Nat.mod_eq_of_lt (by omega)
  show IntKind.i64.wrap ((BitVec.ofInt 64 (a : Int) ^^^ BitVec.ofInt 64 (b : Int)).toNat : Int) = _
  rw [BitVec.toNat_xor, h1, h2, IntKind.wrap_i64]
  omega
theorem mod_in (x n : Int) (_hx : 0 ≤ x) (hn : 1 ≤ n) : 0 ≤ x % n ∧ x % n < n := ⟨Int.emod_nonneg _ (by omega), Int.emod_lt_of_pos _ (by omega)⟩

set_option maxRecDepth 20000 in
set_option maxHeartbeats 2000000 in
theorem pick_any (ρ p : Nat) (bs : List UInt8) (n : Int) (w : World) (h : Rd w ρ p bs) (hp : p ≤ 1000000000) (hn : 1 ≤ n) (hn2 : n ≤ 1000000) :
    Calls Tryd.prog 14 #[.pointer (some ⟨ρ, 0, none⟩), .int .i64 n] w fun e w' => ∃ x : Int, e = .returned (.int .i64 x) ∧ 0 ≤ x ∧ x < n ∧ Rd w' ρ (p + 1) bs ∧ Tch ρ w w' := by
  have HS : Hid (Rd (w.setCell ⟨ρ, 1, none⟩ (.int .i64 ((p + 1 : Nat) : Int))) ρ (p + 1) bs) := h.step (p + 1)
  have HT : Hid (Tch ρ w (w.setCell ⟨ρ, 1, none⟩ (.int .i64 ((p + 1 : Nat) : Int)))) := Tch.setCell _ _ _ _
  obtain ⟨v, hv, hc⟩ := h.code
  have hpl := h.place
  have hfr := h.free
  have hlt := h.lt
  obtain ⟨a, cap, rfl⟩ := hc.form
  have hc' := HS.out.code
  clear h
  have hcast : ((p + 1 : Nat) : Int) = (p : Int) + 1 := by omega
  rw [hcast] at HS HT hc'
  by_cases h0 : bs = []
  · subst h0
    go_enter Tryd.func14, Tryd.ntmps14
    go_wp2
    go_ret
    exact ⟨0, rfl, by omega, by omega, HS.out, HT.out⟩
  · obtain ⟨b, off, rfl, hbρ, hlen, hcell⟩ : ∃ b off, a = some ⟨b, off, none⟩ ∧ b < ρ ∧ bs.length ≤ 2000 ∧ ∀ i (h : i < bs.length), w.cell? ⟨b, off + i, none⟩ = some (.int .u8 (bs[i].toNat : Int)) := by
      rcases hc with ⟨_, _, _, e⟩ | ⟨b, off, cap', h1, h2, h3, h4, h5⟩
      · exact absurd e h0
      · injection h1 with e1
        exact ⟨b, off, e1, h4, h3, h5⟩
    have hpos : 0 < bs.length := List.length_pos_iff.2 h0
    have hbl : ((bs.length : Int) == 0) = false := by rw [beq_eq_false_iff_ne]; omega
    have hne : ¬ (b = ρ) := by omega
    have hne2 : ¬ (ρ = b) := by omega
    clear hc hc'
    by_cases hk : p < bs.length
    · have ck := hcell p hk
      have hwb := wrap64_byte bs[p]
      have HM := hide (mod_in (bs[p].toNat : Int) n (by omega) hn)
      go_enter Tryd.func14, Tryd.ntmps14
      go_wp2
      go_ret
      exact ⟨_, rfl, HM.out.1, HM.out.2, HS.out, HT.out⟩
    · have hm1 : p % bs.length < bs.length := Nat.mod_lt _ hpos
      have hm2 : (p * 7 + 3) % bs.length < bs.length := Nat.mod_lt _ hpos
      have ck1 := hcell _ hm1
      have ck2 := hcell _ hm2
      have hwb1 := wrap64_byte bs[p % bs.length]
      have hwb2 := wrap64_byte bs[(p * 7 + 3) % bs.length]
      have hb1 := (bs[p % bs.length]).toNat_lt
      have hb2 := (bs[(p * 7 + 3) % bs.length]).toNat_lt
      have ht1 : (p : Int).tmod (bs.length : Int) = ((p % bs.length : Nat) : Int) := by rw [Int.tmod_eq_emod_of_nonneg (by omega)]; exact (Int.natCast_emod _ _).symm
      have ht2 : ((p : Int) * 7 + 3).tmod (bs.length : Int) = (((p * 7 + 3) % bs.length : Nat) : Int) := by rw [Int.tmod_eq_emod_of_nonneg (by omega)]; rw [Int.natCast_emod]; rfl
      have hdv : (p : Int) / (bs.length : Int) = ((p / bs.length : Nat) : Int) := rfl
      have hdb : p / bs.length ≤ p := Nat.div_le_self _ _
      generalize hq1 : p % bs.length = i1 at *
      generalize hq2 : (p * 7 + 3) % bs.length = i2 at *
      generalize hq3 : p / bs.length = i3 at *
      generalize hy1 : (bs[i1]).toNat = y1 at *
      generalize hy2 : (bs[i2]).toNat = y2 at *
      clear hcell hq1 hq2 hq3 hy1 hy2
      go_enter Tryd.func14, Tryd.ntmps14
      go_wp2
      go_quiet (fail)
      obtain ⟨X, hX, hXb⟩ : ∃ X : Nat, (y1 : Int) * 131 + (y2 : Int) * 1117 + (p : Int) * 29 + (i3 : Int) * 53 = (X : Int) ∧ X < 4611686018427387904 := ⟨y1 * 131 + y2 * 1117 + p * 29 + i3 * 53, by omega, by omega⟩
      rw [hX]
      have hxr : bits .xor .i64 (X : Int) ((X : Int) / 64) = ((X ^^^ X / 64 : Nat) : Int) := xor_i64_nat X (X / 64) hXb (by omega)
      have HM := hide (mod_in ((X ^^^ X / 64 : Nat) : Int) n (by omega) hn)
      generalize X ^^^ X / 64 = Y at *
      clear hX
      go_wp2
      go_ret
      exact ⟨_, rfl, HM.out.1, HM.out.2, HS.out.below (below_drewN (Below.refl _ _) _), HT.out.trans (Tch.below (below_drewN (Below.refl _ _) _))⟩
end Go.Proofs.YtobijdenhbpdfaaDoor

