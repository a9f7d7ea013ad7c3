import Derived.Test.YtoklnkojacdciaaG01
import Derived.Test.YtoklnkojacdciaaG03
import Derived.Deep.MidRow
import Derived.Laws.IdiomStrings
import Derived.Laws.Concat
import Derived.Deep.RegionWith
namespace Go.Proofs.Ytoklnkojacdciaa
open Go.RowKit Go.Deep

structure Rd where
  pr : Int
  kn : Int
  sl : List Rs
def RdSmall (U : Rd) : Prop := RssSmall U.sl
structure RdAt (lo : Nat) (w : World) (v0 : Value) (U : Rd) : Prop where
  l0 : RssAt lo w v0 U.sl
theorem RdAt.below {lo : Nat} {w w' : World} {v0 : Value} {U : Rd} (h : RdAt lo w v0 U) (hb : Below w.heap.size w w') : RdAt lo w' v0 U := ⟨h.l0.below hb⟩
theorem RdAt.mono {lo lo' : Nat} {w : World} {v0 : Value} {U : Rd} (h : RdAt lo w v0 U) (hl : lo' ≤ lo) : RdAt lo' w v0 U := ⟨h.l0.mono hl⟩
theorem RdAt.set {lo : Nat} {w : World} {v0 : Value} {U : Rd} (h : RdAt lo w v0 U) {p : Addr} (hp : p.block < lo) (u : Value) : RdAt lo (w.setCell p u) v0 U := ⟨h.l0.set hp u⟩
/-- its cells -/
def rdL (U : Rd) (a0 : Option Addr) (k0 : Nat) : List Value := [.int .i64 U.pr, .int .i64 U.kn, .slice a0 U.sl.length k0]
/-- its cells, and what they lead to -/
def RdC (lo : Nat) (w : World) (cs : List Value) (U : Rd) : Prop := ∃ a0 k0, cs = rdL U a0 k0 ∧ RdAt lo w (.slice a0 U.sl.length k0) U
theorem RdC.below {lo : Nat} {w w' : World} {cs : List Value} {U : Rd} (h : RdC lo w cs U) (hb : Below w.heap.size w w') : RdC lo w' cs U := by
  obtain ⟨a0, k0, h1, h2⟩ := h
  exact ⟨a0, k0, h1, h2.below hb⟩
theorem RdC.mono {lo lo' : Nat} {w : World} {cs : List Value} {U : Rd} (h : RdC lo w cs U) (hl : lo' ≤ lo) : RdC lo' w cs U := by
  obtain ⟨a0, k0, h1, h2⟩ := h
  exact ⟨a0, k0, h1, h2.mono hl⟩
theorem RdC.set {lo : Nat} {w : World} {cs : List Value} {U : Rd} (h : RdC lo w cs U) {p : Addr} (hp : p.block < lo) (u : Value) : RdC lo (w.setCell p u) cs U := by
  obtain ⟨a0, k0, h1, h2⟩ := h
  exact ⟨a0, k0, h1, h2.set hp u⟩
theorem RdC.len {lo : Nat} {w : World} {cs : List Value} {U : Rd} (h : RdC lo w cs U) : cs.length = 3 := by
  obtain ⟨a0, k0, h1, h2⟩ := h
  rw [h1]; rfl
theorem RdC.one {lo : Nat} {w : World} {cs : List Value} {U : Rd} (h : RdC lo w cs U) : Array.all cs.toArray (·.oneCell') = true := by
  obtain ⟨a0, k0, h1, h2⟩ := h
  rw [h1]
  unfold rdL
  simp [Value.oneCell']

set_option maxHeartbeats 8000000 in
theorem szRd_c (lo : Nat) (cs : List Value) (U : Rd) (left : Int) (w : World) (h0 : 0 ≤ left) (h1 : left ≤ 1048576) (h : RdC lo w cs U) :
    Calls Try.prog 88 #[.agg cs.toArray, .int .i64 left] w
      fun e w' => ∃ r : Int, e = .returned (.int .i64 r) ∧ Below w.heap.size w w' ∧ -1 ≤ r ∧ r ≤ left ∧ (0 ≤ r → RdSmall U) := by
  obtain ⟨a0, k0, rfl, h⟩ := h
  show Calls Try.prog 88 #[.agg #[.int .i64 U.pr, .int .i64 U.kn, .slice a0 U.sl.length k0], .int .i64 left] w _
  have HL := hide h
  clear h
  go_enter Try.func88, Try.ntmps88
  go_wp2_with fail
  generalize hWa : w.alloc _ = Wa
  have HB : Hid (Below w.heap.size w Wa) := by unfold Hid; rw [← hWa]; exact one_al _ _
  have FX : Hid (Box Wa w.heap.size #[.int .i64 U.pr, .int .i64 U.kn, .slice a0 U.sl.length k0]) := by unfold Hid; rw [← hWa]; exact Box.new _ _ _ _ rfl
  clear hWa
  refine (szRss_any lo _ U.sl _ _ (by omega) (by omega) ((HL.out.below HB.out).l0)).mono ?_
  rintro e w0 ⟨q0, rfl, hb, p0a, p0b, p0c⟩
  have Q0 := hide p0c
  replace HB := hide (bt HB.out hb)
  replace FX := hide (FX.out.on hb)
  clear hb p0c
  by_cases m0 : q0 < 0
  · go_wp2
    go_ret
    exact ⟨-1, rfl, HB.out, by omega, by omega, fun h => by omega⟩
  go_wp2
  go_ret
  exact ⟨_, rfl, HB.out, by omega, by omega, fun h => Q0.out (by omega)⟩

set_option maxHeartbeats 8000000 in
theorem eqRd_c (lo lo' : Nat) (cs cs' : List Value) (U : Rd) (w : World) (h : RdC lo w cs U) (h' : RdC lo' w cs' U) :
    Calls Try.prog 83 #[.agg cs.toArray, .agg cs'.toArray] w fun e w' => e = .returned (.bool true) ∧ Below w.heap.size w w' := by
  obtain ⟨a0, k0, rfl, h⟩ := h
  obtain ⟨d0, e0, rfl, h'⟩ := h'
  show Calls Try.prog 83 #[.agg #[.int .i64 U.pr, .int .i64 U.kn, .slice a0 U.sl.length k0], .agg #[.int .i64 U.pr, .int .i64 U.kn, .slice d0 U.sl.length e0]] w _
  have HL := hide h
  have HR := hide h'
  clear h h'
  go_enter Try.func83, Try.ntmps83
  go_wp2_with fail
  generalize hWa : (World.alloc (w.alloc _) _) = Wa
  have HB : Hid (Below w.heap.size w Wa) := by unfold Hid; rw [← hWa]; exact (one_al w _).alloc (by simp) _
  have FX : Hid (Box Wa w.heap.size #[.int .i64 U.pr, .int .i64 U.kn, .slice a0 U.sl.length k0]) := by unfold Hid; rw [← hWa]; exact (Box.new _ _ _ _ rfl).on (one_al _ _)
  have FY : Hid (Box Wa (w.heap.size + 1) #[.int .i64 U.pr, .int .i64 U.kn, .slice d0 U.sl.length e0]) := by unfold Hid; rw [← hWa]; exact Box.new _ _ _ _ (by simp)
  clear hWa
  refine (eqRss_same lo lo' _ _ U.sl _ ((HL.out.below HB.out).l0) ((HR.out.below HB.out).l0)).mono ?_
  rintro e w0 ⟨rfl, hb⟩
  replace HB := hide (bt HB.out hb)
  replace FX := hide (FX.out.on hb)
  replace FY := hide (FY.out.on hb)
  clear hb
  have g0 := FX.out.cell
  have g1 := FY.out.cell
  go_wp2
  go_ret
  exact ⟨rfl, HB.out⟩

set_option maxRecDepth 20000 in
set_option maxHeartbeats 16000000 in
theorem toRd_c (lo : Nat) (cs : List Value) (U : Rd) (w : World) (h : RdC lo w cs U) (hn : RdSmall U) :
    Calls Try.prog 93 #[.agg cs.toArray] w
      fun e w' => ∃ cs', e = .returned (.agg cs'.toArray) ∧ Below w.heap.size w w' ∧ RdC w.heap.size w' cs' U := by
  obtain ⟨a0, k0, rfl, h⟩ := h
  show Calls Try.prog 93 #[.agg #[.int .i64 U.pr, .int .i64 U.kn, .slice a0 U.sl.length k0]] w _
  have HL := hide h
  have hn0 := hn
  clear h
  go_enter Try.func93, Try.ntmps93
  go_wp2_with fail
  obtain ⟨wz, hwz, FX, FR, FO, HB⟩ : ∃ wz, wz = ((w.alloc (.cells #[.int .i64 U.pr, .int .i64 U.kn, .slice a0 U.sl.length k0] 94)).alloc (.cells #[.int .i64 0, .int .i64 0, .slice none 0 0] 46)).alloc (.cells #[.int .i64 U.pr, .int .i64 U.kn, .slice none 0 0] 46) ∧
      Hid (Box wz w.heap.size #[.int .i64 U.pr, .int .i64 U.kn, .slice a0 U.sl.length k0]) ∧ Hid (Box wz (w.heap.size + 1) #[.int .i64 0, .int .i64 0, .slice none 0 0]) ∧ Hid (Box wz (w.heap.size + 1 + 1) #[.int .i64 U.pr, .int .i64 U.kn, .slice none 0 0]) ∧ Hid (Below w.heap.size w wz) :=
    ⟨_, rfl, ((Box.new w _ _ _ rfl).on (one_al _ _)).on (one_al _ _), (Box.new _ _ _ _ (by simp)).on (one_al _ _), Box.new _ _ _ _ (by simp), ((one_al _ _).trans ((one_al _ _).mono (by simp))).trans ((one_al _ _).mono (by simp; omega))⟩
  rw [← hwz]
  clear hwz
  generalize wz = v0 at *
  have hz0 : w.heap.size + 3 ≤ v0.heap.size := by have := FO.out.lt; omega
  refine (toRss_any lo _ U.sl _ ((HL.out.below HB.out).l0) hn0).mono ?_
  rintro e x0 ⟨u, rfl, hb, hs⟩
  obtain ⟨b0, m0, rfl⟩ := hs.form
  have N0 := hide (hs.mono hz0)
  replace FX := hide (FX.out.on hb)
  replace FR := hide (FR.out.on hb)
  replace FO := hide (FO.out.on hb)
  replace HB := hide (bt HB.out hb)
  clear hb hs hz0
  have g0 := FO.out.cell
  have g1 := FO.out.free
  have g2 := FR.out.cell
  have g3 := FR.out.free
  have g4 := FX.out.cell
  go_wp2
  refine bodyPost_ret (v := .agg #[.int .i64 U.pr, .int .i64 U.kn, .slice b0 U.sl.length m0]) (by simp [results, Try.results93, go_sem, g2]) rfl ⟨rdL U b0 m0, rfl, ?_, b0, m0, rfl, ⟨?_⟩⟩
  · repeat (refine Below.setCell ?_ (by simp only []; omega) _)
    exact HB.out
  · refine RssAt.mono (lo := w.heap.size + 3) ?_ (by omega)
    repeat (refine RssAt.set ?_ (by simp only []; omega) _)
    exact N0.out
end Go.Proofs.Ytoklnkojacdciaa
namespace Go.Proofs.Ytoklnkojacdciaa
open Go.RowKit Go.Deep

/-- the digits of a number, ahead of what there is -/
def digs : Nat → Nat → List UInt8 → List UInt8
  | 0, _, acc => acc
  | f + 1, k, acc => if k = 0 then acc else digs f (k / 10) (UInt8.ofNat (48 + k % 10) :: acc)
theorem digs_zero (f : Nat) (acc : List UInt8) : digs f 0 acc = acc := by cases f <;> simp [digs]
theorem digs_fuel (k : Nat) : ∀ f acc, k ≤ f → digs f k acc = digs k k acc := by
  induction k using Nat.strongRecOn with
  | _ k ih =>
    intro f acc hf
    by_cases h0 : k = 0
    · subst h0; rw [digs_zero, digs_zero]
    · obtain ⟨f', rfl⟩ : ∃ f', f = f' + 1 := ⟨f - 1, by omega⟩
      obtain ⟨k', rfl⟩ : ∃ k', k = k' + 1 := ⟨k - 1, by omega⟩
      have h1 : (k' + 1) / 10 < k' + 1 := by omega
      rw [show digs (f' + 1) (k' + 1) acc = digs f' ((k' + 1) / 10) (UInt8.ofNat (48 + (k' + 1) % 10) :: acc) from by simp [digs],
        show digs (k' + 1) (k' + 1) acc = digs k' ((k' + 1) / 10) (UInt8.ofNat (48 + (k' + 1) % 10) :: acc) from by simp [digs]]
      rw [ih _ h1 f' _ (by omega), ih _ h1 k' _ (by omega)]
theorem digs_step (k : Nat) (acc : List UInt8) (h : 0 < k) : digs k k acc = digs (k / 10) (k / 10) (UInt8.ofNat (48 + k % 10) :: acc) := by
  obtain ⟨k', rfl⟩ : ∃ k', k = k' + 1 := ⟨k - 1, by omega⟩
  rw [show digs (k' + 1) (k' + 1) acc = digs k' ((k' + 1) / 10) (UInt8.ofNat (48 + (k' + 1) % 10) :: acc) from by simp [digs]]
  exact digs_fuel _ _ _ (by omega)
/-- the mark of a number -/
def mtB (k : Int) : ByteArray := if k ≤ 0 then ⟨#[109, 48]⟩ else ⟨(109 :: digs k.toNat k.toNat []).toArray⟩

set_option maxRecDepth 20000 in
set_option maxHeartbeats 400000 in
theorem markText_any (k : Int) (w : World) (hk : k ≤ 4000000000000000000) :
    Calls Try.prog 59 #[.int .i64 k] w fun e w' => e = .returned (.string (mtB k)) ∧ Below w.heap.size w w' := by
  by_cases h0 : k ≤ 0
  · go_enter Try.func59, Try.ntmps59
    go_wp2
    go_ret
    exact ⟨by unfold mtB; rw [if_pos h0]; rfl, Below.refl _ _⟩
  · obtain ⟨n, rfl⟩ := Int.eq_ofNat_of_zero_le (show 0 ≤ k by omega)
    go_enter Try.func59, Try.ntmps59
    go_wp2
    go_loopw [0, 3] (fun q o wr => ∃ (j : Nat) (l : List UInt8), q = .int .i64 j ∧ o = .string ⟨l.toArray⟩ ∧ l.length + j ≤ n ∧ Below w.heap.size w wr ∧ Hid (digs j j l = digs n n [])) (fun q _ _ => (intOf q).toNat)
    case atStart => exact ⟨n, [], rfl, rfl, by simp, Below.refl _ _, rfl⟩
    case round =>
      obtain ⟨j, l, rfl, rfl, hl, hb, hd⟩ := hrel
      by_cases hj : 0 < j
      · have hn8 : (UInt8.ofNat (48 + j % 10)).toNat = 48 + j % 10 := by rw [UInt8.toNat_ofNat']; omega
        have hcv : (convert 129 9 (.slice (some ⟨wr.heap.size, 0, none⟩) 1 1)).run Try.prog (wr.alloc (.cells #[.int .u8 (48 + (j : Int) % 10)] 5)) = .ok (.string ⟨#[UInt8.ofNat (48 + j % 10)]⟩) (wr.alloc (.cells #[.int .u8 (48 + (j : Int) % 10)] 5)) := by
          have := run_convert_bytes_back (P := Try.prog) (wr.alloc (.cells #[.int .u8 (48 + (j : Int) % 10)] 5)) 129 9 5 ⟨wr.heap.size, 0, none⟩ 1 [UInt8.ofNat (48 + j % 10)] Try.underlying129 Try.underlying5 Try.underlying9 (fun i hi => by
            have e : i = 0 := by simp at hi; omega
            subst e
            simp only [List.getElem_cons_zero, hn8]
            simp [Addr.add])
          exact this
        have had : ∀ W, (Op.stringOp .add ⟨#[UInt8.ofNat (48 + j % 10)]⟩ ⟨l.toArray⟩).run Try.prog W = .ok (.string ⟨(UInt8.ofNat (48 + j % 10) :: l).toArray⟩) W := fun W => by
          have := run_string_add_sum (P := Try.prog) (w := W) ⟨#[UInt8.ofNat (48 + j % 10)]⟩ ⟨l.toArray⟩ (by simp [ByteArray.size]; omega)
          rw [this]
          rfl
        have HD : Hid (digs (j / 10) (j / 10) (UInt8.ofNat (48 + j % 10) :: l) = digs n n []) := by unfold Hid; rw [← digs_step j l hj]; exact hd
        have HB := hide hb
        clear hn8 hd hb
        generalize UInt8.ofNat (48 + j % 10) = dg at *
        go_wp2
        go_roundw
        case rel => exact ⟨j / 10, dg :: l, by go_num, rfl, by simp; omega, HB.out.alloc HB.out.size _, HD⟩
        case measure => simp [intOf]; omega
      · have had : ∀ W, (Op.stringOp .add ⟨#[109]⟩ ⟨l.toArray⟩).run Try.prog W = .ok (.string ⟨(109 :: l).toArray⟩) W := fun W => by
          have := run_string_add_sum (P := Try.prog) (w := W) ⟨#[109]⟩ ⟨l.toArray⟩ (by simp [ByteArray.size]; omega)
          rw [this]
          rfl
        have HM : Hid (mtB n = ⟨(109 :: l).toArray⟩) := by
          have e : j = 0 := by omega
          subst e
          unfold Hid mtB
          rw [if_neg (by omega), Int.toNat_natCast, ← hd, digs_zero]
        clear hd
        go_wp2
        go_ret
        exact ⟨by rw [HM.out]; rfl, hb⟩

theorem mt_size (k : Int) (hk : k ≤ 4000000000000000000) : (mtB k).size ≤ maxLen := by
  unfold mtB
  by_cases h : k ≤ 0
  · rw [if_pos h]; simp [ByteArray.size, maxLen]
  · rw [if_neg h]
    have : ∀ (f j : Nat) (l : List UInt8), (digs f j l).length ≤ l.length + f := by
      intro f
      induction f with
      | zero => intro j l; simp [digs]
      | succ f ih =>
        intro j l
        rw [digs]
        by_cases h0 : j = 0
        · rw [if_pos h0]; omega
        · rw [if_neg h0]
          have := ih (j / 10) (UInt8.ofNat (48 + j % 10) :: l)
          simp only [List.length_cons] at this; omega
    have := this k.toNat k.toNat []
    simp [ByteArray.size, maxLen] at *
    omega
/-- ONLY THE BLOCKS FROM lo TO hi MAY HAVE TURNED; new ones may have come. -/
structure Touch (lo hi : Nat) (w w' : World) : Prop where
  os : w'.os = w.os
  tape : w'.tape = w.tape
  output : w'.output = w.output
  size : w.heap.size ≤ w'.heap.size
  block : ∀ k, k < w.heap.size → (k < lo ∨ hi ≤ k) → w'.heap[k]? = w.heap[k]?
theorem Touch.refl (lo hi : Nat) (w : World) : Touch lo hi w w := ⟨rfl, rfl, rfl, Nat.le_refl _, fun _ _ _ => rfl⟩
theorem Touch.trans {lo hi : Nat} {a b c : World} (h : Touch lo hi a b) (k : Touch lo hi b c) : Touch lo hi a c :=
  ⟨k.os.trans h.os, k.tape.trans h.tape, k.output.trans h.output, Nat.le_trans h.size k.size, fun i hi' ho => (k.block i (Nat.lt_of_lt_of_le hi' h.size) ho).trans (h.block i hi' ho)⟩
theorem Touch.below {lo hi : Nat} {a b : World} (h : Below a.heap.size a b) : Touch lo hi a b := ⟨h.os, h.tape, h.output, h.size, fun k hk _ => h.block k hk⟩
theorem Touch.setCell (lo hi : Nat) (w : World) (p : Addr) (u : Value) (h : lo ≤ p.block ∧ p.block < hi) : Touch lo hi w (w.setCell p u) :=
  ⟨rfl, rfl, rfl, by simp [World.setCell], fun k _ ho => Below.heap_setCell _ _ _ _ (by omega)⟩
theorem Touch.cell {lo hi : Nat} {w w' : World} (h : Touch lo hi w w') {p : Addr} (hp : p.block < w.heap.size) (ho : p.block < lo ∨ hi ≤ p.block) : w'.cell? p = w.cell? p := World.cell?_of_block (w := w) (h.block p.block hp ho)
theorem Touch.frozen {lo hi : Nat} {w w' : World} (h : Touch lo hi w w') {p : Addr} (hp : p.block < w.heap.size) (ho : p.block < lo ∨ hi ≤ p.block) : w'.frozen? p = w.frozen? p := World.frozen?_of_block (w := w) (h.block p.block hp ho)
theorem Touch.wide {lo hi lo' hi' : Nat} {a b : World} (h : Touch lo hi a b) (h1 : lo' ≤ lo) (h2 : hi ≤ hi') : Touch lo' hi' a b := ⟨h.os, h.tape, h.output, h.size, fun k hk ho => h.block k hk (by omega)⟩
/-- what was touched from lo on leaves all below as it was -/
theorem Touch.under {lo hi : Nat} {a b : World} (h : Touch lo hi a b) (hl : lo ≤ a.heap.size) : Below lo a b := ⟨h.os, h.tape, h.output, h.size, fun k hk => h.block k (by omega) (Or.inl hk)⟩

/-! books of one's own: only some cells of a block, and the blocks of an interval, may have turned -/
structure Near (b o n lo hi : Nat) (w w' : World) : Prop where
  os : w'.os = w.os
  tape : w'.tape = w.tape
  output : w'.output = w.output
  size : w.heap.size ≤ w'.heap.size
  block : ∀ k, k < w.heap.size → k ≠ b → (k < lo ∨ hi ≤ k) → w'.heap[k]? = w.heap[k]?
  cell : ∀ i, (i < o ∨ o + n ≤ i) → w'.cell? ⟨b, i, none⟩ = w.cell? ⟨b, i, none⟩
  frz : ∀ i, w'.frozen? ⟨b, i, none⟩ = w.frozen? ⟨b, i, none⟩
theorem Near.refl (b o n lo hi : Nat) (w : World) : Near b o n lo hi w w := ⟨rfl, rfl, rfl, Nat.le_refl _, fun _ _ _ _ => rfl, fun _ _ => rfl, fun _ => rfl⟩
theorem Near.trans {b o n lo hi : Nat} {u v w : World} (h : Near b o n lo hi u v) (k : Near b o n lo hi v w) : Near b o n lo hi u w :=
  ⟨k.os.trans h.os, k.tape.trans h.tape, k.output.trans h.output, Nat.le_trans h.size k.size, fun i hi' hb ho => (k.block i (Nat.lt_of_lt_of_le hi' h.size) hb ho).trans (h.block i hi' hb ho), fun i hi' => (k.cell i hi').trans (h.cell i hi'), fun i => (k.frz i).trans (h.frz i)⟩
theorem Near.below {b o n lo hi : Nat} {w w' : World} (h : Below w.heap.size w w') (hb : b < w.heap.size) : Near b o n lo hi w w' :=
  ⟨h.os, h.tape, h.output, h.size, fun k hk _ _ => h.block k hk, fun i _ => h.cell (p := ⟨b, i, none⟩) hb, fun i => h.frozen (p := ⟨b, i, none⟩) hb⟩
theorem Near.touch {b o n lo hi lo' hi' : Nat} {w w' : World} (h : Touch lo' hi' w w') (hb : b < w.heap.size) (h1 : lo ≤ lo') (h2 : hi' ≤ hi) (hx : b < lo' ∨ hi' ≤ b) : Near b o n lo hi w w' :=
  ⟨h.os, h.tape, h.output, h.size, fun k hk _ ho => h.block k hk (by omega), fun i _ => h.cell (p := ⟨b, i, none⟩) hb hx, fun i => h.frozen (p := ⟨b, i, none⟩) hb hx⟩
theorem Near.set (b o n lo hi : Nat) (w : World) (i : Nat) (u : Value) (h1 : o ≤ i) (h2 : i < o + n) : Near b o n lo hi w (w.setCell ⟨b, i, none⟩ u) :=
  ⟨rfl, rfl, rfl, by simp [World.setCell], fun k _ hb _ => Below.heap_setCell _ _ _ _ hb, fun j hj => by apply World.cell?_setCell_other; simp only [ne_eq, Addr.mk.injEq, not_and]; omega, fun j => by rw [World.frozen?_setCell]⟩
theorem Near.wide {b o n lo hi lo' hi' : Nat} {w w' : World} (h : Near b o n lo hi w w') (_hb : b < w.heap.size) (h1 : lo' ≤ lo) (h2 : hi ≤ hi') (hx : lo' ≤ b ∧ b < hi') : Touch lo' hi' w w' :=
  ⟨h.os, h.tape, h.output, h.size, fun k hk ho => h.block k hk (by omega) (by omega)⟩
theorem Near.out {b o n lo hi : Nat} {w w' : World} (h : Near b o n lo hi w w') {p : Addr} (hp : p.block < w.heap.size) (hb : p.block ≠ b) (ho : p.block < lo ∨ hi ≤ p.block) : w'.cell? p = w.cell? p ∧ w'.frozen? p = w.frozen? p :=
  ⟨World.cell?_of_block (w := w) (h.block p.block hp hb ho), World.frozen?_of_block (w := w) (h.block p.block hp hb ho)⟩
theorem cne {v : World} {b i j : Nat} {u : Value} (h : i ≠ j) : (v.setCell ⟨b, i, none⟩ u).cell? ⟨b, j, none⟩ = v.cell? ⟨b, j, none⟩ := by
  apply World.cell?_setCell_other
  simp only [ne_eq, Addr.mk.injEq, not_and]
  omega
theorem Touch.setB (B : Nat) (w : World) (i : Nat) (u : Value) : Touch B (B + 1) w (w.setCell ⟨B, i, none⟩ u) := Touch.setCell _ _ _ _ _ ⟨Nat.le_refl _, Nat.lt_succ_self _⟩
end Go.Proofs.Ytoklnkojacdciaa
