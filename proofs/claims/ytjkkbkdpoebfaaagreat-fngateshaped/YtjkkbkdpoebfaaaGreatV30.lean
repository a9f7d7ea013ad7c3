import Derived.Test.YtjkkbkdpoebfaaaGreatV26
import Derived.Test.YtjkkbkdpoebfaaaGreatV29
namespace Go.Proofs.YtjkkbkdpoebfaaaGreat
open Go.RowKit Go.Deep

def fieldV (n : ByteArray) (k lo hi : Int) (ws : Value) (tt : ByteArray) (ro : Int) (mu fx : Bool) (df we : ByteArray) : Value :=
  .agg #[.string n, .int .i64 k, .int .i64 lo, .int .i64 hi, ws, .string tt, .int .i64 ro, .bool mu, .bool fx, .string df, .string we]

set_option maxHeartbeats 1000000 in
theorem l11Num_any (n df we : ByteArray) (m : Int) (mu fx : Bool) (w : World) :
    Calls Tryz.prog 81 #[.string n, .int .i64 m, .bool mu, .bool fx, .string df, .string we] w fun e w' => e = .returned (fieldV n 1 1 m (.slice none 0 0) ⟨#[]⟩ 0 mu fx df we) ∧ Below w.heap.size w w' := by
  go_enter Tryz.func81, Tryz.ntmps81
  go_wp2
  refine bodyPost_ret (v := fieldV n 1 1 m (.slice none 0 0) ⟨#[]⟩ 0 mu fx df we) (by simp [results, Tryz.results81, go_sem, fieldV]) rfl ⟨rfl, ?_⟩
  repeat (refine Below.setCell ?_ (by simp only []; omega) _)
  exact one_al _ _

set_option maxHeartbeats 1000000 in
theorem l11Word_any (n df : ByteArray) (a : Option Addr) (k c : Nat) (w : World) :
    Calls Tryz.prog 82 #[.string n, .slice a k c, .string df] w fun e w' => e = .returned (fieldV n 2 0 0 (.slice a k c) ⟨#[]⟩ 0 false false df ⟨#[]⟩) ∧ Below w.heap.size w w' := by
  go_enter Tryz.func82, Tryz.ntmps82
  go_wp2
  refine bodyPost_ret (v := fieldV n 2 0 0 (.slice a k c) ⟨#[]⟩ 0 false false df ⟨#[]⟩) (by simp [results, Tryz.results82, go_sem, fieldV]) rfl ⟨rfl, ?_⟩
  repeat (refine Below.setCell ?_ (by simp only []; omega) _)
  exact one_al _ _

set_option maxHeartbeats 1000000 in
theorem l11Link_any (n t : ByteArray) (r : Int) (w : World) :
    Calls Tryz.prog 83 #[.string n, .string t, .int .i64 r] w fun e w' => e = .returned (fieldV n 4 0 0 (.slice none 0 0) t r false false ⟨#[]⟩ ⟨#[]⟩) ∧ Below w.heap.size w w' := by
  go_enter Tryz.func83, Tryz.ntmps83
  go_wp2
  refine bodyPost_ret (v := fieldV n 4 0 0 (.slice none 0 0) t r false false ⟨#[]⟩ ⟨#[]⟩) (by simp [results, Tryz.results83, go_sem, fieldV]) rfl ⟨rfl, ?_⟩
  repeat (refine Below.setCell ?_ (by simp only []; omega) _)
  exact one_al _ _


theorem box_blkE {W W' : World} {β : Nat} {cs : Array Value} (h : Box W β cs) (e : W'.heap[β]? = W.heap[β]?) (hs : W.heap.size ≤ W'.heap.size) : Box W' β cs :=
  ⟨Nat.lt_of_lt_of_le h.lt hs, fun i => (World.cell?_of_block (a := ⟨β, i, none⟩) e).trans (h.cell i), fun i => (World.frozen?_of_block (a := ⟨β, i, none⟩) e).trans (h.free i)⟩
set_option maxRecDepth 20000 in
set_option maxHeartbeats 16000000 in
theorem l11Law_any (w : World) :
    Calls Tryz.prog 46 #[] w fun e w' => ∃ (vs : Value) (tb b : Nat) (Ls : List SX) (Lm : List Md), e = .returned (.agg #[vs, .slice (some ⟨b, 0, none⟩) 3 3, .slice (some ⟨tb, 0, none⟩) 3 3]) ∧ ShsG w.heap.size vs Ls w' ∧ Ls.length = 3 ∧ MdR w.heap.size (.slice (some ⟨b, 0, none⟩) 3 3) Lm w' ∧ Lm.length = 3 ∧ Below w.heap.size w w' := by
  go_enter Tryz.func46, Tryz.ntmps46
  go_upto_region 1 with fail
  generalize hW0 : w.alloc _ = w0
  have BL : Hid (Below w.heap.size w w0) := by unfold Hid; rw [← hW0]; exact one_al _ _
  have BZ : Hid (Box w0 w.heap.size #[.slice none 0 0, .slice none 0 0, .slice none 0 0]) := by unfold Hid; rw [← hW0]; exact Box.new _ _ _ _ rfl
  have hzw0 : w.heap.size < w0.heap.size := BZ.out.lt
  clear hW0
  go_wp2_with fail
  refine (l11Num_any _ _ _ _ _ _ _).mono ?_
  rintro e w1 ⟨rfl, hb⟩
  unfold fieldV
  replace BL := hide (bt BL.out hb)
  replace BZ := hide (BZ.out.on hb)
  have hzw1 := hb.size
  clear hb
  go_wp2_with fail
  obtain ⟨w2, hwx⟩ : ∃ vv, vv = w1.alloc (.cells #[.string ⟨#[97]⟩, .string ⟨#[98]⟩, .string ⟨#[99]⟩] 9) := ⟨_, rfl⟩
  rw [← hwx]
  have hb : Below w1.heap.size w1 w2 := by rw [hwx]; exact one_al _ _
  replace BL := hide (bt BL.out hb)
  replace BZ := hide (BZ.out.on hb)
  have hzw2 := hb.size
  clear hb
  have W1 : Hid (Box w2 w1.heap.size #[.string ⟨#[97]⟩, .string ⟨#[98]⟩, .string ⟨#[99]⟩]) := by unfold Hid; rw [hwx]; exact Box.new _ _ _ _ rfl
  clear hwx
  refine (l11Word_any _ _ _ _ _ _).mono ?_
  rintro e w3 ⟨rfl, hb⟩
  unfold fieldV
  replace BL := hide (bt BL.out hb)
  replace BZ := hide (BZ.out.on hb)
  replace W1 := hide (W1.out.on hb)
  have hzw3 := hb.size
  clear hb
  go_wp2_with fail
  obtain ⟨w4, hwx⟩ : ∃ vv, vv = w3.alloc (.cells #[.string ⟨#[114, 111, 111, 109]⟩, .int .i64 1, .int .i64 1, .int .i64 64, .slice none 0 0, .string ⟨#[]⟩, .int .i64 0, .bool true, .bool false, .string ⟨#[]⟩, .string ⟨#[114, 111, 111, 109]⟩, .string ⟨#[122, 111, 110, 101]⟩, .int .i64 2, .int .i64 0, .int .i64 0, .slice (some ⟨w1.heap.size, 0, none⟩) 3 3, .string ⟨#[]⟩, .int .i64 0, .bool false, .bool false, .string ⟨#[97]⟩, .string ⟨#[]⟩] 56) := ⟨_, rfl⟩
  rw [← hwx]
  have hb : Below w3.heap.size w3 w4 := by rw [hwx]; exact one_al _ _
  replace BL := hide (bt BL.out hb)
  replace BZ := hide (BZ.out.on hb)
  replace W1 := hide (W1.out.on hb)
  have hzw4 := hb.size
  clear hb
  have O1 : Hid (World.ownsRow w4 w0.heap.size 56 11 (.slice (some ⟨w3.heap.size, 0, none⟩) 2 2) 2 (flatC fdC [(.slice none 0 0, ⟨⟨#[114, 111, 111, 109]⟩, 1, 1, 64, [], ⟨#[]⟩, 0, true, false, ⟨#[]⟩, ⟨#[114, 111, 111, 109]⟩⟩), (.slice (some ⟨w1.heap.size, 0, none⟩) 3 3, ⟨⟨#[122, 111, 110, 101]⟩, 2, 0, 0, [⟨#[97]⟩, ⟨#[98]⟩, ⟨#[99]⟩], ⟨#[]⟩, 0, false, false, ⟨#[97]⟩, ⟨#[]⟩⟩)])) := by unfold Hid; rw [hwx]; exact owns_built w3 (flatC fdC [(.slice none 0 0, ⟨⟨#[114, 111, 111, 109]⟩, 1, 1, 64, [], ⟨#[]⟩, 0, true, false, ⟨#[]⟩, ⟨#[114, 111, 111, 109]⟩⟩), (.slice (some ⟨w1.heap.size, 0, none⟩) 3 3, ⟨⟨#[122, 111, 110, 101]⟩, 2, 0, 0, [⟨#[97]⟩, ⟨#[98]⟩, ⟨#[99]⟩], ⟨#[]⟩, 0, false, false, ⟨#[97]⟩, ⟨#[]⟩⟩)]) (by omega) (by unfold maxLen; omega) rfl
  have HZ1 : Hid (w4.heap.size = w3.heap.size + 1) := by unfold Hid; rw [hwx]; simp
  clear hwx
  obtain ⟨w5, hwx⟩ : ∃ vv, vv = w4.alloc (.cells #[.string ⟨#[98, 101, 114, 116, 104]⟩, .slice (some ⟨w3.heap.size, 0, none⟩) 2 2] 45) := ⟨_, rfl⟩
  rw [← hwx]
  have hb : Below w4.heap.size w4 w5 := by rw [hwx]; exact one_al _ _
  replace BL := hide (bt BL.out hb)
  replace BZ := hide (BZ.out.on hb)
  replace W1 := hide (W1.out.on hb)
  replace O1 := hide (owns_kept O1.out fun k hk => hb.block k (owns_lt O1.out hk).1)
  have hzw5 := hb.size
  clear hb
  have S1 : Hid (Box w5 (w3.heap.size + 1) #[.string ⟨#[98, 101, 114, 116, 104]⟩, .slice (some ⟨w3.heap.size, 0, none⟩) 2 2]) := by unfold Hid; rw [hwx]; exact Box.new _ _ _ _ HZ1.out
  clear hwx
  refine (l11Num_any _ _ _ _ _ _ _).mono ?_
  rintro e w6 ⟨rfl, hb⟩
  unfold fieldV
  replace BL := hide (bt BL.out hb)
  replace BZ := hide (BZ.out.on hb)
  replace W1 := hide (W1.out.on hb)
  replace O1 := hide (owns_kept O1.out fun k hk => hb.block k (owns_lt O1.out hk).1)
  replace S1 := hide (S1.out.on hb)
  have hzw6 := hb.size
  clear hb
  go_wp2_with fail
  obtain ⟨w7, hwx⟩ : ∃ vv, vv = w6.alloc (.cells #[.string ⟨#[98, 105, 103]⟩, .string ⟨#[115, 109, 97, 108, 108]⟩] 9) := ⟨_, rfl⟩
  rw [← hwx]
  have hb : Below w6.heap.size w6 w7 := by rw [hwx]; exact one_al _ _
  replace BL := hide (bt BL.out hb)
  replace BZ := hide (BZ.out.on hb)
  replace W1 := hide (W1.out.on hb)
  replace O1 := hide (owns_kept O1.out fun k hk => hb.block k (owns_lt O1.out hk).1)
  replace S1 := hide (S1.out.on hb)
  have hzw7 := hb.size
  clear hb
  have W2 : Hid (Box w7 w6.heap.size #[.string ⟨#[98, 105, 103]⟩, .string ⟨#[115, 109, 97, 108, 108]⟩]) := by unfold Hid; rw [hwx]; exact Box.new _ _ _ _ rfl
  clear hwx
  refine (l11Word_any _ _ _ _ _ _).mono ?_
  rintro e w8 ⟨rfl, hb⟩
  unfold fieldV
  replace BL := hide (bt BL.out hb)
  replace BZ := hide (BZ.out.on hb)
  replace W1 := hide (W1.out.on hb)
  replace O1 := hide (owns_kept O1.out fun k hk => hb.block k (owns_lt O1.out hk).1)
  replace S1 := hide (S1.out.on hb)
  replace W2 := hide (W2.out.on hb)
  have hzw8 := hb.size
  clear hb
  go_wp2_with fail
  refine (l11Link_any _ _ _ _).mono ?_
  rintro e w9 ⟨rfl, hb⟩
  unfold fieldV
  replace BL := hide (bt BL.out hb)
  replace BZ := hide (BZ.out.on hb)
  replace W1 := hide (W1.out.on hb)
  replace O1 := hide (owns_kept O1.out fun k hk => hb.block k (owns_lt O1.out hk).1)
  replace S1 := hide (S1.out.on hb)
  replace W2 := hide (W2.out.on hb)
  have hzw9 := hb.size
  clear hb
  go_wp2_with fail
  refine (l11Link_any _ _ _ _).mono ?_
  rintro e w10 ⟨rfl, hb⟩
  unfold fieldV
  replace BL := hide (bt BL.out hb)
  replace BZ := hide (BZ.out.on hb)
  replace W1 := hide (W1.out.on hb)
  replace O1 := hide (owns_kept O1.out fun k hk => hb.block k (owns_lt O1.out hk).1)
  replace S1 := hide (S1.out.on hb)
  replace W2 := hide (W2.out.on hb)
  have hzw10 := hb.size
  clear hb
  go_wp2_with fail
  refine (l11Link_any _ _ _ _).mono ?_
  rintro e w11 ⟨rfl, hb⟩
  unfold fieldV
  replace BL := hide (bt BL.out hb)
  replace BZ := hide (BZ.out.on hb)
  replace W1 := hide (W1.out.on hb)
  replace O1 := hide (owns_kept O1.out fun k hk => hb.block k (owns_lt O1.out hk).1)
  replace S1 := hide (S1.out.on hb)
  replace W2 := hide (W2.out.on hb)
  have hzw11 := hb.size
  clear hb
  go_wp2_with fail
  obtain ⟨w12, hwx⟩ : ∃ vv, vv = w11.alloc (.cells #[.string ⟨#[110, 101, 101, 100]⟩, .int .i64 1, .int .i64 1, .int .i64 32, .slice none 0 0, .string ⟨#[]⟩, .int .i64 0, .bool false, .bool false, .string ⟨#[49]⟩, .string ⟨#[110, 101, 101, 100]⟩, .string ⟨#[109, 111, 100, 101]⟩, .int .i64 2, .int .i64 0, .int .i64 0, .slice (some ⟨w6.heap.size, 0, none⟩) 2 2, .string ⟨#[]⟩, .int .i64 0, .bool false, .bool false, .string ⟨#[]⟩, .string ⟨#[]⟩, .string ⟨#[111, 110]⟩, .int .i64 4, .int .i64 0, .int .i64 0, .slice none 0 0, .string ⟨#[98, 101, 114, 116, 104]⟩, .int .i64 1, .bool false, .bool false, .string ⟨#[]⟩, .string ⟨#[]⟩, .string ⟨#[118, 111, 108]⟩, .int .i64 4, .int .i64 0, .int .i64 0, .slice none 0 0, .string ⟨#[118, 111, 108]⟩, .int .i64 2, .bool false, .bool false, .string ⟨#[]⟩, .string ⟨#[]⟩, .string ⟨#[111, 102]⟩, .int .i64 4, .int .i64 0, .int .i64 0, .slice none 0 0, .string ⟨#[106, 111, 98]⟩, .int .i64 3, .bool false, .bool false, .string ⟨#[]⟩, .string ⟨#[]⟩] 56) := ⟨_, rfl⟩
  rw [← hwx]
  have hb : Below w11.heap.size w11 w12 := by rw [hwx]; exact one_al _ _
  replace BL := hide (bt BL.out hb)
  replace BZ := hide (BZ.out.on hb)
  replace W1 := hide (W1.out.on hb)
  replace O1 := hide (owns_kept O1.out fun k hk => hb.block k (owns_lt O1.out hk).1)
  replace S1 := hide (S1.out.on hb)
  replace W2 := hide (W2.out.on hb)
  have hzw12 := hb.size
  clear hb
  have O2 : Hid (World.ownsRow w12 w0.heap.size 56 11 (.slice (some ⟨w11.heap.size, 0, none⟩) 5 5) 5 (flatC fdC [(.slice none 0 0, ⟨⟨#[110, 101, 101, 100]⟩, 1, 1, 32, [], ⟨#[]⟩, 0, false, false, ⟨#[49]⟩, ⟨#[110, 101, 101, 100]⟩⟩), (.slice (some ⟨w6.heap.size, 0, none⟩) 2 2, ⟨⟨#[109, 111, 100, 101]⟩, 2, 0, 0, [⟨#[98, 105, 103]⟩, ⟨#[115, 109, 97, 108, 108]⟩], ⟨#[]⟩, 0, false, false, ⟨#[]⟩, ⟨#[]⟩⟩), (.slice none 0 0, ⟨⟨#[111, 110]⟩, 4, 0, 0, [], ⟨#[98, 101, 114, 116, 104]⟩, 1, false, false, ⟨#[]⟩, ⟨#[]⟩⟩), (.slice none 0 0, ⟨⟨#[118, 111, 108]⟩, 4, 0, 0, [], ⟨#[118, 111, 108]⟩, 2, false, false, ⟨#[]⟩, ⟨#[]⟩⟩), (.slice none 0 0, ⟨⟨#[111, 102]⟩, 4, 0, 0, [], ⟨#[106, 111, 98]⟩, 3, false, false, ⟨#[]⟩, ⟨#[]⟩⟩)])) := by unfold Hid; rw [hwx]; exact owns_built w11 (flatC fdC [(.slice none 0 0, ⟨⟨#[110, 101, 101, 100]⟩, 1, 1, 32, [], ⟨#[]⟩, 0, false, false, ⟨#[49]⟩, ⟨#[110, 101, 101, 100]⟩⟩), (.slice (some ⟨w6.heap.size, 0, none⟩) 2 2, ⟨⟨#[109, 111, 100, 101]⟩, 2, 0, 0, [⟨#[98, 105, 103]⟩, ⟨#[115, 109, 97, 108, 108]⟩], ⟨#[]⟩, 0, false, false, ⟨#[]⟩, ⟨#[]⟩⟩), (.slice none 0 0, ⟨⟨#[111, 110]⟩, 4, 0, 0, [], ⟨#[98, 101, 114, 116, 104]⟩, 1, false, false, ⟨#[]⟩, ⟨#[]⟩⟩), (.slice none 0 0, ⟨⟨#[118, 111, 108]⟩, 4, 0, 0, [], ⟨#[118, 111, 108]⟩, 2, false, false, ⟨#[]⟩, ⟨#[]⟩⟩), (.slice none 0 0, ⟨⟨#[111, 102]⟩, 4, 0, 0, [], ⟨#[106, 111, 98]⟩, 3, false, false, ⟨#[]⟩, ⟨#[]⟩⟩)]) (by omega) (by unfold maxLen; omega) rfl
  have HZ2 : Hid (w12.heap.size = w11.heap.size + 1) := by unfold Hid; rw [hwx]; simp
  clear hwx
  obtain ⟨w13, hwx⟩ : ∃ vv, vv = w12.alloc (.cells #[.string ⟨#[106, 111, 98]⟩, .slice (some ⟨w11.heap.size, 0, none⟩) 5 5] 45) := ⟨_, rfl⟩
  rw [← hwx]
  have hb : Below w12.heap.size w12 w13 := by rw [hwx]; exact one_al _ _
  replace BL := hide (bt BL.out hb)
  replace BZ := hide (BZ.out.on hb)
  replace W1 := hide (W1.out.on hb)
  replace O1 := hide (owns_kept O1.out fun k hk => hb.block k (owns_lt O1.out hk).1)
  replace S1 := hide (S1.out.on hb)
  replace W2 := hide (W2.out.on hb)
  replace O2 := hide (owns_kept O2.out fun k hk => hb.block k (owns_lt O2.out hk).1)
  have hzw13 := hb.size
  clear hb
  have S2 : Hid (Box w13 (w11.heap.size + 1) #[.string ⟨#[106, 111, 98]⟩, .slice (some ⟨w11.heap.size, 0, none⟩) 5 5]) := by unfold Hid; rw [hwx]; exact Box.new _ _ _ _ HZ2.out
  clear hwx
  refine (l11Num_any _ _ _ _ _ _ _).mono ?_
  rintro e w14 ⟨rfl, hb⟩
  unfold fieldV
  replace BL := hide (bt BL.out hb)
  replace BZ := hide (BZ.out.on hb)
  replace W1 := hide (W1.out.on hb)
  replace O1 := hide (owns_kept O1.out fun k hk => hb.block k (owns_lt O1.out hk).1)
  replace S1 := hide (S1.out.on hb)
  replace W2 := hide (W2.out.on hb)
  replace O2 := hide (owns_kept O2.out fun k hk => hb.block k (owns_lt O2.out hk).1)
  replace S2 := hide (S2.out.on hb)
  have hzw14 := hb.size
  clear hb
  go_wp2_with fail
  obtain ⟨w15, hwx⟩ : ∃ vv, vv = w14.alloc (.cells #[.string ⟨#[102, 97, 115, 116]⟩, .string ⟨#[115, 108, 111, 119]⟩] 9) := ⟨_, rfl⟩
  rw [← hwx]
  have hb : Below w14.heap.size w14 w15 := by rw [hwx]; exact one_al _ _
  replace BL := hide (bt BL.out hb)
  replace BZ := hide (BZ.out.on hb)
  replace W1 := hide (W1.out.on hb)
  replace O1 := hide (owns_kept O1.out fun k hk => hb.block k (owns_lt O1.out hk).1)
  replace S1 := hide (S1.out.on hb)
  replace W2 := hide (W2.out.on hb)
  replace O2 := hide (owns_kept O2.out fun k hk => hb.block k (owns_lt O2.out hk).1)
  replace S2 := hide (S2.out.on hb)
  have hzw15 := hb.size
  clear hb
  have W3 : Hid (Box w15 w14.heap.size #[.string ⟨#[102, 97, 115, 116]⟩, .string ⟨#[115, 108, 111, 119]⟩]) := by unfold Hid; rw [hwx]; exact Box.new _ _ _ _ rfl
  clear hwx
  refine (l11Word_any _ _ _ _ _ _).mono ?_
  rintro e w16 ⟨rfl, hb⟩
  unfold fieldV
  replace BL := hide (bt BL.out hb)
  replace BZ := hide (BZ.out.on hb)
  replace W1 := hide (W1.out.on hb)
  replace O1 := hide (owns_kept O1.out fun k hk => hb.block k (owns_lt O1.out hk).1)
  replace S1 := hide (S1.out.on hb)
  replace W2 := hide (W2.out.on hb)
  replace O2 := hide (owns_kept O2.out fun k hk => hb.block k (owns_lt O2.out hk).1)
  replace S2 := hide (S2.out.on hb)
  replace W3 := hide (W3.out.on hb)
  have hzw16 := hb.size
  clear hb
  go_upto_region 4 with fail
  obtain ⟨w17, hwx⟩ : ∃ vv, vv = w16.alloc (.cells #[.string ⟨#[115, 105, 122, 101]⟩, .int .i64 1, .int .i64 1, .int .i64 100, .slice none 0 0, .string ⟨#[]⟩, .int .i64 0, .bool true, .bool true, .string ⟨#[]⟩, .string ⟨#[100, 105, 115, 107]⟩, .string ⟨#[99, 108, 97, 115, 115]⟩, .int .i64 2, .int .i64 0, .int .i64 0, .slice (some ⟨w14.heap.size, 0, none⟩) 2 2, .string ⟨#[]⟩, .int .i64 0, .bool false, .bool false, .string ⟨#[]⟩, .string ⟨#[]⟩, .string ⟨#[110, 111, 116, 101]⟩, .int .i64 3, .int .i64 1, .int .i64 20, .slice none 0 0, .string ⟨#[]⟩, .int .i64 0, .bool false, .bool false, .string ⟨#[]⟩, .string ⟨#[]⟩] 56) := ⟨_, rfl⟩
  rw [← hwx]
  have hb : Below w16.heap.size w16 w17 := by rw [hwx]; exact one_al _ _
  replace BL := hide (bt BL.out hb)
  replace BZ := hide (BZ.out.on hb)
  replace W1 := hide (W1.out.on hb)
  replace O1 := hide (owns_kept O1.out fun k hk => hb.block k (owns_lt O1.out hk).1)
  replace S1 := hide (S1.out.on hb)
  replace W2 := hide (W2.out.on hb)
  replace O2 := hide (owns_kept O2.out fun k hk => hb.block k (owns_lt O2.out hk).1)
  replace S2 := hide (S2.out.on hb)
  replace W3 := hide (W3.out.on hb)
  have hzw17 := hb.size
  clear hb
  have O3 : Hid (World.ownsRow w17 w0.heap.size 56 11 (.slice (some ⟨w16.heap.size, 0, none⟩) 3 3) 3 (flatC fdC [(.slice none 0 0, ⟨⟨#[115, 105, 122, 101]⟩, 1, 1, 100, [], ⟨#[]⟩, 0, true, true, ⟨#[]⟩, ⟨#[100, 105, 115, 107]⟩⟩), (.slice (some ⟨w14.heap.size, 0, none⟩) 2 2, ⟨⟨#[99, 108, 97, 115, 115]⟩, 2, 0, 0, [⟨#[102, 97, 115, 116]⟩, ⟨#[115, 108, 111, 119]⟩], ⟨#[]⟩, 0, false, false, ⟨#[]⟩, ⟨#[]⟩⟩), (.slice none 0 0, ⟨⟨#[110, 111, 116, 101]⟩, 3, 1, 20, [], ⟨#[]⟩, 0, false, false, ⟨#[]⟩, ⟨#[]⟩⟩)])) := by unfold Hid; rw [hwx]; exact owns_built w16 (flatC fdC [(.slice none 0 0, ⟨⟨#[115, 105, 122, 101]⟩, 1, 1, 100, [], ⟨#[]⟩, 0, true, true, ⟨#[]⟩, ⟨#[100, 105, 115, 107]⟩⟩), (.slice (some ⟨w14.heap.size, 0, none⟩) 2 2, ⟨⟨#[99, 108, 97, 115, 115]⟩, 2, 0, 0, [⟨#[102, 97, 115, 116]⟩, ⟨#[115, 108, 111, 119]⟩], ⟨#[]⟩, 0, false, false, ⟨#[]⟩, ⟨#[]⟩⟩), (.slice none 0 0, ⟨⟨#[110, 111, 116, 101]⟩, 3, 1, 20, [], ⟨#[]⟩, 0, false, false, ⟨#[]⟩, ⟨#[]⟩⟩)]) (by omega) (by unfold maxLen; omega) rfl
  have HZ3 : Hid (w17.heap.size = w16.heap.size + 1) := by unfold Hid; rw [hwx]; simp
  clear hwx
  obtain ⟨w18, hwx⟩ : ∃ vv, vv = w17.alloc (.cells #[.string ⟨#[118, 111, 108]⟩, .slice (some ⟨w16.heap.size, 0, none⟩) 3 3] 45) := ⟨_, rfl⟩
  rw [← hwx]
  have hb : Below w17.heap.size w17 w18 := by rw [hwx]; exact one_al _ _
  replace BL := hide (bt BL.out hb)
  replace BZ := hide (BZ.out.on hb)
  replace W1 := hide (W1.out.on hb)
  replace O1 := hide (owns_kept O1.out fun k hk => hb.block k (owns_lt O1.out hk).1)
  replace S1 := hide (S1.out.on hb)
  replace W2 := hide (W2.out.on hb)
  replace O2 := hide (owns_kept O2.out fun k hk => hb.block k (owns_lt O2.out hk).1)
  replace S2 := hide (S2.out.on hb)
  replace W3 := hide (W3.out.on hb)
  replace O3 := hide (owns_kept O3.out fun k hk => hb.block k (owns_lt O3.out hk).1)
  have hzw18 := hb.size
  clear hb
  have S3 : Hid (Box w18 (w16.heap.size + 1) #[.string ⟨#[118, 111, 108]⟩, .slice (some ⟨w16.heap.size, 0, none⟩) 3 3]) := by unfold Hid; rw [hwx]; exact Box.new _ _ _ _ HZ3.out
  clear hwx
  go_upto_region 5 with fail
  obtain ⟨w19, hwx⟩ : ∃ vv, vv = w18.alloc (.cells #[.string ⟨#[106, 111, 98]⟩, .string ⟨#[110, 101, 101, 100]⟩, .string ⟨#[109, 111, 100, 101]⟩, .string ⟨#[98, 105, 103]⟩, .string ⟨#[56]⟩, .string ⟨#[]⟩, .string ⟨#[118, 111, 108]⟩, .string ⟨#[110, 111, 116, 101]⟩, .string ⟨#[99, 108, 97, 115, 115]⟩, .string ⟨#[102, 97, 115, 116]⟩, .string ⟨#[]⟩, .string ⟨#[99, 108, 97, 115, 115]⟩, .string ⟨#[98, 101, 114, 116, 104]⟩, .string ⟨#[114, 111, 111, 109]⟩, .string ⟨#[122, 111, 110, 101]⟩, .string ⟨#[99]⟩, .string ⟨#[52]⟩, .string ⟨#[]⟩] 54) := ⟨_, rfl⟩
  rw [← hwx]
  have hb : Below w18.heap.size w18 w19 := by rw [hwx]; exact one_al _ _
  replace BL := hide (bt BL.out hb)
  replace BZ := hide (BZ.out.on hb)
  replace W1 := hide (W1.out.on hb)
  replace O1 := hide (owns_kept O1.out fun k hk => hb.block k (owns_lt O1.out hk).1)
  replace S1 := hide (S1.out.on hb)
  replace W2 := hide (W2.out.on hb)
  replace O2 := hide (owns_kept O2.out fun k hk => hb.block k (owns_lt O2.out hk).1)
  replace S2 := hide (S2.out.on hb)
  replace W3 := hide (W3.out.on hb)
  replace O3 := hide (owns_kept O3.out fun k hk => hb.block k (owns_lt O3.out hk).1)
  replace S3 := hide (S3.out.on hb)
  have hzw19 := hb.size
  clear hb
  have OM : Hid (World.ownsRow w19 w0.heap.size 54 6 (.slice (some ⟨w18.heap.size, 0, none⟩) 3 3) 3 (flatC mdC [⟨⟨#[106, 111, 98]⟩, ⟨#[110, 101, 101, 100]⟩, ⟨#[109, 111, 100, 101]⟩, ⟨#[98, 105, 103]⟩, ⟨#[56]⟩, ⟨#[]⟩⟩, ⟨⟨#[118, 111, 108]⟩, ⟨#[110, 111, 116, 101]⟩, ⟨#[99, 108, 97, 115, 115]⟩, ⟨#[102, 97, 115, 116]⟩, ⟨#[]⟩, ⟨#[99, 108, 97, 115, 115]⟩⟩, ⟨⟨#[98, 101, 114, 116, 104]⟩, ⟨#[114, 111, 111, 109]⟩, ⟨#[122, 111, 110, 101]⟩, ⟨#[99]⟩, ⟨#[52]⟩, ⟨#[]⟩⟩])) := by unfold Hid; rw [hwx]; exact owns_built w18 (flatC mdC [⟨⟨#[106, 111, 98]⟩, ⟨#[110, 101, 101, 100]⟩, ⟨#[109, 111, 100, 101]⟩, ⟨#[98, 105, 103]⟩, ⟨#[56]⟩, ⟨#[]⟩⟩, ⟨⟨#[118, 111, 108]⟩, ⟨#[110, 111, 116, 101]⟩, ⟨#[99, 108, 97, 115, 115]⟩, ⟨#[102, 97, 115, 116]⟩, ⟨#[]⟩, ⟨#[99, 108, 97, 115, 115]⟩⟩, ⟨⟨#[98, 101, 114, 116, 104]⟩, ⟨#[114, 111, 111, 109]⟩, ⟨#[122, 111, 110, 101]⟩, ⟨#[99]⟩, ⟨#[52]⟩, ⟨#[]⟩⟩]) (by omega) (by unfold maxLen; omega) rfl
  clear hwx
  go_upto_region 6 with fail
  obtain ⟨w20, hwx⟩ : ∃ vv, vv = w19.alloc (.cells #[.string ⟨#[100, 101, 118]⟩, .string ⟨#[]⟩, .string ⟨#[108, 97, 98]⟩, .string ⟨#[100, 101, 118]⟩, .string ⟨#[111, 112, 115]⟩, .string ⟨#[]⟩] 121) := ⟨_, rfl⟩
  rw [← hwx]
  have hb : Below w19.heap.size w19 w20 := by rw [hwx]; exact one_al _ _
  replace BL := hide (bt BL.out hb)
  replace BZ := hide (BZ.out.on hb)
  replace W1 := hide (W1.out.on hb)
  replace O1 := hide (owns_kept O1.out fun k hk => hb.block k (owns_lt O1.out hk).1)
  replace S1 := hide (S1.out.on hb)
  replace W2 := hide (W2.out.on hb)
  replace O2 := hide (owns_kept O2.out fun k hk => hb.block k (owns_lt O2.out hk).1)
  replace S2 := hide (S2.out.on hb)
  replace W3 := hide (W3.out.on hb)
  replace O3 := hide (owns_kept O3.out fun k hk => hb.block k (owns_lt O3.out hk).1)
  replace S3 := hide (S3.out.on hb)
  replace OM := hide (owns_kept OM.out fun k hk => hb.block k (owns_lt OM.out hk).1)
  have hzw20 := hb.size
  clear hb
  clear hwx
  have d1 : ∀ i, w20.cell? ⟨w3.heap.size + 1, i, none⟩ = _ := S1.out.cell
  have l1 := S1.out.lt
  have d2 : ∀ i, w20.cell? ⟨w11.heap.size + 1, i, none⟩ = _ := S2.out.cell
  have l2 := S2.out.lt
  have d3 : ∀ i, w20.cell? ⟨w16.heap.size + 1, i, none⟩ = _ := S3.out.cell
  have l3 := S3.out.lt
  have z : ∀ i, w20.cell? ⟨w.heap.size, i, none⟩ = _ := BZ.out.cell
  have zf := BZ.out.free
  have zl := BZ.out.lt
  go_wp2
  clear d1 d2 d3 l1 l2 l3
  obtain ⟨wS, hwS⟩ : ∃ vv, vv = ((w20.setCell ⟨w.heap.size, 0, none⟩ (.slice (some ⟨w20.heap.size, 0, none⟩) 3 3)).setCell ⟨w.heap.size, 1, none⟩ (.slice (some ⟨w18.heap.size, 0, none⟩) 3 3)).setCell ⟨w.heap.size, 2, none⟩ (.slice (some ⟨w19.heap.size, 0, none⟩) 3 3) := ⟨_, rfl⟩
  rw [← hwS]
  have HSS : Hid (wS.heap.size = w20.heap.size) := by unfold Hid; rw [hwS]; simp [World.setCell]
  have HKP : Hid (∀ k, k ≠ w.heap.size → wS.heap[k]? = w20.heap[k]?) := fun k hk => by
    rw [hwS, Below.heap_setCell _ _ _ k hk, Below.heap_setCell _ _ _ k hk, Below.heap_setCell _ _ _ k hk]
  have BL9 : Hid (Below w.heap.size w wS) := by unfold Hid; rw [hwS]; exact ((BL.out.setCell (Nat.le_refl _) _).setCell (Nat.le_refl _) _).setCell (Nat.le_refl _) _
  have BZ9 : Hid (Box wS w.heap.size #[.slice (some ⟨w20.heap.size, 0, none⟩) 3 3, .slice (some ⟨w18.heap.size, 0, none⟩) 3 3, .slice (some ⟨w19.heap.size, 0, none⟩) 3 3]) := by unfold Hid; rw [hwS]; exact put_cell (put_cell (put_cell BZ.out 0 (by simp) _) 1 (by simp) _) 2 (by simp) _
  clear hwS z zf zl
  have hb := one_al wS (.cells #[.string ⟨#[98, 101, 114, 116, 104]⟩, .slice (some ⟨w3.heap.size, 0, none⟩) 2 2, .string ⟨#[106, 111, 98]⟩, .slice (some ⟨w11.heap.size, 0, none⟩) 5 5, .string ⟨#[118, 111, 108]⟩, .slice (some ⟨w16.heap.size, 0, none⟩) 3 3] 45)
  have OS : Hid (World.ownsRow (wS.alloc (.cells #[.string ⟨#[98, 101, 114, 116, 104]⟩, .slice (some ⟨w3.heap.size, 0, none⟩) 2 2, .string ⟨#[106, 111, 98]⟩, .slice (some ⟨w11.heap.size, 0, none⟩) 5 5, .string ⟨#[118, 111, 108]⟩, .slice (some ⟨w16.heap.size, 0, none⟩) 3 3] 45)) w.heap.size 45 2 (.slice (some ⟨w20.heap.size, 0, none⟩) 3 3) 3 (flatC shC [⟨.slice (some ⟨w3.heap.size, 0, none⟩) 2 2, ⟨#[98, 101, 114, 116, 104]⟩, [(.slice none 0 0, ⟨⟨#[114, 111, 111, 109]⟩, 1, 1, 64, [], ⟨#[]⟩, 0, true, false, ⟨#[]⟩, ⟨#[114, 111, 111, 109]⟩⟩), (.slice (some ⟨w1.heap.size, 0, none⟩) 3 3, ⟨⟨#[122, 111, 110, 101]⟩, 2, 0, 0, [⟨#[97]⟩, ⟨#[98]⟩, ⟨#[99]⟩], ⟨#[]⟩, 0, false, false, ⟨#[97]⟩, ⟨#[]⟩⟩)]⟩, ⟨.slice (some ⟨w11.heap.size, 0, none⟩) 5 5, ⟨#[106, 111, 98]⟩, [(.slice none 0 0, ⟨⟨#[110, 101, 101, 100]⟩, 1, 1, 32, [], ⟨#[]⟩, 0, false, false, ⟨#[49]⟩, ⟨#[110, 101, 101, 100]⟩⟩), (.slice (some ⟨w6.heap.size, 0, none⟩) 2 2, ⟨⟨#[109, 111, 100, 101]⟩, 2, 0, 0, [⟨#[98, 105, 103]⟩, ⟨#[115, 109, 97, 108, 108]⟩], ⟨#[]⟩, 0, false, false, ⟨#[]⟩, ⟨#[]⟩⟩), (.slice none 0 0, ⟨⟨#[111, 110]⟩, 4, 0, 0, [], ⟨#[98, 101, 114, 116, 104]⟩, 1, false, false, ⟨#[]⟩, ⟨#[]⟩⟩), (.slice none 0 0, ⟨⟨#[118, 111, 108]⟩, 4, 0, 0, [], ⟨#[118, 111, 108]⟩, 2, false, false, ⟨#[]⟩, ⟨#[]⟩⟩), (.slice none 0 0, ⟨⟨#[111, 102]⟩, 4, 0, 0, [], ⟨#[106, 111, 98]⟩, 3, false, false, ⟨#[]⟩, ⟨#[]⟩⟩)]⟩, ⟨.slice (some ⟨w16.heap.size, 0, none⟩) 3 3, ⟨#[118, 111, 108]⟩, [(.slice none 0 0, ⟨⟨#[115, 105, 122, 101]⟩, 1, 1, 100, [], ⟨#[]⟩, 0, true, true, ⟨#[]⟩, ⟨#[100, 105, 115, 107]⟩⟩), (.slice (some ⟨w14.heap.size, 0, none⟩) 2 2, ⟨⟨#[99, 108, 97, 115, 115]⟩, 2, 0, 0, [⟨#[102, 97, 115, 116]⟩, ⟨#[115, 108, 111, 119]⟩], ⟨#[]⟩, 0, false, false, ⟨#[]⟩, ⟨#[]⟩⟩), (.slice none 0 0, ⟨⟨#[110, 111, 116, 101]⟩, 3, 1, 20, [], ⟨#[]⟩, 0, false, false, ⟨#[]⟩, ⟨#[]⟩⟩)]⟩])) := by
    have h1 := owns_built (base := w.heap.size) (n := 3) (sz := 2) (e := 45) wS (flatC shC [⟨.slice (some ⟨w3.heap.size, 0, none⟩) 2 2, ⟨#[98, 101, 114, 116, 104]⟩, [(.slice none 0 0, ⟨⟨#[114, 111, 111, 109]⟩, 1, 1, 64, [], ⟨#[]⟩, 0, true, false, ⟨#[]⟩, ⟨#[114, 111, 111, 109]⟩⟩), (.slice (some ⟨w1.heap.size, 0, none⟩) 3 3, ⟨⟨#[122, 111, 110, 101]⟩, 2, 0, 0, [⟨#[97]⟩, ⟨#[98]⟩, ⟨#[99]⟩], ⟨#[]⟩, 0, false, false, ⟨#[97]⟩, ⟨#[]⟩⟩)]⟩, ⟨.slice (some ⟨w11.heap.size, 0, none⟩) 5 5, ⟨#[106, 111, 98]⟩, [(.slice none 0 0, ⟨⟨#[110, 101, 101, 100]⟩, 1, 1, 32, [], ⟨#[]⟩, 0, false, false, ⟨#[49]⟩, ⟨#[110, 101, 101, 100]⟩⟩), (.slice (some ⟨w6.heap.size, 0, none⟩) 2 2, ⟨⟨#[109, 111, 100, 101]⟩, 2, 0, 0, [⟨#[98, 105, 103]⟩, ⟨#[115, 109, 97, 108, 108]⟩], ⟨#[]⟩, 0, false, false, ⟨#[]⟩, ⟨#[]⟩⟩), (.slice none 0 0, ⟨⟨#[111, 110]⟩, 4, 0, 0, [], ⟨#[98, 101, 114, 116, 104]⟩, 1, false, false, ⟨#[]⟩, ⟨#[]⟩⟩), (.slice none 0 0, ⟨⟨#[118, 111, 108]⟩, 4, 0, 0, [], ⟨#[118, 111, 108]⟩, 2, false, false, ⟨#[]⟩, ⟨#[]⟩⟩), (.slice none 0 0, ⟨⟨#[111, 102]⟩, 4, 0, 0, [], ⟨#[106, 111, 98]⟩, 3, false, false, ⟨#[]⟩, ⟨#[]⟩⟩)]⟩, ⟨.slice (some ⟨w16.heap.size, 0, none⟩) 3 3, ⟨#[118, 111, 108]⟩, [(.slice none 0 0, ⟨⟨#[115, 105, 122, 101]⟩, 1, 1, 100, [], ⟨#[]⟩, 0, true, true, ⟨#[]⟩, ⟨#[100, 105, 115, 107]⟩⟩), (.slice (some ⟨w14.heap.size, 0, none⟩) 2 2, ⟨⟨#[99, 108, 97, 115, 115]⟩, 2, 0, 0, [⟨#[102, 97, 115, 116]⟩, ⟨#[115, 108, 111, 119]⟩], ⟨#[]⟩, 0, false, false, ⟨#[]⟩, ⟨#[]⟩⟩), (.slice none 0 0, ⟨⟨#[110, 111, 116, 101]⟩, 3, 1, 20, [], ⟨#[]⟩, 0, false, false, ⟨#[]⟩, ⟨#[]⟩⟩)]⟩]) (by rw [HSS.out]; omega) (by unfold maxLen; omega) rfl
    rw [HSS.out] at h1
    exact h1
  have HKE : Hid (∀ k, k ≠ w.heap.size → k < w20.heap.size → (wS.alloc (.cells #[.string ⟨#[98, 101, 114, 116, 104]⟩, .slice (some ⟨w3.heap.size, 0, none⟩) 2 2, .string ⟨#[106, 111, 98]⟩, .slice (some ⟨w11.heap.size, 0, none⟩) 5 5, .string ⟨#[118, 111, 108]⟩, .slice (some ⟨w16.heap.size, 0, none⟩) 3 3] 45)).heap[k]? = w20.heap[k]?) := fun k hk hk2 => (hb.block k (by rw [HSS.out]; exact hk2)).trans (HKP.out k hk)
  have zz := (BZ9.out.on hb).cell
  have HBE : Hid (Below w.heap.size w (wS.alloc (.cells #[.string ⟨#[98, 101, 114, 116, 104]⟩, .slice (some ⟨w3.heap.size, 0, none⟩) 2 2, .string ⟨#[106, 111, 98]⟩, .slice (some ⟨w11.heap.size, 0, none⟩) 5 5, .string ⟨#[118, 111, 108]⟩, .slice (some ⟨w16.heap.size, 0, none⟩) 3 3] 45))) := BL9.out.trans (hb.mono (by rw [HSS.out]; omega))
  have HZE : Hid ((wS.alloc (.cells #[.string ⟨#[98, 101, 114, 116, 104]⟩, .slice (some ⟨w3.heap.size, 0, none⟩) 2 2, .string ⟨#[106, 111, 98]⟩, .slice (some ⟨w11.heap.size, 0, none⟩) 5 5, .string ⟨#[118, 111, 108]⟩, .slice (some ⟨w16.heap.size, 0, none⟩) 3 3] 45)).heap.size = w20.heap.size + 1) := by unfold Hid; simp [HSS.out]
  clear hb BL BL9 BZ BZ9 HKP
  generalize wS.alloc _ = wE at *
  have Q1 := W1.out.lt
  have R1 := (owns_lt O1.out rfl).1
  replace O1 : Hid (World.ownsRow wE w0.heap.size _ _ _ _ _) := owns_kept O1.out fun k hk => HKE.out k (by have := (owns_lt O1.out hk).2; omega) (owns_lt O1.out hk).1
  replace W1 : Hid (Box wE _ _) := box_blkE W1.out (HKE.out _ (by omega) W1.out.lt) (by rw [HZE.out]; omega)
  have Q2 := W2.out.lt
  have R2 := (owns_lt O2.out rfl).1
  replace O2 : Hid (World.ownsRow wE w0.heap.size _ _ _ _ _) := owns_kept O2.out fun k hk => HKE.out k (by have := (owns_lt O2.out hk).2; omega) (owns_lt O2.out hk).1
  replace W2 : Hid (Box wE _ _) := box_blkE W2.out (HKE.out _ (by omega) W2.out.lt) (by rw [HZE.out]; omega)
  have Q3 := W3.out.lt
  have R3 := (owns_lt O3.out rfl).1
  replace O3 : Hid (World.ownsRow wE w0.heap.size _ _ _ _ _) := owns_kept O3.out fun k hk => HKE.out k (by have := (owns_lt O3.out hk).2; omega) (owns_lt O3.out hk).1
  replace W3 : Hid (Box wE _ _) := box_blkE W3.out (HKE.out _ (by omega) W3.out.lt) (by rw [HZE.out]; omega)
  replace OM : Hid (World.ownsRow wE w0.heap.size _ _ _ _ _) := owns_kept OM.out fun k hk => HKE.out k (by have := (owns_lt OM.out hk).2; omega) (owns_lt OM.out hk).1
  have WK1 : Hid (StrsK (fun k => w0.heap.size ≤ k ∧ k < w20.heap.size) wE (.slice (some ⟨w1.heap.size, 0, none⟩) 3 3) [⟨#[97]⟩, ⟨#[98]⟩, ⟨#[99]⟩]) := by
    have h1 := box_strs (lo := w0.heap.size) [⟨#[97]⟩, ⟨#[98]⟩, ⟨#[99]⟩] 3 W1.out rfl (by omega) rfl (by omega) (by decide)
    rcases h1 with h | ⟨b, off, cap, e, h2, h3, h4, h5, h6, h7⟩
    · exact Or.inl h
    · refine Or.inr ⟨b, off, cap, e, h2, h3, ⟨h7, ?_⟩, h5, h6⟩
      cases e
      exact Q1
  have SP1 : Hid (ShP (fun k => w0.heap.size ≤ k ∧ k < w20.heap.size) wE ⟨.slice (some ⟨w3.heap.size, 0, none⟩) 2 2, ⟨#[98, 101, 114, 116, 104]⟩, [(.slice none 0 0, ⟨⟨#[114, 111, 111, 109]⟩, 1, 1, 64, [], ⟨#[]⟩, 0, true, false, ⟨#[]⟩, ⟨#[114, 111, 111, 109]⟩⟩), (.slice (some ⟨w1.heap.size, 0, none⟩) 3 3, ⟨⟨#[122, 111, 110, 101]⟩, 2, 0, 0, [⟨#[97]⟩, ⟨#[98]⟩, ⟨#[99]⟩], ⟨#[]⟩, 0, false, false, ⟨#[97]⟩, ⟨#[]⟩⟩)]⟩) := by
    refine ⟨of_decide_eq_true rfl, of_decide_eq_true rfl, owns_lo O1.out (Nat.zero_le _), fun k hk => ?_, fun y hy => ?_⟩
    · have e : w3.heap.size = k := by simpa [Value.ownBlock] using hk
      rw [← e]; exact ⟨by omega, R1⟩
    · simp only [List.mem_cons, List.not_mem_nil, or_false] at hy
      rcases hy with rfl | rfl
      · exact ⟨⟨of_decide_eq_true rfl, of_decide_eq_true rfl, of_decide_eq_true rfl, of_decide_eq_true rfl, ⟨of_decide_eq_true rfl, of_decide_eq_true rfl⟩, ⟨of_decide_eq_true rfl, of_decide_eq_true rfl⟩, of_decide_eq_true rfl, (fun s hs => by cases hs)⟩, Or.inl ⟨_, _, rfl, rfl⟩⟩
      · exact ⟨⟨of_decide_eq_true rfl, of_decide_eq_true rfl, of_decide_eq_true rfl, of_decide_eq_true rfl, ⟨of_decide_eq_true rfl, of_decide_eq_true rfl⟩, ⟨of_decide_eq_true rfl, of_decide_eq_true rfl⟩, of_decide_eq_true rfl, (show ∀ s ∈ ([⟨#[97]⟩, ⟨#[98]⟩, ⟨#[99]⟩] : List ByteArray), s.size ≤ 1000 from by decide)⟩, WK1.out⟩
  have WK2 : Hid (StrsK (fun k => w0.heap.size ≤ k ∧ k < w20.heap.size) wE (.slice (some ⟨w6.heap.size, 0, none⟩) 2 2) [⟨#[98, 105, 103]⟩, ⟨#[115, 109, 97, 108, 108]⟩]) := by
    have h1 := box_strs (lo := w0.heap.size) [⟨#[98, 105, 103]⟩, ⟨#[115, 109, 97, 108, 108]⟩] 2 W2.out rfl (by omega) rfl (by omega) (by decide)
    rcases h1 with h | ⟨b, off, cap, e, h2, h3, h4, h5, h6, h7⟩
    · exact Or.inl h
    · refine Or.inr ⟨b, off, cap, e, h2, h3, ⟨h7, ?_⟩, h5, h6⟩
      cases e
      exact Q2
  have SP2 : Hid (ShP (fun k => w0.heap.size ≤ k ∧ k < w20.heap.size) wE ⟨.slice (some ⟨w11.heap.size, 0, none⟩) 5 5, ⟨#[106, 111, 98]⟩, [(.slice none 0 0, ⟨⟨#[110, 101, 101, 100]⟩, 1, 1, 32, [], ⟨#[]⟩, 0, false, false, ⟨#[49]⟩, ⟨#[110, 101, 101, 100]⟩⟩), (.slice (some ⟨w6.heap.size, 0, none⟩) 2 2, ⟨⟨#[109, 111, 100, 101]⟩, 2, 0, 0, [⟨#[98, 105, 103]⟩, ⟨#[115, 109, 97, 108, 108]⟩], ⟨#[]⟩, 0, false, false, ⟨#[]⟩, ⟨#[]⟩⟩), (.slice none 0 0, ⟨⟨#[111, 110]⟩, 4, 0, 0, [], ⟨#[98, 101, 114, 116, 104]⟩, 1, false, false, ⟨#[]⟩, ⟨#[]⟩⟩), (.slice none 0 0, ⟨⟨#[118, 111, 108]⟩, 4, 0, 0, [], ⟨#[118, 111, 108]⟩, 2, false, false, ⟨#[]⟩, ⟨#[]⟩⟩), (.slice none 0 0, ⟨⟨#[111, 102]⟩, 4, 0, 0, [], ⟨#[106, 111, 98]⟩, 3, false, false, ⟨#[]⟩, ⟨#[]⟩⟩)]⟩) := by
    refine ⟨of_decide_eq_true rfl, of_decide_eq_true rfl, owns_lo O2.out (Nat.zero_le _), fun k hk => ?_, fun y hy => ?_⟩
    · have e : w11.heap.size = k := by simpa [Value.ownBlock] using hk
      rw [← e]; exact ⟨by omega, R2⟩
    · simp only [List.mem_cons, List.not_mem_nil, or_false] at hy
      rcases hy with rfl | rfl | rfl | rfl | rfl
      · exact ⟨⟨of_decide_eq_true rfl, of_decide_eq_true rfl, of_decide_eq_true rfl, of_decide_eq_true rfl, ⟨of_decide_eq_true rfl, of_decide_eq_true rfl⟩, ⟨of_decide_eq_true rfl, of_decide_eq_true rfl⟩, of_decide_eq_true rfl, (fun s hs => by cases hs)⟩, Or.inl ⟨_, _, rfl, rfl⟩⟩
      · exact ⟨⟨of_decide_eq_true rfl, of_decide_eq_true rfl, of_decide_eq_true rfl, of_decide_eq_true rfl, ⟨of_decide_eq_true rfl, of_decide_eq_true rfl⟩, ⟨of_decide_eq_true rfl, of_decide_eq_true rfl⟩, of_decide_eq_true rfl, (show ∀ s ∈ ([⟨#[98, 105, 103]⟩, ⟨#[115, 109, 97, 108, 108]⟩] : List ByteArray), s.size ≤ 1000 from by decide)⟩, WK2.out⟩
      · exact ⟨⟨of_decide_eq_true rfl, of_decide_eq_true rfl, of_decide_eq_true rfl, of_decide_eq_true rfl, ⟨of_decide_eq_true rfl, of_decide_eq_true rfl⟩, ⟨of_decide_eq_true rfl, of_decide_eq_true rfl⟩, of_decide_eq_true rfl, (fun s hs => by cases hs)⟩, Or.inl ⟨_, _, rfl, rfl⟩⟩
      · exact ⟨⟨of_decide_eq_true rfl, of_decide_eq_true rfl, of_decide_eq_true rfl, of_decide_eq_true rfl, ⟨of_decide_eq_true rfl, of_decide_eq_true rfl⟩, ⟨of_decide_eq_true rfl, of_decide_eq_true rfl⟩, of_decide_eq_true rfl, (fun s hs => by cases hs)⟩, Or.inl ⟨_, _, rfl, rfl⟩⟩
      · exact ⟨⟨of_decide_eq_true rfl, of_decide_eq_true rfl, of_decide_eq_true rfl, of_decide_eq_true rfl, ⟨of_decide_eq_true rfl, of_decide_eq_true rfl⟩, ⟨of_decide_eq_true rfl, of_decide_eq_true rfl⟩, of_decide_eq_true rfl, (fun s hs => by cases hs)⟩, Or.inl ⟨_, _, rfl, rfl⟩⟩
  have WK3 : Hid (StrsK (fun k => w0.heap.size ≤ k ∧ k < w20.heap.size) wE (.slice (some ⟨w14.heap.size, 0, none⟩) 2 2) [⟨#[102, 97, 115, 116]⟩, ⟨#[115, 108, 111, 119]⟩]) := by
    have h1 := box_strs (lo := w0.heap.size) [⟨#[102, 97, 115, 116]⟩, ⟨#[115, 108, 111, 119]⟩] 2 W3.out rfl (by omega) rfl (by omega) (by decide)
    rcases h1 with h | ⟨b, off, cap, e, h2, h3, h4, h5, h6, h7⟩
    · exact Or.inl h
    · refine Or.inr ⟨b, off, cap, e, h2, h3, ⟨h7, ?_⟩, h5, h6⟩
      cases e
      exact Q3
  have SP3 : Hid (ShP (fun k => w0.heap.size ≤ k ∧ k < w20.heap.size) wE ⟨.slice (some ⟨w16.heap.size, 0, none⟩) 3 3, ⟨#[118, 111, 108]⟩, [(.slice none 0 0, ⟨⟨#[115, 105, 122, 101]⟩, 1, 1, 100, [], ⟨#[]⟩, 0, true, true, ⟨#[]⟩, ⟨#[100, 105, 115, 107]⟩⟩), (.slice (some ⟨w14.heap.size, 0, none⟩) 2 2, ⟨⟨#[99, 108, 97, 115, 115]⟩, 2, 0, 0, [⟨#[102, 97, 115, 116]⟩, ⟨#[115, 108, 111, 119]⟩], ⟨#[]⟩, 0, false, false, ⟨#[]⟩, ⟨#[]⟩⟩), (.slice none 0 0, ⟨⟨#[110, 111, 116, 101]⟩, 3, 1, 20, [], ⟨#[]⟩, 0, false, false, ⟨#[]⟩, ⟨#[]⟩⟩)]⟩) := by
    refine ⟨of_decide_eq_true rfl, of_decide_eq_true rfl, owns_lo O3.out (Nat.zero_le _), fun k hk => ?_, fun y hy => ?_⟩
    · have e : w16.heap.size = k := by simpa [Value.ownBlock] using hk
      rw [← e]; exact ⟨by omega, R3⟩
    · simp only [List.mem_cons, List.not_mem_nil, or_false] at hy
      rcases hy with rfl | rfl | rfl
      · exact ⟨⟨of_decide_eq_true rfl, of_decide_eq_true rfl, of_decide_eq_true rfl, of_decide_eq_true rfl, ⟨of_decide_eq_true rfl, of_decide_eq_true rfl⟩, ⟨of_decide_eq_true rfl, of_decide_eq_true rfl⟩, of_decide_eq_true rfl, (fun s hs => by cases hs)⟩, Or.inl ⟨_, _, rfl, rfl⟩⟩
      · exact ⟨⟨of_decide_eq_true rfl, of_decide_eq_true rfl, of_decide_eq_true rfl, of_decide_eq_true rfl, ⟨of_decide_eq_true rfl, of_decide_eq_true rfl⟩, ⟨of_decide_eq_true rfl, of_decide_eq_true rfl⟩, of_decide_eq_true rfl, (show ∀ s ∈ ([⟨#[102, 97, 115, 116]⟩, ⟨#[115, 108, 111, 119]⟩] : List ByteArray), s.size ≤ 1000 from by decide)⟩, WK3.out⟩
      · exact ⟨⟨of_decide_eq_true rfl, of_decide_eq_true rfl, of_decide_eq_true rfl, of_decide_eq_true rfl, ⟨of_decide_eq_true rfl, of_decide_eq_true rfl⟩, ⟨of_decide_eq_true rfl, of_decide_eq_true rfl⟩, of_decide_eq_true rfl, (fun s hs => by cases hs)⟩, Or.inl ⟨_, _, rfl, rfl⟩⟩
  have INN : Hid (∀ x ∈ ([⟨.slice (some ⟨w3.heap.size, 0, none⟩) 2 2, ⟨#[98, 101, 114, 116, 104]⟩, [(.slice none 0 0, ⟨⟨#[114, 111, 111, 109]⟩, 1, 1, 64, [], ⟨#[]⟩, 0, true, false, ⟨#[]⟩, ⟨#[114, 111, 111, 109]⟩⟩), (.slice (some ⟨w1.heap.size, 0, none⟩) 3 3, ⟨⟨#[122, 111, 110, 101]⟩, 2, 0, 0, [⟨#[97]⟩, ⟨#[98]⟩, ⟨#[99]⟩], ⟨#[]⟩, 0, false, false, ⟨#[97]⟩, ⟨#[]⟩⟩)]⟩, ⟨.slice (some ⟨w11.heap.size, 0, none⟩) 5 5, ⟨#[106, 111, 98]⟩, [(.slice none 0 0, ⟨⟨#[110, 101, 101, 100]⟩, 1, 1, 32, [], ⟨#[]⟩, 0, false, false, ⟨#[49]⟩, ⟨#[110, 101, 101, 100]⟩⟩), (.slice (some ⟨w6.heap.size, 0, none⟩) 2 2, ⟨⟨#[109, 111, 100, 101]⟩, 2, 0, 0, [⟨#[98, 105, 103]⟩, ⟨#[115, 109, 97, 108, 108]⟩], ⟨#[]⟩, 0, false, false, ⟨#[]⟩, ⟨#[]⟩⟩), (.slice none 0 0, ⟨⟨#[111, 110]⟩, 4, 0, 0, [], ⟨#[98, 101, 114, 116, 104]⟩, 1, false, false, ⟨#[]⟩, ⟨#[]⟩⟩), (.slice none 0 0, ⟨⟨#[118, 111, 108]⟩, 4, 0, 0, [], ⟨#[118, 111, 108]⟩, 2, false, false, ⟨#[]⟩, ⟨#[]⟩⟩), (.slice none 0 0, ⟨⟨#[111, 102]⟩, 4, 0, 0, [], ⟨#[106, 111, 98]⟩, 3, false, false, ⟨#[]⟩, ⟨#[]⟩⟩)]⟩, ⟨.slice (some ⟨w16.heap.size, 0, none⟩) 3 3, ⟨#[118, 111, 108]⟩, [(.slice none 0 0, ⟨⟨#[115, 105, 122, 101]⟩, 1, 1, 100, [], ⟨#[]⟩, 0, true, true, ⟨#[]⟩, ⟨#[100, 105, 115, 107]⟩⟩), (.slice (some ⟨w14.heap.size, 0, none⟩) 2 2, ⟨⟨#[99, 108, 97, 115, 115]⟩, 2, 0, 0, [⟨#[102, 97, 115, 116]⟩, ⟨#[115, 108, 111, 119]⟩], ⟨#[]⟩, 0, false, false, ⟨#[]⟩, ⟨#[]⟩⟩), (.slice none 0 0, ⟨⟨#[110, 111, 116, 101]⟩, 3, 1, 20, [], ⟨#[]⟩, 0, false, false, ⟨#[]⟩, ⟨#[]⟩⟩)]⟩] : List SX), ∃ K : Nat → Prop, ShP K wE x ∧ ∀ k, K k → w.heap.size ≤ k ∧ k < wE.heap.size ∧ (Value.slice (some ⟨w20.heap.size, 0, none⟩) 3 3).ownBlock ≠ some k) := fun x hx => by
    have hK : ∀ k, (w0.heap.size ≤ k ∧ k < w20.heap.size) → w.heap.size ≤ k ∧ k < wE.heap.size ∧ (Value.slice (some ⟨w20.heap.size, 0, none⟩) 3 3).ownBlock ≠ some k := fun k hk => ⟨by omega, by rw [HZE.out]; omega, fun e => by
      have e' : w20.heap.size = k := by simpa [Value.ownBlock] using e
      omega⟩
    simp only [List.mem_cons, List.not_mem_nil, or_false] at hx
    rcases hx with rfl | rfl | rfl
    · exact ⟨_, SP1.out, hK⟩
    · exact ⟨_, SP2.out, hK⟩
    · exact ⟨_, SP3.out, hK⟩
  have MF : Hid (∀ m ∈ ([⟨⟨#[106, 111, 98]⟩, ⟨#[110, 101, 101, 100]⟩, ⟨#[109, 111, 100, 101]⟩, ⟨#[98, 105, 103]⟩, ⟨#[56]⟩, ⟨#[]⟩⟩, ⟨⟨#[118, 111, 108]⟩, ⟨#[110, 111, 116, 101]⟩, ⟨#[99, 108, 97, 115, 115]⟩, ⟨#[102, 97, 115, 116]⟩, ⟨#[]⟩, ⟨#[99, 108, 97, 115, 115]⟩⟩, ⟨⟨#[98, 101, 114, 116, 104]⟩, ⟨#[114, 111, 111, 109]⟩, ⟨#[122, 111, 110, 101]⟩, ⟨#[99]⟩, ⟨#[52]⟩, ⟨#[]⟩⟩] : List Md), MdFew m) := fun m hm => by
    simp only [List.mem_cons, List.not_mem_nil, or_false] at hm
    rcases hm with rfl | rfl | rfl <;> exact ⟨of_decide_eq_true rfl, of_decide_eq_true rfl, of_decide_eq_true rfl, of_decide_eq_true rfl, of_decide_eq_true rfl, of_decide_eq_true rfl⟩
  refine bodyPost_ret (v := .agg #[.slice (some ⟨w20.heap.size, 0, none⟩) 3 3, .slice (some ⟨w18.heap.size, 0, none⟩) 3 3, .slice (some ⟨w19.heap.size, 0, none⟩) 3 3]) (by simp [results, Tryz.results46, go_sem, zz]) rfl ⟨_, _, _, [⟨.slice (some ⟨w3.heap.size, 0, none⟩) 2 2, ⟨#[98, 101, 114, 116, 104]⟩, [(.slice none 0 0, ⟨⟨#[114, 111, 111, 109]⟩, 1, 1, 64, [], ⟨#[]⟩, 0, true, false, ⟨#[]⟩, ⟨#[114, 111, 111, 109]⟩⟩), (.slice (some ⟨w1.heap.size, 0, none⟩) 3 3, ⟨⟨#[122, 111, 110, 101]⟩, 2, 0, 0, [⟨#[97]⟩, ⟨#[98]⟩, ⟨#[99]⟩], ⟨#[]⟩, 0, false, false, ⟨#[97]⟩, ⟨#[]⟩⟩)]⟩, ⟨.slice (some ⟨w11.heap.size, 0, none⟩) 5 5, ⟨#[106, 111, 98]⟩, [(.slice none 0 0, ⟨⟨#[110, 101, 101, 100]⟩, 1, 1, 32, [], ⟨#[]⟩, 0, false, false, ⟨#[49]⟩, ⟨#[110, 101, 101, 100]⟩⟩), (.slice (some ⟨w6.heap.size, 0, none⟩) 2 2, ⟨⟨#[109, 111, 100, 101]⟩, 2, 0, 0, [⟨#[98, 105, 103]⟩, ⟨#[115, 109, 97, 108, 108]⟩], ⟨#[]⟩, 0, false, false, ⟨#[]⟩, ⟨#[]⟩⟩), (.slice none 0 0, ⟨⟨#[111, 110]⟩, 4, 0, 0, [], ⟨#[98, 101, 114, 116, 104]⟩, 1, false, false, ⟨#[]⟩, ⟨#[]⟩⟩), (.slice none 0 0, ⟨⟨#[118, 111, 108]⟩, 4, 0, 0, [], ⟨#[118, 111, 108]⟩, 2, false, false, ⟨#[]⟩, ⟨#[]⟩⟩), (.slice none 0 0, ⟨⟨#[111, 102]⟩, 4, 0, 0, [], ⟨#[106, 111, 98]⟩, 3, false, false, ⟨#[]⟩, ⟨#[]⟩⟩)]⟩, ⟨.slice (some ⟨w16.heap.size, 0, none⟩) 3 3, ⟨#[118, 111, 108]⟩, [(.slice none 0 0, ⟨⟨#[115, 105, 122, 101]⟩, 1, 1, 100, [], ⟨#[]⟩, 0, true, true, ⟨#[]⟩, ⟨#[100, 105, 115, 107]⟩⟩), (.slice (some ⟨w14.heap.size, 0, none⟩) 2 2, ⟨⟨#[99, 108, 97, 115, 115]⟩, 2, 0, 0, [⟨#[102, 97, 115, 116]⟩, ⟨#[115, 108, 111, 119]⟩], ⟨#[]⟩, 0, false, false, ⟨#[]⟩, ⟨#[]⟩⟩), (.slice none 0 0, ⟨⟨#[110, 111, 116, 101]⟩, 3, 1, 20, [], ⟨#[]⟩, 0, false, false, ⟨#[]⟩, ⟨#[]⟩⟩)]⟩], [⟨⟨#[106, 111, 98]⟩, ⟨#[110, 101, 101, 100]⟩, ⟨#[109, 111, 100, 101]⟩, ⟨#[98, 105, 103]⟩, ⟨#[56]⟩, ⟨#[]⟩⟩, ⟨⟨#[118, 111, 108]⟩, ⟨#[110, 111, 116, 101]⟩, ⟨#[99, 108, 97, 115, 115]⟩, ⟨#[102, 97, 115, 116]⟩, ⟨#[]⟩, ⟨#[99, 108, 97, 115, 115]⟩⟩, ⟨⟨#[98, 101, 114, 116, 104]⟩, ⟨#[114, 111, 111, 109]⟩, ⟨#[122, 111, 110, 101]⟩, ⟨#[99]⟩, ⟨#[52]⟩, ⟨#[]⟩⟩], rfl, ⟨OS.out, INN.out⟩, rfl, ⟨owns_lo OM.out (by omega), MF.out⟩, rfl, HBE.out⟩
end Go.Proofs.YtjkkbkdpoebfaaaGreat
