import Derived.Test.YtmaagbnjpdijnaaYHG6
import Derived.Test.YtmaagbnjpdijnaaYHO0
import Derived.Test.YtmaagbnjpdijnaaYB1
import Derived.Test.YtmaagbnjpdijnaaYP1
import Derived.Test.YtmaagbnjpdijnaaYNN
import Derived.Test.YtmaagbnjpdijnaaYHG2
import Derived.Test.YtmaagbnjpdijnaaYTA
import Derived.Test.YtmaagbnjpdijnaaYDA
import Derived.Test.YtmaagbnjpdijnaaYM2
import Derived.Test.YtmaagbnjpdijnaaYHGA
import Derived.Test.YtmaagbnjpdijnaaYA1
import Derived.Test.YtmaagbnjpdijnaaYHG0
import Derived.Test.YtmaagbnjpdijnaaYOWX
import Derived.Test.YtmaagbnjpdijnaaYOXg
namespace Go.Proofs.Ytmaagbnjpdijnaa
open Go.RowKit Go.Deep

def svcB : ByteArray := ⟨#[115, 101, 114, 118, 105, 99, 101]⟩
def hallF : List Fd := [⟨⟨#[105, 109, 97, 103, 101]⟩, 1, 1, 1000, [], ⟨#[]⟩, 0, true, false, ⟨#[]⟩, ⟨#[]⟩⟩, ⟨⟨#[109, 111, 115, 116]⟩, 1, 0, 10, [], ⟨#[]⟩, 0, true, false, ⟨#[]⟩, ⟨#[99, 111, 112, 105, 101, 115]⟩⟩, ⟨⟨#[100, 111, 119, 110]⟩, 1, 0, 10, [], ⟨#[]⟩, 0, false, false, ⟨#[48]⟩, ⟨#[]⟩⟩, ⟨⟨#[111, 118, 101, 114]⟩, 1, 1, 10, [], ⟨#[]⟩, 0, false, false, ⟨#[49]⟩, ⟨#[99, 111, 112, 105, 101, 115]⟩⟩, ⟨⟨#[112, 101, 114]⟩, 1, 1, 1000000, [], ⟨#[]⟩, 0, false, false, ⟨#[]⟩, ⟨#[]⟩⟩, ⟨⟨#[111, 102]⟩, 4, 0, 0, [], ⟨#[115, 101, 114, 118, 105, 99, 101]⟩, 3, false, false, ⟨#[]⟩, ⟨#[]⟩⟩]
def hallM : Md := ⟨⟨#[115, 101, 114, 118, 105, 99, 101]⟩, ⟨#[100, 111, 119, 110]⟩, ⟨#[109, 111, 115, 116]⟩, ⟨#[49]⟩, ⟨#[48]⟩, ⟨#[]⟩⟩
def hallS : Sh := ⟨svcB, hallF⟩
theorem hallF_len : hallF.length = 6 := rfl
theorem size_lit (a : Array UInt8) (h : a.size ≤ 100) : (⟨a⟩ : ByteArray).size ≤ maxLen := by
  unfold maxLen
  show a.size ≤ _
  omega
theorem hallF_ok : ∀ i (hi : i < hallF.length), FdSize hallF[i] ∧ hallF[i].words = [] := by
  intro i hi
  have h6 : i < 6 := hi
  have : i = 0 ∨ i = 1 ∨ i = 2 ∨ i = 3 ∨ i = 4 ∨ i = 5 := by omega
  rcases this with rfl | rfl | rfl | rfl | rfl | rfl <;> exact ⟨⟨size_lit _ (by decide), size_lit _ (by decide), size_lit _ (by decide), size_lit _ (by decide)⟩, rfl⟩
theorem hallM_ok : MdSize hallM := ⟨size_lit _ (by decide), size_lit _ (by decide), size_lit _ (by decide), size_lit _ (by decide), size_lit _ (by decide), size_lit _ (by decide)⟩
theorem svc_ok : svcB.size ≤ maxLen := size_lit _ (by decide)
theorem hall_few {Ts : List Tm} (h : Ts.length ≤ 1048576) : LwFew hallS [hallM] Ts := by
  refine ⟨⟨by show 6 ≤ 1048576; omega, fun i hi => ?_⟩, ⟨by simp, fun _ _ => trivial⟩, ⟨h, fun _ _ => trivial⟩⟩
  show (hallF[i]'hi).words.length ≤ 1048576
  rw [(hallF_ok i hi).2]
  simp
theorem LwOwn.wide {lo hi lo' hi' : Nat} {w : World} {cs : List Value} {x : Sh} {Ms : List Md} {Ts : List Tm} (h : LwOwn lo hi w cs x Ms Ts) (q1 : lo' ≤ lo) (q2 : hi ≤ hi') : LwOwn lo' hi' w cs x Ms Ts := by
  obtain ⟨a0, k0, a1, k1, a2, k2, s0, s1, m0, m1, t0, t1, h1, z1, z2, z3, z4, z5, z6, z7, z8, z9, g⟩ := h
  exact ⟨a0, k0, a1, k1, a2, k2, s0, s1, m0, m1, t0, t1, h1, by omega, by omega, by omega, by omega, by omega, by omega, z7, z8, z9, g⟩

theorem mkTeams_any (a : Option Addr) (n c : Nat) (w : World) : Calls Try.prog 28 #[.slice a n c] w fun e w' => e = .returned (.func (.func 62) #[] #[.pointer (some ⟨w.heap.size, 0, none⟩)]) ∧ w' = w.alloc (.cells #[.slice a n c] 29) := by
  go_enter Try.func28, Try.ntmps28
  go_wp2
  go_ret
  exact ⟨rfl, rfl⟩

theorem mkShape_any (s : ByteArray) (w : World) : Calls Try.prog 29 #[.string s] w fun e w' => e = .returned (.func (.func 63) #[] #[.pointer (some ⟨w.heap.size, 0, none⟩)]) ∧ w' = w.alloc (.cells #[.string s] 9) := by
  go_enter Try.func29, Try.ntmps29
  go_wp2
  go_ret
  exact ⟨rfl, rfl⟩

theorem mkField_any (nm tt df we : ByteArray) (kd le mo ro : Int) (mu fx : Bool) (w : World) : Calls Try.prog 30 #[.agg #[.string nm, .int .i64 kd, .int .i64 le, .int .i64 mo, .slice none 0 0, .string tt, .int .i64 ro, .bool mu, .bool fx, .string df, .string we]] w fun e w' => e = .returned (.func (.func 64) #[] #[.pointer (some ⟨w.heap.size, 0, none⟩)]) ∧ w' = w.alloc (.cells #[.string nm, .int .i64 kd, .int .i64 le, .int .i64 mo, .slice none 0 0, .string tt, .int .i64 ro, .bool mu, .bool fx, .string df, .string we] 62) := by
  go_enter Try.func30, Try.ntmps30
  go_wp2
  go_ret
  exact ⟨rfl, rfl⟩

theorem mkMend_any (s0 s1 s2 s3 s4 s5 : ByteArray) (w : World) : Calls Try.prog 31 #[.agg #[.string s0, .string s1, .string s2, .string s3, .string s4, .string s5]] w fun e w' => e = .returned (.func (.func 65) #[] #[.pointer (some ⟨w.heap.size, 0, none⟩)]) ∧ w' = w.alloc (.cells #[.string s0, .string s1, .string s2, .string s3, .string s4, .string s5] 66) := by
  go_enter Try.func31, Try.ntmps31
  go_wp2
  go_ret
  exact ⟨rfl, rfl⟩

set_option maxRecDepth 20000 in
set_option maxHeartbeats 16000000 in
theorem implHLaw_any (cs : List Value) (U : Ho) (w : World) (h : HoC 0 w cs U) (hn : HoSmall U) :
    Calls Try.prog 9 #[.agg cs.toArray] w fun e w' => ∃ cs', e = .returned (.agg cs'.toArray) ∧ Below w.heap.size w w' ∧ LwOwn w.heap.size w'.heap.size w' cs' hallS [hallM] U.tm := by
  have H := hide h
  have HN := hide hn
  obtain ⟨a0, k0, a1, k1, rfl, h⟩ := h
  have HT := hide h.l0
  show Calls Try.prog 9 #[.agg #[.slice a0 U.tm.length k0, .slice a1 U.gr.length k1]] w _
  clear h hn
  go_enter Try.func9, Try.ntmps9
  go_wp2_with (first
    | (go_at_call 28; refine (mkTeams_any _ _ _ _).mono ?_; rintro e w' ⟨rfl, rfl⟩)
    | (go_at_call 29; refine (mkShape_any _ _).mono ?_; rintro e w' ⟨rfl, rfl⟩)
    | (go_at_call 30; refine (mkField_any _ _ _ _ _ _ _ _ _ _ _).mono ?_; rintro e w' ⟨rfl, rfl⟩)
    | (go_at_call 31; refine (mkMend_any _ _ _ _ _ _ _).mono ?_; rintro e w' ⟨rfl, rfl⟩))
  have HB : Hid (Below w.heap.size w w) := Below.refl _ _
  generalize hX : World.alloc w _ = X0
  have hs0 : X0.heap.size = w.heap.size + 1 := by rw [← hX]; simp
  have hb : Below w.heap.size w X0 := by rw [← hX]; exact one_al _ _
  have N0 : Hid (Box X0 (w.heap.size + 0) #[.slice a0 U.tm.length k0, .slice a1 U.gr.length k1]) := by unfold Hid; rw [← hX]; exact Box.new _ _ _ _ rfl
  replace HB : Hid (Below w.heap.size w X0) := bt HB.out hb
  clear hX hb
  generalize hX : World.alloc X0 _ = X1
  have hs1 : X1.heap.size = w.heap.size + 2 := by rw [← hX]; simp; omega
  have hb : Below X0.heap.size X0 X1 := by rw [← hX]; exact one_al _ _
  have N1 : Hid (Box X1 (w.heap.size + 1) #[.slice none 0 0, .slice none 0 0, .slice none 0 0]) := by unfold Hid; rw [← hX]; exact Box.new _ _ _ _ hs0
  replace N0 := hide (N0.out.on hb)
  replace HB : Hid (Below w.heap.size w X1) := bt HB.out hb
  clear hX hb hs0
  generalize hX : World.alloc X1 _ = X2
  have hs2 : X2.heap.size = w.heap.size + 3 := by rw [← hX]; simp; omega
  have hb : Below X1.heap.size X1 X2 := by rw [← hX]; exact one_al _ _
  have N2 : Hid (Box X2 (w.heap.size + 2) #[.slice a0 U.tm.length k0]) := by unfold Hid; rw [← hX]; exact Box.new _ _ _ _ hs1
  replace N0 := hide (N0.out.on hb)
  replace N1 := hide (N1.out.on hb)
  replace HB : Hid (Below w.heap.size w X2) := bt HB.out hb
  clear hX hb hs1
  generalize hX : World.alloc X2 _ = X3
  have hs3 : X3.heap.size = w.heap.size + 4 := by rw [← hX]; simp; omega
  have hb : Below X2.heap.size X2 X3 := by rw [← hX]; exact one_al _ _
  have N3 : Hid (Box X3 (w.heap.size + 3) #[.string svcB]) := by unfold Hid; rw [← hX]; exact Box.new _ _ _ _ hs2
  replace N0 := hide (N0.out.on hb)
  replace N1 := hide (N1.out.on hb)
  replace N2 := hide (N2.out.on hb)
  replace HB : Hid (Below w.heap.size w X3) := bt HB.out hb
  clear hX hb hs2
  generalize hX : World.alloc X3 _ = X4
  have hs4 : X4.heap.size = w.heap.size + 5 := by rw [← hX]; simp; omega
  have hb : Below X3.heap.size X3 X4 := by rw [← hX]; exact one_al _ _
  have N4 : Hid (Box X4 (w.heap.size + 4) (fdV (hallF[0]'(by decide))).toArray) := by unfold Hid; rw [← hX]; exact Box.new _ _ _ _ hs3
  replace N0 := hide (N0.out.on hb)
  replace N1 := hide (N1.out.on hb)
  replace N2 := hide (N2.out.on hb)
  replace N3 := hide (N3.out.on hb)
  replace HB : Hid (Below w.heap.size w X4) := bt HB.out hb
  clear hX hb hs3
  generalize hX : World.alloc X4 _ = X5
  have hs5 : X5.heap.size = w.heap.size + 6 := by rw [← hX]; simp; omega
  have hb : Below X4.heap.size X4 X5 := by rw [← hX]; exact one_al _ _
  have N5 : Hid (Box X5 (w.heap.size + 5) (fdV (hallF[1]'(by decide))).toArray) := by unfold Hid; rw [← hX]; exact Box.new _ _ _ _ hs4
  replace N0 := hide (N0.out.on hb)
  replace N1 := hide (N1.out.on hb)
  replace N2 := hide (N2.out.on hb)
  replace N3 := hide (N3.out.on hb)
  replace N4 := hide (N4.out.on hb)
  replace HB : Hid (Below w.heap.size w X5) := bt HB.out hb
  clear hX hb hs4
  generalize hX : World.alloc X5 _ = X6
  have hs6 : X6.heap.size = w.heap.size + 7 := by rw [← hX]; simp; omega
  have hb : Below X5.heap.size X5 X6 := by rw [← hX]; exact one_al _ _
  have N6 : Hid (Box X6 (w.heap.size + 6) (fdV (hallF[2]'(by decide))).toArray) := by unfold Hid; rw [← hX]; exact Box.new _ _ _ _ hs5
  replace N0 := hide (N0.out.on hb)
  replace N1 := hide (N1.out.on hb)
  replace N2 := hide (N2.out.on hb)
  replace N3 := hide (N3.out.on hb)
  replace N4 := hide (N4.out.on hb)
  replace N5 := hide (N5.out.on hb)
  replace HB : Hid (Below w.heap.size w X6) := bt HB.out hb
  clear hX hb hs5
  generalize hX : World.alloc X6 _ = X7
  have hs7 : X7.heap.size = w.heap.size + 8 := by rw [← hX]; simp; omega
  have hb : Below X6.heap.size X6 X7 := by rw [← hX]; exact one_al _ _
  have N7 : Hid (Box X7 (w.heap.size + 7) (fdV (hallF[3]'(by decide))).toArray) := by unfold Hid; rw [← hX]; exact Box.new _ _ _ _ hs6
  replace N0 := hide (N0.out.on hb)
  replace N1 := hide (N1.out.on hb)
  replace N2 := hide (N2.out.on hb)
  replace N3 := hide (N3.out.on hb)
  replace N4 := hide (N4.out.on hb)
  replace N5 := hide (N5.out.on hb)
  replace N6 := hide (N6.out.on hb)
  replace HB : Hid (Below w.heap.size w X7) := bt HB.out hb
  clear hX hb hs6
  generalize hX : World.alloc X7 _ = X8
  have hs8 : X8.heap.size = w.heap.size + 9 := by rw [← hX]; simp; omega
  have hb : Below X7.heap.size X7 X8 := by rw [← hX]; exact one_al _ _
  have N8 : Hid (Box X8 (w.heap.size + 8) (fdV (hallF[4]'(by decide))).toArray) := by unfold Hid; rw [← hX]; exact Box.new _ _ _ _ hs7
  replace N0 := hide (N0.out.on hb)
  replace N1 := hide (N1.out.on hb)
  replace N2 := hide (N2.out.on hb)
  replace N3 := hide (N3.out.on hb)
  replace N4 := hide (N4.out.on hb)
  replace N5 := hide (N5.out.on hb)
  replace N6 := hide (N6.out.on hb)
  replace N7 := hide (N7.out.on hb)
  replace HB : Hid (Below w.heap.size w X8) := bt HB.out hb
  clear hX hb hs7
  generalize hX : World.alloc X8 _ = X9
  have hs9 : X9.heap.size = w.heap.size + 10 := by rw [← hX]; simp; omega
  have hb : Below X8.heap.size X8 X9 := by rw [← hX]; exact one_al _ _
  have N9 : Hid (Box X9 (w.heap.size + 9) (fdV (hallF[5]'(by decide))).toArray) := by unfold Hid; rw [← hX]; exact Box.new _ _ _ _ hs8
  replace N0 := hide (N0.out.on hb)
  replace N1 := hide (N1.out.on hb)
  replace N2 := hide (N2.out.on hb)
  replace N3 := hide (N3.out.on hb)
  replace N4 := hide (N4.out.on hb)
  replace N5 := hide (N5.out.on hb)
  replace N6 := hide (N6.out.on hb)
  replace N7 := hide (N7.out.on hb)
  replace N8 := hide (N8.out.on hb)
  replace HB : Hid (Below w.heap.size w X9) := bt HB.out hb
  clear hX hb hs8
  generalize hX : World.alloc X9 _ = X10
  have hs10 : X10.heap.size = w.heap.size + 11 := by rw [← hX]; simp; omega
  have hb : Below X9.heap.size X9 X10 := by rw [← hX]; exact one_al _ _
  have N10 : Hid (Box X10 (w.heap.size + 10) #[.string hallM.kind, .string hallM.field, .string hallM.wh, .string hallM.is, .string hallM.put, .string hallM.fr]) := by unfold Hid; rw [← hX]; exact Box.new _ _ _ _ hs9
  replace N0 := hide (N0.out.on hb)
  replace N1 := hide (N1.out.on hb)
  replace N2 := hide (N2.out.on hb)
  replace N3 := hide (N3.out.on hb)
  replace N4 := hide (N4.out.on hb)
  replace N5 := hide (N5.out.on hb)
  replace N6 := hide (N6.out.on hb)
  replace N7 := hide (N7.out.on hb)
  replace N8 := hide (N8.out.on hb)
  replace N9 := hide (N9.out.on hb)
  replace HB : Hid (Below w.heap.size w X10) := bt HB.out hb
  clear hX hb hs9
  generalize hX : World.alloc X10 _ = X11
  have hs11 : X11.heap.size = w.heap.size + 12 := by rw [← hX]; simp; omega
  have hb : Below X10.heap.size X10 X11 := by rw [← hX]; exact one_al _ _
  have N11 : Hid (Box X11 (w.heap.size + 11) #[.func (.func 62) #[] #[.pointer (some ⟨w.heap.size + 2, 0, none⟩)], .func (.func 63) #[] #[.pointer (some ⟨w.heap.size + 3, 0, none⟩)], .func (.func 64) #[] #[.pointer (some ⟨w.heap.size + 4, 0, none⟩)], .func (.func 64) #[] #[.pointer (some ⟨w.heap.size + 5, 0, none⟩)], .func (.func 64) #[] #[.pointer (some ⟨w.heap.size + 6, 0, none⟩)], .func (.func 64) #[] #[.pointer (some ⟨w.heap.size + 7, 0, none⟩)], .func (.func 64) #[] #[.pointer (some ⟨w.heap.size + 8, 0, none⟩)], .func (.func 64) #[] #[.pointer (some ⟨w.heap.size + 9, 0, none⟩)], .func (.func 65) #[] #[.pointer (some ⟨w.heap.size + 10, 0, none⟩)]]) := by unfold Hid; rw [← hX]; exact Box.new _ _ _ _ hs10
  replace N0 := hide (N0.out.on hb)
  replace N1 := hide (N1.out.on hb)
  replace N2 := hide (N2.out.on hb)
  replace N3 := hide (N3.out.on hb)
  replace N4 := hide (N4.out.on hb)
  replace N5 := hide (N5.out.on hb)
  replace N6 := hide (N6.out.on hb)
  replace N7 := hide (N7.out.on hb)
  replace N8 := hide (N8.out.on hb)
  replace N9 := hide (N9.out.on hb)
  replace N10 := hide (N10.out.on hb)
  replace HB : Hid (Below w.heap.size w X11) := bt HB.out hb
  clear hX hb hs10
  have HC : Hid (Clz X11 (w.heap.size + 11) (w.heap.size + 2) (w.heap.size + 3) (w.heap.size + 10) (fun j => w.heap.size + 4 + j) a0 k0 U.tm svcB hallF hallM) :=
    ⟨by omega, N2.out, HT.out.below HB.out, N3.out, fun j hj => by
      have h6 : j < 6 := hj
      have : j = 0 ∨ j = 1 ∨ j = 2 ∨ j = 3 ∨ j = 4 ∨ j = 5 := by omega
      rcases this with rfl | rfl | rfl | rfl | rfl | rfl
      · exact N4.out
      · exact N5.out
      · exact N6.out
      · exact N7.out
      · exact N8.out
      · exact N9.out, N10.out, N11.out.cell 0, N11.out.cell 1, fun j hj => by
      have h6 : j < 6 := hj
      have : j = 0 ∨ j = 1 ∨ j = 2 ∨ j = 3 ∨ j = 4 ∨ j = 5 := by omega
      rcases this with rfl | rfl | rfl | rfl | rfl | rfl
      · exact N11.out.cell 2
      · exact N11.out.cell 3
      · exact N11.out.cell 4
      · exact N11.out.cell 5
      · exact N11.out.cell 6
      · exact N11.out.cell 7, N11.out.cell 8⟩
  refine (lawOf_any (w.heap.size + 11) (w.heap.size + 2) (w.heap.size + 3) (w.heap.size + 10) (fun j => w.heap.size + 4 + j) a0 k0 U.tm svcB hallF hallM _ HC.out hallF_len HN.out.1 svc_ok hallF_ok hallM_ok).mono ?_
  rintro e wz ⟨cs', rfl, hb, ho⟩
  have hz := hb.size
  have HO := hide ho
  obtain ⟨b0, m0, b1, m1, b2, m2, s0, s1, q0, q1, t0, t1, rfl, -⟩ := ho
  rw [show (lwL ⟨[⟨svcB, hallF⟩], [hallM], U.tm⟩ b0 m0 b1 m1 b2 m2).toArray = #[.slice b0 1 m0, .slice b1 1 m1, .slice b2 U.tm.length m2] from rfl]
  replace N1 := hide (N1.out.on hb)
  replace HB : Hid (Below w.heap.size w wz) := bt HB.out hb
  clear hb N0 N2 N3 N4 N5 N6 N7 N8 N9 N10 N11 HC
  have g1 := N1.out.cell
  have g2 := N1.out.free
  go_wp2
  refine bodyPost_ret (v := .agg #[.slice b0 1 m0, .slice b1 1 m1, .slice b2 U.tm.length m2]) (by simp [results, Try.results9, go_sem, g1]) rfl ?_
  refine ⟨lwL ⟨[hallS], [hallM], U.tm⟩ b0 m0 b1 m1 b2 m2, rfl, ?_, ?_⟩
  · repeat (refine Below.setCell ?_ (by simp only []; omega) _)
    exact HB.out
  · refine LwOwn.wide (lo := X11.heap.size) (hi := wz.heap.size) ?_ (by omega) (by simp [World.setCell])
    repeat (refine LwOwn.touch ?_ (Touch.setCell (w.heap.size + 1) (w.heap.size + 1 + 1) _ _ _ ⟨Nat.le_refl _, Nat.lt_succ_self _⟩) (by omega))
    exact HO.out
end Go.Proofs.Ytmaagbnjpdijnaa

namespace Go.Proofs.Ytmaagbnjpdijnaa
open Go.RowKit Go.Deep

/-- what a row that was made anew holds -/
def NewRow (base : Nat) (w' : World) (e : TypeId) (size m : Nat) (v' : Value) (news : List Value) : Prop := (m = 0 ∧ ∃ a c, v' = .slice a 0 c) ∨ w'.ownsRow base e size v' m news
theorem run_append_fresh {P : Program} (w : World) (t ty e : TypeId) (i : TypeInfo) (z : Value) (size bytes : Nat) (ht : P.underlying t = some (.slice e)) (hi : P.info? e = some i) (hz : i.zero = some z)
    (hsize : i.size = size) (hby : i.bytes = bytes) (hzs : z.cells.size = size) (hsz : 0 < size) (g : Addr) (ao : Option Addr) (m c : Nat) (news : List Value) (hl : news.length = m * size) (hm : ao = none → m = 0)
    (hnews : ∀ ad, ao = some ad → ∀ j u, news[j]? = some u → w.cell? (ad.add j) = some u) (h63 : m ≤ maxLen) (hbytes : m * bytes ≤ 140737488355328) :
    ∃ v' w', (Builtin.append_ #[t, t] ty #[.slice (some g) 0 0, .slice ao m c]).run P w = .ok v' w' ∧ NewRow w.heap.size w' e size m v' news ∧ Below w.heap.size w w' := by
  by_cases h0 : m = 0
  · subst h0
    refine ⟨.slice (some g) 0 0, w, ?_, Or.inl ⟨rfl, _, _, rfl⟩, Below.refl _ _⟩
    cases ao with
    | none => simp [Builtin.append_, run_underlying ht, sizeOf, typeInfo, hi, Builtin.lenOf, Builtin.firstCells, storeCells]
    | some ad => simp [Builtin.append_, run_underlying ht, sizeOf, typeInfo, hi, Builtin.lenOf, Builtin.firstCells, loadCells, loadCellsFrom, storeCells]
  · cases ao with
    | none => exact absurd (hm rfl) h0
    | some ad =>
      subst hsize
      subst hby
      have hsmall : m ≤ 9223372036854775807 := by simp only [maxLen] at h63; omega
      have hr := run_append_grow (P := P) w t ty e i z ht hi hz g 0 0 [] (by simp) (fun j u h => by simp at h) ad m c news hl (hnews ad rfl) (by omega) (by omega) (growslice_fits (by omega) (by simpa using hbytes))
      have hge := grownCap_ge w (0 + m) 0 e
      have hcm : grownCap w (0 + m) 0 e ≤ maxLen := grownCap_le_maxLen w (0 + m) 0 e (by simpa using h63)
      refine ⟨_, _, hr, Or.inr ⟨hl, .inr ⟨w.heap.size, _, _, by rw [Nat.zero_add], Nat.le_refl _, heap_alloc_new w.drew _, by simpa using hge, hcm, ?_, ?_⟩⟩, (Below.refl _ _).drew.alloc (Nat.le_refl _) _⟩
      · simp only [Nat.zero_add] at hge ⊢
        simp only [Array.size_append, List.size_toArray, size_zeroCells, hzs, hl, List.length_nil, Nat.zero_add, ← Nat.add_mul]
        congr 1
        omega
      · simp only [Array.toList_append, List.nil_append]
        rw [← hl]
        exact List.take_left
theorem wpList_append_fresh {P : Program} {w : World} {ops : Array Oper} {rest : List Oper} {o : Oper} {a : Act} {Q : Exit → Act → World → Prop} (hgd : o.guard = none) (s x : Operand) (t : TypeId)
    (ho : o.op = .call { callee := .builtin .append, args := #[s, x], argTypes := #[t, t] })
    (e : TypeId) (i : TypeInfo) (z : Value) (size bytes : Nat) (ht : P.underlying t = some (.slice e)) (hi : P.info? e = some i) (hz : i.zero = some z)
    (hsize : i.size = size) (hby : i.bytes = bytes) (hzs : z.cells.size = size) (hsz : 0 < size)
    (g : Addr) (hs : a.eval s = .slice (some g) 0 0)
    (ao : Option Addr) (m c : Nat) (news : List Value) (hx : a.eval x = .slice ao m c) (hl : news.length = m * size) (hm : ao = none → m = 0) (hnews : ∀ ad, ao = some ad → ∀ j u, news[j]? = some u → w.cell? (ad.add j) = some u)
    (h63 : m ≤ maxLen) (hbytes : m * bytes ≤ 140737488355328)
    (h : ∀ v' w', NewRow w.heap.size w' e size m v' news → Below w.heap.size w w' → wpList P ops Q rest (a.put o.dst v') w') :
    wpList P ops Q (o :: rest) a w := by
  refine wpList_plain hgd fun K hK => ?_
  obtain ⟨v', w', hr, h2, h3⟩ := run_append_fresh (P := P) w t o.type e i z size bytes ht hi hz hsize hby hzs hsz g ao m c news hl hm hnews h63 hbytes
  unfold Oper.wp execOp
  simp only [ho, resolve, invoke, builtin, Sem.run_bind, Sem.run_pure, Result.andThen_ok, List.map_toArray, List.map_cons, List.map_nil, hs, hx, hr]
  exact hK _ _ (h v' w' h2 h3)
theorem NewRow.tms {base : Nat} {W : World} {v : Value} {L : List Tm} (h : NewRow base W 108 2 L.length v (Tmvs L)) (hz : ∀ i (hi : i < L.length), TmSize L[i]) : TmsOwn base W.heap.size W v L := by
  rcases h with ⟨h0, a, c, hv⟩ | h
  · have hL := List.length_eq_zero_iff.1 h0
    subst hL
    exact Or.inl ⟨a, c, hv, rfl⟩
  · exact Tmvs_own h hz
/-- a row that is a block of its own -/
theorem owns_block {X : World} {base n sz : Nat} {e : TypeId} {L : List Value} (hl : L.length = n * sz) (hn : n ≤ 1000) (hb : base ≤ X.heap.size) : (X.alloc (.cells L.toArray e)).ownsRow base e sz (.slice (some ⟨X.heap.size, 0, none⟩) n n) n L :=
  ⟨hl, Or.inr ⟨X.heap.size, n, L.toArray, rfl, hb, heap_alloc_new X _, Nat.le_refl _, by unfold maxLen; omega, by simpa using hl, by simp [← hl]⟩⟩

set_option maxRecDepth 20000 in
theorem l29_any (nm df we : ByteArray) (le mo : Int) (mu : Bool) (w : World) :
    Calls Try.prog 24 #[.string nm, .int .i64 le, .int .i64 mo, .bool mu, .string df, .string we] w
      fun e w' => e = .returned (.agg #[.string nm, .int .i64 1, .int .i64 le, .int .i64 mo, .slice none 0 0, .string ⟨#[]⟩, .int .i64 0, .bool mu, .bool false, .string df, .string we]) ∧ Below w.heap.size w w' := by
  go_enter Try.func24, Try.ntmps24
  go_wp2
  refine bodyPost_ret (v := .agg #[.string nm, .int .i64 1, .int .i64 le, .int .i64 mo, .slice none 0 0, .string ⟨#[]⟩, .int .i64 0, .bool mu, .bool false, .string df, .string we]) (by simp [results, Try.results24, go_sem]) rfl ⟨rfl, ?_⟩
  repeat (refine Below.setCell ?_ (Nat.le_refl _) _)
  exact one_al _ _

set_option maxRecDepth 20000 in
set_option maxHeartbeats 16000000 in
theorem specHLaw_any (cs : List Value) (U : Ho) (w : World) (h : HoC 0 w cs U) (hn : HoSmall U) :
    Calls Try.prog 7 #[.agg cs.toArray] w fun e w' => ∃ cs', e = .returned (.agg cs'.toArray) ∧ Below w.heap.size w w' ∧ LwC 0 w' cs' ⟨[hallS], [hallM], U.tm⟩ := by
  obtain ⟨i0, hi, hz0, hz1, hz2⟩ := info_parts Try.info108
  have HI := hide (And.intro hi (And.intro hz0 (And.intro hz1 hz2)))
  clear hi hz0 hz1 hz2
  have HN := hide hn.1
  have hn1 : U.tm.length ≤ 1048576 := hn.1
  obtain ⟨a0, k0, a1, k1, rfl, h⟩ := h
  have HT := hide h.l0
  have HM : Hid (a0 = none → U.tm.length = 0) := fun e => by
    rcases HT.out with ⟨_, _, h, hx⟩ | ⟨_, _, _, h, _⟩
    · rw [hx]; rfl
    · injection h with h; rw [e] at h; cases h
  have HNW : Hid (∀ ad, a0 = some ad → ∀ W, Below w.heap.size w W → ∀ j u, (Tmvs U.tm)[j]? = some u → W.cell? (ad.add j) = some u) := fun ad e W hb => by
    have h := HT.out
    rw [e] at h
    exact Tmvs_news h hb
  show Calls Try.prog 7 #[.agg #[.slice a0 U.tm.length k0, .slice a1 U.gr.length k1]] w _
  clear h hn
  go_enter Try.func7, Try.ntmps7
  go_wp2_with fail
  generalize hWa : (World.alloc (w.alloc _) _) = Wa
  have HB : Hid (Below w.heap.size w Wa) := by unfold Hid; rw [← hWa]; exact (one_al w _).alloc (by simp) _
  have FX : Hid (Box Wa w.heap.size #[.slice a0 U.tm.length k0, .slice a1 U.gr.length k1]) := by unfold Hid; rw [← hWa]; exact (Box.new _ _ _ _ rfl).on (one_al _ _)
  have FR : Hid (Box Wa (w.heap.size + 1) #[.slice none 0 0, .slice none 0 0, .slice none 0 0]) := by unfold Hid; rw [← hWa]; exact Box.new _ _ _ _ (by simp)
  clear hWa
  refine (l29_any _ _ _ _ _ _ _).mono ?_
  rintro e w0 ⟨rfl, hb⟩
  replace HB : Hid (Below w.heap.size w w0) := bt HB.out hb
  replace FX := hide (FX.out.on hb)
  replace FR := hide (FR.out.on hb)
  clear hb
  go_wp2_with fail
  refine (l29_any _ _ _ _ _ _ _).mono ?_
  rintro e w1 ⟨rfl, hb⟩
  replace HB : Hid (Below w.heap.size w w1) := bt HB.out hb
  replace FX := hide (FX.out.on hb)
  replace FR := hide (FR.out.on hb)
  clear hb
  go_wp2_with fail
  refine (l29_any _ _ _ _ _ _ _).mono ?_
  rintro e w2 ⟨rfl, hb⟩
  replace HB : Hid (Below w.heap.size w w2) := bt HB.out hb
  replace FX := hide (FX.out.on hb)
  replace FR := hide (FR.out.on hb)
  clear hb
  go_wp2_with fail
  refine (l29_any _ _ _ _ _ _ _).mono ?_
  rintro e w3 ⟨rfl, hb⟩
  replace HB : Hid (Below w.heap.size w w3) := bt HB.out hb
  replace FX := hide (FX.out.on hb)
  replace FR := hide (FR.out.on hb)
  clear hb
  go_wp2_with fail
  refine (l29_any _ _ _ _ _ _ _).mono ?_
  rintro e w4 ⟨rfl, hb⟩
  replace HB : Hid (Below w.heap.size w w4) := bt HB.out hb
  replace FX := hide (FX.out.on hb)
  replace FR := hide (FR.out.on hb)
  clear hb
  go_upto_region 3 with fail
  generalize hX : World.alloc w4 _ = X0
  have hb : Below w4.heap.size w4 X0 := by rw [← hX]; exact one_al _ _
  have HF : Hid (X0.ownsRow w4.heap.size 62 11 (.slice (some ⟨w4.heap.size, 0, none⟩) 6 6) 6 (flatV fdV hallF)) := by unfold Hid; rw [← hX]; exact owns_block (L := flatV fdV hallF) rfl (by omega) (Nat.le_refl _)
  have hs0 : X0.heap.size = w4.heap.size + 1 := by rw [← hX]; simp
  have hr4 : w.heap.size + 1 < w4.heap.size := FR.out.lt
  replace HB : Hid (Below w.heap.size w X0) := bt HB.out hb
  replace FX := hide (FX.out.on hb)
  replace FR := hide (FR.out.on hb)
  clear hX hb
  generalize hX : World.alloc X0 _ = X1
  have hb : Below X0.heap.size X0 X1 := by rw [← hX]; exact one_al _ _
  have HMd : Hid (X1.ownsRow (w4.heap.size + 1) 66 6 (.slice (some ⟨w4.heap.size + 1, 0, none⟩) 1 1) 1 [.string hallM.kind, .string hallM.field, .string hallM.wh, .string hallM.is, .string hallM.put, .string hallM.fr]) := by
    unfold Hid
    rw [← hX, ← hs0]
    exact owns_block (L := [.string hallM.kind, .string hallM.field, .string hallM.wh, .string hallM.is, .string hallM.put, .string hallM.fr]) rfl (by omega) (Nat.le_refl _)
  have hs1 : X1.heap.size = w4.heap.size + 2 := by rw [← hX]; simp; omega
  replace HB : Hid (Below w.heap.size w X1) := bt HB.out hb
  replace FX := hide (FX.out.on hb)
  replace FR := hide (FR.out.on hb)
  replace HF := hide (Below.ownsB HF.out hb)
  clear hX hb
  have HS0 := hide hs0
  have HS1 := hide hs1
  have HR4 := hide hr4
  have x0 : ∀ o o', ((X1.alloc o).alloc o').cell? ⟨w.heap.size, 0, none⟩ = some (.slice a0 U.tm.length k0) := fun o o' => ((FX.out.on (one_al _ o)).on (one_al _ o')).cell 0
  clear hs0 hs1 hr4
  go_wp2_with (at_builtin; refine Hid.out ?_)
  refine hide ?_
  refine wpList_append_fresh rfl (.tmp 18) (.tmp 20) 29 rfl 108 i0 (.agg #[.string ⟨#[]⟩, .string ⟨#[]⟩]) 2 32 Try.underlying29 HI.out.1 HI.out.2.1 HI.out.2.2.1 HI.out.2.2.2 rfl (by decide) ⟨X1.heap.size + 1, 0, none⟩ ?_ a0 U.tm.length k0 (Tmvs U.tm) ?_ ?_ ?_ ?_ ?_ ?_ ?_
  · rfl
  · rfl
  · exact Tmvs_len _
  · exact HM.out
  · intro ad e
    exact HNW.out ad e _ (bt (bt HB.out (one_al _ _)) (one_al _ _))
  · unfold maxLen; omega
  · omega
  intro v3 w5 hrow hb5
  have HT5 := hide (hrow.tms HT.out.size)
  obtain ⟨a2, k2, rfl⟩ := HT5.out.at.form
  have hb6 : Below X1.heap.size X1 w5 := bt (bt (one_al _ _) (one_al _ _)) hb5
  have BS : Hid (Box w5 X1.heap.size #[.string svcB, .slice (some ⟨w4.heap.size, 0, none⟩) 6 6]) := ((Box.new X1 _ _ _ rfl).on (one_al _ _)).on hb5
  have hq5 : X1.heap.size + 2 ≤ ((X1.alloc (.cells #[.string svcB, .slice (some ⟨w4.heap.size, 0, none⟩) 6 6] 68)).alloc (.cells #[] 108)).heap.size := by simp
  replace HB : Hid (Below w.heap.size w w5) := bt HB.out hb6
  replace FR := hide (FR.out.on hb6)
  replace HF := hide (Fdvs_own (L := hallF) (Below.ownsB HF.out hb6) (by intro h; cases h) hallF_ok)
  replace HMd := hide (Mdv_own (m := hallM) (Below.ownsB HMd.out hb6) hallM_ok)
  have g1 := FR.out.cell
  have g2 := FR.out.free
  clear hrow hb5 hb6 x0 hq5
  go_wp2
  have hs0 := HS0.out
  have hs1 := HS1.out
  have hr4 := HR4.out
  have hkey : ∀ W, Touch (w.heap.size + 1) (w.heap.size + 1 + 1) w5 W → LwC 0 W (lwL ⟨[hallS], [hallM], U.tm⟩ (some ⟨X1.heap.size, 0, none⟩) 1 (some ⟨w4.heap.size + 1, 0, none⟩) 1 a2 k2) ⟨[hallS], [hallM], U.tm⟩ := fun W ht => by
    have hq := BS.out.lt
    have hz := ht.size
    have bb := BS.out.touch ht (by omega)
    refine ⟨_, _, _, _, _, _, rfl, ⟨Or.inr ⟨X1.heap.size, 0, 1, rfl, by simp, by simp [maxLen], by omega, Nat.zero_le _, fun i hi => ?_⟩, (HMd.out.touch ht (by omega)).at.mono (Nat.zero_le _), (HT5.out.touch ht (by simp; omega)).at.mono (Nat.zero_le _)⟩⟩
    have hi0 : i = 0 := by simpa using hi
    subst hi0
    exact ⟨svc_ok, _, bb.cell 0, bb.cell 1, (HF.out.touch ht (by omega)).at.mono (Nat.zero_le _)⟩
  refine bodyPost_ret (v := .agg #[.slice (some ⟨X1.heap.size, 0, none⟩) 1 1, .slice (some ⟨w4.heap.size + 1, 0, none⟩) 1 1, .slice a2 U.tm.length k2]) (by simp [results, Try.results7, go_sem, g1]) rfl ?_
  refine ⟨lwL ⟨[hallS], [hallM], U.tm⟩ (some ⟨X1.heap.size, 0, none⟩) 1 (some ⟨w4.heap.size + 1, 0, none⟩) 1 a2 k2, rfl, ?_, hkey _ ?_⟩
  · repeat (refine Below.setCell ?_ (by simp only []; omega) _)
    exact HB.out
  · refine Touch.trans (Touch.trans ?_ (Touch.setCell (w.heap.size + 1) (w.heap.size + 1 + 1) _ _ _ ⟨Nat.le_refl _, Nat.lt_succ_self _⟩)) (Touch.setCell (w.heap.size + 1) (w.heap.size + 1 + 1) _ _ _ ⟨Nat.le_refl _, Nat.lt_succ_self _⟩)
    exact Touch.setCell (w.heap.size + 1) (w.heap.size + 1 + 1) _ _ _ ⟨Nat.le_refl _, Nat.lt_succ_self _⟩
end Go.Proofs.Ytmaagbnjpdijnaa

