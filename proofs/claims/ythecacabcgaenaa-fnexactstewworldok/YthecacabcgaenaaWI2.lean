
import Derived.Test.YthecacabcgaenaaWA
namespace Go.Proofs.Ythecacabcgaenaa
open Go.RowKit Go.Deep

set_option maxRecDepth 20000 in
set_option maxHeartbeats 4000000 in
theorem grow_any (n : Nat) (h1 : 1 ≤ n) (h9 : n ≤ 9) (w : World) :
    Calls Try.prog 34 #[.slice none 0 0, .int .i64 n] w fun e w' => ∃ v, e = .returned v ∧ w'.ownsRow w.heap.size 37 4 v 0 [] ∧ Below w.heap.size w w' := by
  obtain ⟨i0, hi, hz0, hz1, hz2⟩ := info_parts Sb_info
  have HRUN := hide (Lib.run_append_nil_zeros (P := Try.prog) w 32 3 32 37 i0 _ .i64 .i64 Try.underlying32 Try.underlying3 hi hz0 n (by omega) (by omega) (by omega) (by rw [hz2]; omega))
  have d0 : decide ((n : Int) < 0) = false := by simp
  have d1 : decide ((0 : Int) < n) = true := by simp; omega
  generalize hcap : grownCap w n 0 37 = cap at HRUN
  have HC : Hid (n ≤ cap ∧ cap ≤ maxLen) := by
    unfold Hid
    rw [← hcap]
    exact ⟨grownCap_ge _ _ _ _, grownCap_le_maxLen _ _ _ _ (by unfold maxLen; omega)⟩
  have c0 : n ≤ cap := HC.out.1
  clear hcap
  go_enter Try.func34, Try.ntmps34
  go_wp2_with (at_builtin; refine Lib.wpList_append_run _ rfl (.tmp 20) (.tmp 21) 32 3 rfl _ _ rfl rfl _ _ HRUN.out ?_)
  go_ret
  refine ⟨_, rfl, ?_, (one_al w _).drew⟩
  refine World.ownsRow_made (base := w.heap.size) (e := 37) (size := 4) w.drew _ cap (Nat.le_refl _) HC.out.2 ?_
  rw [Array.size_append, size_zeroCells, size_zeroCells]
  simp only [List.size_toArray, List.length_cons, List.length_nil]
  omega

set_option maxRecDepth 20000 in
set_option maxHeartbeats 4000000 in
theorem concat_any (lo g h : Nat) (pv : Value) (L : List Sb) (B : Sb) (cs : List Value) (w : World) (hL : L.length ≤ 8)
    (h0 : w.cell? ⟨g, 0, none⟩ = some pv) (h1 : w.cell? ⟨g, 1, none⟩ = some (.slice (some ⟨h, 0, none⟩) 1 1)) (hp : SbsAt lo w pv L) (hr : w.rangeAt h 0 cs) (hc : SbC lo w cs B) :
    Calls Try.prog 15 #[.slice (some ⟨g, 0, none⟩) 2 2] w fun e w' => ∃ v, e = .returned v ∧ SbsAt 0 w' v (L ++ [B]) ∧ Below w.heap.size w w' := by
  obtain ⟨a, cap, rfl⟩ := hp.form
  obtain ⟨news, hn, hnil, hcell⟩ := hp.news
  have HN := hide hn
  have HNIL := hide hnil
  have HCE := hide hcell
  have HR := hide hr
  have HC := hide hc
  have HG0 := hide h0
  have HG1 := hide h1
  have hg := World.block_lt_of_cell? w _ h0
  have e1 : IntKind.i64.wrap ((L.length : Int) + 1) = ((L.length + 1 : Nat) : Int) := by rw [IntWalk.i64_left]; unfold wrap64; omega
  clear hp hn hnil hcell hr hc
  go_enter Try.func15, Try.ntmps15
  go_wp2
  go_loop [3, 11] (fun s i => (s = .int .i64 0 ∧ i = .int .i64 0) ∨ (s = .int .i64 L.length ∧ i = .int .i64 1) ∨ (s = .int .i64 ((L.length + 1 : Nat) : Int) ∧ i = .int .i64 2)) (fun _ i => 2 - (intOf i).toNat)
  case atStart => exact Or.inl ⟨rfl, rfl⟩
  case round =>
    rcases hrel with ⟨rfl, rfl⟩ | ⟨rfl, rfl⟩ | ⟨rfl, rfl⟩
    · go_wp2
      go_round
      case rel => exact Or.inr (Or.inl ⟨by go_num, by go_num⟩)
      case measure => simp [intOf]
    · go_wp2
      go_round
      case rel => exact Or.inr (Or.inr ⟨by go_num, by go_num⟩)
      case measure => simp [intOf]
    · clear h0 h1
      go_wp2_with (go_at_call 34; refine (grow_any (L.length + 1) (by omega) (by omega) _).mono ?_; rintro e w1 ⟨v1, rfl, ho1, hb1⟩)
      have HO1 := hide ho1
      have HB1 := hide hb1
      clear ho1 hb1
      go_loopw [6, 27] (fun v i wr => Below w.heap.size w wr ∧ ((i = .int .i64 0 ∧ wr.ownsRow w.heap.size 37 4 v 0 []) ∨ (i = .int .i64 1 ∧ wr.ownsRow w.heap.size 37 4 v L.length news) ∨ (i = .int .i64 2 ∧ wr.ownsRow w.heap.size 37 4 v (L.length + 1) (news ++ cs)))) (fun _ i _ => 2 - (intOf i).toNat)
      case atStart => exact ⟨HB1.out, Or.inl ⟨rfl, HO1.out⟩⟩
      case round =>
        obtain ⟨hb, hrel⟩ := hrel
        have HB := hide hb
        clear hb HO1 HB1
        have y0 : wr.cell? ⟨g, 0, none⟩ = some (.slice a L.length cap) := (HB.out.cell (p := ⟨g, 0, none⟩) hg).trans HG0.out
        have y1 : wr.cell? ⟨g, 1, none⟩ = some (.slice (some ⟨h, 0, none⟩) 1 1) := (HB.out.cell (p := ⟨g, 1, none⟩) hg).trans HG1.out
        obtain ⟨i0, hi, hz0, hz1, hz2⟩ := info_parts Sb_info
        rcases hrel with ⟨rfl, ho⟩ | ⟨rfl, ho⟩ | ⟨rfl, ho⟩
        · have HO := hide ho
          clear ho y1
          go_wp2_with (at_builtin; refine wpList_append_wa rfl (.tmp 31) (.tmp 32) 32 rfl w.heap.size 37 i0 _ 4 80 Try.underlying32 hi hz0 hz1 hz2 rfl (by decide) _ 0 [] rfl HO.out a L.length cap news rfl HN.out.len HNIL.out (fun ad e j u hu => (HB.out.cell (World.block_lt_of_cell? w _ (HCE.out ad e j u hu))).trans (HCE.out ad e j u hu)) HN.out.one (by unfold maxLen; omega) (by omega) HB.out.size ?_; intro v2 w2 ho2 hg2)
          have HO2 : Hid (w2.ownsRow w.heap.size 37 4 v2 L.length news) := by unfold Hid; simpa using ho2
          have HB2 : Hid (Below w.heap.size w w2) := HB.out.trans (waB_grown HO.out hg2 HB.out.size)
          clear ho2 hg2
          go_roundw
          case rel => exact ⟨HB2.out, Or.inr (Or.inl ⟨by go_num, HO2.out⟩)⟩
          case measure => simp [intOf]
        · have HO := hide ho
          clear ho y0
          go_wp2_with (at_builtin; refine wpList_append_wa rfl (.tmp 31) (.tmp 32) 32 rfl w.heap.size 37 i0 _ 4 80 Try.underlying32 hi hz0 hz1 hz2 rfl (by decide) _ L.length news rfl HO.out (some ⟨h, 0, none⟩) 1 1 cs rfl (by rw [HC.out.len]) (fun e => (nomatch e)) (fun ad e j u hu => by
              cases e
              rw [Go.WideShapes.add_plain]
              have := HR.out j u hu
              exact (HB.out.cell (World.block_lt_of_cell? w _ this)).trans this) (fun u hu => ((SbsNews.nil lo w).snoc HC.out).one u hu) (by unfold maxLen; omega) (by omega) HB.out.size ?_; intro v2 w2 ho2 hg2)
          have HO2 := hide ho2
          have HB2 : Hid (Below w.heap.size w w2) := HB.out.trans (waB_grown HO.out hg2 HB.out.size)
          clear ho2 hg2
          go_roundw
          case rel => exact ⟨HB2.out, Or.inr (Or.inr ⟨by go_num, HO2.out⟩)⟩
          case measure => simp [intOf]
        · have HO := hide ho
          clear ho y0 y1
          go_wp2
          go_ret
          exact ⟨_, rfl, ((HN.out.snoc HC.out).below HB.out).own (by simpa using HO.out) (by simp [maxLen]; omega), HB.out⟩
end Go.Proofs.Ythecacabcgaenaa
