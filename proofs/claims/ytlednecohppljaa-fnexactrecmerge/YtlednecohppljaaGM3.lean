
import Derived.Test.YtlednecohppljaaGM2
import Derived.Test.YtlednecohppljaaZV
namespace Go.Proofs.Ytlednecohppljaa
open Go.RowKit Go.Deep

set_option maxHeartbeats 1000000 in
theorem cmpRs_any (x y : Rs) (w : World) :
    Calls Try.prog 25 #[.agg #[.int .i64 x.ba, .string x.tx], .agg #[.int .i64 y.ba, .string y.tx]] w fun e w' => e = .returned (.int .i64 (cmpI x.ba y.ba)) ∧ Below w.heap.size w w' := by
  have HO : ∀ o o', Hid (Below w.heap.size w ((w.alloc o).alloc o')) := fun o o' => (one_al w o).alloc (by simp) o'
  go_enter Try.func25, Try.ntmps25
  go_wp2_with (go_at_call 50; refine (cmpInt_any _ _ _).mono ?_; rintro e w' ⟨rfl, rfl⟩)
  go_ret
  exact ⟨rfl, (HO _ _).out⟩

/-- x[m:] -/
def cutA (ao : Option Addr) (c m : Nat) : Option Addr := if c = m then ao else ao.map (·.add (m * 2))
set_option maxRecDepth 20000 in
theorem wpList_from {w : World} {ops : Array Oper} {rest : List Oper} {o : Oper} {a : Act} {Q : Exit → Act → World → Prop} (hgd : o.guard = none) (x y : Operand) (ho : o.op = .slice 24 x (some y) none none)
    (ao : Option Addr) (n c m : Nat) (hx : a.eval x = .slice ao n c) (hy : a.eval y = .int .i64 m) (hm : m ≤ n) (h : wpList Try.prog ops Q rest (a.put o.dst (.slice (cutA ao c m) (n - m) (c - m))) w) : wpList Try.prog ops Q (o :: rest) a w := by
  refine wpList_plain hgd fun K hK => ?_
  have hr := run_slice_l (P := Try.prog) w 24 ao n c Try.underlying24 .i64 m (by omega) (by omega)
  have hs := run_sliceAt_slice (P := Try.prog) w 24 (.slice ao n c) (some (.int .i64 m)) none none Try.underlying24
  obtain ⟨i0, hi, hz0, hz1, hz2⟩ := info_parts infoRs
  have hsz : (sizeOf 56).run Try.prog w = .ok 2 w := by simp [sizeOf, typeInfo, hi, hz1]
  unfold Oper.wp execOp
  simp only [ho, Option.map_some, Option.map_none, hx, hy, Sem.run_bind, Sem.run_pure, Result.andThen_ok, hs, hr, show Try.prog.elem 24 = 56 from rfl, hsz, sliced, Int.toNat_natCast]
  exact hK _ _ h
theorem RssAt.from {lo : Nat} {w : World} {ao : Option Addr} {n c m : Nat} {A : List Rs} (h : RssAt lo w (.slice ao n c) A) (hn : n = A.length) (hm : m ≤ A.length) : ∀ ad, cutA ao c m = some ad → ∀ j u, (flatV rsL (A.drop m))[j]? = some u → w.cell? (ad.add j) = some u := by
  subst hn
  intro ad hc j u hu
  have hj := (List.getElem?_eq_some_iff.1 hu).1
  rw [flatV_len rsL_len, List.length_drop] at hj
  have h0 : 0 < A.length := by omega
  have hcap : A.length ≤ c := by
    rcases h with ⟨_, _, _, e⟩ | ⟨_, _, _, h1, _, _, _, _, h6, _⟩
    · rw [e] at h0; simp at h0
    · injection h1 with e1 e2 e3
      omega
  obtain ⟨b, off, rfl, -, -, -⟩ := h.full' h0
  unfold cutA at hc
  rw [if_neg (by omega)] at hc
  simp only [Option.map_some, Option.some.injEq] at hc
  subst hc
  have hu' := flatV_drop rsL_len hm hu
  have := h.src _ rfl _ _ hu'
  rw [Addr.add_lit] at this ⊢
  rw [Addr.add_lit]
  simp only [Nat.add_assoc] at this ⊢
  exact this
theorem RssAt.cutN {lo : Nat} {w : World} {ao : Option Addr} {n c m : Nat} {A : List Rs} (h : RssAt lo w (.slice ao n c) A) (hn : n = A.length) : cutA ao c m = none → n - m = 0 := by
  intro hc
  have : ao = none := by
    unfold cutA at hc
    split at hc
    · exact hc
    · cases ao with
      | none => rfl
      | some x => simp at hc
  have := h.nilN this
  omega

set_option maxRecDepth 20000 in
set_option maxHeartbeats 8000000 in
theorem behind_any (lo : Nat) (W0 : World) (va vb v : Value) (A B : List Rs) (w : World) (ha : RssAt lo W0 va A) (hb : RssAt lo W0 vb B) (hna : A.length ≤ 1048576) (hnb : B.length ≤ 1048576) (hw : Below W0.heap.size W0 w) (hl : LRow w W0.heap.size v []) :
    Calls Try.prog 24 #[v, va, vb, .func (.func 25) #[] #[]] w fun e w' => ∃ v', e = .returned v' ∧ Below W0.heap.size W0 w' ∧ LRow w' W0.heap.size v' (mergeL A B) := by
  have HVA := hide ha
  have HVB := hide hb
  have HW := hide hw
  have HL0 := hide hl
  obtain ⟨aa, ca, rfl⟩ := ha.form
  obtain ⟨ab, cb, rfl⟩ := hb.form
  clear ha hb hw hl
  obtain ⟨m, hm⟩ : ∃ m : Nat, m = min A.length B.length := ⟨_, rfl⟩
  have hmi : min (A.length : Int) (B.length : Int) = (m : Int) := by omega
  have hma : m ≤ A.length := by omega
  have hmb : m ≤ B.length := by omega
  have HM := hide hm
  clear hm
  go_enter Try.func24, Try.ntmps24
  go_wp2
  go_loopw [0, 17] (fun o i wr => ∃ (k : Nat) (L : List Rs), i = .int .i64 k ∧ k ≤ m ∧ Below W0.heap.size W0 wr ∧ LRow wr W0.heap.size o L ∧ L = both A B k) (fun _ i _ => m - (intOf i).toNat)
  case atStart => exact ⟨0, [], rfl, by omega, HW.out, HL0.out, rfl⟩
  case round =>
    obtain ⟨k, L, rfl, hk, hb, hl, hL⟩ := hrel
    have HB := hide hb
    have HL := hide hl
    have HE := hide hL
    have HLn : Hid (L.length = k) := by unfold Hid; rw [hL, both_len]
    clear hb hl hL
    by_cases hlt : k < m
    · have hka : k < A.length := by omega
      have hkb : k < B.length := by omega
      obtain ⟨b, off, hab, hbw, -, hc⟩ := HVB.out.full' (by omega)
      obtain ⟨a, offa, haa, haw, -, hca⟩ := HVA.out.full' (by omega)
      subst hab haa
      obtain ⟨hsz, hcc⟩ := hc k hkb
      obtain ⟨hsa, hcca⟩ := hca k hka
      obtain ⟨y, hy⟩ : ∃ y, y = B[k] := ⟨_, rfl⟩
      obtain ⟨x, hx⟩ : ∃ x, x = A[k] := ⟨_, rfl⟩
      rw [← hy] at hsz hcc
      rw [← hx] at hsa hcca
      have HNX : Hid (both A B (k + 1) = L ++ [mrg x y]) := by unfold Hid; rw [both_succ A B k hka hkb, ← HE.out, ← hx, ← hy]
      have HZ := hide hsz
      have HZA := hide hsa
      have E0 := hide (hcc.below HB.out hbw)
      have EA := hide (hcca.below HB.out haw)
      have i0 : (0 : Int) ≤ (k : Int) := by omega
      have i1 : (k : Int) < (B.length : Int) := by omega
      have i2 : (k : Int) < (A.length : Int) := by omega
      clear hc hcc hsz hy hca hcca hsa hx
      go_wp2
      go_cut [30] (fun c wc => c = .bool (decide (cmpI x.ba y.ba < 0)) ∧ Below wr.heap.size wr wc)
      case first =>
        have xn : Nonempty (In (Up wr)) := ⟨⟨wr, Below.refl _ _⟩⟩
        have xs := fun (X : In (Up wr)) => in_self X
        have s0 : ∀ X : In (Up wr), _ := fun X => Up.cell X E0.out.c0
        have s1 : ∀ X : In (Up wr), _ := fun X => Up.cell X E0.out.c1
        have t0 : ∀ X : In (Up wr), _ := fun X => Up.cell X EA.out.c0
        have t1 : ∀ X : In (Up wr), _ := fun X => Up.cell X EA.out.c1
        refine wp_region_class (Up wr) (by kernel_rfl) (by kernel_rfl) ((Below.refl _ _).drew) ?_
        repeat (go_big_quiet_step ((go_at_call 25; rename_i X; exact (cmpRs_any x y _).mono fun _ _ h => ⟨h.1, Up.next X h.2⟩)))
        refine wpQuiet_nil ?_
        intro wn hw
        obtain ⟨X, hX⟩ := hw
        have HWN : Below wr.heap.size wr wn := by rw [hX]; exact X.h
        clear hX X s0 s1 t0 t1 xs xn
        go_wp2
        go_meet
        exact ⟨rfl, HWN⟩
      case rest =>
        obtain ⟨rfl, hbc⟩ := hcut
        have HBc := hide hbc
        have HLc := hide (HL.out.below hbc)
        obtain ⟨q0, q1⟩ := E0.out.below hbc (Nat.lt_of_lt_of_le hbw HB.out.size)
        obtain ⟨q2, q3⟩ := EA.out.below hbc (Nat.lt_of_lt_of_le haw HB.out.size)
        clear hbc
        cases dm : decide (cmpI x.ba y.ba < 0) with
        | true =>
            have HN : Hid (both A B (k + 1) = L ++ [y]) := by unfold Hid; rw [HNX.out, mrg, if_pos (cmpI_neg.1 (of_decide_eq_true dm))]
            go_wp2_with (at_builtin; refine wpList_lrow (w := wc.alloc _) (base := W0.heap.size) (L := L) [y] rfl (.tmp 31) (.tmp 36) rfl rfl (HLc.out.below (one_al _ _)) (some ⟨wc.heap.size, 0, none⟩) 1 1 rfl rfl (fun e => by cases e) (fun ad e j u hu => by
                injection e with e
                subst e
                rw [Addr.add_lit, Nat.zero_add, (Box.new wc _ _ _ rfl).cell j]
                simpa [flatV, rsL] using hu) (fun i hi => by
                have : i = 0 := by simp at hi; omega
                subst this
                exact HZ.out) (by have := HLn.out; simp; omega) (by have := (bt HB.out HBc.out).size; simp; omega) ?_; intro v' w' h1 h2; have H1 := hide h1; have H2 := hide h2; clear h1 h2)
            go_roundw
            case rel => exact ⟨k + 1, L ++ [y], by go_num, by omega, (bt (bt HB.out HBc.out) (one_al _ _)).trans (H2.out), H1.out, HN.out.symm⟩
            case measure => simp [intOf]; omega
        | false =>
            have HN : Hid (both A B (k + 1) = L ++ [x]) := by unfold Hid; rw [HNX.out, mrg, if_neg (fun h => of_decide_eq_false dm (cmpI_neg.2 h))]
            go_wp2_with (at_builtin; refine wpList_lrow (w := wc.alloc _) (base := W0.heap.size) (L := L) [x] rfl (.tmp 38) (.tmp 43) rfl rfl (HLc.out.below (one_al _ _)) (some ⟨wc.heap.size, 0, none⟩) 1 1 rfl rfl (fun e => by cases e) (fun ad e j u hu => by
                injection e with e
                subst e
                rw [Addr.add_lit, Nat.zero_add, (Box.new wc _ _ _ rfl).cell j]
                simpa [flatV, rsL] using hu) (fun i hi => by
                have : i = 0 := by simp at hi; omega
                subst this
                exact HZA.out) (by have := HLn.out; simp; omega) (by have := (bt HB.out HBc.out).size; simp; omega) ?_; intro v' w' h1 h2; have H1 := hide h1; have H2 := hide h2; clear h1 h2)
            go_roundw
            case rel => exact ⟨k + 1, L ++ [x], by go_num, by omega, (bt (bt HB.out HBc.out) (one_al _ _)).trans (H2.out), H1.out, HN.out.symm⟩
            case measure => simp [intOf]; omega
    · have hkm : k = m := by omega
      subst hkm
      obtain ⟨g, cap, rfl, hr⟩ := HL.out
      clear hr
      have HSA : Hid (∀ i (h : i < (A.drop k).length), RsSize (A.drop k)[i]) := fun i hi => by rw [List.getElem_drop]; exact HVA.out.sizes _ _
      have HSB : Hid (∀ i (h : i < (B.drop k).length), RsSize (B.drop k)[i]) := fun i hi => by rw [List.getElem_drop]; exact HVB.out.sizes _ _
      go_wp2_with (first
        | (with_reducible refine wpList_from (by with_reducible rfl) (.tmp 47) (.tmp 48) (by with_reducible rfl) aa A.length ca k (by with_unfolding_all rfl) (by with_unfolding_all rfl) hma ?_)
        | (with_reducible refine wpList_from (by with_reducible rfl) (.tmp 52) (.tmp 53) (by with_reducible rfl) ab B.length cb k (by with_unfolding_all rfl) (by with_unfolding_all rfl) hmb ?_)
        | (at_builtin; refine wpList_lrow (w := wr) (base := W0.heap.size) (L := L) (A.drop k) rfl (.tmp 46) (.tmp 49) rfl rfl HL.out (cutA aa ca k) (A.length - k) (ca - k) rfl (by rw [List.length_drop]) (fun e => HVA.out.cutN rfl e) ((HVA.out.below HB.out).from rfl hma) HSA.out (by have := HLn.out; rw [List.length_drop]; omega) HB.out.size ?_; intro v1 w1 h1 h2; have H1 := hide h1; have H2 := hide (HB.out.trans h2); clear h1 h2; refine Hid.out ?_))
      refine hide ?_
      go_wp2_with (first
        | (with_reducible refine wpList_from (by with_reducible rfl) (.tmp 52) (.tmp 53) (by with_reducible rfl) ab B.length cb k (by with_unfolding_all rfl) (by with_unfolding_all rfl) hmb ?_)
        | (at_builtin; refine wpList_lrow (w := w1) (base := W0.heap.size) (L := L ++ A.drop k) (B.drop k) rfl (.tmp 51) (.tmp 54) rfl rfl H1.out (cutA ab cb k) (B.length - k) (cb - k) rfl (by rw [List.length_drop]) (fun e => HVB.out.cutN rfl e) ((HVB.out.below H2.out).from rfl hmb) HSB.out (by have := HLn.out; rw [List.length_append, List.length_drop, List.length_drop]; omega) H2.out.size ?_; intro v2 w2 h1 h2; have H3 := hide h1; have H4 := hide (H2.out.trans h2); clear h1 h2))
      go_ret
      exact ⟨_, rfl, H4.out, by rw [merge_two, ← HM.out, ← HE.out]; exact H3.out⟩
end Go.Proofs.Ytlednecohppljaa
