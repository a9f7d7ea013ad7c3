
import Derived.Test.YtlednecohppljaaGM1
import Derived.Deep.DeepCutAuto
namespace Go.Proofs.Ytlednecohppljaa
open Go.RowKit Go.Deep

theorem wpList_lrow {w : World} {base : Nat} {v : Value} {L : List Rs} (M : List Rs) {ops : Array Oper} {rest : List Oper} {o : Oper} {a : Act} {Q : Exit → Act → World → Prop} (hgd : o.guard = none) (s x : Operand)
    (ho : o.op = .call { callee := .builtin .append, args := #[s, x], argTypes := #[24, 24] }) (hs : a.eval s = v) (h : LRow w base v L) (ao : Option Addr) (m c : Nat) (hx : a.eval x = .slice ao m c) (hM : m = M.length) (hm : ao = none → m = 0)
    (hsrc : ∀ ad, ao = some ad → ∀ j u, (flatV rsL M)[j]? = some u → w.cell? (ad.add j) = some u) (hz : ∀ i (h : i < M.length), RsSize M[i]) (hb : L.length + M.length ≤ 10000000) (hbase : base ≤ w.heap.size)
    (K : ∀ v' w', LRow w' base v' (L ++ M) → Below base w w' → wpList Try.prog ops Q rest (a.put o.dst v') w') : wpList Try.prog ops Q (o :: rest) a w := by
  obtain ⟨v', w', h1, h2, h3⟩ := run_lrow o.type h ao m c hM hm hsrc hz hb hbase
  exact wpList_append_run hgd s x _ ho hs hx h1 (K v' w' h2 h3)
theorem lr_new (X : World) (cs : Array Value) (t : TypeId) (cap : Nat) (hs : cs.size = cap * 2) (hm : cap ≤ maxLen) : LR (X.alloc (.cells cs t)) X.heap.size X.heap.size cap [] :=
  ⟨Nat.le_refl _, by simp, Nat.zero_le _, hm, fun j hj => by rw [(Box.new X cs t _ rfl).cell j, Array.getElem?_eq_getElem (by omega)]; rfl, fun j => (Box.new X cs t _ rfl).free j, fun j u hu => by simp [flatV] at hu, fun i hi => by simp at hi⟩

set_option maxRecDepth 20000 in
set_option maxHeartbeats 4000000 in
theorem l21Slots_any (lo : Nat) (v : Value) (L : List Rs) (w : World) (hv : RssAt lo w v L) (hn : L.length ≤ 1048576) :
    Calls Try.prog 22 #[v] w fun e w' => ∃ v', e = .returned v' ∧ Below w.heap.size w w' ∧ LRow w' w.heap.size v' L := by
  have HV := hide hv
  obtain ⟨a, cap, rfl⟩ := hv.form
  clear hv
  have HO : ∀ o, Hid (Below w.heap.size w (w.alloc o)) := fun o => one_al w o
  go_enter Try.func22, Try.ntmps22
  go_wp2_with (at_builtin; refine wpList_lrow (w := w.alloc _) (base := w.heap.size) (L := []) L rfl (.tmp 3) (.tmp 4) rfl rfl ⟨w.heap.size, 0, rfl, lr_new w _ _ 0 rfl (Nat.zero_le _)⟩ a L.length cap rfl rfl (fun e => HV.out.nilN e) ((HV.out.below (HO _).out).src) (fun i hi => HV.out.sizes i hi) (by simp; omega) (by simp) ?_; intro v' w' h1 h2; have H1 := hide h1; have H2 := hide h2; clear h1 h2)
  go_ret
  refine ⟨v', rfl, (HO _).out.trans H2.out, ?_⟩
  have := H1.out
  rwa [List.nil_append] at this

set_option maxRecDepth 20000 in
set_option maxHeartbeats 8000000 in
theorem specMerge_any (lo : Nat) (va vb : Value) (A B : List Rs) (w : World) (ha : RssAt lo w va A) (hb : RssAt lo w vb B) (hna : A.length ≤ 1048576) (hnb : B.length ≤ 1048576) :
    Calls Try.prog 6 #[va, vb] w fun e w' => ∃ v', e = .returned v' ∧ Below w.heap.size w w' ∧ RssOwn w.heap.size w'.heap.size w' v' (mergeL A B) := by
  have HVA := hide ha
  have HVB := hide hb
  obtain ⟨aa, ca, rfl⟩ := ha.form
  obtain ⟨ab, cb, rfl⟩ := hb.form
  clear ha hb
  go_enter Try.func6, Try.ntmps6
  go_wp2_with fail
  refine (l21Slots_any lo _ A _ HVA.out hna).mono ?_
  rintro e w1 ⟨o1, rfl, hb1, hl1⟩
  have HB1 := hide hb1
  have HL1 := hide hl1
  clear hb1 hl1
  go_wp2
  go_loopw [5, 6] (fun o i wr => ∃ (k : Nat) (L : List Rs), i = .int .i64 k ∧ k ≤ B.length ∧ Below w.heap.size w wr ∧ LRow wr w.heap.size o L ∧ L = mergeL A (B.take k)) (fun _ i _ => B.length - (intOf i).toNat)
  case atStart => exact ⟨0, A, rfl, by omega, HB1.out, HL1.out, by rw [List.take_zero, mergeL_nil]⟩
  case round =>
    obtain ⟨k, L, rfl, hk, hb, hl, hL⟩ := hrel
    have HB := hide hb
    have HL := hide hl
    have HE := hide hL
    clear hb hl
    have hlen : L.length = max A.length (min k B.length) := by rw [hL, mergeL_len, List.length_take]
    clear hL
    obtain ⟨g, cap, rfl, hr⟩ := HL.out
    have HR := hide hr
    clear hr
    by_cases hlt : k < B.length
    · obtain ⟨b, off, rfl, hbw, -, hc⟩ := HVB.out.full' (by omega)
      obtain ⟨hsz, hcc⟩ := hc k hlt
      obtain ⟨y, hy⟩ : ∃ y, y = B[k] := ⟨_, rfl⟩
      rw [← hy] at hsz hcc
      have HY := hide hy
      have HZ := hide hsz
      obtain ⟨e0, e1⟩ := hcc.below HB.out hbw
      have i0 : (0 : Int) ≤ (k : Int) := by omega
      have i1 : (k : Int) < (B.length : Int) := by omega
      clear hc hcc hsz hy
      by_cases hq : A.length ≤ k
      · have hkl : L.length = k := by omega
        have dk : ((k : Int) == (L.length : Int)) = true := by rw [hkl]; simp
        have HKL := hide hkl
        clear hkl hlen
        have HN : Hid (mergeL A (B.take (k + 1)) = L ++ [y]) := by unfold Hid; rw [mergeL_more A B k hlt hq, ← HE.out, HY.out]
        go_wp2_with (at_builtin; refine wpList_lrow (w := wr.alloc _) (base := w.heap.size) (L := L) [y] rfl (.tmp 19) (.tmp 24) rfl rfl (HL.out.below (one_al _ _)) (some ⟨wr.heap.size, 0, none⟩) 1 1 rfl rfl (fun e => by cases e) (fun ad e j u hu => by
            injection e with e
            subst e
            rw [Addr.add_lit, Nat.zero_add, (Box.new wr _ _ _ rfl).cell j]
            simpa [flatV, rsL] using hu) (fun i hi => by
            have : i = 0 := by simp at hi; omega
            subst this
            exact HZ.out) (by have := HKL.out; simp; omega) (by have := HB.out.size; simp; omega) ?_; intro v' w' h1 h2; have H1 := hide h1; have H2 := hide h2; clear h1 h2)
        go_roundw
        case rel => exact ⟨k + 1, L ++ [y], by go_num, by omega, (bt HB.out (one_al _ _)).trans (H2.out.mono (by omega)), H1.out, HN.out.symm⟩
        case measure => simp [intOf]; omega
      · have hqa : k < A.length := by omega
        have hkl : k < L.length := by omega
        have dk : ((k : Int) == (L.length : Int)) = false := by rw [beq_eq_false_iff_ne]; omega
        have hx : L[k] = A[k] := by
          have h1 : k < (mergeL A (B.take k)).length := by rw [← HE.out]; exact hkl
          have := mergeL_at A B k hqa h1
          rw [← this]
          congr 1
        obtain ⟨x, hxx⟩ : ∃ x, x = A[k] := ⟨_, rfl⟩
        obtain ⟨f0, f1⟩ := HR.out.cells hkl
        rw [hx, ← hxx] at f0 f1
        rw [Nat.zero_add] at f0 f1
        have HXX := hide hxx
        have HKL := hide hkl
        have i2 : (k : Int) < (L.length : Int) := by omega
        have hth : ∀ j, wr.frozen? ⟨g, j, none⟩ = false := HR.out.fz
        clear hx hxx hkl hlen
        go_wp2
        go_cut [36] (fun c wc => c = .bool (decide (x.ba < y.ba)) ∧ Below wr.heap.size wr wc)
        case first =>
          go_quiet (fail)
          go_wp2
          go_meet
          exact ⟨rfl, below_drewN (Below.refl _ _) _⟩
        case rest =>
          obtain ⟨rfl, hbc⟩ := hcut
          have HBc := hide hbc
          have HRc := hide (HR.out.below hbc)
          have hgl := HR.out.lt
          have q0 : wc.cell? ⟨b, off + k * 2, none⟩ = some (.int .i64 y.ba) := (hbc.cell (p := ⟨b, off + k * 2, none⟩) (Nat.lt_of_lt_of_le hbw HB.out.size)).trans e0
          have q1 : wc.cell? ⟨b, off + k * 2 + 1, none⟩ = some (.string y.tx) := (hbc.cell (p := ⟨b, off + k * 2 + 1, none⟩) (Nat.lt_of_lt_of_le hbw HB.out.size)).trans e1
          have q2 : wc.cell? ⟨g, k * 2, none⟩ = some (.int .i64 x.ba) := (hbc.cell (p := ⟨g, k * 2, none⟩) hgl).trans f0
          have q3 : wc.cell? ⟨g, k * 2 + 1, none⟩ = some (.string x.tx) := (hbc.cell (p := ⟨g, k * 2 + 1, none⟩) hgl).trans f1
          have hth : ∀ j, wc.frozen? ⟨g, j, none⟩ = false := HRc.out.fz
          clear hbc e0 e1 f0 f1 dk
          cases dm : decide (x.ba < y.ba) with
          | true =>
            have HN : Hid (mergeL A (B.take (k + 1)) = L.set k y) := by unfold Hid; rw [mergeL_put hlt hqa (by rw [← HXX.out, ← HY.out]; exact of_decide_eq_true dm), ← HE.out, HY.out]
            go_wp2
            go_roundw
            case rel => exact ⟨k + 1, L.set k y, by go_num, by omega, ((bt HB.out HBc.out).setCell HR.out.bs _).setCell HR.out.bs _, ⟨g, cap, by rw [List.length_set], HRc.out.store HKL.out y HZ.out⟩, HN.out.symm⟩
            case measure => simp [intOf]; omega
          | false =>
            have HN : Hid (mergeL A (B.take (k + 1)) = L) := by unfold Hid; rw [mergeL_keep hlt hqa (by rw [← HXX.out, ← HY.out]; exact of_decide_eq_false dm), ← HE.out]
            go_wp2
            go_roundw
            case rel => exact ⟨k + 1, L, by go_num, by omega, bt HB.out HBc.out, ⟨g, cap, rfl, HRc.out⟩, HN.out.symm⟩
            case measure => simp [intOf]; omega
    · have HN : Hid (L = mergeL A B) := by unfold Hid; rw [HE.out, List.take_of_length_le (by omega)]
      go_wp2
      go_ret
      exact ⟨_, rfl, HB.out, by rw [← HN.out]; exact HL.out.own.below (Below.refl _ _)⟩
end Go.Proofs.Ytlednecohppljaa
