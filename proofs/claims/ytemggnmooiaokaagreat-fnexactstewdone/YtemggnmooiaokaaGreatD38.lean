import Derived.Test.YtemggnmooiaokaaGreatD19
import Derived.Test.YtemggnmooiaokaaGreatD37
namespace Go.Proofs.YtemggnmooiaokaaGreat
open Go.RowKit Go.Deep

structure Spot {X : Type} (c : X → X → Int) (L : List X) (t : X) (p : Nat) : Prop where
  le : p ≤ L.length
  less : ∀ i (h : i < L.length), i < p → c L[i] t < 0
  more : ∀ i (h : i < L.length), p ≤ i → 0 ≤ c L[i] t
def isAt {X : Type} (c : X → X → Int) (L : List X) (t : X) (p : Nat) : Bool := match L[p]? with
  | some x => decide (c x t = 0)
  | none => false
def Rises {X : Type} (c : X → X → Int) (L : List X) (t : X) : Prop := ∀ i j (hi : i < L.length) (hj : j < L.length), i < j → c L[j] t < 0 → c L[i] t < 0
theorem half_lt {i j : Nat} (h : i < j) : i ≤ (i + j) / 2 ∧ (i + j) / 2 < j := by omega
theorem ahead_trans (a b c : Cp) (h1 : aheadB a b = true) (h2 : aheadB b c = true) : aheadB a c = true := by
  unfold aheadB at *
  simp only [Bool.or_eq_true, Bool.and_eq_true, decide_eq_true_iff] at *
  rcases h1 with h1 | ⟨h1, k1⟩
  · rcases h2 with h2 | ⟨h2, k2⟩
    · exact Or.inl (less_trans h1 h2)
    · rw [← bytes_eq.1 h2]
      exact Or.inl h1
  · rw [bytes_eq.1 h1]
    rcases h2 with h2 | ⟨h2, k2⟩
    · exact Or.inl h2
    · exact Or.inr ⟨h2, by omega⟩
theorem ahead_lt {L : List Cp} (h : risR aheadB L = true) {i j : Nat} (hi : i < L.length) (hj : j < L.length) (hij : i < j) : aheadB L[i] L[j] = true := by
  have := ris_lt ahead_trans h (j - i - 1) i (by omega)
  have e : i + (j - i - 1) + 1 = j := by omega
  simp only [e] at this
  exact this
theorem rises_cp {L : List Cp} (h : risR aheadB L = true) (t : Cp) : Rises cCp L t := fun i j hi hj hij hc => by
  have h1 := ahead_lt h hi hj hij
  have h2 : aheadB L[j] t = true := by rw [← cCp_neg]; exact decide_eq_true hc
  have h3 := ahead_trans _ _ _ h1 h2
  rw [← cCp_neg] at h3
  exact of_decide_eq_true h3
/-- what is looked for -/
def tgt (s : ByteArray) : Cp := ⟨s, 0, 0, 0, 0, false, ⟨#[]⟩⟩
theorem mine_no {s : ByteArray} {L : List Cp} {p : Nat} (hs : Spot cCp L (tgt s) p) (hn : ∀ i (h : i < L.length), 1 ≤ L[i].nu) {i : Nat} (hi : i < L.length) (hp : i < p) : mineB s L[i] = false := by
  have h1 : aheadB L[i] (tgt s) = true := by rw [← cCp_neg]; exact decide_eq_true (hs.less i hi hp)
  unfold aheadB tgt at h1
  simp only [Bool.or_eq_true, Bool.and_eq_true, decide_eq_true_iff] at h1
  unfold mineB
  rcases h1 with h1 | ⟨-, k1⟩
  · refine bytes_ne.2 fun e => ?_
    rw [e, less_irrefl] at h1
    cases h1
  · have := hn i hi
    omega
theorem mine_end {s : ByteArray} {L : List Cp} {p : Nat} (h : risR aheadB L = true) (hs : Spot cCp L (tgt s) p) {i j : Nat} (hi : i < L.length) (hp : p ≤ i) (hm : mineB s L[i] = false) (hj : j < L.length) (hij : i < j) : mineB s L[j] = false := by
  have h1 : aheadB L[i] (tgt s) = false := by rw [← cCp_neg]; exact decide_eq_false (by have := hs.more i hi hp; omega)
  unfold aheadB tgt at h1
  simp only [Bool.or_eq_false_iff] at h1
  have hlt : Op.bytesLess s.toList L[i].se.toList = true := by
    cases hq : Op.bytesLess s.toList L[i].se.toList with
    | true => rfl
    | false =>
      have := less_tri h1.1 hq
      unfold mineB at hm
      rw [this] at hm
      simp at hm
  have h2 := ahead_lt h hi hj hij
  unfold aheadB at h2
  simp only [Bool.or_eq_true, Bool.and_eq_true] at h2
  have h3 : Op.bytesLess s.toList L[j].se.toList = true := by
    rcases h2 with h2 | ⟨h2, -⟩
    · exact less_trans hlt h2
    · rw [← bytes_eq.1 h2]; exact hlt
  unfold mineB
  refine bytes_ne.2 fun e => ?_
  rw [e, less_irrefl] at h3
  cases h3
/-- the copies of a service stand side by side -/
theorem run_all {s : ByteArray} {L : List Cp} {p k : Nat} (hs : Spot cCp L (tgt s) p) (hn : ∀ i (h : i < L.length), 1 ≤ L[i].nu) (hk : p + k ≤ L.length) (hm : ∀ i (h : i < L.length), p ≤ i → i < p + k → mineB s L[i] = true) (he : ∀ i (h : i < L.length), p + k ≤ i → mineB s L[i] = false) : L.filter (mineB s) = (L.drop p).take k := by
  have e1 : L = L.take p ++ ((L.drop p).take k ++ L.drop (p + k)) := by
    rw [← List.drop_drop, List.take_append_drop, List.take_append_drop]
  have f1 : (L.take p).filter (mineB s) = [] := by
    rw [List.filter_eq_nil_iff]
    intro x hx
    obtain ⟨i, hi, rfl⟩ := List.getElem_of_mem hx
    rw [List.length_take] at hi
    rw [List.getElem_take, mine_no hs hn (by omega) (by omega)]
    exact Bool.false_ne_true
  have f2 : ((L.drop p).take k).filter (mineB s) = (L.drop p).take k := by
    rw [List.filter_eq_self]
    intro x hx
    obtain ⟨i, hi, rfl⟩ := List.getElem_of_mem hx
    rw [List.length_take, List.length_drop] at hi
    rw [List.getElem_take, List.getElem_drop]
    exact hm _ (by omega) (by omega) (by omega)
  have f3 : (L.drop (p + k)).filter (mineB s) = [] := by
    rw [List.filter_eq_nil_iff]
    intro x hx
    obtain ⟨i, hi, rfl⟩ := List.getElem_of_mem hx
    rw [List.length_drop] at hi
    rw [List.getElem_drop, he _ (by omega) (by omega)]
    exact Bool.false_ne_true
  have : L.filter (mineB s) = (L.take p ++ ((L.drop p).take k ++ L.drop (p + k))).filter (mineB s) := congrArg _ e1
  rw [this, List.filter_append, List.filter_append, f1, f2, f3]
  simp

set_option maxRecDepth 20000 in
set_option maxHeartbeats 8000000 in
theorem searchCp_any (lo : Nat) (v : Value) (Xl : List Cp) (t : Cp) (w : World) (hv : CpsAt lo w v Xl) (hn : Xl.length ≤ 1048576) (hr : Rises cCp Xl t) :
    Calls Tryz.prog 153 #[v, .agg #[.string t.se, .int .i64 t.nu, .int .i64 t.ve, .int .i64 t.im, .int .i64 t.st, .bool t.en, .string t.be], .func (.func 100) #[] #[]] w
      fun e w' => (∃ p : Nat, Spot cCp Xl t p ∧ e = .returned (.tuple #[.int .i64 p, .bool (isAt cCp Xl t p)])) ∧ Below w.heap.size w w' := by
  have HV := hide hv
  have HR := hide hr
  obtain ⟨a, cap, rfl⟩ := hv.form
  clear hv hr
  go_enter Tryz.func153, Tryz.ntmps153
  go_wp2_with fail
  generalize hWa : w.alloc _ = Wa
  have HB : Hid (Below w.heap.size w Wa) := by rw [← hWa]; exact one_al w _
  have HX : Hid (Box Wa w.heap.size #[.string t.se, .int .i64 t.nu, .int .i64 t.ve, .int .i64 t.im, .int .i64 t.st, .bool t.en, .string t.be]) := by rw [← hWa]; exact Box.new _ _ _ _ rfl
  clear hWa
  go_loopw [9, 10] (fun i j wr => ∃ p q : Nat, i = .int .i64 p ∧ j = .int .i64 q ∧ p ≤ q ∧ q ≤ Xl.length ∧ (∀ k (h : k < Xl.length), k < p → cCp Xl[k] t < 0) ∧ (∀ k (h : k < Xl.length), q ≤ k → 0 ≤ cCp Xl[k] t) ∧ Below w.heap.size w wr ∧ Box wr w.heap.size #[.string t.se, .int .i64 t.nu, .int .i64 t.ve, .int .i64 t.im, .int .i64 t.st, .bool t.en, .string t.be])
    (fun i j _ => (intOf j).toNat - (intOf i).toNat)
  case atStart => exact ⟨0, Xl.length, rfl, rfl, Nat.zero_le _, Nat.le_refl _, fun k _ h => by omega, fun k h h' => by omega, HB.out, HX.out⟩
  case round =>
    obtain ⟨p, q, rfl, rfl, hpq, hq, h1, h2, hb, hx⟩ := hrel
    have HL1 := hide h1
    have HL2 := hide h2
    have HBr := hide hb
    have HXr := hide hx
    clear h1 h2 hb hx HB HX
    by_cases hlt : p < q
    · obtain ⟨hm1, hm2⟩ := half_lt hlt
      have hml : (p + q) / 2 < Xl.length := by omega
      obtain ⟨m, em⟩ : ∃ m : Nat, (p + q) / 2 = m := ⟨_, rfl⟩
      rw [em] at hm1 hm2 hml
      have em' : ((p : Int) + (q : Int)) / 2 = (m : Int) := by omega
      obtain ⟨b, off, rfl, hbw, -, hc⟩ := HV.out.full' (by omega)
      have HC := hide ((hc m hml).2.below HBr.out hbw)
      clear hc em
      go_wp2
      clear em'
      go_cut [31] (fun c wc => c = .bool (decide (cCp Xl[m] t < 0)) ∧ Below wr.heap.size wr wc)
      case first =>
        have xn : Nonempty (In (Up wr)) := ⟨⟨wr, Below.refl _ _⟩⟩
        have xs := fun (X : In (Up wr)) => in_self X
        have s0 : ∀ X : In (Up wr), _ := fun X => Up.cell X HC.out.c0
        have t0 : ∀ X : In (Up wr), X.w.cell? ⟨w.heap.size, 0, none⟩ = some (.string t.se) := fun X => Up.cell X (by rw [HXr.out.cell 0]; rfl)
        have s1 : ∀ X : In (Up wr), _ := fun X => Up.cell X HC.out.c1
        have t1 : ∀ X : In (Up wr), X.w.cell? ⟨w.heap.size, 1, none⟩ = some (.int .i64 t.nu) := fun X => Up.cell X (by rw [HXr.out.cell 1]; rfl)
        have s2 : ∀ X : In (Up wr), _ := fun X => Up.cell X HC.out.c2
        have t2 : ∀ X : In (Up wr), X.w.cell? ⟨w.heap.size, 2, none⟩ = some (.int .i64 t.ve) := fun X => Up.cell X (by rw [HXr.out.cell 2]; rfl)
        have s3 : ∀ X : In (Up wr), _ := fun X => Up.cell X HC.out.c3
        have t3 : ∀ X : In (Up wr), X.w.cell? ⟨w.heap.size, 3, none⟩ = some (.int .i64 t.im) := fun X => Up.cell X (by rw [HXr.out.cell 3]; rfl)
        have s4 : ∀ X : In (Up wr), _ := fun X => Up.cell X HC.out.c4
        have t4 : ∀ X : In (Up wr), X.w.cell? ⟨w.heap.size, 4, none⟩ = some (.int .i64 t.st) := fun X => Up.cell X (by rw [HXr.out.cell 4]; rfl)
        have s5 : ∀ X : In (Up wr), _ := fun X => Up.cell X HC.out.c5
        have t5 : ∀ X : In (Up wr), X.w.cell? ⟨w.heap.size, 5, none⟩ = some (.bool t.en) := fun X => Up.cell X (by rw [HXr.out.cell 5]; rfl)
        have s6 : ∀ X : In (Up wr), _ := fun X => Up.cell X HC.out.c6
        have t6 : ∀ X : In (Up wr), X.w.cell? ⟨w.heap.size, 6, none⟩ = some (.string t.be) := fun X => Up.cell X (by rw [HXr.out.cell 6]; rfl)
        have i0 : (0 : Int) ≤ (m : Int) := by omega
        have i1 : (m : Int) < (Xl.length : Int) := by omega
        refine wp_region_class (Up wr) (by kernel_rfl) (by kernel_rfl) ((Below.refl _ _).drew) ?_
        repeat (go_big_quiet_step ((go_at_call 100; rename_i X; exact (cmpCp_any Xl[m] t _).mono fun _ _ h => ⟨h.1, Up.next X h.2⟩)))
        refine wpQuiet_nil ?_
        intro wn hw
        obtain ⟨X, hX⟩ := hw
        have HWN : Below wr.heap.size wr wn := by rw [hX]; exact X.h
        clear hX X s0 t0 s1 t1 s2 t2 s3 t3 s4 t4 s5 t5 s6 t6 xs xn
        go_wp2
        go_meet
        exact ⟨rfl, HWN⟩
      case rest =>
      obtain ⟨rfl, hbc⟩ := hcut
      have HBc := hide (bt HBr.out hbc)
      have HXc := hide (HXr.out.on hbc)
      clear hbc HC
      cases hq : decide (cCp Xl[m] t < 0) with
      | true =>
        have HT := hide (of_decide_eq_true hq)
        go_wp2
        go_roundw
        case rel => exact ⟨m + 1, q, by go_num, rfl, by omega, by omega, fun k hk hkm => by
                      by_cases e : k = m
                      · subst e; exact HT.out
                      · exact HR.out k m hk hml (by omega) HT.out, HL2.out, HBc.out, HXc.out⟩
        case measure => simp [intOf]; omega
      | false =>
        have HT : Hid (0 ≤ cCp Xl[m] t) := Int.not_lt.1 (of_decide_eq_false hq)
        go_wp2
        go_roundw
        case rel => exact ⟨p, m, rfl, rfl, by omega, by omega, HL1.out, fun k hk hkm => by
                      by_cases e : k = m
                      · subst e; exact HT.out
                      · refine Int.not_lt.1 (fun hn' => ?_)
                        have := HR.out m k hml hk (by omega) hn'
                        have := HT.out
                        omega, HBc.out, HXc.out⟩
        case measure => simp [intOf]; omega
    · have hpq' : p = q := by omega
      subst hpq'
      have HSP : Hid (Spot cCp Xl t p) := ⟨hq, HL1.out, HL2.out⟩
      by_cases hlt2 : p < Xl.length
      · obtain ⟨b, off, rfl, hbw, -, hc⟩ := HV.out.full' (by omega)
        have HC := hide ((hc p hlt2).2.below HBr.out hbw)
        have HI : Hid (isAt cCp Xl t p = decide (cCp Xl[p] t = 0)) := by unfold Hid isAt; rw [List.getElem?_eq_getElem hlt2]
        have hd : decide ((p : Int) < (Xl.length : Int)) = true := by simp; omega
        clear hc
        go_wp2
        have xn : Nonempty (In (Up wr)) := ⟨⟨wr, Below.refl _ _⟩⟩
        have xs := fun (X : In (Up wr)) => in_self X
        have s0 : ∀ X : In (Up wr), _ := fun X => Up.cell X HC.out.c0
        have t0 : ∀ X : In (Up wr), X.w.cell? ⟨w.heap.size, 0, none⟩ = some (.string t.se) := fun X => Up.cell X (by rw [HXr.out.cell 0]; rfl)
        have s1 : ∀ X : In (Up wr), _ := fun X => Up.cell X HC.out.c1
        have t1 : ∀ X : In (Up wr), X.w.cell? ⟨w.heap.size, 1, none⟩ = some (.int .i64 t.nu) := fun X => Up.cell X (by rw [HXr.out.cell 1]; rfl)
        have s2 : ∀ X : In (Up wr), _ := fun X => Up.cell X HC.out.c2
        have t2 : ∀ X : In (Up wr), X.w.cell? ⟨w.heap.size, 2, none⟩ = some (.int .i64 t.ve) := fun X => Up.cell X (by rw [HXr.out.cell 2]; rfl)
        have s3 : ∀ X : In (Up wr), _ := fun X => Up.cell X HC.out.c3
        have t3 : ∀ X : In (Up wr), X.w.cell? ⟨w.heap.size, 3, none⟩ = some (.int .i64 t.im) := fun X => Up.cell X (by rw [HXr.out.cell 3]; rfl)
        have s4 : ∀ X : In (Up wr), _ := fun X => Up.cell X HC.out.c4
        have t4 : ∀ X : In (Up wr), X.w.cell? ⟨w.heap.size, 4, none⟩ = some (.int .i64 t.st) := fun X => Up.cell X (by rw [HXr.out.cell 4]; rfl)
        have s5 : ∀ X : In (Up wr), _ := fun X => Up.cell X HC.out.c5
        have t5 : ∀ X : In (Up wr), X.w.cell? ⟨w.heap.size, 5, none⟩ = some (.bool t.en) := fun X => Up.cell X (by rw [HXr.out.cell 5]; rfl)
        have s6 : ∀ X : In (Up wr), _ := fun X => Up.cell X HC.out.c6
        have t6 : ∀ X : In (Up wr), X.w.cell? ⟨w.heap.size, 6, none⟩ = some (.string t.be) := fun X => Up.cell X (by rw [HXr.out.cell 6]; rfl)
        have i0 : (0 : Int) ≤ (p : Int) := by omega
        have i1 : (p : Int) < (Xl.length : Int) := by omega
        refine wp_region_class (Up wr) (by kernel_rfl) (by kernel_rfl) ((Below.refl _ _).drew) ?_
        repeat (go_big_quiet_step ((go_at_call 100; rename_i X; exact (cmpCp_any Xl[p] t _).mono fun _ _ h => ⟨h.1, Up.next X h.2⟩)))
        refine wpQuiet_nil ?_
        intro wn hw
        obtain ⟨X, hX⟩ := hw
        have HWN : Hid (Below wr.heap.size wr wn) := by unfold Hid; rw [hX]; exact X.h
        clear hX X s0 t0 s1 t1 s2 t2 s3 t3 s4 t4 s5 t5 s6 t6 xs xn
        go_wp2
        go_ret2
        exact ⟨⟨p, HSP.out, by rw [HI.out]; first | rfl | simp⟩, bt HBr.out HWN.out⟩
      · have HI : Hid (isAt cCp Xl t p = false) := by unfold Hid isAt; rw [List.getElem?_eq_none (by omega)]
        have hd : decide ((p : Int) < (Xl.length : Int)) = false := by simp; omega
        go_wp2
        go_quiet (fail)
        go_wp2
        go_ret2
        exact ⟨⟨p, HSP.out, by rw [HI.out]; rfl⟩, below_drewN HBr.out _⟩
end Go.Proofs.YtemggnmooiaokaaGreat
