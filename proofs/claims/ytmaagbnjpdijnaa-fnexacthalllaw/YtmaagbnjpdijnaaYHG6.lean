import Derived.Test.YtmaagbnjpdijnaaYHGA
import Derived.Test.YtmaagbnjpdijnaaYTA
import Derived.Test.YtmaagbnjpdijnaaYOWX
import Derived.Test.YtmaagbnjpdijnaaYDA
import Derived.Test.YtmaagbnjpdijnaaYB1
import Derived.Test.YtmaagbnjpdijnaaYP1
import Derived.Test.YtmaagbnjpdijnaaYGX
import Derived.Test.YtmaagbnjpdijnaaYOXg
import Derived.Test.YtmaagbnjpdijnaaYM2
import Derived.Test.YtmaagbnjpdijnaaYOXF
import Derived.Test.YtmaagbnjpdijnaaYHG2
import Derived.Test.YtmaagbnjpdijnaaYNN
import Derived.Test.YtmaagbnjpdijnaaYOXM
import Derived.Test.YtmaagbnjpdijnaaYHG1
import Derived.Test.YtmaagbnjpdijnaaYA1
import Derived.Test.YtmaagbnjpdijnaaYHG0
import Derived.Test.YtmaagbnjpdijnaaYCLE
namespace Go.Proofs.Ytmaagbnjpdijnaa
open Go.RowKit Go.Deep

theorem TmsOwn.widen {lo hi lo' hi' : Nat} {w : World} {v : Value} {L : List Tm} (h : TmsOwn lo hi w v L) (h1 : lo' ≤ lo) (h2 : hi ≤ hi') : TmsOwn lo' hi' w v L := by
  rcases h with h | ⟨b, off, cap, c, X, a1, a2, a3, a4, a5, r⟩
  · exact Or.inl h
  · exact Or.inr ⟨b, off, cap, c, X, a1, a2, a3, a4, a5, ⟨r.lt, Nat.le_trans h1 r.low, r.bc, Nat.lt_of_lt_of_le r.bh h2, r.mono, Nat.le_trans r.top h2, r.frz, r.row⟩⟩
theorem TmsAt.size {lo : Nat} {w : World} {v : Value} {L : List Tm} (h : TmsAt lo w v L) : ∀ i (hi : i < L.length), TmSize L[i] := fun i hi => by
  obtain ⟨_, _, _, _, _, _, _, hc⟩ := h.full (fun e => by rw [e] at hi; simp at hi)
  exact (hc i hi).1
/-- what the clauses are -/
structure Clz (w : World) (cb τ κ μ : Nat) (βf : Nat → Nat) (a : Option Addr) (cap : Nat) (Ts : List Tm) (kd : ByteArray) (F : List Fd) (m : Md) : Prop where
  lt : cb < w.heap.size
  bt : Box w τ #[.slice a Ts.length cap]
  ts : TmsAt 0 w (.slice a Ts.length cap) Ts
  bk : Box w κ #[.string kd]
  bf : ∀ j (h : j < F.length), Box w (βf j) (fdV F[j]).toArray
  bm : Box w μ #[.string m.kind, .string m.field, .string m.wh, .string m.is, .string m.put, .string m.fr]
  d0 : w.cell? ⟨cb, 0, none⟩ = some (.func (.func 62) #[] #[.pointer (some ⟨τ, 0, none⟩)])
  d1 : w.cell? ⟨cb, 1, none⟩ = some (.func (.func 63) #[] #[.pointer (some ⟨κ, 0, none⟩)])
  df : ∀ j, j < F.length → w.cell? ⟨cb, j + 2, none⟩ = some (.func (.func 64) #[] #[.pointer (some ⟨βf j, 0, none⟩)])
  dm : w.cell? ⟨cb, 8, none⟩ = some (.func (.func 65) #[] #[.pointer (some ⟨μ, 0, none⟩)])
/-- ahead of the clause k that is a field's, or the mend's -/
structure Lf (l t0 : Nat) (wr : World) (k : Nat) (Ts : List Tm) (kd : ByteArray) (F : List Fd) (tv : Value) (sb sc t1 fb : Nat) (fv : Value) : Prop where
  box : Box wr l #[.slice (some ⟨sb, 0, none⟩) 1 sc, .slice none 0 0, tv]
  tms : TmsOwn t0 t1 wr tv Ts
  z0 : t1 ≤ sb
  z1 : sb < fb
  z2 : fb ≤ wr.heap.size
  z3 : l < t0
  z4 : t0 ≤ t1
  z5 : 1 ≤ sc
  c0 : wr.cell? ⟨sb, 0, none⟩ = some (.string kd)
  c1 : wr.cell? ⟨sb, 1, none⟩ = some fv
  fz : ∀ i, wr.frozen? ⟨sb, i, none⟩ = false
  own : wr.ownsRow fb 62 11 fv k (flatV fdV (F.take k))
theorem Lf.next {l t0 : Nat} {wr w3 : World} {k : Nat} {Ts : List Tm} {kd : ByteArray} {F : List Fd} {tv : Value} {sb sc t1 fb : Nat} {fv v' : Value} (h : Lf l t0 wr k Ts kd F tv sb sc t1 fb fv) (hk : k < F.length) (hb : Below fb wr w3)
    (ho : w3.ownsRow fb 62 11 v' (k + 1) (flatV fdV (F.take k) ++ fdV F[k])) : Lf l t0 (w3.setCell ⟨sb, 1, none⟩ v') (k + 1) Ts kd F tv sb sc t1 fb v' := by
  have z0 := h.z0
  have z1 := h.z1
  have z2 := h.z2
  have z3 := h.z3
  have z4 := h.z4
  have e : ∀ i, w3.cell? ⟨sb, i, none⟩ = wr.cell? ⟨sb, i, none⟩ := fun i => hb.cell (p := ⟨sb, i, none⟩) z1
  have ht := Touch.setCell sb (sb + 1) w3 ⟨sb, 1, none⟩ v' ⟨Nat.le_refl _, Nat.lt_succ_self _⟩
  refine ⟨(h.box.below hb (by omega)).setFar (by simp only []; omega) _, (h.tms.touch (Touch.ofBelow hb) (by omega)).touch ht (by omega), z0, z1, by have := hb.size; simp [World.setCell]; omega, z3, z4, h.z5, ?_, ?_, fun i => ?_, ?_⟩
  · exact (World.cell?_setCell_other _ _ _ _ (by simp)).trans ((e 0).trans h.c0)
  · exact World.cell?_setCell_same' _ _ _ (by rw [e 1, h.c1]; rfl)
  · rw [World.frozen?_setCell]
    exact (World.frozen?_of_block (w := wr) (hb.block sb z1)).trans (h.fz i)
  · rw [flat_snoc hk]
    exact Touch.ownsB ho ht (by omega)

set_option maxRecDepth 20000 in
set_option maxHeartbeats 16000000 in
theorem lawOf_any (cb τ κ μ : Nat) (βf : Nat → Nat) (a : Option Addr) (cap : Nat) (Ts : List Tm) (kd : ByteArray) (F : List Fd) (m : Md) (w : World) (h : Clz w cb τ κ μ βf a cap Ts kd F m)
    (hF : F.length = 6) (hn : Ts.length ≤ 1048576) (hk : kd.size ≤ maxLen) (hz : ∀ i (hi : i < F.length), FdSize F[i] ∧ F[i].words = []) (hm : MdSize m) :
    Calls Try.prog 27 #[.slice (some ⟨cb, 0, none⟩) 9 9] w fun e w' => ∃ cs', e = .returned (.agg cs'.toArray) ∧ Below w.heap.size w w' ∧ LwOwn w.heap.size w'.heap.size w' cs' ⟨kd, F⟩ [m] Ts := by
  have HC := hide h
  have HZ := hide hz
  have HM := hide hm
  have HK := hide hk
  have hcb := h.lt
  clear h hz hm hk
  go_enter Try.func27, Try.ntmps27
  go_wp2
  generalize hWa : (World.alloc (w.alloc _) _) = W1
  have HB : Hid (Below w.heap.size w W1) := by unfold Hid; rw [← hWa]; exact (one_al w _).alloc (by simp) _
  have FR : Hid (Box W1 w.heap.size #[.slice none 0 0, .slice none 0 0, .slice none 0 0]) := by unfold Hid; rw [← hWa]; exact (Box.new _ _ _ _ rfl).on (one_al _ _)
  have FL : Hid (Box W1 (w.heap.size + 1) #[.slice none 0 0, .slice none 0 0, .slice none 0 0]) := by unfold Hid; rw [← hWa]; exact Box.new _ _ _ _ (by simp)
  have hs1 : W1.heap.size = w.heap.size + 2 := by rw [← hWa]; simp
  clear hWa
  go_loopw [8] (fun i wr => ∃ k : Nat, i = .int .i64 k ∧ k ≤ 9 ∧ Touch (w.heap.size + 1) (w.heap.size + 1 + 1) W1 wr ∧ (
    (k = 0 ∧ Box wr (w.heap.size + 1) #[.slice none 0 0, .slice none 0 0, .slice none 0 0]) ∨
    (k = 1 ∧ ∃ tv, Box wr (w.heap.size + 1) #[.slice none 0 0, .slice none 0 0, tv] ∧ TmsOwn (w.heap.size + 2) wr.heap.size wr tv Ts) ∨
    (2 ≤ k ∧ k ≤ 8 ∧ ∃ tv sb sc t1 fb fv, Lf (w.heap.size + 1) (w.heap.size + 2) wr (k - 2) Ts kd F tv sb sc t1 fb fv) ∨
    (k = 9 ∧ ∃ sv mv tv t1 mb, Box wr (w.heap.size + 1) #[sv, mv, tv] ∧ TmsOwn (w.heap.size + 2) t1 wr tv Ts ∧ ShOne t1 mb wr sv ⟨kd, F⟩ ∧ MdsOwn mb wr.heap.size wr mv [m] ∧ w.heap.size + 2 ≤ t1 ∧ t1 ≤ mb ∧ mb ≤ wr.heap.size))) (fun i _ => 9 - (intOf i).toNat)
  case atStart => exact ⟨0, rfl, by omega, Touch.refl _ _ _, Or.inl ⟨rfl, FL.out⟩⟩
  case round =>
    obtain ⟨k, rfl, hk9, ht, hst⟩ := hrel
    have HT := hide ht
    have hsz := ht.size
    -- what lies below stays
    have HBX : Hid (∀ b cs, Box w b cs → Box wr b cs) := fun b cs hb => (hb.on HB.out).touch HT.out (by have := hb.lt; omega)
    have HCE : Hid (∀ i u, w.cell? ⟨cb, i, none⟩ = some u → wr.cell? ⟨cb, i, none⟩ = some u) := fun i u hu => (HT.out.cell (p := ⟨cb, i, none⟩) (by simp only []; omega) (by simp only []; omega)).trans ((HB.out.cell (p := ⟨cb, i, none⟩) hcb).trans hu)
    have HBW : Hid (Below w.heap.size w wr) := HB.out.trans ((HT.out.under (by omega)).mono (by omega))
    clear ht
    rcases hst with ⟨rfl, hb⟩ | ⟨rfl, tv, hb, hT⟩ | ⟨hk2, hk8, tv, sb, sc, t1, fb, fv, hL⟩ | ⟨rfl, sv, mv, tv, t1, mb, hb, hT, hS, hM, y1, y2, y3⟩
    · have x0 := HCE.out 0 _ HC.out.d0
      have HBo := hide hb
      clear hb
      go_wp2_with fail
      clear x0
      have hτ := HC.out.bt.lt
      have HTm : Hid (TmsAt 0 wr (.slice a Ts.length cap) Ts) := HC.out.ts.below HBW.out
      refine (teamsC_any (w.heap.size + 2) 0 (w.heap.size + 1) τ a cap Ts _ (by omega) (by omega) (by omega) hn (HBo.out.cell 2) (HBo.out.free 2) (HBX.out _ _ HC.out.bt) HTm.out).mono ?_
      rintro e wq ⟨rfl, w3, v3, rfl, hb3, hown⟩
      have hs3 := hb3.size
      have HT3 := hide (touch_set (touch_step HT.out hb3 (by omega)) ⟨w.heap.size + 1, 2, none⟩ v3 (Or.inl rfl))
      have HBo3 := hide ((HBo.out.on hb3).set (k := 2) v3 (by simp))
      have HTS := hide (((Tmvs_own hown HC.out.ts.size).touch (Touch.setCell (w.heap.size + 1) (w.heap.size + 1 + 1) w3 ⟨w.heap.size + 1, 2, none⟩ v3 ⟨Nat.le_refl _, Nat.lt_succ_self _⟩) (by omega)))
      clear hb3 hown
      go_wp2
      go_roundw
      case rel => exact ⟨1, by go_num, by omega, HT3.out, Or.inr (Or.inl ⟨rfl, v3, HBo3.out, HTS.out.widen (by omega) (by simp [World.setCell])⟩)⟩
      case measure => simp [intOf]
    · have x0 := HCE.out 1 _ HC.out.d1
      have HBo := hide hb
      have HTo := hide hT
      clear hb hT
      go_wp2_with fail
      clear x0
      have hκ := HC.out.bk.lt
      refine (shapeC_any wr.heap.size (w.heap.size + 1) κ kd _ (by omega) (by omega) (Nat.le_refl _) (HBo.out.cell 0) (HBo.out.free 0) (HBX.out _ _ HC.out.bk)).mono ?_
      rintro e wq ⟨rfl, w3, v3, rfl, hb3, hown⟩
      have hs3 := hb3.size
      obtain ⟨sb, sc, hv⟩ := ownsRow_succ hown
      have hl := ownsB_lt hown (g := sb) (by rw [hv]; rfl)
      have hsc : 1 ≤ sc := by
        rcases hown.2 with ⟨_, hn⟩ | ⟨g', cap', cur, hv', h1, h2, h3, h4, _⟩
        · cases hn
        · rw [hv] at hv'
          injection hv' with e1 e2 e3
          omega
      subst hv
      have e0 := hown.cellAt 0 (by omega)
      have e1 := hown.cellAt 1 (by omega)
      obtain ⟨hl1, hl2, hl3⟩ := hl
      have HT3 := hide (touch_set (touch_step HT.out hb3 (by omega)) ⟨w.heap.size + 1, 0, none⟩ (.slice (some ⟨sb, 0, none⟩) (0 + 1) sc) (Or.inl rfl))
      have ht := Touch.setCell (w.heap.size + 1) (w.heap.size + 1 + 1) w3 ⟨w.heap.size + 1, 0, none⟩ (.slice (some ⟨sb, 0, none⟩) (0 + 1) sc) ⟨Nat.le_refl _, Nat.lt_succ_self _⟩
      have HL : Hid (Lf (w.heap.size + 1) (w.heap.size + 2) (w3.setCell ⟨w.heap.size + 1, 0, none⟩ (.slice (some ⟨sb, 0, none⟩) (0 + 1) sc)) 0 Ts kd F tv sb sc wr.heap.size w3.heap.size (.slice none 0 0)) :=
        ⟨(HBo.out.on hb3).set (k := 0) _ (by simp), (HTo.out.below hb3).touch ht (by omega), hl2, hl1, by simp [World.setCell], by omega, by omega, hsc, (ht.cell (p := ⟨sb, 0, none⟩) hl1 (by simp only []; omega)).trans e0, (ht.cell (p := ⟨sb, 1, none⟩) hl1 (by simp only []; omega)).trans e1, fun i => (ht.frozen (p := ⟨sb, i, none⟩) hl1 (by simp only []; omega)).trans (hl3 i), World.ownsRow_nil _ _ _ _⟩
      clear hb3 hown e0 e1 hl1 hl2 hl3 ht
      go_wp2
      go_roundw
      case rel => exact ⟨2, by go_num, by omega, HT3.out, Or.inr (Or.inr (Or.inl ⟨by omega, by omega, tv, sb, sc, _, _, _, HL.out⟩))⟩
      case measure => simp [intOf]
    · have HL := hide hL
      have y0 := hL.z0
      have y1 := hL.z1
      have y2 := hL.z2
      have y3 := hL.z3
      have y4 := hL.z4
      clear hL
      rcases Nat.lt_or_ge k 8 with hlt | hge
      · have x0 : wr.cell? ⟨cb, k, none⟩ = some (.func (.func 64) #[] #[.pointer (some ⟨βf (k - 2), 0, none⟩)]) := by
          have := HCE.out (k - 2 + 2) _ (HC.out.df (k - 2) (by omega))
          rwa [show k - 2 + 2 = k by omega] at this
        go_wp2_with fail
        clear x0
        have hbf := (HC.out.bf (k - 2) (by omega)).lt
        refine (fieldC_any fb (w.heap.size + 1) sb (βf (k - 2)) sc (k - 2) fv (F[k - 2]'(by omega)) (flatV fdV (F.take (k - 2))) _ (by omega) (by omega) (by omega) (by omega) (by omega) (HL.out.box.cell 0) HL.out.c1 (HL.out.fz 1) (HBX.out _ _ (HC.out.bf (k - 2) (by omega))) HL.out.own).mono ?_
        rintro e wq ⟨rfl, w3, v3, rfl, hb3, hown⟩
        have hs3 := hb3.size
        have HT3 := hide (touch_set (touch_step HT.out hb3 (by omega)) ⟨sb, 1, none⟩ v3 (Or.inr (by simp only []; omega)))
        have HL3 := hide (HL.out.next (by omega) hb3 hown)
        clear hb3 hown
        go_wp2
        go_roundw
        case rel => exact ⟨k + 1, by go_num, by omega, HT3.out, Or.inr (Or.inr (Or.inl ⟨by omega, by omega, tv, sb, sc, _, _, _, by rw [show k + 1 - 2 = k - 2 + 1 by omega]; exact HL3.out⟩))⟩
        case measure => simp [intOf]; omega
      · have hk : k = 8 := by omega
        subst hk
        have x0 := HCE.out 8 _ HC.out.dm
        go_wp2_with fail
        clear x0
        have hμ := HC.out.bm.lt
        have HFd : Hid (FdsOwn fb wr.heap.size wr fv F) := by
          have h := HL.out.own
          rw [show 8 - 2 = F.length by omega, List.take_length] at h
          exact Fdvs_own h (fun e => by rw [e] at hF; cases hF) HZ.out
        have HSh : Hid (ShOne t1 wr.heap.size wr (.slice (some ⟨sb, 0, none⟩) 1 sc) ⟨kd, F⟩) := ⟨sb, sc, fv, fb, wr.heap.size, rfl, HL.out.z5, y0, by omega, by omega, by omega, Nat.le_refl _, Or.inl y1, HL.out.c0, HL.out.c1, HL.out.fz, HK.out, HFd.out⟩
        refine (mendC_any wr.heap.size (w.heap.size + 1) μ m _ (by omega) (by omega) (Nat.le_refl _) (HL.out.box.cell 1) (HL.out.box.free 1) (HBX.out _ _ HC.out.bm)).mono ?_
        rintro e wq ⟨rfl, w3, v3, rfl, hb3, hown⟩
        have hs3 := hb3.size
        have ht := Touch.setCell (w.heap.size + 1) (w.heap.size + 1 + 1) w3 ⟨w.heap.size + 1, 1, none⟩ v3 ⟨Nat.le_refl _, Nat.lt_succ_self _⟩
        have HT3 := hide (touch_set (touch_step HT.out hb3 (by omega)) ⟨w.heap.size + 1, 1, none⟩ v3 (Or.inl rfl))
        have HB3 := hide ((HL.out.box.on hb3).set (k := 1) v3 (by simp))
        have HM3 := hide ((Mdv_own hown HM.out).touch ht (by omega))
        have HS3 := hide ((HSh.out.below hb3).touch ht (by omega))
        have HT4 := hide ((HL.out.tms.below hb3).touch ht (by omega))
        have hs4 : (w3.setCell ⟨w.heap.size + 1, 1, none⟩ v3).heap.size = w3.heap.size := by simp [World.setCell]
        clear hb3 hown ht
        go_wp2
        go_roundw
        case rel => exact ⟨9, by go_num, by omega, HT3.out, Or.inr (Or.inr (Or.inr ⟨rfl, _, v3, tv, t1, wr.heap.size, HB3.out, HT4.out, HS3.out, by rw [hs4]; exact HM3.out, by omega, by omega, by omega⟩))⟩
        case measure => simp [intOf]
    · have HBo := hide hb
      have HTo := hide hT
      have HSo := hide hS
      have HMo := hide hM
      have FR2 := hide (FR.out.touch HT.out (by omega))
      obtain ⟨a0, k0, hv0⟩ : ∃ a0 k0, sv = .slice a0 1 k0 := by
        obtain ⟨sb, sc, _, _, _, h1, _⟩ := hS
        exact ⟨_, _, h1⟩
      obtain ⟨a1, k1, hv1⟩ := hM.at.form
      obtain ⟨a2, k2, hv2⟩ := hT.at.form
      subst hv0
      subst hv1
      subst hv2
      clear hb hT hS hM
      have g0 := HBo.out.cell
      have g1 := FR2.out.cell
      have g2 := FR2.out.free
      go_wp2
      refine bodyPost_ret (v := .agg #[.slice a0 1 k0, .slice a1 [m].length k1, .slice a2 Ts.length k2]) (by simp [results, Try.results27, go_sem, g1]) rfl ?_
      have hsz2 : ∀ (X : World) p u, (X.setCell p u).heap.size = X.heap.size := fun X p u => by simp [World.setCell]
      refine ⟨lwL ⟨[⟨kd, F⟩], [m], Ts⟩ a0 k0 a1 k1 a2 k2, rfl, ?_, a0, k0, a1, k1, a2, k2, t1, mb, mb, wr.heap.size, w.heap.size + 2, t1, rfl, by omega, by simp only [hsz2]; omega, by omega, by simp only [hsz2]; omega, by omega, by simp only [hsz2]; omega, by omega, by omega, by omega, ?_, ?_, ?_⟩
      · repeat (refine Below.setCell ?_ (by simp only []; omega) _)
        exact HBW.out
      · repeat (refine ShOne.touch ?_ (Touch.setCell w.heap.size (w.heap.size + 1) _ _ _ ⟨Nat.le_refl _, Nat.lt_succ_self _⟩) (by omega))
        exact HSo.out
      · repeat (refine MdsOwn.touch ?_ (Touch.setCell w.heap.size (w.heap.size + 1) _ _ _ ⟨Nat.le_refl _, Nat.lt_succ_self _⟩) (by omega))
        exact HMo.out
      · repeat (refine TmsOwn.touch ?_ (Touch.setCell w.heap.size (w.heap.size + 1) _ _ _ ⟨Nat.le_refl _, Nat.lt_succ_self _⟩) (by omega))
        exact HTo.out
end Go.Proofs.Ytmaagbnjpdijnaa

