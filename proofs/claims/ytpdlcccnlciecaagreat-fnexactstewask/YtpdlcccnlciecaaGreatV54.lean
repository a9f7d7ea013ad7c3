import Derived.Test.YtpdlcccnlciecaaGreatV51
import Derived.Test.YtpdlcccnlciecaaGreatV53
import Derived.Deep.RegionHeld3
namespace Go.Proofs.YtpdlcccnlciecaaGreat
open Go.RowKit Go.Deep

theorem AcG.made (base : Nat) (W : World) (g : Nat) (hg : W.heap.size = g) (hb : base ≤ g) : AcG base (W.alloc (.cells #[] 47)) (.slice (some ⟨g, 0, none⟩) 0 0) [] :=
  ⟨[], fun _ => (0, 0), ⟨ownsB_made W g _ 8 hg hb, fun i h => by simp at h, fun i h => by simp at h, fun i h => by simp at h, fun i j _ h => by simp at h⟩, rfl⟩
theorem one_news (X : World) (l : List Value) (t : TypeId) : ∀ (j : Nat) (u : Value), l[j]? = some u → (X.alloc (.cells l.toArray t)).cell? ((⟨X.heap.size, 0, none⟩ : Addr).add j) = some u := fun j u hu => by
  rw [Go.WideShapes.add_plain, Nat.zero_add, (Box.new X l.toArray t X.heap.size rfl).cell j]
  simpa using hu
theorem eight_any (A : Ac) (ea : Option Addr) (len ek : Nat) : ∀ u ∈ ([.string A.sv, .int .i64 A.sn, .int .i64 A.cr, .int .i64 A.wa, .int .i64 A.cl, .bool A.sc, .slice ea len ek, .bool A.dp] : List Value), u.oneCell' = true := fun u hu => by
  simp only [List.mem_cons, List.not_mem_nil, or_false] at hu
  rcases hu with rfl | rfl | rfl | rfl | rfl | rfl | rfl | rfl <;> rfl
section
variable (lo : Nat) (sv cv bv : Value) (B : Sb) (kind : Int) (w : World)

set_option maxRecDepth 100000 in
set_option maxHeartbeats 16000000 in
theorem specAsk_any (h : SbAt lo w sv cv bv B) :
    Calls Tryz.prog 5 #[.int .i64 kind, .agg #[.int .i64 B.now, sv, cv, bv]] w fun e w' => ∃ v, e = .returned v ∧ Below w.heap.size w w' ∧ AcsOwn w.heap.size w'.heap.size w' v (askF kind B) := by
  have HK := hide h
  have hm := h.svs.max
  unfold maxLen at hm
  obtain ⟨a0, k0, rfl⟩ := h.svs.form
  obtain ⟨a1, k1, rfl⟩ := h.cps.form
  obtain ⟨a2, k2, rfl⟩ := h.bes.form
  clear h
  go_enter Tryz.func5, Tryz.ntmps5
  go_wp2_with fail
  generalize hWa : World.alloc (w.alloc _) _ = Wa
  have HB0 : Hid (Below w.heap.size w Wa) := by unfold Hid; rw [← hWa]; exact (one_al w _).alloc (by simp) _
  have FX0 : Hid (Box Wa w.heap.size #[.int .i64 B.now, .slice a0 B.ss.length k0, .slice a1 B.cs.length k1, .slice a2 B.bs.length k2]) := by unfold Hid; rw [← hWa]; exact (Box.new _ _ _ _ rfl).on (one_al _ _)
  have HA0 : Hid (AcG (w.heap.size + 1) Wa (.slice (some ⟨w.heap.size + 1, 0, none⟩) 0 0) []) := by unfold Hid; rw [← hWa]; exact AcG.made _ _ _ (by simp) (Nat.le_refl _)
  clear hWa
  refine (specValid_any lo _ _ _ B _ (HK.out.below HB0.out)).mono ?_
  rintro e w1 ⟨rfl, hb1⟩
  have HB1 := hide (bt HB0.out hb1)
  have FX1 := hide (FX0.out.on hb1)
  have HA1 := hide (HA0.out.below hb1)
  clear hb1 HB0 FX0 HA0
  cases hv : validB B with
  | false =>
    have HE : Hid (askF kind B = []) := by unfold Hid askF; rw [hv]; rfl
    go_wp2
    go_ret
    exact ⟨_, rfl, HB1.out, by rw [HE.out]; exact AcsOwn.none _ _ _ _ _⟩
  | true =>
  have HE : Hid (askF kind B = askL kind B B.ss) := by unfold Hid askF; rw [hv]; rfl
  have HV := hide hv
  clear hv
  go_wp2
  go_loopw [6, 5] (fun i v wr => ∃ k : Nat, i = .int .i64 k ∧ k ≤ B.ss.length ∧ Below w.heap.size w wr ∧ Box wr w.heap.size #[.int .i64 B.now, .slice a0 B.ss.length k0, .slice a1 B.cs.length k1, .slice a2 B.bs.length k2] ∧ AcG (w.heap.size + 1) wr v (askL kind B (B.ss.take k))) (fun i _ _ => B.ss.length - (intOf i).toNat)
  case atStart => exact ⟨0, rfl, by omega, HB1.out, FX1.out, HA1.out⟩
  case round =>
    obtain ⟨k, rfl, hk, hb, hbx, hac⟩ := hrel
    have HB := hide hb
    have FX := hide hbx
    have HAC := hide hac
    have y := hbx.cell 1
    simp at y
    clear hb hbx hac HB1 FX1 HA1
    by_cases hlt : k < B.ss.length
    · obtain ⟨b, off, rfl, hbw, -, hc⟩ := HK.out.svs.full' (by omega)
      obtain ⟨hsz, hcc⟩ := hc k hlt
      obtain ⟨x, hxx⟩ : ∃ x, x = B.ss[k] := ⟨_, rfl⟩
      have HMEM : Hid (x ∈ B.ss) := by unfold Hid; rw [hxx]; exact List.getElem_mem hlt
      obtain ⟨A, hA⟩ : ∃ A, A = askS kind B x := ⟨_, rfl⟩
      have HNX : Hid (askL kind B (B.ss.take (k + 1)) = askL kind B (B.ss.take k) ++ (if asksB A then [A] else [])) := by unfold Hid; rw [hA, hxx]; exact askL_next kind B hlt
      have HSV : Hid (svB B.now x = true) := by unfold Hid; rw [hxx]; exact all_at (valid_ss HV.out) hlt
      rw [← hxx] at hcc hsz
      have HSA : Hid (AcSize A) := ⟨by rw [hA, askS_sv]; exact hsz.s0⟩
      have hbr : b < wr.heap.size := Nat.lt_of_lt_of_le hbw HB.out.size
      have HR : Hid (∀ W, Below wr.heap.size wr W → W.rangeAt b (off + k * 13) [.string x.nm, .int .i64 x.ve, .bool x.gn, .int .i64 x.im, .int .i64 x.wa, .int .i64 x.dn, .int .i64 x.ov, .int .i64 x.nx, .int .i64 x.pr, .int .i64 x.ls, .int .i64 x.ms, .int .i64 x.ld, .int .i64 x.cl]) := fun W hW => rng_below (hcc.below HB.out hbw).rng hW hbr
      have HRX : Hid (∀ W, Below wr.heap.size wr W → W.rangeAt w.heap.size 0 [.int .i64 B.now, .slice (some ⟨b, off, none⟩) B.ss.length k0, .slice a1 B.cs.length k1, .slice a2 B.bs.length k2]) := fun W hW => (FX.out.on hW).range rfl
      have HY : Hid (∀ W, Below wr.heap.size wr W → W.cell? ⟨w.heap.size, 1, none⟩ = some (.slice (some ⟨b, off, none⟩) B.ss.length k0)) := fun W hW => by rw [(FX.out.on hW).cell 1]; rfl
      have i0 : (0 : Int) ≤ (k : Int) := by omega
      have i1 : (k : Int) < (B.ss.length : Int) := by omega
      have HACT : Hid (∀ W, Below wr.heap.size wr W → Calls Tryz.prog 17 #[.int .i64 kind, .agg #[.int .i64 B.now, .slice (some ⟨b, off, none⟩) B.ss.length k0, .slice a1 B.cs.length k1, .slice a2 B.bs.length k2], .agg #[.string x.nm, .int .i64 x.ve, .bool x.gn, .int .i64 x.im, .int .i64 x.wa, .int .i64 x.dn, .int .i64 x.ov, .int .i64 x.nx, .int .i64 x.pr, .int .i64 x.ls, .int .i64 x.ms, .int .i64 x.ld, .int .i64 x.cl]] W fun e w' => ∃ ev, e = .returned (.agg (acL A ev).toArray) ∧ Below W.heap.size W w' ∧ ERow w' W.heap.size ev A.es) := fun W hW => by
        rw [hA]
        exact l16Act_any lo _ _ _ B x kind W (HK.out.below (bt HB.out hW)) (MayOk.of HV.out) (valid_cps HV.out).1 HMEM.out HSV.out
      clear hc hcc hsz hxx hA
      go_wp2
      clear y
      go_cut [7] (fun p wc => ∃ (β : Nat) (ea : Option Addr) (ek : Nat), p = .pointer (some ⟨β, 0, none⟩) ∧ Below wr.heap.size wr wc ∧ Box wc β #[.string A.sv, .int .i64 A.sn, .int .i64 A.cr, .int .i64 A.wa, .int .i64 A.cl, .bool A.sc, .slice ea A.es.length ek, .bool A.dp] ∧ ERow wc wr.heap.size (.slice ea A.es.length ek) A.es)
      case first =>
        refine Code.wp_mono NoPanic.imp ?_
        refine wp_region_held_drew (S := fun W => Below wr.heap.size wr W) (by kernel_rfl) ((Below.refl _ _).drew) (fun hHeld => ?_)
        refine wpAnyH_take (i := 0) (v := .int .i64 kind) rfl (by kernel_rfl) (by kernel_rfl) (by kernel_rfl) (fun _ _ _ h => h) (Or.inl ⟨by rfl, fun W hW => by go_simp⟩) hHeld ?_
        try simp only [Act.put, List.getElem_toArray, List.getElem_cons_zero, List.setIfInBounds_toArray, List.set_cons_zero, List.set_cons_succ]
        refine wpAnyH_take (i := 1) rfl (by kernel_rfl) (by kernel_rfl) (by kernel_rfl) (fun _ _ _ h => h) (yieldsIf_load_mid (by rfl) 34 (.tmp 3) rfl w.heap.size 0 rfl [.int .i64 B.now, .slice (some ⟨b, off, none⟩) B.ss.length k0, .slice a1 B.cs.length k1, .slice a2 B.bs.length k2] _ HRX.out Tryz.underlying34 rfl (by kernel_rfl)) hHeld ?_
        try simp only [Act.put, List.getElem_toArray, List.getElem_cons_succ, List.getElem_cons_zero, List.setIfInBounds_toArray, List.set_cons_zero, List.set_cons_succ]
        refine wpAnyH_take (i := 2) (v := .pointer (some ⟨w.heap.size, 1, none⟩)) rfl (by kernel_rfl) (by kernel_rfl) (by kernel_rfl) (fun _ _ _ h => h) (Or.inl ⟨by rfl, fun W hW => by go_simp⟩) hHeld ?_
        try simp only [Act.put, List.getElem_toArray, List.getElem_cons_succ, List.getElem_cons_zero, List.setIfInBounds_toArray, List.set_cons_zero, List.set_cons_succ]
        refine wpAnyH_take (i := 3) (v := .slice (some ⟨b, off, none⟩) B.ss.length k0) rfl (by kernel_rfl) (by kernel_rfl) (by kernel_rfl) (fun _ _ _ h => h) (Or.inl ⟨by rfl, fun W hW => by have hf := HY.out W hW; go_simp⟩) hHeld ?_
        try simp only [Act.put, List.getElem_toArray, List.getElem_cons_succ, List.getElem_cons_zero, List.setIfInBounds_toArray, List.set_cons_zero, List.set_cons_succ]
        refine wpAnyH_take (i := 4) (v := .int .i64 k) rfl (by kernel_rfl) (by kernel_rfl) (by kernel_rfl) (fun _ _ _ h => h) (Or.inl ⟨by rfl, fun W hW => by go_simp⟩) hHeld ?_
        try simp only [Act.put, List.getElem_toArray, List.getElem_cons_succ, List.getElem_cons_zero, List.setIfInBounds_toArray, List.set_cons_zero, List.set_cons_succ]
        refine wpAnyH_take (i := 5) (v := .pointer (some ⟨b, off + k * 13, none⟩)) rfl (by kernel_rfl) (by kernel_rfl) (by kernel_rfl) (fun _ _ _ h => h) (Or.inl ⟨by rfl, fun W hW => by go_simp⟩) hHeld ?_
        try simp only [Act.put, List.getElem_toArray, List.getElem_cons_succ, List.getElem_cons_zero, List.setIfInBounds_toArray, List.set_cons_zero, List.set_cons_succ]
        refine wpAnyH_take (i := 6) rfl (by kernel_rfl) (by kernel_rfl) (by kernel_rfl) (fun _ _ _ h => h) (yieldsIf_load_mid (by rfl) 50 (.tmp 25) rfl b (off + k * 13) rfl [.string x.nm, .int .i64 x.ve, .bool x.gn, .int .i64 x.im, .int .i64 x.wa, .int .i64 x.dn, .int .i64 x.ov, .int .i64 x.nx, .int .i64 x.pr, .int .i64 x.ls, .int .i64 x.ms, .int .i64 x.ld, .int .i64 x.cl] _ HR.out Tryz.underlying50 rfl (by kernel_rfl)) hHeld ?_
        try simp only [Act.put, List.getElem_toArray, List.getElem_cons_succ, List.getElem_cons_zero, List.setIfInBounds_toArray, List.set_cons_zero, List.set_cons_succ]
        refine wpAnyH_ready (rs := [7, 8]) (by kernel_rfl) (by simp) ?_
        refine AllReadyH.cons rfl (fun K hK => ?_) (AllReadyH.cons rfl (fun K hK => ?_) AllReadyH.nil)
        · go_simp
          refine (HACT.out _ ((Below.refl _ _).drew)).mono ?_
          rintro e w2 ⟨ev, rfl, hb2, hrow⟩
          obtain ⟨ea, ek, rfl⟩ := hrow.form
          have HC2 : Hid (Below wr.heap.size wr w2) := bt ((Below.refl _ _).drew) hb2
          have HRW : Hid (ERow w2 wr.heap.size (.slice ea A.es.length ek) A.es) := hrow
          clear hb2 hrow
          refine hK.out _ _ HC2.out (fun hHeld => ?_)
          clear hK K
          try simp only [Act.put, List.getElem_toArray, List.getElem_cons_succ, List.getElem_cons_zero, List.setIfInBounds_toArray, List.set_cons_zero, List.set_cons_succ]
          refine wpAnyH_ready (rs := [8]) (by kernel_rfl) (by simp) ?_
          refine AllReadyH.cons rfl (fun K hK => ?_) AllReadyH.nil
          go_simp
          refine hK.out _ _ (bt HC2.out (one_al _ _)) (fun hHeld => ?_)
          clear hK K
          try simp only [Act.put, List.getElem_toArray, List.getElem_cons_succ, List.getElem_cons_zero, List.setIfInBounds_toArray, List.set_cons_zero, List.set_cons_succ]
          generalize hW3 : World.alloc _ _ = W3 at *
          have hb3 : Below w2.heap.size w2 W3 := by rw [← hW3]; exact one_al _ _
          have H3B : Hid (Box W3 w2.heap.size zAct.toArray) := by unfold Hid; rw [← hW3]; exact Box.new _ _ _ _ rfl
          have HT : Hid (W3.there w2.heap.size 0 8) := H3B.out.there rfl
          have HSS : Hid (Below w2.heap.size w2 (W3.setCells w2.heap.size 0 (acL A (.slice ea A.es.length ek)))) := Below.sets (Nat.le_refl _) _ _ hb3
          clear hW3 hb3
          refine wpAnyH_ready (rs := [9]) (by kernel_rfl) (by simp) ?_
          refine AllReadyH.cons rfl (fun K hK => ?_) AllReadyH.nil
          rw [if_pos (by rfl)]
          refine wp_store_mid 47 (.tmp 7) (.tmp 27) rfl w2.heap.size 0 (acL A (.slice ea A.es.length ek)).toArray rfl rfl HT.out Tryz.sizeAct (acL_one _) ?_
          refine hK.out _ _ (bt HC2.out HSS.out) (fun hHeld => ?_)
          clear hK K
          try simp only [Act.put, List.getElem_toArray, List.getElem_cons_succ, List.getElem_cons_zero]
          refine wpAnyH_done (by kernel_rfl) ?_ _
          try simp only [List.getElem_toArray, List.getElem_cons_succ, List.getElem_cons_zero]
          refine NoPanic.normal ?_
          go_wp2
          go_meet
          exact ⟨w2.heap.size, ea, ek, rfl, bt HC2.out HSS.out, H3B.out.full (cs' := (acL A (.slice ea A.es.length ek)).toArray) rfl, HRW.out.below HSS.out⟩
        · go_simp
          refine hK.out _ _ ((one_al _ _).drew) (fun hHeld => ?_)
          clear hK K
          try simp only [Act.put, List.getElem_toArray, List.getElem_cons_succ, List.getElem_cons_zero, List.setIfInBounds_toArray, List.set_cons_zero, List.set_cons_succ]
          generalize hW2 : World.alloc _ _ = W2 at *
          have H2 : Hid (Below wr.heap.size wr W2) := by unfold Hid; rw [← hW2]; exact one_al _ _
          have H2B : Hid (Box W2 wr.heap.size zAct.toArray) := by unfold Hid; rw [← hW2]; exact Box.new _ _ _ _ rfl
          have hz2 : W2.heap.size = wr.heap.size + 1 := by rw [← hW2]; simp
          have HZ2 := hide hz2
          clear hW2 hz2
          refine wpAnyH_ready (rs := [7]) (by kernel_rfl) (by simp) ?_
          refine AllReadyH.cons rfl (fun K hK => ?_) AllReadyH.nil
          go_simp
          refine (HACT.out _ H2.out.drew).mono ?_
          rintro e w2 ⟨ev, rfl, hb2, hrow⟩
          obtain ⟨ea, ek, rfl⟩ := hrow.form
          have HC2 : Hid (Below wr.heap.size wr w2) := bt H2.out.drew hb2
          have HRW : Hid (ERow w2 (wr.heap.size + 1) (.slice ea A.es.length ek) A.es) := by
            have h1 : ERow w2 W2.heap.size (.slice ea A.es.length ek) A.es := hrow
            unfold Hid
            rw [← HZ2.out]
            exact h1
          have H3B : Hid (Box w2 wr.heap.size zAct.toArray) := H2B.out.drew.on hb2
          have HT : Hid (w2.there wr.heap.size 0 8) := H3B.out.there rfl
          clear hb2 hrow
          refine hK.out _ _ HC2.out (fun hHeld => ?_)
          clear hK K
          try simp only [Act.put, List.getElem_toArray, List.getElem_cons_succ, List.getElem_cons_zero, List.setIfInBounds_toArray, List.set_cons_zero, List.set_cons_succ]
          refine wpAnyH_ready (rs := [9]) (by kernel_rfl) (by simp) ?_
          refine AllReadyH.cons rfl (fun K hK => ?_) AllReadyH.nil
          rw [if_pos (by rfl)]
          refine wp_store_mid 47 (.tmp 7) (.tmp 27) rfl wr.heap.size 0 (acL A (.slice ea A.es.length ek)).toArray rfl rfl HT.out Tryz.sizeAct (acL_one _) ?_
          refine hK.out _ _ (Below.sets (Nat.le_refl _) _ _ HC2.out) (fun hHeld => ?_)
          clear hK K
          try simp only [Act.put, List.getElem_toArray, List.getElem_cons_succ, List.getElem_cons_zero]
          refine wpAnyH_done (by kernel_rfl) ?_ _
          try simp only [List.getElem_toArray, List.getElem_cons_succ, List.getElem_cons_zero]
          refine NoPanic.normal ?_
          go_wp2
          go_meet
          exact ⟨wr.heap.size, ea, ek, rfl, Below.sets (Nat.le_refl _) _ _ HC2.out, H3B.out.full (cs' := (acL A (.slice ea A.es.length ek)).toArray) rfl, erow_sets HRW.out (by omega) (by omega)⟩
      case rest =>
      obtain ⟨β, ea, ek, rfl, hbc, hbb, her⟩ := hcut
      have HBc := hide hbc
      have FA := hide hbb
      have HER := hide her
      obtain ⟨len, hlen'⟩ : ∃ len, len = A.es.length := ⟨_, rfl⟩
      have HLN := hide hlen'
      have HRA : Hid (wc.rangeAt β 0 [.string A.sv, .int .i64 A.sn, .int .i64 A.cr, .int .i64 A.wa, .int .i64 A.cl, .bool A.sc, .slice ea len ek, .bool A.dp]) := by unfold Hid; rw [hlen']; exact FA.out.range rfl
      have e2 : wc.cell? ⟨β, 2, none⟩ = some (.int .i64 A.cr) := by rw [FA.out.cell 2]; rfl
      have e5 : wc.cell? ⟨β, 5, none⟩ = some (.bool A.sc) := by rw [FA.out.cell 5]; rfl
      have e6 : wc.cell? ⟨β, 6, none⟩ = some (.slice ea len ek) := by rw [hlen', FA.out.cell 6]; rfl
      have e7 : wc.cell? ⟨β, 7, none⟩ = some (.bool A.dp) := by rw [FA.out.cell 7]; rfl
      clear hbc hbb her
      by_cases q1 : 0 < A.cr
      · have b1 : decide (0 < A.cr) = true := decide_eq_true q1
        have HYES : Hid (askL kind B (B.ss.take (k + 1)) = askL kind B (B.ss.take k) ++ [A]) := by unfold Hid; rw [HNX.out, show asksB A = true from by unfold asksB; simp [q1]]; rfl
        clear q1 hlen'
        obtain ⟨xs, hown, hsnoc⟩ := HAC.out.own
        have HSN := hide hsnoc
        have hlen : (askL kind B (B.ss.take k)).length ≤ 8 := by
          have h1 := askL_len kind B (B.ss.take k)
          have h2 : B.ss.length ≤ 8 := valid_ss8 HV.out
          simp at h1
          omega
        obtain ⟨N, hN⟩ : ∃ N, N = (askL kind B (B.ss.take k)).length := ⟨_, rfl⟩
        rw [← hN] at hown hlen
        have HOW : Hid (∀ o, (wc.alloc o).ownsRow (w.heap.size + 1) 47 8 u5 N xs) := fun o => ownsB_on hown (bt HBc.out (one_al _ _))
        obtain ⟨it, hi, hz0, hz1, hz2'⟩ := info_parts Tryz.infoAct
        have hzr : w.heap.size + 1 ≤ wr.heap.size := FX.out.lt
        have hzc := HBc.out.size
        clear hown hsnoc
        go_wp2_with (first
          | (refine wpList_load_mid rfl 47 (.tmp 7) rfl β 0 rfl [.string A.sv, .int .i64 A.sn, .int .i64 A.cr, .int .i64 A.wa, .int .i64 A.cl, .bool A.sc, .slice ea len ek, .bool A.dp] _ HRA.out Tryz.underlying47 rfl Tryz.sizeAct ?_)
          | (at_builtin; refine wpList_append_lies _ rfl (.tmp 45) (.tmp 47) 28 rfl (w.heap.size + 1) 47 it _ 8 88 Tryz.underlying28 hi hz0 hz1 hz2' rfl (by decide) _ N xs rfl (HOW.out _) ⟨wc.heap.size, 0, none⟩ 1 1 [.string A.sv, .int .i64 A.sn, .int .i64 A.cr, .int .i64 A.wa, .int .i64 A.cl, .bool A.sc, .slice ea len ek, .bool A.dp] rfl rfl (one_news _ _ _) (eight_any A ea len ek) (by omega) (by unfold maxLen; omega) (by omega) (by simp; omega) (wc.heap.size + 1) (by simp) ?_; intro g cap w4 ho4 hg4 hat4 hl4))
        clear e2 e5 e6 e7
        generalize hW1 : wc.alloc _ = W1 at hg4
        have HW1 : Hid (Below wr.heap.size wr W1) := by unfold Hid; rw [← hW1]; exact bt HBc.out (one_al _ _)
        have HR1 : Hid (ERow W1 wr.heap.size (.slice ea A.es.length ek) A.es) := by unfold Hid; rw [← hW1]; exact HER.out.below (one_al _ _)
        have hzW : W1.heap.size = wc.heap.size + 1 := by rw [← hW1]; simp
        have HOW1 : Hid (W1.ownsRow (w.heap.size + 1) 47 8 u5 N xs) := by unfold Hid; rw [← hW1]; exact HOW.out _
        have HEN := hide (HR1.out.own HR1.out.max)
        have HBw : Hid (Below w.heap.size w w4) := (bt HB.out HW1.out).trans ((ownsB_grown HOW1.out hg4 (by omega)).mono (by omega))
        have FX4 : Hid (Box w4 w.heap.size #[.int .i64 B.now, .slice (some ⟨b, off, none⟩) B.ss.length k0, .slice a1 B.cs.length k1, .slice a2 B.bs.length k2]) := (FX.out.on HW1.out).row HOW1.out hg4 (by omega)
        have HAC4 : Hid (AcG (w.heap.size + 1) w4 (.slice (some ⟨g, 0, none⟩) (N + 1) cap) (askL kind B (B.ss.take (k + 1)))) := by
          unfold Hid
          rw [HYES.out]
          rw [HLN.out] at ho4
          subst hN
          exact HSN.out wr.heap.size W1.heap.size g cap W1 w4 A ea ek HW1.out HSA.out (Nat.le_refl _) (Nat.le_refl _) (by omega) (by omega) HEN.out ho4 hg4 (by rw [hzW]; exact hat4)
        clear ho4 hg4 hat4 hl4 hW1
        rw [hN] at HAC4
        go_roundw
        case rel => exact ⟨k + 1, by go_num, by omega, HBw.out, FX4.out, HAC4.out⟩
        case measure => simp [intOf]; omega
      have b1 : decide (0 < A.cr) = false := decide_eq_false q1
      by_cases q2 : A.sc = true
      · rw [q2] at e5
        have HYES : Hid (askL kind B (B.ss.take (k + 1)) = askL kind B (B.ss.take k) ++ [A]) := by unfold Hid; rw [HNX.out, show asksB A = true from by unfold asksB; simp [q2]]; rfl
        clear q1 q2 hlen'
        obtain ⟨xs, hown, hsnoc⟩ := HAC.out.own
        have HSN := hide hsnoc
        have hlen : (askL kind B (B.ss.take k)).length ≤ 8 := by
          have h1 := askL_len kind B (B.ss.take k)
          have h2 : B.ss.length ≤ 8 := valid_ss8 HV.out
          simp at h1
          omega
        obtain ⟨N, hN⟩ : ∃ N, N = (askL kind B (B.ss.take k)).length := ⟨_, rfl⟩
        rw [← hN] at hown hlen
        have HOW : Hid (∀ o, (wc.alloc o).ownsRow (w.heap.size + 1) 47 8 u5 N xs) := fun o => ownsB_on hown (bt HBc.out (one_al _ _))
        obtain ⟨it, hi, hz0, hz1, hz2'⟩ := info_parts Tryz.infoAct
        have hzr : w.heap.size + 1 ≤ wr.heap.size := FX.out.lt
        have hzc := HBc.out.size
        clear hown hsnoc
        go_wp2_with (first
          | (refine wpList_load_mid rfl 47 (.tmp 7) rfl β 0 rfl [.string A.sv, .int .i64 A.sn, .int .i64 A.cr, .int .i64 A.wa, .int .i64 A.cl, .bool A.sc, .slice ea len ek, .bool A.dp] _ HRA.out Tryz.underlying47 rfl Tryz.sizeAct ?_)
          | (at_builtin; refine wpList_append_lies _ rfl (.tmp 45) (.tmp 47) 28 rfl (w.heap.size + 1) 47 it _ 8 88 Tryz.underlying28 hi hz0 hz1 hz2' rfl (by decide) _ N xs rfl (HOW.out _) ⟨wc.heap.size, 0, none⟩ 1 1 [.string A.sv, .int .i64 A.sn, .int .i64 A.cr, .int .i64 A.wa, .int .i64 A.cl, .bool A.sc, .slice ea len ek, .bool A.dp] rfl rfl (one_news _ _ _) (eight_any A ea len ek) (by omega) (by unfold maxLen; omega) (by omega) (by simp; omega) (wc.heap.size + 1) (by simp) ?_; intro g cap w4 ho4 hg4 hat4 hl4))
        clear e2 e5 e6 e7
        generalize hW1 : wc.alloc _ = W1 at hg4
        have HW1 : Hid (Below wr.heap.size wr W1) := by unfold Hid; rw [← hW1]; exact bt HBc.out (one_al _ _)
        have HR1 : Hid (ERow W1 wr.heap.size (.slice ea A.es.length ek) A.es) := by unfold Hid; rw [← hW1]; exact HER.out.below (one_al _ _)
        have hzW : W1.heap.size = wc.heap.size + 1 := by rw [← hW1]; simp
        have HOW1 : Hid (W1.ownsRow (w.heap.size + 1) 47 8 u5 N xs) := by unfold Hid; rw [← hW1]; exact HOW.out _
        have HEN := hide (HR1.out.own HR1.out.max)
        have HBw : Hid (Below w.heap.size w w4) := (bt HB.out HW1.out).trans ((ownsB_grown HOW1.out hg4 (by omega)).mono (by omega))
        have FX4 : Hid (Box w4 w.heap.size #[.int .i64 B.now, .slice (some ⟨b, off, none⟩) B.ss.length k0, .slice a1 B.cs.length k1, .slice a2 B.bs.length k2]) := (FX.out.on HW1.out).row HOW1.out hg4 (by omega)
        have HAC4 : Hid (AcG (w.heap.size + 1) w4 (.slice (some ⟨g, 0, none⟩) (N + 1) cap) (askL kind B (B.ss.take (k + 1)))) := by
          unfold Hid
          rw [HYES.out]
          rw [HLN.out] at ho4
          subst hN
          exact HSN.out wr.heap.size W1.heap.size g cap W1 w4 A ea ek HW1.out HSA.out (Nat.le_refl _) (Nat.le_refl _) (by omega) (by omega) HEN.out ho4 hg4 (by rw [hzW]; exact hat4)
        clear ho4 hg4 hat4 hl4 hW1
        rw [hN] at HAC4
        go_roundw
        case rel => exact ⟨k + 1, by go_num, by omega, HBw.out, FX4.out, HAC4.out⟩
        case measure => simp [intOf]; omega
      have q2' : A.sc = false := by simpa using q2
      rw [q2'] at e5
      by_cases q3 : 0 < A.es.length
      · have b3 : 0 < len := by rw [hlen']; exact q3
        have HYES : Hid (askL kind B (B.ss.take (k + 1)) = askL kind B (B.ss.take k) ++ [A]) := by unfold Hid; rw [HNX.out, show asksB A = true from by unfold asksB; simp [List.length_pos_iff.1 q3]]; rfl
        clear q1 q2 q2' q3 hlen'
        obtain ⟨xs, hown, hsnoc⟩ := HAC.out.own
        have HSN := hide hsnoc
        have hlen : (askL kind B (B.ss.take k)).length ≤ 8 := by
          have h1 := askL_len kind B (B.ss.take k)
          have h2 : B.ss.length ≤ 8 := valid_ss8 HV.out
          simp at h1
          omega
        obtain ⟨N, hN⟩ : ∃ N, N = (askL kind B (B.ss.take k)).length := ⟨_, rfl⟩
        rw [← hN] at hown hlen
        have HOW : Hid (∀ o, (wc.alloc o).ownsRow (w.heap.size + 1) 47 8 u5 N xs) := fun o => ownsB_on hown (bt HBc.out (one_al _ _))
        obtain ⟨it, hi, hz0, hz1, hz2'⟩ := info_parts Tryz.infoAct
        have hzr : w.heap.size + 1 ≤ wr.heap.size := FX.out.lt
        have hzc := HBc.out.size
        clear hown hsnoc
        go_wp2_with (first
          | (refine wpList_load_mid rfl 47 (.tmp 7) rfl β 0 rfl [.string A.sv, .int .i64 A.sn, .int .i64 A.cr, .int .i64 A.wa, .int .i64 A.cl, .bool A.sc, .slice ea len ek, .bool A.dp] _ HRA.out Tryz.underlying47 rfl Tryz.sizeAct ?_)
          | (at_builtin; refine wpList_append_lies _ rfl (.tmp 45) (.tmp 47) 28 rfl (w.heap.size + 1) 47 it _ 8 88 Tryz.underlying28 hi hz0 hz1 hz2' rfl (by decide) _ N xs rfl (HOW.out _) ⟨wc.heap.size, 0, none⟩ 1 1 [.string A.sv, .int .i64 A.sn, .int .i64 A.cr, .int .i64 A.wa, .int .i64 A.cl, .bool A.sc, .slice ea len ek, .bool A.dp] rfl rfl (one_news _ _ _) (eight_any A ea len ek) (by omega) (by unfold maxLen; omega) (by omega) (by simp; omega) (wc.heap.size + 1) (by simp) ?_; intro g cap w4 ho4 hg4 hat4 hl4))
        clear e2 e5 e6 e7
        generalize hW1 : wc.alloc _ = W1 at hg4
        have HW1 : Hid (Below wr.heap.size wr W1) := by unfold Hid; rw [← hW1]; exact bt HBc.out (one_al _ _)
        have HR1 : Hid (ERow W1 wr.heap.size (.slice ea A.es.length ek) A.es) := by unfold Hid; rw [← hW1]; exact HER.out.below (one_al _ _)
        have hzW : W1.heap.size = wc.heap.size + 1 := by rw [← hW1]; simp
        have HOW1 : Hid (W1.ownsRow (w.heap.size + 1) 47 8 u5 N xs) := by unfold Hid; rw [← hW1]; exact HOW.out _
        have HEN := hide (HR1.out.own HR1.out.max)
        have HBw : Hid (Below w.heap.size w w4) := (bt HB.out HW1.out).trans ((ownsB_grown HOW1.out hg4 (by omega)).mono (by omega))
        have FX4 : Hid (Box w4 w.heap.size #[.int .i64 B.now, .slice (some ⟨b, off, none⟩) B.ss.length k0, .slice a1 B.cs.length k1, .slice a2 B.bs.length k2]) := (FX.out.on HW1.out).row HOW1.out hg4 (by omega)
        have HAC4 : Hid (AcG (w.heap.size + 1) w4 (.slice (some ⟨g, 0, none⟩) (N + 1) cap) (askL kind B (B.ss.take (k + 1)))) := by
          unfold Hid
          rw [HYES.out]
          rw [HLN.out] at ho4
          subst hN
          exact HSN.out wr.heap.size W1.heap.size g cap W1 w4 A ea ek HW1.out HSA.out (Nat.le_refl _) (Nat.le_refl _) (by omega) (by omega) HEN.out ho4 hg4 (by rw [hzW]; exact hat4)
        clear ho4 hg4 hat4 hl4 hW1
        rw [hN] at HAC4
        go_roundw
        case rel => exact ⟨k + 1, by go_num, by omega, HBw.out, FX4.out, HAC4.out⟩
        case measure => simp [intOf]; omega
      have b3 : ¬ 0 < len := by rw [hlen']; exact q3
      have q3' : A.es = [] := List.eq_nil_of_length_eq_zero (by omega)
      by_cases q4 : A.dp = true
      · rw [q4] at e7
        have HYES : Hid (askL kind B (B.ss.take (k + 1)) = askL kind B (B.ss.take k) ++ [A]) := by unfold Hid; rw [HNX.out, show asksB A = true from by unfold asksB; simp [q4]]; rfl
        clear q1 q2 q2' q3 q3' q4 hlen'
        obtain ⟨xs, hown, hsnoc⟩ := HAC.out.own
        have HSN := hide hsnoc
        have hlen : (askL kind B (B.ss.take k)).length ≤ 8 := by
          have h1 := askL_len kind B (B.ss.take k)
          have h2 : B.ss.length ≤ 8 := valid_ss8 HV.out
          simp at h1
          omega
        obtain ⟨N, hN⟩ : ∃ N, N = (askL kind B (B.ss.take k)).length := ⟨_, rfl⟩
        rw [← hN] at hown hlen
        have HOW : Hid (∀ o, (wc.alloc o).ownsRow (w.heap.size + 1) 47 8 u5 N xs) := fun o => ownsB_on hown (bt HBc.out (one_al _ _))
        obtain ⟨it, hi, hz0, hz1, hz2'⟩ := info_parts Tryz.infoAct
        have hzr : w.heap.size + 1 ≤ wr.heap.size := FX.out.lt
        have hzc := HBc.out.size
        clear hown hsnoc
        go_wp2_with (first
          | (refine wpList_load_mid rfl 47 (.tmp 7) rfl β 0 rfl [.string A.sv, .int .i64 A.sn, .int .i64 A.cr, .int .i64 A.wa, .int .i64 A.cl, .bool A.sc, .slice ea len ek, .bool A.dp] _ HRA.out Tryz.underlying47 rfl Tryz.sizeAct ?_)
          | (at_builtin; refine wpList_append_lies _ rfl (.tmp 45) (.tmp 47) 28 rfl (w.heap.size + 1) 47 it _ 8 88 Tryz.underlying28 hi hz0 hz1 hz2' rfl (by decide) _ N xs rfl (HOW.out _) ⟨wc.heap.size, 0, none⟩ 1 1 [.string A.sv, .int .i64 A.sn, .int .i64 A.cr, .int .i64 A.wa, .int .i64 A.cl, .bool A.sc, .slice ea len ek, .bool A.dp] rfl rfl (one_news _ _ _) (eight_any A ea len ek) (by omega) (by unfold maxLen; omega) (by omega) (by simp; omega) (wc.heap.size + 1) (by simp) ?_; intro g cap w4 ho4 hg4 hat4 hl4))
        clear e2 e5 e6 e7
        generalize hW1 : wc.alloc _ = W1 at hg4
        have HW1 : Hid (Below wr.heap.size wr W1) := by unfold Hid; rw [← hW1]; exact bt HBc.out (one_al _ _)
        have HR1 : Hid (ERow W1 wr.heap.size (.slice ea A.es.length ek) A.es) := by unfold Hid; rw [← hW1]; exact HER.out.below (one_al _ _)
        have hzW : W1.heap.size = wc.heap.size + 1 := by rw [← hW1]; simp
        have HOW1 : Hid (W1.ownsRow (w.heap.size + 1) 47 8 u5 N xs) := by unfold Hid; rw [← hW1]; exact HOW.out _
        have HEN := hide (HR1.out.own HR1.out.max)
        have HBw : Hid (Below w.heap.size w w4) := (bt HB.out HW1.out).trans ((ownsB_grown HOW1.out hg4 (by omega)).mono (by omega))
        have FX4 : Hid (Box w4 w.heap.size #[.int .i64 B.now, .slice (some ⟨b, off, none⟩) B.ss.length k0, .slice a1 B.cs.length k1, .slice a2 B.bs.length k2]) := (FX.out.on HW1.out).row HOW1.out hg4 (by omega)
        have HAC4 : Hid (AcG (w.heap.size + 1) w4 (.slice (some ⟨g, 0, none⟩) (N + 1) cap) (askL kind B (B.ss.take (k + 1)))) := by
          unfold Hid
          rw [HYES.out]
          rw [HLN.out] at ho4
          subst hN
          exact HSN.out wr.heap.size W1.heap.size g cap W1 w4 A ea ek HW1.out HSA.out (Nat.le_refl _) (Nat.le_refl _) (by omega) (by omega) HEN.out ho4 hg4 (by rw [hzW]; exact hat4)
        clear ho4 hg4 hat4 hl4 hW1
        rw [hN] at HAC4
        go_roundw
        case rel => exact ⟨k + 1, by go_num, by omega, HBw.out, FX4.out, HAC4.out⟩
        case measure => simp [intOf]; omega
      have q4' : A.dp = false := by simpa using q4
      rw [q4'] at e7
      have HNO : Hid (askL kind B (B.ss.take (k + 1)) = askL kind B (B.ss.take k)) := by unfold Hid; rw [HNX.out, show asksB A = false from by unfold asksB; simp [q1, q2', q3', q4']]; simp
      clear q1 q2 q3 q4 q2' q3' q4' hlen'
      go_wp2
      go_roundw
      case rel => exact ⟨k + 1, by go_num, by omega, bt HB.out HBc.out, FX.out.on HBc.out, by rw [HNO.out]; exact HAC.out.below HBc.out⟩
      case measure => simp [intOf]; omega
    · have e : k = B.ss.length := by omega
      subst e
      rw [List.take_length] at HAC
      go_wp2
      go_ret
      exact ⟨_, rfl, HB.out, by rw [HE.out]; exact HAC.out.owns.wide (by omega) (Nat.le_refl _)⟩
end
end Go.Proofs.YtpdlcccnlciecaaGreat
namespace Go.Proofs.YtpdlcccnlciecaaGreat
open Go.RowKit Go.Deep

/-- two boxes, above a world -/
abbrev Held2 (W0 : World) (b1 : Nat) (cs1 : Array Value) (b2 : Nat) (cs2 : Array Value) (W : World) : Prop :=
  (∀ i, W.cell? ⟨b1, i, none⟩ = cs1[i]?) ∧ (∀ i, W.cell? ⟨b2, i, none⟩ = cs2[i]?) ∧ Hid (Below W0.heap.size W0 W ∧ b1 < W0.heap.size ∧ b2 < W0.heap.size)
theorem Held2.drew {W0 : World} {b1 b2 : Nat} {cs1 cs2 : Array Value} (h1 : Box W0 b1 cs1) (h2 : Box W0 b2 cs2) : Held2 W0 b1 cs1 b2 cs2 W0.drew := ⟨h1.cell, h2.cell, (Below.refl _ _).drew, h1.lt, h2.lt⟩
theorem Held2.on {W0 W W' : World} {b1 b2 : Nat} {cs1 cs2 : Array Value} (h : Held2 W0 b1 cs1 b2 cs2 W) (hb : Below W.heap.size W W') : Held2 W0 b1 cs1 b2 cs2 W' := by
  obtain ⟨h1, h2, h4⟩ := h
  have hz := h4.out.1.size
  have q1 := h4.out.2.1
  have q2 := h4.out.2.2
  exact ⟨fun i => (hb.cell (p := ⟨b1, i, none⟩) (show b1 < W.heap.size by omega)).trans (h1 i), fun i => (hb.cell (p := ⟨b2, i, none⟩) (show b2 < W.heap.size by omega)).trans (h2 i), h4.out.1.trans (hb.mono hz), q1, q2⟩
theorem endSb_bd {k : Int} {B : Sb} (hn : SbSmall B) (h : 0 ≤ k) : 0 ≤ endSb k B ∧ endSb k B ≤ k + 12000000000000 := by
  obtain ⟨z0, z1, z2⟩ := posSb_le hn
  unfold endSb
  omega
theorem cnt_es (B : Sb) (x : Sv) : (cntF B x).es.length ≤ B.cs.length + 1 := by
  unfold cntF
  dsimp only
  split
  · simp [ac0]
  · split
    · cases fstC B x.im (liveL B x.nm) with
      | none => simp [ac0]
      | some c =>
        dsimp only
        split <;> simp [ac0]
    · simp [ac0]
theorem rep_es (B : Sb) (x : Sv) (L : List Cp) : (repF B x L).es.length ≤ B.cs.length + 1 := by
  unfold repF
  dsimp only
  split
  · simp [ac0]
  · split
    · simp [ac0]
    · unfold fstE
      cases fstC B x.im (mayL B L) with
      | none => simp
      | some c => simp
theorem scl_es (x : Sv) : (sclF x).es.length = 0 := by
  unfold sclF
  split
  · rfl
  split
  · rfl
  split
  · rfl
  split
  · rfl
  split
  · rfl
  split <;> rfl
theorem liveL_le (B : Sb) (s : ByteArray) : (liveL B s).length ≤ B.cs.length := List.length_filter_le _ _
theorem askS_es (kind : Int) (B : Sb) (x : Sv) : (askS kind B x).es.length ≤ B.cs.length + 1 := by
  have h1 := liveL_le B x.nm
  have h2 : (failL B x).length ≤ (liveL B x.nm).length := List.length_filter_le _ _
  unfold askS
  split
  · simp; omega
  split
  · split
    · simp; omega
    · simp [ac0]
  split
  · exact cnt_es B x
  split
  · exact rep_es B x _
  split
  · split
    · exact rep_es B x _
    · simp [ac0]
  split
  · split
    · have := scl_es x
      omega
    · simp [ac0]
  · simp [ac0]
theorem askF_small (kind : Int) (B : Sb) : AcsSmall (askF kind B) := by
  unfold askF
  cases hv : validB B with
  | false => exact ⟨by simp, fun i h => by simp at h⟩
  | true =>
    rw [if_pos rfl]
    have h8 := valid_ss8 hv
    have h200 := (valid_cps hv).1
    refine ⟨Nat.le_trans (List.length_filter_le _ _) (by simp; omega), fun i hi => ?_⟩
    obtain ⟨x, -, hx⟩ := List.mem_map.1 (List.mem_filter.1 (List.getElem_mem hi)).1
    refine ⟨?_, fun _ _ => rfl⟩
    rw [← hx]
    have := askS_es kind B x
    omega

set_option maxRecDepth 20000 in
set_option maxHeartbeats 16000000 in
theorem law_ask (kind : Int) (sv cv bv : Value) (B : Sb) (w : World) (h0 : SbAt 0 w sv cv bv B) :
    Calls Tryz.prog 3 #[.int .i64 kind, .agg #[.int .i64 B.now, sv, cv, bv]] w fun e w' => e = .returned (.bool true) ∧ Below w.heap.size w w' := by
  have H0 := hide h0
  obtain ⟨oa, oac, rfl⟩ := h0.svs.form
  obtain ⟨ob, obc, rfl⟩ := h0.cps.form
  obtain ⟨oc, occ, rfl⟩ := h0.bes.form
  clear h0
  go_enter Tryz.func3, Tryz.ntmps3
  go_wp2_with fail
  generalize hWa : w.alloc _ = Wa
  have HB : Hid (Below w.heap.size w Wa) := by rw [← hWa]; exact (one_al w _)
  have F0 : Hid (Box Wa w.heap.size #[.int .i64 B.now, .slice oa B.ss.length oac, .slice ob B.cs.length obc, .slice oc B.bs.length occ]) := by rw [← hWa]; exact (Box.new _ _ _ _ rfl)
  clear hWa
  refine (szSb_any 0 _ _ _ B _ _ (by omega) (by omega) (H0.out.below HB.out)).mono ?_
  rintro e w1 ⟨q0, rfl, hb, r0a, r0b, r0c⟩
  replace HB : Hid (Below w.heap.size w w1) := bt HB.out hb
  replace F0 := hide (F0.out.on hb)
  have HQ := hide r0c
  clear hb r0c
  by_cases hneg0 : q0 < 0
  · go_wp2
    go_ret
    exact ⟨rfl, HB.out⟩
  have M0 : Hid (SbSmall B) := HQ.out (by omega)
  clear HQ r0a r0b
  have g0 := F0.out.cell
  have gl := F0.out.lt
  go_wp2_with fail
  clear g0 gl hneg0
  refine (toSb_any 0 _ _ _ B _ (H0.out.below HB.out) M0.out).mono ?_
  rintro e v0 ⟨xa, xac, xb, xbc, xc, xcc, rfl, hb0, hs0⟩
  have hz0 := hb0.size
  replace HB := hide (bt HB.out hb0)
  replace F0 := hide (F0.out.on hb0)
  have S0 := hide (hs0.mono (Nat.zero_le _))
  have HWV : Hid (w.heap.size < v0.heap.size) := F0.out.lt
  clear hs0 hb0
  go_wp2_with fail
  refine (specAsk_any 0 _ _ _ B kind _ S0.out).mono ?_
  rintro e vz ⟨sp, rfl, hb, hso⟩
  have hzs := hb.size
  replace HB := hide (bt HB.out hb)
  replace F0 := hide (F0.out.on hb)
  have SO := hide hso
  clear hb hso S0
  have g0 := F0.out.cell
  have gl := F0.out.lt
  go_wp2_with fail
  clear g0 gl
  refine (toSbO_any 0 _ _ _ B _ (H0.out.below HB.out) M0.out).mono ?_
  rintro e u0 ⟨ya, yac, yb, ybc, yc, ycc, rfl, hb, hs⟩
  have hzu := hb.size
  replace HB := hide (bt HB.out hb)
  replace F0 := hide (F0.out.on hb)
  replace SO := hide (SO.out.below hb)
  have OX := hide hs
  clear hb hs
  go_wp2_with fail
  generalize hWx : u0.alloc _ = W0
  have hbx : Below u0.heap.size u0 W0 := by rw [← hWx]; exact one_al _ _
  have FX : Hid (Box W0 u0.heap.size #[.int .i64 B.now, .slice ya B.ss.length yac, .slice yb B.cs.length ybc, .slice yc B.bs.length ycc]) := by rw [← hWx]; exact Box.new _ _ _ _ rfl
  have hzw : W0.heap.size = u0.heap.size + 1 := by rw [← hWx]; simp
  replace HB := hide (bt HB.out hbx)
  replace F0 := hide (F0.out.on hbx)
  replace SO := hide (SO.out.below hbx)
  replace OX := hide (OX.out.below hbx)
  have HZW := hide hzw
  clear hWx hbx hzw
  generalize hbeta : u0.heap.size = β0 at *
  have HZ1 : Hid (v0.heap.size ≤ vz.heap.size ∧ vz.heap.size ≤ β0 ∧ W0.heap.size = β0 + 1 ∧ w.heap.size < v0.heap.size) := ⟨hzs, hzu, HZW.out, HWV.out⟩
  have HSM := hide (askF_small kind B)
  obtain ⟨R, hR⟩ : ∃ R, R = askF kind B := ⟨_, rfl⟩
  have HIM : Hid (∀ W sv cv bv, SbAt 0 W sv cv bv B → Calls Tryz.prog 7 #[.int .i64 kind, .agg #[.int .i64 B.now, sv, cv, bv]] W fun e w' => ∃ v, e = .returned v ∧ Below W.heap.size W w' ∧ AcsOwn W.heap.size w'.heap.size w' v R) := fun W sv cv bv h => by rw [hR]; exact implAsk_any 0 sv cv bv B kind W h
  rw [← hR] at SO HSM
  clear hR hz0 hzs hzu HZW HWV hbeta
  refine (HIM.out _ _ _ _ (OX.out.at.mono (Nat.zero_le _))).mono ?_
  rintro e wz ⟨gv, rfl, hb, hgo⟩
  replace HB := hide (bt HB.out hb)
  replace F0 := hide (F0.out.on hb)
  replace SO := hide (SO.out.below hb)
  replace OX := hide (OX.out.below hb)
  replace FX := hide (FX.out.on hb)
  have GO := hide hgo
  have HZ2 : Hid (W0.heap.size ≤ wz.heap.size) := hb.size
  clear hb hgo
  go_wp2_with fail
  refine (eqAcs_same _ _ _ _ R _ GO.out.at SO.out.at).mono ?_
  rintro e wa ⟨rfl, hb⟩
  replace HB := hide (bt HB.out hb)
  replace F0 := hide (F0.out.on hb)
  replace SO := hide (SO.out.below hb)
  replace OX := hide (OX.out.below hb)
  replace FX := hide (FX.out.on hb)
  replace GO := hide (GO.out.below hb)
  replace HZ2 : Hid (W0.heap.size ≤ wz.heap.size ∧ wz.heap.size ≤ wa.heap.size) := ⟨HZ2.out, hb.size⟩
  clear hb
  have K := hide (H0.out.below HB.out)
  go_wp2
  go_region_held3 (Held2 wa β0 #[.int .i64 B.now, .slice ya B.ss.length yac, .slice yb B.cs.length ybc, .slice yc B.bs.length ycc] w.heap.size #[.int .i64 B.now, .slice oa B.ss.length oac, .slice ob B.cs.length obc, .slice oc B.bs.length occ])
    (first
      | (with_reducible exact Held2.drew FX.out F0.out)
      | (with_reducible exact Held2.on (by assumption) (by assumption)))
    (first
      | (go_at_call 6
         refine (toSb_any 0 _ _ _ B _ (K.out.below ((Below.refl _ _).drew)) M0.out).mono ?_
         rintro e ve0 ⟨z0a, z0ac, z0b, z0bc, z0c, z0cc, rfl, hbe, hse⟩
         have CE : Hid (Below wa.heap.size wa ve0) := bt ((Below.refl _ _).drew) hbe
         have SE := hide hse
         clear hse)
      | (go_at_call 9
         refine (eqSb_same _ _ _ _ B _ _ _ _ _ (OX.out.below CE.out).at SE.out).mono ?_
         rintro e wb ⟨rfl, hbf⟩
         have CF : Hid (Below wa.heap.size wa wb) := bt CE.out hbf))
  replace HB := hide (bt HB.out CF.out)
  replace F0 := hide (F0.out.on CF.out)
  replace SO := hide (SO.out.below CF.out)
  replace OX := hide (OX.out.below CF.out)
  replace FX := hide (FX.out.on CF.out)
  replace GO := hide (GO.out.below CF.out)
  have HZ3 : Hid (wz.heap.size ≤ wb.heap.size) := Nat.le_trans HZ2.out.2 CF.out.size
  clear CE CF SE K
  have g0 := FX.out.cell
  go_wp2_with fail
  clear g0
  have hq1 := HZ1.out
  have hq2 := HZ2.out
  have hq3 := HZ3.out
  refine (markSb_any _ _ _ _ _ B _ 1 OX.out M0.out (by omega) (by omega) (by omega)).mono ?_
  rintro e wm ⟨rfl, ht, -⟩
  have hzt := ht.size
  replace HB : Hid (Below w.heap.size w wm) := HB.out.trans ((ht.under (by omega)).mono (by omega))
  replace F0 := hide (F0.out.touch ht (by omega))
  replace SO := hide (SO.out.touch ht (Or.inl (Nat.le_refl _)))
  replace GO := hide (GO.out.touch ht (Or.inr (by omega)))
  have hke := endSb_bd (k := 1) M0.out (by omega)
  generalize endSb 1 B = K1 at hke ⊢
  have d1 : decide (K1 < 0) = false := by simp; omega
  have HZ4 : Hid (wz.heap.size ≤ wm.heap.size) := by unfold Hid; omega
  clear ht hzt hke hq1 hq2 hq3 OX FX
  go_wp2_with fail
  refine (eqAcs_same _ _ _ _ R _ GO.out.at SO.out.at).mono ?_
  rintro e wc ⟨rfl, hb⟩
  replace HB := hide (bt HB.out hb)
  replace F0 := hide (F0.out.on hb)
  replace SO := hide (SO.out.below hb)
  replace GO := hide (GO.out.below hb)
  have HZ5 : Hid (wz.heap.size ≤ wc.heap.size) := Nat.le_trans HZ4.out hb.size
  clear hb d1
  go_wp2_with fail
  refine (markAcs_any _ _ _ R 1 _ GO.out HSM.out (by omega) (by omega)).mono ?_
  rintro e wd ⟨rfl, ht, hm⟩
  have hzt := ht.size
  have hq1 := HZ1.out
  have hq2 := HZ2.out
  have hq5 := HZ5.out
  replace HB : Hid (Below w.heap.size w wd) := HB.out.trans ((ht.under (by omega)).mono (by omega))
  replace F0 := hide (F0.out.touch ht (by omega))
  replace SO := hide (SO.out.touch ht (by omega))
  replace GO := hide hm
  clear ht hm hzt hq1 hq2 hq5
  generalize hK2 : (1 : Int) + (posAc R R.length : Int) = K2
  have d2 : decide (K2 < 0) = false := by rw [← hK2]; simp; omega
  have HK2 := hide hK2
  clear hK2
  go_wp2_with fail
  refine (heldAcs_any _ _ _ R 1 _ GO.out HSM.out (by omega) (by omega)).mono ?_
  rintro e we ⟨rfl, hb⟩
  rw [HK2.out]
  replace HB := hide (bt HB.out hb)
  replace F0 := hide (F0.out.on hb)
  replace SO := hide (SO.out.below hb)
  replace GO := hide (GO.out.below hb)
  clear hb
  have g0 := F0.out.cell
  have gl := F0.out.lt
  go_wp2_with fail
  clear g0 gl
  refine (toSb_any 0 _ _ _ B _ (H0.out.below HB.out) M0.out).mono ?_
  rintro e wf ⟨ta, tac, tb, tbc, tc, tcc, rfl, hb, hs⟩
  replace HB := hide (bt HB.out hb)
  replace SO := hide (SO.out.below hb)
  replace GO := hide (GO.out.below hb)
  have S1 := hide (hs.mono (Nat.zero_le _))
  clear hb hs F0
  go_wp2_with fail
  refine (HIM.out _ _ _ _ S1.out).mono ?_
  rintro e wg ⟨hv, rfl, hb, hho⟩
  replace HB := hide (bt HB.out hb)
  replace SO := hide (SO.out.below hb)
  replace GO := hide (GO.out.below hb)
  have HO := hide hho
  clear hb hho S1
  go_wp2_with fail
  refine (eqAcs_same _ _ _ _ R _ HO.out.at SO.out.at).mono ?_
  rintro e wh ⟨rfl, hb⟩
  replace HB := hide (bt HB.out hb)
  replace GO := hide (GO.out.below hb)
  clear hb HO SO
  go_wp2_with fail
  refine (heldAcs_any _ _ _ R 1 _ GO.out HSM.out (by omega) (by omega)).mono ?_
  rintro e wi ⟨rfl, hb⟩
  rw [HK2.out]
  replace HB := hide (bt HB.out hb)
  clear hb
  go_wp2
  go_ret
  exact ⟨rfl, HB.out⟩
end Go.Proofs.YtpdlcccnlciecaaGreat
