import Derived.Test.YtpdlcccnlciecaaGreatV29
import Derived.Test.YtpdlcccnlciecaaGreatV42
namespace Go.Proofs.YtpdlcccnlciecaaGreat
open Go.RowKit Go.Deep

/-! what a care answers -/
def zA : Ac := ⟨⟨#[]⟩, 0, 0, 0, 0, false, [], false⟩
def CareIs (w : World) (r : Option Ac) (e : Ending) (w' : World) : Prop :=
  ∃ A a k, A = r.getD zA ∧ e = .returned (.tuple #[.agg (acL A (.slice a A.es.length k)).toArray, .bool r.isSome]) ∧ ERow w' w.heap.size (.slice a A.es.length k) A.es ∧ Below w.heap.size w w'
theorem res_care {P : Program} {fn : Func} {p q : Tmp} {ty : TypeId} (h : fn.results = #[.cell p ty, .tmp q]) (tmps : Array Value) (w : World) (b : Nat) (cs : List Value) (r : Bool) (d : TypeDesc)
    (hp : tmps.getD p undef = .pointer (some ⟨b, 0, none⟩)) (hq : tmps.getD q undef = .bool r) (hc : w.rangeAt b 0 cs) (hu : P.underlying ty = some d) (hd : d.isRow = true) (hi : (P.info? ty).map (·.size) = some cs.length) :
    (results fn tmps).run P w = .ok (.tuple #[.agg cs.toArray, .bool r]) w := by
  rw [res_cell_tmp h tmps w b 0 cs d hp hc hu hd hi, hq]
theorem erow_nil (w : World) (base : Nat) : ERow w base (.slice none 0 0) [] := ⟨rfl, Or.inl ⟨rfl, rfl⟩⟩
theorem erow_sets {W : World} {base base' β o : Nat} {ev : Value} {L : List En} {vs : List Value} (h : ERow W base ev L) (hβ : β < base) (hb : base' ≤ base) : ERow (W.setCells β o vs) base' ev L := by
  refine ERow.low (base := base) ?_ hb
  obtain ⟨h1, h2 | ⟨g, cap, cur, h3, h4, h5, h6⟩⟩ := h
  · exact ⟨h1, Or.inl h2⟩
  · refine ⟨h1, Or.inr ⟨g, cap, cur, h3, h4, ?_, h6⟩⟩
    rw [World.heap_setCells_other _ _ _ _ (Array.getElem?_eq_some_iff.1 h5).1 (by omega)]
    exact h5
theorem rest_c (w : World) : Calls Tryz.prog 99 #[] w fun e w' => CareIs w none e w' :=
  (rest_any w).mono fun _ _ ⟨h1, o, h2⟩ => ⟨zA, none, 0, rfl, h1, erow_nil _ _, by rw [h2]; exact one_al w o⟩
theorem al5 (w : World) (o0 o1 o2 o3 o4 : Obj) : Below w.heap.size w (((((w.alloc o0).alloc o1).alloc o2).alloc o3).alloc o4) :=
  ((((one_al w _).alloc (by simp) _).alloc (by simp; omega) _).alloc (by simp; omega) _).alloc (by simp; omega) _
section
variable (lo m : Nat) (sv cv bv : Value) (B : Sb) (x : Sv) (n : Ct) (d : Int) (lk : List Value) (w : World)
theorem create_c (k : Int) (hlk : LkIs lk m sv cv bv B x n d) : Calls Tryz.prog 100 #[.agg lk.toArray, .int .i64 k] w fun e w' => CareIs w (some (createA x k)) e w' :=
  (lookCreate_any m sv cv bv B x n d lk w k hlk).mono fun _ _ ⟨h1, _, _, _, _, _, h2⟩ => ⟨createA x k, none, 0, rfl, h1, erow_nil _ _, by rw [h2]; exact al5 w _ _ _ _ _⟩
theorem scale_c (a b : Int) (hlk : LkIs lk m sv cv bv B x n d) : Calls Tryz.prog 111 #[.agg lk.toArray, .int .i64 a, .int .i64 b] w fun e w' => CareIs w (some (scaleA x a b)) e w' :=
  (lookScale_any m sv cv bv B x n d lk w a b hlk).mono fun _ _ ⟨h1, _, _, _, _, _, h2⟩ => ⟨scaleA x a b, none, 0, rfl, h1, erow_nil _ _, by rw [h2]; exact al5 w _ _ _ _ _⟩
theorem drop_c (hlk : LkIs lk m sv cv bv B x n d) : Calls Tryz.prog 113 #[.agg lk.toArray] w fun e w' => CareIs w (some { ac0 x with dp := true }) e w' :=
  (lookDrop_any m sv cv bv B x n d lk w hlk).mono fun _ _ ⟨h1, _, _, _, _, _, h2⟩ => ⟨{ ac0 x with dp := true }, none, 0, rfl, h1, erow_nil _ _, by rw [h2]; exact al5 w _ _ _ _ _⟩

/-- copies side by side in a block -/
def CpBl (w : World) (g : Nat) (L : List Cp) : Prop := g < w.heap.size ∧ ∀ i (h : i < L.length), w.rangeAt g (i * 7) (cpL L[i])
theorem CpBl.below {w w' : World} {g : Nat} {L : List Cp} (h : CpBl w g L) (hb : Below w.heap.size w w') : CpBl w' g L :=
  ⟨Nat.lt_of_lt_of_le h.1 hb.size, fun i hi => rng_below (h.2 i hi) hb h.1⟩

theorem CpBl.below0 {w w' : World} {g : Nat} {L : List Cp} (h : CpBl w g L) (hb : Below w.heap.size w w') : CpBl w' g L := h.below hb
theorem two_news (X : World) (o : Obj) (a b : Value) (t : TypeId) : ∀ (j : Nat) (u : Value), [a, b][j]? = some u → ((X.alloc o).alloc (.cells #[a, b] t)).cell? ((⟨X.heap.size + 1, 0, none⟩ : Addr).add j) = some u := fun j u hu => by
  rw [Go.WideShapes.add_plain, Nat.zero_add, (Box.new (X.alloc o) #[a, b] t (X.heap.size + 1) (by simp)).cell j]
  simpa using hu
theorem two_one (y : En) : ∀ u ∈ enL y, u.oneCell' = true := fun u hu => by
  simp [enL] at hu
  rcases hu with rfl | rfl <;> rfl
theorem owns_form {base : Nat} {e : TypeId} {sz n : Nat} {W : World} {v : Value} {cs : List Value} (h : W.ownsRow base e sz v n cs) : ∃ a cap, v = .slice a n cap := by
  rcases h.2 with ⟨hv, hn⟩ | ⟨g, cap, cur, hv, _⟩
  · rw [hn]; exact ⟨_, _, hv⟩
  · exact ⟨_, _, hv⟩
theorem erow_set {W : World} {base β : Nat} {p : Addr} {ev u : Value} {L : List En} (h : ERow W base ev L) (hp : p.block = β) (hβ : β < base) : ERow (W.setCell p u) base ev L := by
  obtain ⟨h1, h2 | ⟨g, cap, cur, h3, h4, h5, h6⟩⟩ := h
  · exact ⟨h1, Or.inl h2⟩
  · exact ⟨h1, Or.inr ⟨g, cap, cur, h3, h4, by rw [Below.heap_setCell _ _ _ _ (by omega)]; exact h5, h6⟩⟩
/-- the world while ends are gathered -/
structure EndW (w : World) (x : Sv) (L : List Cp) (ev : Value) (X : World) : Prop where
  below : Below w.heap.size w X
  res : Box X (w.heap.size + 1) zAct.toArray
  act : Box X (w.heap.size + 1 + 1 + 1 + 1) (acL (endA x L) ev).toArray
  row : ERow X (w.heap.size + 5) ev (L.map enOf)
  big : w.heap.size + 5 ≤ X.heap.size
set_option maxRecDepth 100000 in
set_option maxHeartbeats 8000000 in
theorem end_c (g cap : Nat) (L : List Cp) (hlk : LkIs lk m sv cv bv B x n d) (hL : CpBl w g L) (h200 : L.length ≤ 200) :
    Calls Tryz.prog 105 #[.agg lk.toArray, .slice (some ⟨g, 0, none⟩) L.length cap] w fun e w' => CareIs w (some (endA x L)) e w' := by
  have FX : Hid (Box ((w.alloc (.cells lk.toArray 105)).alloc (.cells zAct.toArray 47)) w.heap.size lk.toArray) := (Box.new _ _ _ _ rfl).on (one_al _ _)
  have HLK := hide hlk
  have HL := hide hL
  clear hlk hL
  go_enter Tryz.func105, Tryz.ntmps105
  go_wp2_with (first
    | (refine wpList_load_mid rfl 105 (.tmp 2) rfl w.heap.size 0 rfl lk _ FX.out.rng Tryz.underlying105 rfl HLK.out.size ?_)
    | (go_at_call 129; refine (lookAct_any m sv cv bv B x n d lk _ HLK.out).mono ?_; rintro e w1 ⟨rfl, o, o', rfl⟩))
  generalize hWa : World.alloc (World.alloc (World.alloc (World.alloc (w.alloc _) _) _) _) _ = Wa
  have hZ : Wa.heap.size = w.heap.size + 5 := by rw [← hWa]; simp
  have HE0 : Hid (EndW w x [] (.slice none 0 0) Wa) := by
    unfold Hid
    rw [← hWa]
    exact ⟨al5 w _ _ _ _ _, (((Box.new _ _ _ _ (by simp)).on (one_al _ _)).on (one_al _ _)).on (one_al _ _), Box.new _ _ _ _ (by simp), erow_nil _ _, by simp⟩
  clear hWa FX
  go_loopw [13] (fun i wr => ∃ (k : Nat) (ev : Value), i = .int .i64 k ∧ k ≤ L.length ∧ EndW w x (L.take k) ev wr) (fun i _ => L.length - (intOf i).toNat)
  case atStart => exact ⟨0, _, rfl, by omega, HE0.out⟩
  case round =>
    obtain ⟨k, ev, rfl, hk, he⟩ := hrel
    have HE := hide he
    clear he HE0
    by_cases hlt : k < L.length
    · obtain ⟨c, hc⟩ : ∃ c, c = L[k] := ⟨_, rfl⟩
      have hcr := (HL.out.below0 HE.out.below).2 k hlt
      rw [← hc] at hcr
      have HR : Hid (wr.rangeAt g (0 + k * 7) [.string c.se, .int .i64 c.nu, .int .i64 c.ve, .int .i64 c.im, .int .i64 c.st, .bool c.en, .string c.be]) := by unfold Hid; rw [Nat.zero_add]; exact hcr
      have HT : Hid (L.take (k + 1) = L.take k ++ [c]) := by unfold Hid; rw [hc]; exact List.take_succ_eq_append_getElem hlt
      have hln : ((L.take k).map enOf).length = k := by simp; omega
      obtain ⟨ea, ek, hev⟩ := HE.out.row.form
      rw [hln] at hev
      subst hev
      have i0 : (0 : Int) ≤ (k : Int) := by omega
      have i1 : (k : Int) < (L.length : Int) := by omega
      clear hcr hc
      obtain ⟨ie, hi, hz0, hz1, hz2⟩ := info_parts Tryz.infoE
      have a6 : ∀ o o', ((wr.alloc o).alloc o').cell? ⟨w.heap.size + 1 + 1 + 1 + 1, 6, none⟩ = some (.slice ea k ek) := fun o o' => by rw [((HE.out.act.on (one_al _ _)).on (one_al _ _)).cell 6]; rfl
      have a6a : ∀ o, (wr.alloc o).cell? ⟨w.heap.size + 1 + 1 + 1 + 1, 6, none⟩ = some (.slice ea k ek) := fun o => by rw [(HE.out.act.on (one_al _ _)).cell 6]; rfl
      have HOW : Hid (∀ o o', ((wr.alloc o).alloc o').ownsRow (w.heap.size + 5) 113 2 (.slice ea k ek) k (flatV enL ((L.take k).map enOf))) := fun o o' => by
        have := (HE.out.row.below (one_al wr o)).below (one_al _ o')
        unfold ERow at this
        rw [hln] at this
        exact this
      have hzr := HE.out.big
      go_wp2_with (first
        | (refine wpList_load_mid rfl 82 (.tmp 15) rfl g (0 + k * 7) (by simp [Act.eval, go_sem]) [.string c.se, .int .i64 c.nu, .int .i64 c.ve, .int .i64 c.im, .int .i64 c.st, .bool c.en, .string c.be] _ HR.out Tryz.underlying82 rfl Tryz.sizeCopy ?_)
        | (at_builtin; refine wpList_append_own _ rfl (.tmp 18) (.tmp 24) 45 rfl (w.heap.size + 5) 113 ie _ 2 16 Tryz.underlying45 hi hz0 hz1 hz2 rfl (by decide) _ k (flatV enL ((L.take k).map enOf)) rfl (HOW.out _ _) ⟨wr.heap.size + 1, 0, none⟩ 1 1 (enL (enOf c)) rfl rfl (two_news _ _ _ _ _) (two_one _) (by unfold maxLen; omega) (by omega) (by simp; omega) ?_
           intro v2 w2 ho2 hg2 _
           obtain ⟨b2, c2, rfl⟩ := owns_form ho2
           have FA2 : Hid (Box w2 (w.heap.size + 1 + 1 + 1 + 1) (acL (endA x (L.take k)) (.slice ea k ek)).toArray) := ((HE.out.act.on (one_al _ _)).on (one_al _ _)).row (HOW.out _ _) hg2 (by omega)
           have FR2 : Hid (Box w2 (w.heap.size + 1) zAct.toArray) := ((HE.out.res.on (one_al _ _)).on (one_al _ _)).row (HOW.out _ _) hg2 (by omega)
           have HB2 : Hid (Below w.heap.size w w2) := (bt HE.out.below (bt (one_al _ _) (one_al _ _))).trans ((ownsB_grown (HOW.out _ _) hg2 (by simp; omega)).mono (by omega))
           have HO2 := hide ho2
           have hz2 := hg2.size
           have b6 : w2.cell? ⟨w.heap.size + 1 + 1 + 1 + 1, 6, none⟩ = some (.slice ea k ek) := by rw [FA2.out.cell 6]; rfl
           have f6 := FA2.out.free 6
           clear ho2 hg2))
      clear b6 f6
      have HN : Hid (EndW w x (L.take (k + 1)) (.slice b2 (k + 1) c2) (w2.setCell ⟨w.heap.size + 1 + 1 + 1 + 1, 6, none⟩ (.slice b2 (k + 1) c2))) := by
        unfold Hid
        refine ⟨HB2.out.setCell (by simp only []; omega) _, FR2.out.setFar (by simp only []; omega) _, FA2.out.set (k := 6) _ (by simp [acL]), ?_, ?_⟩
        · refine erow_set (β := w.heap.size + 1 + 1 + 1 + 1) ?_ rfl (by omega)
          unfold ERow
          rw [HT.out, List.map_append, flatV_app, List.length_append, hln]
          simpa [flatV] using HO2.out
        · simp at hz2
          simp [World.setCell]
          omega
      go_roundw
      case rel => exact ⟨k + 1, _, by go_num, by omega, HN.out⟩
      case measure => simp [intOf]; omega
    · have e : k = L.length := by omega
      subst e
      rw [List.take_length] at HE
      obtain ⟨ea, ek, hev⟩ := HE.out.row.form
      rw [List.length_map] at hev
      subst hev
      obtain ⟨ll, hll⟩ : ∃ ll, ll = acL (endA x L) (.slice ea L.length ek) := ⟨_, rfl⟩
      have HRA : Hid (wr.rangeAt (w.heap.size + 1 + 1 + 1 + 1) 0 ll) := HE.out.act.range (by rw [hll])
      have h8 : ll.toArray.size = 8 := by rw [hll]; rfl
      have HS8 : Hid ((Tryz.prog.info? 47).map (·.size) = some ll.length) := by unfold Hid; rw [hll]; exact Tryz.sizeAct
      have HSA : Hid ((Tryz.prog.info? 47).map (·.size) = some ll.toArray.size) := by unfold Hid; rw [hll]; exact Tryz.sizeAct
      have HTH : Hid (wr.there (w.heap.size + 1) 0 ll.toArray.size) := by unfold Hid; rw [h8]; exact HE.out.res.there rfl
      have HON : Hid (ll.toArray.all (·.oneCell') = true) := by unfold Hid; rw [hll]; exact acL_one _
      have HLL := hide hll
      clear hll
      go_wp2_with (first
        | (refine wpList_load_mid rfl 47 (.tmp 6) rfl (w.heap.size + 1 + 1 + 1 + 1) 0 rfl ll _ HRA.out Tryz.underlying47 rfl HS8.out ?_)
        | (refine wpList_store_mid rfl 47 (.tmp 4) (.tmp 28) rfl (w.heap.size + 1) 0 ll.toArray rfl rfl HTH.out HSA.out HON.out ?_; refine Hid.out ?_))
      generalize hW : World.setCells _ _ _ _ = W9
      have FR9 : Hid (Box W9 (w.heap.size + 1) ll.toArray) := by unfold Hid; rw [← hW]; exact HE.out.res.full (cs' := ll.toArray) (by rw [h8]; rfl)
      have HB9 : Hid (Below w.heap.size w W9) := by unfold Hid; rw [← hW]; exact Below.sets (by omega) _ _ HE.out.below
      have HER : Hid (ERow W9 w.heap.size (.slice ea L.length ek) (L.map enOf)) := by unfold Hid; rw [← hW]; exact erow_sets HE.out.row (by omega) (by omega)
      clear hW
      refine hide ?_
      go_wp2
      have hle : (endA x L).es.length = L.length := by simp [endA]
      refine bodyPost_ret (v := .tuple #[.agg ll.toArray, .bool true]) (res_care (p := 4) (q := 5) (ty := 47) Tryz.results105 _ _ (w.heap.size + 1) ll true _ rfl rfl (FR9.out.range rfl) Tryz.underlying47 rfl HS8.out) rfl ⟨endA x L, ea, ek, rfl, ?_, ?_, HB9.out⟩
      · rw [hle, HLL.out]; rfl
      · rw [hle]; exact HER.out
end
end Go.Proofs.YtpdlcccnlciecaaGreat
namespace Go.Proofs.YtpdlcccnlciecaaGreat
open Go.RowKit Go.Deep

theorem crow_bl {w : World} {base : Nat} {v : Value} {L : List Cp} (h : CRow w base v L) (hne : L.length ≠ 0) : ∃ g cap, v = .slice (some ⟨g, 0, none⟩) L.length cap ∧ CpBl w g L := by
  have h' := h
  rcases h.2 with ⟨-, e⟩ | ⟨g, cap, cur, rfl, hbg, hg, hnc, hcm, hcs, htake⟩
  · exact absurd e hne
  · refine ⟨g, cap, rfl, (Array.getElem?_eq_some_iff.1 hg).1, fun i hi t u hu => ?_⟩
    have ht : t < 7 := by have := (List.getElem?_eq_some_iff.1 hu).1; rwa [cpL_len] at this
    have h1 := flatV_get cpL_len L i t hi ht
    have := World.ownsRow.cells h' (g := g) rfl (i * 7 + t) u (h1.trans hu)
    rwa [Go.WideShapes.add_plain, Nat.zero_add] at this
theorem live_200 {B : Sb} (hv : validB B = true) (s : ByteArray) (p : Cp → Bool) : ((liveL B s).filter p).length ≤ 200 := by
  have h1 := List.length_filter_le p (liveL B s)
  have h2 : (liveL B s).length ≤ B.cs.length := List.length_filter_le _ _
  have h3 := (valid_cps hv).1
  omega
section
variable (lo m : Nat) (sv cv bv : Value) (B : Sb) (x : Sv) (n : Ct) (d : Int) (lk : List Value) (w : World)
set_option maxRecDepth 100000 in
set_option maxHeartbeats 8000000 in
theorem endAll_c (p : Cp → Bool) (pf : Nat) (ba ca : Array Value) (hlk : LkIs lk m sv cv bv B x n d) (h : SbAt lo w sv cv bv B) (hv : validB B = true)
    (ep : ∀ args W, (callFunc pf args).run Tryz.prog W = .ok (.enter pf args) W)
    (hp : ∀ (W : World) (y : CpL), Below w.heap.size w W → Calls Tryz.prog pf (ba ++ #[.agg #[.string y.1.se, .int .i64 y.1.nu, .int .i64 y.1.ve, .int .i64 y.1.im, .int .i64 y.1.st, .bool y.1.en, .string y.1.be]] ++ ca) W fun e W' => e = .returned (.bool (p y.1)) ∧ Below W.heap.size W W') :
    Calls Tryz.prog 108 #[.agg lk.toArray, .func (.func pf) ba ca] w fun e w' => CareIs w (allI x ((liveL B x.nm).filter p)) e w' := by
  have HLK := hide hlk
  have HK := hide h
  have HV := hide hv
  have HP := hide hp
  have HEP := hide ep
  obtain ⟨M, hM⟩ := cps_sub h
  have HM := hide hM
  clear hlk h hv hp ep hM
  go_enter Tryz.func108, Tryz.ntmps108
  have FX0 : Hid (Box ((w.alloc (.cells lk.toArray 105)).alloc (.cells zAct.toArray 47)) w.heap.size lk.toArray) := (Box.new _ _ _ _ rfl).on (one_al _ _)
  go_wp2_with (refine wpList_load_mid rfl 105 (.tmp 2) rfl w.heap.size 0 rfl lk _ FX0.out.rng Tryz.underlying105 rfl HLK.out.size ?_)
  generalize hWa : World.alloc (w.alloc _) _ = Wa
  have FX : Hid (Box Wa w.heap.size lk.toArray) := by unfold Hid; rw [← hWa]; exact FX0.out
  have FR : Hid (Box Wa (w.heap.size + 1) zAct.toArray) := by unfold Hid; rw [← hWa]; exact Box.new _ _ _ _ (by simp)
  have HB : Hid (Below w.heap.size w Wa) := by unfold Hid; rw [← hWa]; exact (one_al w _).alloc (by simp) _
  have hsz : Wa.heap.size = w.heap.size + 2 := by rw [← hWa]; simp
  clear hWa FX0
  refine (callsIn_wide.1 (liveF_in lk Wa 6 pf ba ca)).mono ?_
  rintro e w1 ⟨rfl, hb1, hx1, hx2, hs1⟩
  rw [hsz] at hx1 hx2
  have HX1 := hide hx1
  have HX2 := hide hx2
  have FX1 := hide (FX.out.on hb1)
  have FR1 := hide (FR.out.on hb1)
  have HB1 := hide (bt HB.out hb1)
  clear hb1 hx1 hx2 FX FR HB
  go_wp2_with fail
  have hcol := collect_any w1 97 #[.pointer (some ⟨w.heap.size + 2, 0, none⟩), .pointer (some ⟨w.heap.size + 2 + 1, 0, none⟩)] B.cs.length (by have := (valid_cps HV.out).1; omega) (fun xs => xs = (M.filter fun y => mineB x.nm y.1).filter fun y => !y.1.en && p y.1) (enters_of Tryz.func97 (by kernel_rfl) rfl)
    (fun wl hbl hsl => by
      rw [show w1.heap.size + 1 + 2 = w1.heap.size + 3 from rfl]
      exact liveF_passes lo m sv cv bv B x n d lk wl 5 (by omega) (fun k => k = w1.heap.size ∨ w1.heap.size + 6 ≤ k) w1 (w.heap.size + 2) (w.heap.size + 2 + 1) p pf ba ca M HM.out HLK.out hbl (HK.out.below HB1.out) HV.out (fun k hk => by omega) (by omega) (by omega) (w1.heap.size + 3) (by omega) (by omega) (HX1.out.on hbl) (HX2.out.on hbl) HEP.out (fun W y hW => HP.out W y (bt HB1.out hW)))
  refine hcol.mono ?_
  clear hcol
  rintro e w2 ⟨v, xs, rfl, hxs, hrow, hb2⟩
  have HL : Hid (xs.map (·.1) = (liveL B x.nm).filter p) := by unfold Hid; rw [hxs]; exact sub_map HM.out x.nm p
  generalize xs.map (·.1) = L at HL hrow
  have HROW := hide hrow
  have FX2 := hide (FX1.out.on hb2)
  have FR2 := hide (FR1.out.on hb2)
  have HB2 := hide (bt HB1.out hb2)
  have h200 : L.length ≤ 200 := by rw [HL.out]; exact live_200 HV.out x.nm p
  obtain ⟨va, vc, rfl⟩ := owns_form hrow
  clear hrow hb2 hxs HX1 HX2 FX1 FR1 HB1
  by_cases h0 : L.length = 0
  · have HE : Hid (allI x ((liveL B x.nm).filter p) = none) := by unfold Hid allI; rw [← HL.out, if_pos h0]
    have e0 : ((L.length : Int) == 0) = true := by simp [h0]
    go_wp2_with fail
    refine (rest_c _).mono ?_
    rintro e wz ⟨A, a, k, hA, rfl, hrow, hb⟩
    have HA := hide hA
    have HROW := hide hrow
    have FRz := hide (FR2.out.on hb)
    have HBz := hide (bt HB2.out hb)
    have hBR := FR2.out.lt
    obtain ⟨ll, hll⟩ : ∃ ll, ll = acL A (.slice a A.es.length k) := ⟨_, rfl⟩
    rw [← hll]
    have h8 : ll.toArray.size = 8 := by rw [hll]; rfl
    have HS8 : Hid ((Tryz.prog.info? 47).map (·.size) = some ll.length) := by unfold Hid; rw [hll]; exact Tryz.sizeAct
    have HSA : Hid ((Tryz.prog.info? 47).map (·.size) = some ll.toArray.size) := by unfold Hid; rw [hll]; exact Tryz.sizeAct
    have HTH : Hid (wz.there (w.heap.size + 1) 0 ll.toArray.size) := by unfold Hid; rw [h8]; exact FRz.out.there rfl
    have HON : Hid (ll.toArray.all (·.oneCell') = true) := by unfold Hid; rw [hll]; exact acL_one _
    have HLL := hide hll
    clear hll hA hrow hb
    go_wp2_with (refine wpList_store_mid rfl 47 (.tmp 4) (.tmp 15) rfl (w.heap.size + 1) 0 ll.toArray rfl rfl HTH.out HSA.out HON.out ?_; refine Hid.out ?_)
    generalize hW : World.setCells _ _ _ _ = W9
    have FR9 : Hid (Box W9 (w.heap.size + 1) ll.toArray) := by unfold Hid; rw [← hW]; exact FRz.out.full (cs' := ll.toArray) (by rw [h8]; rfl)
    have HB9 : Hid (Below w.heap.size w W9) := by unfold Hid; rw [← hW]; exact Below.sets (by omega) _ _ HBz.out
    have HER : Hid (ERow W9 w.heap.size (.slice a A.es.length k) A.es) := by unfold Hid; rw [← hW]; exact erow_sets HROW.out (by omega) (by omega)
    clear hW
    refine hide ?_
    go_wp2
    refine bodyPost_ret (v := .tuple #[.agg ll.toArray, .bool false]) (res_care (p := 4) (q := 5) (ty := 47) Tryz.results108 _ _ (w.heap.size + 1) ll false _ rfl rfl (FR9.out.range rfl) Tryz.underlying47 rfl HS8.out) rfl ?_
    rw [HE.out]
    exact ⟨A, a, k, HA.out, (by rw [HLL.out]; try rfl), HER.out, HB9.out⟩
  · have HE : Hid (allI x ((liveL B x.nm).filter p) = some (endA x L)) := by unfold Hid allI; rw [← HL.out, if_neg h0]
    have e0 : ((L.length : Int) == 0) = false := by rw [beq_eq_false_iff_ne]; omega
    obtain ⟨g, cap, hv, hbl⟩ := crow_bl HROW.out h0
    rw [hv]
    have HBL := hide hbl
    clear hv hbl
    go_wp2_with (refine wpList_load_mid rfl 105 (.tmp 2) rfl w.heap.size 0 rfl lk _ FX2.out.rng Tryz.underlying105 rfl HLK.out.size ?_)
    refine (end_c m sv cv bv B x n d lk _ g cap L HLK.out HBL.out h200).mono ?_
    rintro e wz ⟨A, a, k, hA, rfl, hrow, hb⟩
    have HA := hide hA
    have HROW := hide hrow
    have FRz := hide (FR2.out.on hb)
    have HBz := hide (bt HB2.out hb)
    have hBR := FR2.out.lt
    obtain ⟨ll, hll⟩ : ∃ ll, ll = acL A (.slice a A.es.length k) := ⟨_, rfl⟩
    rw [← hll]
    have h8 : ll.toArray.size = 8 := by rw [hll]; rfl
    have HS8 : Hid ((Tryz.prog.info? 47).map (·.size) = some ll.length) := by unfold Hid; rw [hll]; exact Tryz.sizeAct
    have HSA : Hid ((Tryz.prog.info? 47).map (·.size) = some ll.toArray.size) := by unfold Hid; rw [hll]; exact Tryz.sizeAct
    have HTH : Hid (wz.there (w.heap.size + 1) 0 ll.toArray.size) := by unfold Hid; rw [h8]; exact FRz.out.there rfl
    have HON : Hid (ll.toArray.all (·.oneCell') = true) := by unfold Hid; rw [hll]; exact acL_one _
    have HLL := hide hll
    clear hll hA hrow hb
    go_wp2_with (refine wpList_store_mid rfl 47 (.tmp 4) (.tmp 20) rfl (w.heap.size + 1) 0 ll.toArray rfl rfl HTH.out HSA.out HON.out ?_; refine Hid.out ?_)
    generalize hW : World.setCells _ _ _ _ = W9
    have FR9 : Hid (Box W9 (w.heap.size + 1) ll.toArray) := by unfold Hid; rw [← hW]; exact FRz.out.full (cs' := ll.toArray) (by rw [h8]; rfl)
    have HB9 : Hid (Below w.heap.size w W9) := by unfold Hid; rw [← hW]; exact Below.sets (by omega) _ _ HBz.out
    have HER : Hid (ERow W9 w.heap.size (.slice a A.es.length k) A.es) := by unfold Hid; rw [← hW]; exact erow_sets HROW.out (by omega) (by omega)
    clear hW
    refine hide ?_
    go_wp2
    refine bodyPost_ret (v := .tuple #[.agg ll.toArray, .bool true]) (res_care (p := 4) (q := 5) (ty := 47) Tryz.results108 _ _ (w.heap.size + 1) ll true _ rfl rfl (FR9.out.range rfl) Tryz.underlying47 rfl HS8.out) rfl ?_
    rw [HE.out]
    exact ⟨A, a, k, HA.out, (by rw [HLL.out]; try rfl), HER.out, HB9.out⟩

set_option maxRecDepth 100000 in
set_option maxHeartbeats 8000000 in
theorem stewAny_any (c : Cp) : Calls Tryz.prog 102 #[.agg #[.string c.se, .int .i64 c.nu, .int .i64 c.ve, .int .i64 c.im, .int .i64 c.st, .bool c.en, .string c.be]] w fun e w' => e = .returned (.bool true) ∧ Below w.heap.size w w' := by
  go_enter Tryz.func102, Tryz.ntmps102
  go_wp2
  go_ret
  exact ⟨rfl, one_al _ _⟩
theorem hasFailed_any (c : Cp) : Calls Tryz.prog 109 #[.agg #[.string c.se, .int .i64 c.nu, .int .i64 c.ve, .int .i64 c.im, .int .i64 c.st, .bool c.en, .string c.be]] w fun e w' => e = .returned (.bool (c.st == 4)) ∧ Below w.heap.size w w' := by
  go_enter Tryz.func109, Tryz.ntmps109
  go_wp2
  go_ret
  exact ⟨rfl, one_al _ _⟩
end
end Go.Proofs.YtpdlcccnlciecaaGreat
