import Derived.Test.YtpdlcccnlciecaaGreatV15
import Derived.Test.YtpdlcccnlciecaaGreatV18
namespace Go.Proofs.YtpdlcccnlciecaaGreat
open Go.RowKit Go.Deep Go.Maps

/-- a book's index in memory -/
def IxAt (w : World) (m : Nat) (B : Sb) : Prop := ∃ (n : Nat) (D : DataW Unit), w.ownsMap Tryz.prog 121 (plainElem Tryz.prog 3) m n D ∧ IxOk B.ss B.bs D
theorem IxAt.below {w w' : World} {m : Nat} {B : Sb} (h : IxAt w m B) (hb : Below w.heap.size w w') : IxAt w' m B := by
  obtain ⟨n, D, ho, hi⟩ := h
  exact ⟨n, D, ho.kept (grown_of_below' hb) (by simp), hi⟩
theorem ris_lt {X : Type} {r : X → X → Bool} {L : List X} (ht : ∀ a b c, r a b = true → r b c = true → r a c = true) (h : risR r L = true) : ∀ (d i : Nat) (hj : i + d + 1 < L.length), r (L[i]'(by omega)) (L[i + d + 1]'hj) = true
  | 0, i, hj => by
    have := range_is (k := i + 1) (by omega) h
    rw [risN_at (by omega)] at this
    exact this
  | d + 1, i, hj => by
    have h1 := ris_lt ht h d i (by omega)
    have := range_is (k := i + d + 1 + 1) (by omega) h
    rw [risN_at (by omega)] at this
    exact ht _ _ _ h1 this
theorem sv_one {S : List Sv} (h : risR rSv S = true) {s : ByteArray} {k : Nat} (hk : k < S.length) (he : (S[k].nm.toList == s.toList) = true) : svF S s = some S[k] := by
  refine find_at hk (fun j hj hjk => ?_) he
  have := ris_lt (r := rSv) (fun a b c => less_trans) h (k - j - 1) j (by omega)
  have e2 : j + (k - j - 1) + 1 = k := by omega
  simp only [e2] at this
  refine bytes_ne.2 fun e => ?_
  unfold rSv at this
  rw [e, ← bytes_eq.1 he, less_irrefl] at this
  cases this
theorem sv_none {S : List Sv} {s : ByteArray} (h : (S.any fun x => x.nm.toList == s.toList) = false) : svF S s = none := by
  unfold svF
  rw [List.find?_eq_none]
  rw [List.any_eq_false] at h
  exact h
def sv0 : Sv := ⟨⟨#[]⟩, 0, false, 0, 0, 0, 0, 0, 0, 0, 0, 0, 0⟩

/-- what the place of a berth is -/
def BeIs (Bl : List Be) (s : ByteArray) (c : Int) (t : Bool) : Prop := t = hasBe Bl s ∧ (t = true → ∃ (k : Nat) (h : k < Bl.length), c = (k : Int) ∧ (Bl[k].nm.toList == s.toList) = true)

set_option maxRecDepth 100000 in
set_option maxHeartbeats 4000000 in
theorem berthPlace_any (lo m : Nat) (sv cv bv : Value) (B : Sb) (s : ByteArray) (w : World) (h : SbAt lo w sv cv bv B) (hx : IxAt w m B) (hs : s.size ≤ maxLen) :
    Calls Tryz.prog 128 #[.agg #[.int .i64 B.now, sv, cv, bv, .map (some m)], .string s] w fun e w' => ∃ (c : Int) (t : Bool), e = .returned (.tuple #[.int .i64 c, .bool t]) ∧ Below w.heap.size w w' ∧ Hid (BeIs B.bs s c t) := by
  obtain ⟨a0, k0, rfl⟩ := h.svs.form
  obtain ⟨a1, k1, rfl⟩ := h.cps.form
  obtain ⟨a2, k2, rfl⟩ := h.bes.form
  clear h
  obtain ⟨n, D, ho, hi⟩ := hx
  have HO := hide ho
  have HI := hide (hi.be s hs)
  have HY := hide (hi.bey s hs)
  have HS := hide hs
  clear ho hi hs
  go_enter Tryz.func128, Tryz.ntmps128
  have hl : ∀ o : Obj, ∃ c : Int, (Instr.lookup 54 (.map (some m)) (.agg #[.int .i64 1, .string s]) true).run Tryz.prog (w.alloc o) = .ok (.tuple #[.int .i64 c, .bool (Maps.has D (ixL 1 s))]) (w.alloc o) ∧ D.atKey (ixL 1 s) (.lit (.int .i64 0)) = .lit (.int .i64 c) := fun o => by
    obtain ⟨v, ps, hrun, hv⟩ := (HO.out.alloc o).look_ok ixKeyed Tryz.underlying54 (ixZero _) (plainElem_int Tryz.underlying3 (by decide)) (ixNum.mk' wf1 HS.out)
    obtain ⟨c, rfl, hc, -⟩ := plainElem_int_inv Tryz.underlying3 hv
    simp only [Prod.mk.injEq] at hc
    exact ⟨c, hrun, hc.1⟩
  obtain ⟨c, hrun, hat⟩ := hl (.cells #[.int .i64 B.now, .slice a0 B.ss.length k0, .slice a1 B.cs.length k1, .slice a2 B.bs.length k2, .map (some m)] 56)
  have HE : Hid (BeIs B.bs s c (Maps.has D (ixL 1 s))) := by
    unfold Hid
    refine ⟨HI.out, fun hq => ?_⟩
    obtain ⟨k, hk, he, hat'⟩ := HY.out hq
    have hck : c = (k : Int) := by
      have := hat.symm.trans hat'
      injection this with e
      injection e
    exact ⟨k, hk, hck, he⟩
  clear hl hat
  generalize Maps.has D (ixL 1 s) = t at *
  go_wp2
  exact bodyPost_ret (v := .tuple #[.int .i64 c, .bool t]) (by simp [results, Tryz.results128, go_sem]) rfl ⟨c, t, rfl, one_al _ _, HE.out⟩

/-- what the place of a service is -/
def SvIs (S : List Sv) (s : ByteArray) (c : Int) (t : Bool) : Prop := (t = false ∧ svF S s = none) ∨ (t = true ∧ ∃ (k : Nat) (h : k < S.length), c = (k : Int) ∧ svF S s = some S[k] ∧ svI S s = k ∧ S[k].nm = s)
theorem svI_one {S : List Sv} (h : risR rSv S = true) {s : ByteArray} {k : Nat} (hk : k < S.length) (he : (S[k].nm.toList == s.toList) = true) : svI S s = k := by
  refine idx_at (f := fun x : Sv => x.nm.toList == s.toList) hk (fun j hj hjk => ?_) he
  have := ris_lt (r := rSv) (fun a b c => less_trans) h (k - j - 1) j (by omega)
  have e2 : j + (k - j - 1) + 1 = k := by omega
  simp only [e2] at this
  refine bytes_ne.2 fun e => ?_
  unfold rSv at this
  rw [e, ← bytes_eq.1 he, less_irrefl] at this
  cases this

set_option maxRecDepth 100000 in
set_option maxHeartbeats 4000000 in
theorem svcPlace_any (lo m : Nat) (sv cv bv : Value) (B : Sb) (s : ByteArray) (w : World) (h : SbAt lo w sv cv bv B) (hx : IxAt w m B) (hs : s.size ≤ maxLen) (hu : risR rSv B.ss = true) :
    Calls Tryz.prog 143 #[.agg #[.int .i64 B.now, sv, cv, bv, .map (some m)], .string s] w fun e w' => ∃ (c : Int) (t : Bool), e = .returned (.tuple #[.int .i64 c, .bool t]) ∧ Below w.heap.size w w' ∧ Hid (SvIs B.ss s c t) := by
  obtain ⟨a0, k0, rfl⟩ := h.svs.form
  obtain ⟨a1, k1, rfl⟩ := h.cps.form
  obtain ⟨a2, k2, rfl⟩ := h.bes.form
  clear h
  obtain ⟨n, D, ho, hi⟩ := hx
  have HO := hide ho
  have HI := hide (hi.no s hs)
  have HY := hide (hi.yes s hs)
  have HS := hide hs
  have HU := hide hu
  clear ho hi hs hu
  go_enter Tryz.func143, Tryz.ntmps143
  have hl : ∀ o : Obj, ∃ c : Int, (Instr.lookup 54 (.map (some m)) (.agg #[.int .i64 0, .string s]) true).run Tryz.prog (w.alloc o) = .ok (.tuple #[.int .i64 c, .bool (Maps.has D (ixL 0 s))]) (w.alloc o) ∧ D.atKey (ixL 0 s) (.lit (.int .i64 0)) = .lit (.int .i64 c) := fun o => by
    obtain ⟨v, ps, hrun, hv⟩ := (HO.out.alloc o).look_ok ixKeyed Tryz.underlying54 (ixZero _) (plainElem_int Tryz.underlying3 (by decide)) (ixNum.mk' wf0 HS.out)
    obtain ⟨c, rfl, hc, -⟩ := plainElem_int_inv Tryz.underlying3 hv
    simp only [Prod.mk.injEq] at hc
    exact ⟨c, hrun, hc.1⟩
  obtain ⟨c, hrun, hat⟩ := hl (.cells #[.int .i64 B.now, .slice a0 B.ss.length k0, .slice a1 B.cs.length k1, .slice a2 B.bs.length k2, .map (some m)] 56)
  have HE : Hid (SvIs B.ss s c (Maps.has D (ixL 0 s))) := by
    unfold Hid
    cases hq : Maps.has D (ixL 0 s) with
    | false => exact Or.inl ⟨rfl, sv_none (by rw [← HI.out]; exact hq)⟩
    | true =>
      obtain ⟨k, hk, he, hat'⟩ := HY.out hq
      have hck : c = (k : Int) := by
        have := hat.symm.trans hat'
        injection this with e
        injection e
      exact Or.inr ⟨rfl, k, hk, hck, sv_one HU.out hk he, svI_one HU.out hk he, bytes_eq.1 he⟩
  clear hl hat
  generalize Maps.has D (ixL 0 s) = t at *
  go_wp2
  exact bodyPost_ret (v := .tuple #[.int .i64 c, .bool t]) (by simp [results, Tryz.results143, go_sem]) rfl ⟨c, t, rfl, one_al _ _, HE.out⟩

set_option maxRecDepth 100000 in
set_option maxHeartbeats 4000000 in
theorem svcOf_any (lo m : Nat) (sv cv bv : Value) (B : Sb) (s : ByteArray) (w : World) (h : SbAt lo w sv cv bv B) (hx : IxAt w m B) (hs : s.size ≤ maxLen) (hu : risR rSv B.ss = true) :
    Calls Tryz.prog 137 #[.agg #[.int .i64 B.now, sv, cv, bv, .map (some m)], .string s] w fun e w' => ∃ (x : Sv) (t : Bool), e = .returned (.tuple #[.agg #[.string x.nm, .int .i64 x.ve, .bool x.gn, .int .i64 x.im, .int .i64 x.wa, .int .i64 x.dn, .int .i64 x.ov, .int .i64 x.nx, .int .i64 x.pr, .int .i64 x.ls, .int .i64 x.ms, .int .i64 x.ld, .int .i64 x.cl], .bool t]) ∧ Below w.heap.size w w' ∧ Hid (svF B.ss s = if t then some x else none) := by
  have HK := hide h
  have HX := hide hx
  obtain ⟨a0, k0, rfl⟩ := h.svs.form
  obtain ⟨a1, k1, rfl⟩ := h.cps.form
  obtain ⟨a2, k2, rfl⟩ := h.bes.form
  have hmx := h.svs.max
  unfold maxLen at hmx
  have HS := hide hs
  have HU := hide hu
  clear h hx hs hu
  go_enter Tryz.func137, Tryz.ntmps137
  go_wp2_with fail
  generalize hWa : World.alloc (w.alloc _) _ = Wa
  have HB0 : Hid (Below w.heap.size w Wa) := by rw [← hWa]; exact (one_al w _).alloc (by simp) _
  have FA0 : Hid (Box Wa w.heap.size #[.int .i64 B.now, .slice a0 B.ss.length k0, .slice a1 B.cs.length k1, .slice a2 B.bs.length k2, .map (some m)]) := by rw [← hWa]; exact (Box.new _ _ _ _ rfl).on (one_al _ _)
  have FR0 : Hid (Box Wa (w.heap.size + 1) #[.string ⟨#[]⟩, .int .i64 0, .bool false, .int .i64 0, .int .i64 0, .int .i64 0, .int .i64 0, .int .i64 0, .int .i64 0, .int .i64 0, .int .i64 0, .int .i64 0, .int .i64 0]) := by rw [← hWa]; exact Box.new _ _ _ _ (by simp)
  clear hWa
  refine (svcPlace_any lo m _ _ _ B s _ (HK.out.below HB0.out) (HX.out.below HB0.out) HS.out HU.out).mono ?_
  rintro e w1 ⟨c, t, rfl, hb1, hf⟩
  have HB1 := hide (bt HB0.out hb1)
  have FA1 := hide (FA0.out.on hb1)
  have FR1 := hide (FR0.out.on hb1)
  clear hb1 FA0 FR0 HB0 HX
  have hlt := HB1.out.size
  have r0 := FR1.out.cell
  have g0 := FR1.out.free
  rcases hf.out with ⟨rfl, hn⟩ | ⟨rfl, k, hk, rfl, hs, -, -⟩
  · have HE := hide hn
    clear hn hf
    go_wp2
    refine bodyPost_ret (v := .tuple #[.agg #[.string ⟨#[]⟩, .int .i64 0, .bool false, .int .i64 0, .int .i64 0, .int .i64 0, .int .i64 0, .int .i64 0, .int .i64 0, .int .i64 0, .int .i64 0, .int .i64 0, .int .i64 0], .bool false]) (by simp [results, Tryz.results137, go_sem, r0]) rfl ⟨sv0, false, rfl, ?_, HE.out⟩
    repeat (refine Below.setCell ?_ (by simp) _)
    exact HB1.out
  · have HE := hide hs
    clear hs hf
    obtain ⟨b, off, rfl, hbw, -, hc⟩ := HK.out.svs.full' (by omega)
    have hc1 := (hc k hk).2.below HB1.out hbw
    obtain ⟨c0, c1, c2, c3, c4, c5, c6, c7, c8, c9, c10, c11, c12⟩ := hc1
    have x0 := FA1.out.cell
    clear hc
    go_wp2
    refine bodyPost_ret (v := .tuple #[.agg #[.string B.ss[k].nm, .int .i64 B.ss[k].ve, .bool B.ss[k].gn, .int .i64 B.ss[k].im, .int .i64 B.ss[k].wa, .int .i64 B.ss[k].dn, .int .i64 B.ss[k].ov, .int .i64 B.ss[k].nx, .int .i64 B.ss[k].pr, .int .i64 B.ss[k].ls, .int .i64 B.ss[k].ms, .int .i64 B.ss[k].ld, .int .i64 B.ss[k].cl], .bool true]) (by simp [results, Tryz.results137, go_sem, r0]) rfl ⟨B.ss[k], true, rfl, ?_, HE.out⟩
    repeat (refine Below.setCell ?_ (by simp) _)
    exact HB1.out
end Go.Proofs.YtpdlcccnlciecaaGreat
namespace Go.Proofs.YtpdlcccnlciecaaGreat
open Go.RowKit Go.Deep Go.Maps

set_option maxRecDepth 100000 in
set_option maxHeartbeats 4000000 in
theorem svNamed_any (lo m : Nat) (sv cv bv : Value) (B : Sb) (x : Sv) (w : World) (h : SbAt lo w sv cv bv B) (hz : SvSize x) :
    Calls Tryz.prog 115 #[.agg #[.int .i64 B.now, sv, cv, bv, .map (some m)], .agg #[.string x.nm, .int .i64 x.ve, .bool x.gn, .int .i64 x.im, .int .i64 x.wa, .int .i64 x.dn, .int .i64 x.ov, .int .i64 x.nx, .int .i64 x.pr, .int .i64 x.ls, .int .i64 x.ms, .int .i64 x.ld, .int .i64 x.cl]] w fun e w' => e = .returned (.bool (nmB x.nm && inB 1 B.now x.ve)) ∧ Below w.heap.size w w' := by
  obtain ⟨a0, k0, rfl⟩ := h.svs.form
  obtain ⟨a1, k1, rfl⟩ := h.cps.form
  obtain ⟨a2, k2, rfl⟩ := h.bes.form
  clear h
  have s0 := hz.s0
  have HO : ∀ o o', Hid (Below w.heap.size w ((w.alloc o).alloc o')) := fun o o' => (one_al w o).alloc (by simp) o'
  go_enter Tryz.func115, Tryz.ntmps115
  cases q0 : nmB x.nm with
  | false =>
    go_wp2_with (first | (go_at_call 22; refine (within_any _ _ _ _).mono ?_; rintro e w' ⟨rfl, rfl⟩) | (go_at_call 135; refine (isName_any _ _ (by with_reducible assumption)).mono ?_; rintro e w' ⟨rfl, rfl⟩))
    go_ret
    exact ⟨ret_bool (by simp), (HO _ _).out⟩
  | true =>
    go_wp2_with (first | (go_at_call 22; refine (within_any _ _ _ _).mono ?_; rintro e w' ⟨rfl, rfl⟩) | (go_at_call 135; refine (isName_any _ _ (by with_reducible assumption)).mono ?_; rintro e w' ⟨rfl, rfl⟩))
    go_ret
    exact ⟨ret_bool (by simp), (HO _ _).out⟩

set_option maxRecDepth 100000 in
set_option maxHeartbeats 4000000 in
theorem svNumbered_any (lo m : Nat) (sv cv bv : Value) (B : Sb) (x : Sv) (w : World) (h : SbAt lo w sv cv bv B) :
    Calls Tryz.prog 116 #[.agg #[.int .i64 B.now, sv, cv, bv, .map (some m)], .agg #[.string x.nm, .int .i64 x.ve, .bool x.gn, .int .i64 x.im, .int .i64 x.wa, .int .i64 x.dn, .int .i64 x.ov, .int .i64 x.nx, .int .i64 x.pr, .int .i64 x.ls, .int .i64 x.ms, .int .i64 x.ld, .int .i64 x.cl]] w fun e w' => e = .returned (.bool (inB 1 1000000 x.im && inB 1 1000000 x.nx)) ∧ Below w.heap.size w w' := by
  obtain ⟨a0, k0, rfl⟩ := h.svs.form
  obtain ⟨a1, k1, rfl⟩ := h.cps.form
  obtain ⟨a2, k2, rfl⟩ := h.bes.form
  clear h
  have HO : ∀ o o', Hid (Below w.heap.size w ((w.alloc o).alloc o')) := fun o o' => (one_al w o).alloc (by simp) o'
  go_enter Tryz.func116, Tryz.ntmps116
  cases q0 : inB 1 1000000 x.im with
  | false =>
    go_wp2_with (first | (go_at_call 22; refine (within_any _ _ _ _).mono ?_; rintro e w' ⟨rfl, rfl⟩))
    go_ret
    exact ⟨ret_bool (by simp), (HO _ _).out⟩
  | true =>
    go_wp2_with (first | (go_at_call 22; refine (within_any _ _ _ _).mono ?_; rintro e w' ⟨rfl, rfl⟩))
    go_ret
    exact ⟨ret_bool (by simp), (HO _ _).out⟩

set_option maxRecDepth 100000 in
set_option maxHeartbeats 4000000 in
theorem svWanted_any (lo m : Nat) (sv cv bv : Value) (B : Sb) (x : Sv) (w : World) (h : SbAt lo w sv cv bv B) :
    Calls Tryz.prog 117 #[.agg #[.int .i64 B.now, sv, cv, bv, .map (some m)], .agg #[.string x.nm, .int .i64 x.ve, .bool x.gn, .int .i64 x.im, .int .i64 x.wa, .int .i64 x.dn, .int .i64 x.ov, .int .i64 x.nx, .int .i64 x.pr, .int .i64 x.ls, .int .i64 x.ms, .int .i64 x.ld, .int .i64 x.cl]] w fun e w' => e = .returned (.bool (inB 0 10 x.wa && (inB 0 10 x.dn && (inB 0 10 x.ov && (decide (0 < x.dn) || decide (0 < x.ov)))))) ∧ Below w.heap.size w w' := by
  obtain ⟨a0, k0, rfl⟩ := h.svs.form
  obtain ⟨a1, k1, rfl⟩ := h.cps.form
  obtain ⟨a2, k2, rfl⟩ := h.bes.form
  clear h
  have HO : ∀ o o', Hid (Below w.heap.size w ((w.alloc o).alloc o')) := fun o o' => (one_al w o).alloc (by simp) o'
  go_enter Tryz.func117, Tryz.ntmps117
  cases q0 : inB 0 10 x.wa with
  | false =>
    go_wp2_with (first | (go_at_call 22; refine (within_any _ _ _ _).mono ?_; rintro e w' ⟨rfl, rfl⟩))
    go_ret
    exact ⟨ret_bool (by simp), (HO _ _).out⟩
  | true =>
    cases q1 : inB 0 10 x.dn with
    | false =>
      go_wp2_with (first | (go_at_call 22; refine (within_any _ _ _ _).mono ?_; rintro e w' ⟨rfl, rfl⟩))
      go_ret
      exact ⟨ret_bool (by simp), (HO _ _).out⟩
    | true =>
      cases q2 : inB 0 10 x.ov with
      | false =>
        go_wp2_with (first | (go_at_call 22; refine (within_any _ _ _ _).mono ?_; rintro e w' ⟨rfl, rfl⟩))
        go_ret
        exact ⟨ret_bool (by simp), (HO _ _).out⟩
      | true =>
        cases q3 : decide (0 < x.dn) with
        | false =>
          go_wp2_with (first | (go_at_call 22; refine (within_any _ _ _ _).mono ?_; rintro e w' ⟨rfl, rfl⟩))
          go_ret
          exact ⟨ret_bool (by simp), (HO _ _).out⟩
        | true =>
          go_wp2_with (first | (go_at_call 22; refine (within_any _ _ _ _).mono ?_; rintro e w' ⟨rfl, rfl⟩))
          go_ret
          exact ⟨ret_bool (by simp), (HO _ _).out⟩

set_option maxRecDepth 100000 in
set_option maxHeartbeats 4000000 in
theorem svScaled_any (lo m : Nat) (sv cv bv : Value) (B : Sb) (x : Sv) (w : World) (h : SbAt lo w sv cv bv B) :
    Calls Tryz.prog 118 #[.agg #[.int .i64 B.now, sv, cv, bv, .map (some m)], .agg #[.string x.nm, .int .i64 x.ve, .bool x.gn, .int .i64 x.im, .int .i64 x.wa, .int .i64 x.dn, .int .i64 x.ov, .int .i64 x.nx, .int .i64 x.pr, .int .i64 x.ls, .int .i64 x.ms, .int .i64 x.ld, .int .i64 x.cl]] w fun e w' => e = .returned (.bool (inB 0 1000000 x.pr && (inB 0 1000000 x.ld && (inB 0 10 x.ms && (inB 0 x.ms x.ls && inB 0 3 x.cl))))) ∧ Below w.heap.size w w' := by
  obtain ⟨a0, k0, rfl⟩ := h.svs.form
  obtain ⟨a1, k1, rfl⟩ := h.cps.form
  obtain ⟨a2, k2, rfl⟩ := h.bes.form
  clear h
  have HO : ∀ o o', Hid (Below w.heap.size w ((w.alloc o).alloc o')) := fun o o' => (one_al w o).alloc (by simp) o'
  go_enter Tryz.func118, Tryz.ntmps118
  cases q0 : inB 0 1000000 x.pr with
  | false =>
    go_wp2_with (first | (go_at_call 22; refine (within_any _ _ _ _).mono ?_; rintro e w' ⟨rfl, rfl⟩))
    go_ret
    exact ⟨ret_bool (by simp), (HO _ _).out⟩
  | true =>
    cases q1 : inB 0 1000000 x.ld with
    | false =>
      go_wp2_with (first | (go_at_call 22; refine (within_any _ _ _ _).mono ?_; rintro e w' ⟨rfl, rfl⟩))
      go_ret
      exact ⟨ret_bool (by simp), (HO _ _).out⟩
    | true =>
      cases q2 : inB 0 10 x.ms with
      | false =>
        go_wp2_with (first | (go_at_call 22; refine (within_any _ _ _ _).mono ?_; rintro e w' ⟨rfl, rfl⟩))
        go_ret
        exact ⟨ret_bool (by simp), (HO _ _).out⟩
      | true =>
        cases q3 : inB 0 x.ms x.ls with
        | false =>
          go_wp2_with (first | (go_at_call 22; refine (within_any _ _ _ _).mono ?_; rintro e w' ⟨rfl, rfl⟩))
          go_ret
          exact ⟨ret_bool (by simp), (HO _ _).out⟩
        | true =>
          go_wp2_with (first | (go_at_call 22; refine (within_any _ _ _ _).mono ?_; rintro e w' ⟨rfl, rfl⟩))
          go_ret
          exact ⟨ret_bool (by simp), (HO _ _).out⟩

set_option maxRecDepth 100000 in
set_option maxHeartbeats 4000000 in
theorem svStill_any (lo m : Nat) (sv cv bv : Value) (B : Sb) (x : Sv) (w : World) (h : SbAt lo w sv cv bv B) :
    Calls Tryz.prog 119 #[.agg #[.int .i64 B.now, sv, cv, bv, .map (some m)], .agg #[.string x.nm, .int .i64 x.ve, .bool x.gn, .int .i64 x.im, .int .i64 x.wa, .int .i64 x.dn, .int .i64 x.ov, .int .i64 x.nx, .int .i64 x.pr, .int .i64 x.ls, .int .i64 x.ms, .int .i64 x.ld, .int .i64 x.cl]] w fun e w' => e = .returned (.bool (decide (0 < x.pr) || ((x.ls == 0) && ((x.ms == 0) && ((x.ld == 0) && (x.cl == 0)))))) ∧ Below w.heap.size w w' := by
  obtain ⟨a0, k0, rfl⟩ := h.svs.form
  obtain ⟨a1, k1, rfl⟩ := h.cps.form
  obtain ⟨a2, k2, rfl⟩ := h.bes.form
  clear h
  have HO : ∀ o o', Hid (Below w.heap.size w ((w.alloc o).alloc o')) := fun o o' => (one_al w o).alloc (by simp) o'
  go_enter Tryz.func119, Tryz.ntmps119
  cases q0 : decide (0 < x.pr) with
  | false =>
    cases q1 : (x.ls == 0) with
    | false =>
      go_wp2_with (first | (go_at_call 22; refine (within_any _ _ _ _).mono ?_; rintro e w' ⟨rfl, rfl⟩))
      go_ret
      exact ⟨ret_bool (by simp), (HO _ _).out⟩
    | true =>
      cases q2 : (x.ms == 0) with
      | false =>
        go_wp2_with (first | (go_at_call 22; refine (within_any _ _ _ _).mono ?_; rintro e w' ⟨rfl, rfl⟩))
        go_ret
        exact ⟨ret_bool (by simp), (HO _ _).out⟩
      | true =>
        cases q3 : (x.ld == 0) with
        | false =>
          go_wp2_with (first | (go_at_call 22; refine (within_any _ _ _ _).mono ?_; rintro e w' ⟨rfl, rfl⟩))
          go_ret
          exact ⟨ret_bool (by simp), (HO _ _).out⟩
        | true =>
          go_wp2_with (first | (go_at_call 22; refine (within_any _ _ _ _).mono ?_; rintro e w' ⟨rfl, rfl⟩))
          go_ret
          exact ⟨ret_bool (by simp), (HO _ _).out⟩
  | true =>
    go_wp2_with (first | (go_at_call 22; refine (within_any _ _ _ _).mono ?_; rintro e w' ⟨rfl, rfl⟩))
    go_ret
    exact ⟨ret_bool (by simp), (HO _ _).out⟩

set_option maxRecDepth 100000 in
set_option maxHeartbeats 4000000 in
theorem beNamed_any (lo m : Nat) (sv cv bv : Value) (B : Sb) (x : Be) (w : World) (h : SbAt lo w sv cv bv B) (hz : BeSize x) :
    Calls Tryz.prog 120 #[.agg #[.int .i64 B.now, sv, cv, bv, .map (some m)], .agg #[.string x.nm, .bool x.dr]] w fun e w' => e = .returned (.bool (nmB x.nm)) ∧ Below w.heap.size w w' := by
  obtain ⟨a0, k0, rfl⟩ := h.svs.form
  obtain ⟨a1, k1, rfl⟩ := h.cps.form
  obtain ⟨a2, k2, rfl⟩ := h.bes.form
  clear h
  have s0 := hz.s0
  have HO : ∀ o o', Hid (Below w.heap.size w ((w.alloc o).alloc o')) := fun o o' => (one_al w o).alloc (by simp) o'
  go_enter Tryz.func120, Tryz.ntmps120
  go_wp2_with (first | (go_at_call 22; refine (within_any _ _ _ _).mono ?_; rintro e w' ⟨rfl, rfl⟩) | (go_at_call 135; refine (isName_any _ _ (by with_reducible assumption)).mono ?_; rintro e w' ⟨rfl, rfl⟩))
  go_ret
  exact ⟨ret_bool (by simp), (HO _ _).out⟩

set_option maxRecDepth 100000 in
set_option maxHeartbeats 4000000 in
theorem cpNumbered_any (lo m : Nat) (sv cv bv : Value) (B : Sb) (x : Cp) (w : World) (h : SbAt lo w sv cv bv B) :
    Calls Tryz.prog 124 #[.agg #[.int .i64 B.now, sv, cv, bv, .map (some m)], .agg #[.string x.se, .int .i64 x.nu, .int .i64 x.ve, .int .i64 x.im, .int .i64 x.st, .bool x.en, .string x.be]] w fun e w' => e = .returned (.bool (inB 1 B.now x.ve && (inB 1 1000000 x.im && inB 1 4 x.st))) ∧ Below w.heap.size w w' := by
  obtain ⟨a0, k0, rfl⟩ := h.svs.form
  obtain ⟨a1, k1, rfl⟩ := h.cps.form
  obtain ⟨a2, k2, rfl⟩ := h.bes.form
  clear h
  have HO : ∀ o o', Hid (Below w.heap.size w ((w.alloc o).alloc o')) := fun o o' => (one_al w o).alloc (by simp) o'
  go_enter Tryz.func124, Tryz.ntmps124
  cases q0 : inB 1 B.now x.ve with
  | false =>
    go_wp2_with (first | (go_at_call 22; refine (within_any _ _ _ _).mono ?_; rintro e w' ⟨rfl, rfl⟩))
    go_ret
    exact ⟨ret_bool (by simp), (HO _ _).out⟩
  | true =>
    cases q1 : inB 1 1000000 x.im with
    | false =>
      go_wp2_with (first | (go_at_call 22; refine (within_any _ _ _ _).mono ?_; rintro e w' ⟨rfl, rfl⟩))
      go_ret
      exact ⟨ret_bool (by simp), (HO _ _).out⟩
    | true =>
      go_wp2_with (first | (go_at_call 22; refine (within_any _ _ _ _).mono ?_; rintro e w' ⟨rfl, rfl⟩))
      go_ret
      exact ⟨ret_bool (by simp), (HO _ _).out⟩

end Go.Proofs.YtpdlcccnlciecaaGreat
namespace Go.Proofs.YtpdlcccnlciecaaGreat
open Go.RowKit Go.Deep Go.Maps

def servB (B : Sb) (c : Cp) : Bool := match svF B.ss c.se with
  | none => false
  | some x => inB 1 (x.nx - 1) c.nu
theorem svF_mem {S : List Sv} {s : ByteArray} {x : Sv} (h : svF S s = some x) : x ∈ S := List.mem_of_find?_eq_some h

set_option maxRecDepth 100000 in
set_option maxHeartbeats 4000000 in
theorem nowOk_any (lo m : Nat) (sv cv bv : Value) (B : Sb) (w : World) (h : SbAt lo w sv cv bv B) :
    Calls Tryz.prog 68 #[.agg #[.int .i64 B.now, sv, cv, bv, .map (some m)]] w fun e w' => e = .returned (.bool (inB 0 1000000 B.now)) ∧ Below w.heap.size w w' := by
  obtain ⟨a0, k0, rfl⟩ := h.svs.form
  obtain ⟨a1, k1, rfl⟩ := h.cps.form
  obtain ⟨a2, k2, rfl⟩ := h.bes.form
  clear h
  go_enter Tryz.func68, Tryz.ntmps68
  go_wp2_with (first | (go_at_call 22; refine (within_any _ _ _ _).mono ?_; rintro e w' ⟨rfl, rfl⟩))
  go_ret
  exact ⟨rfl, one_al _ _⟩

set_option maxRecDepth 100000 in
set_option maxHeartbeats 4000000 in
theorem cpBerthed_any (lo m : Nat) (sv cv bv : Value) (B : Sb) (x : Cp) (w : World) (h : SbAt lo w sv cv bv B) (hx : IxAt w m B) (hz : CpSize x) :
    Calls Tryz.prog 125 #[.agg #[.int .i64 B.now, sv, cv, bv, .map (some m)], .agg #[.string x.se, .int .i64 x.nu, .int .i64 x.ve, .int .i64 x.im, .int .i64 x.st, .bool x.en, .string x.be]] w fun e w' => e = .returned (.bool (if x.st == 1 then x.be.toList.isEmpty else hasBe B.bs x.be)) ∧ Below w.heap.size w w' := by
  have HK := hide h
  have HX := hide hx
  have HZ := hide hz.s1
  obtain ⟨a0, k0, rfl⟩ := h.svs.form
  obtain ⟨a1, k1, rfl⟩ := h.cps.form
  obtain ⟨a2, k2, rfl⟩ := h.bes.form
  clear h
  clear hx hz
  have HO : ∀ o o', Hid (Below w.heap.size w ((w.alloc o).alloc o')) := fun o o' => (one_al w o).alloc (by simp) o'
  go_enter Tryz.func125, Tryz.ntmps125
  cases h1 : (x.st == 1) with
  | true =>
    go_wp2
    go_ret
    exact ⟨ret_bool (by simp), (HO _ _).out⟩
  | false =>
    go_wp2_with fail
    refine (berthPlace_any lo m _ _ _ B x.be _ (HK.out.below (HO _ _).out) (HX.out.below (HO _ _).out) HZ.out).mono ?_
    rintro e w1 ⟨c, t, rfl, hb1, hf⟩
    have HB1 := hide (bt (HO _ _).out hb1)
    have HE : Hid (t = hasBe B.bs x.be) := hf.out.1
    clear hb1 hf
    go_wp2
    go_ret
    exact ⟨ret_bool (by simp [HE.out]), HB1.out⟩

set_option maxRecDepth 100000 in
set_option maxHeartbeats 4000000 in
theorem cpServed_any (lo m : Nat) (sv cv bv : Value) (B : Sb) (x : Cp) (w : World) (h : SbAt lo w sv cv bv B) (hx : IxAt w m B) (hz : CpSize x) (hu : risR rSv B.ss = true) (hss : B.ss.all (svB B.now) = true) :
    Calls Tryz.prog 123 #[.agg #[.int .i64 B.now, sv, cv, bv, .map (some m)], .agg #[.string x.se, .int .i64 x.nu, .int .i64 x.ve, .int .i64 x.im, .int .i64 x.st, .bool x.en, .string x.be]] w fun e w' => e = .returned (.bool (servB B x)) ∧ Below w.heap.size w w' := by
  have HK := hide h
  have HX := hide hx
  have HZ := hide hz.s0
  have HU := hide hu
  have HSS := hide hss
  obtain ⟨a0, k0, rfl⟩ := h.svs.form
  obtain ⟨a1, k1, rfl⟩ := h.cps.form
  obtain ⟨a2, k2, rfl⟩ := h.bes.form
  clear h
  clear hx hz hu hss
  go_enter Tryz.func123, Tryz.ntmps123
  go_wp2_with fail
  generalize hWa : World.alloc (w.alloc _) _ = Wa
  have HB0 : Hid (Below w.heap.size w Wa) := by rw [← hWa]; exact (one_al w _).alloc (by simp) _
  have HC0 : Hid (Box Wa (w.heap.size + 1) #[.string x.se, .int .i64 x.nu, .int .i64 x.ve, .int .i64 x.im, .int .i64 x.st, .bool x.en, .string x.be]) := by rw [← hWa]; exact Box.new _ _ _ _ (by simp)
  clear hWa
  refine (svcOf_any lo m _ _ _ B x.se _ (HK.out.below HB0.out) (HX.out.below HB0.out) HZ.out HU.out).mono ?_
  rintro e w1 ⟨y, t, rfl, hb1, hf⟩
  have HB1 := hide (bt HB0.out hb1)
  have HC1 := hide (HC0.out.on hb1)
  clear hb1 HB0 HC0
  have c1 : ∀ o, (w1.alloc o).cell? ⟨w.heap.size + 1, 1, none⟩ = some (.int .i64 x.nu) := fun o => by rw [(HC1.out.on (one_al _ o)).cell 1]; rfl
  cases t with
  | false =>
    have HE : Hid (servB B x = false) := by unfold Hid servB; rw [hf.out]; rfl
    go_wp2
    go_ret
    exact ⟨ret_bool HE.out.symm, bt HB1.out (one_al _ _)⟩
  | true =>
    have HE : Hid (servB B x = inB 1 (y.nx - 1) x.nu) := by unfold Hid servB; rw [hf.out]; rfl
    have hnx := svB_nx (List.all_eq_true.1 HSS.out _ (svF_mem (hf.out.trans (if_pos rfl))))
    have hw : IntKind.i64.wrap (y.nx - 1) = y.nx - 1 := by rw [IntWalk.i64_left]; unfold wrap64; omega
    clear hnx hf
    go_wp2_with (first | (go_at_call 22; refine (within_any _ _ _ _).mono ?_; rintro e w' ⟨rfl, rfl⟩))
    go_ret
    exact ⟨ret_bool HE.out.symm, bt HB1.out (one_al _ _)⟩
end Go.Proofs.YtpdlcccnlciecaaGreat
