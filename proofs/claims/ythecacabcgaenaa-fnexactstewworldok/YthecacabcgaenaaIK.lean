
import Derived.Test.YthecacabcgaenaaIX1
import Derived.Test.YthecacabcgaenaaIB
namespace Go.Proofs.Ythecacabcgaenaa
open Go.RowKit Go.Deep Go.Maps

/-- a book's index in memory -/
def IxAt (w : World) (m : Nat) (B : Sb) : Prop := ∃ (n : Nat) (D : DataW Unit), w.ownsMap Try.prog 102 (plainElem Try.prog 3) m n D ∧ IxOk B.ss B.bs D
theorem IxAt.below {w w' : World} {m : Nat} {B : Sb} (h : IxAt w m B) (hb : Below w.heap.size w w') : IxAt w' m B := by
  obtain ⟨n, D, ho, hi⟩ := h
  exact ⟨n, D, ho.kept (grown_of_below' hb) (by simp), hi⟩
theorem ris_lt {X : Type} {r : X → X → Bool} {L : List X} (ht : ∀ a b c, r a b = true → r b c = true → r a c = true) (h : risR r L = true) : ∀ (d i : Nat) (hj : i + d + 1 < L.length), r (L[i]'(by omega)) (L[i + d + 1]'hj) = true
  | 0, i, hj => by
    have := range_is (k := i + 1) (by omega) h
    rw [risN_at (by omega)] at this
    exact this
  | d + 1, i, hj => by
    have h1 := ris_lt ht h d i (by omega)
    have := range_is (k := i + d + 1 + 1) (by omega) h
    rw [risN_at (by omega)] at this
    exact ht _ _ _ h1 this
theorem sv_one {S : List Sv} (h : risR rSv S = true) {s : ByteArray} {k : Nat} (hk : k < S.length) (he : (S[k].nm.toList == s.toList) = true) : svF S s = some S[k] := by
  refine find_at hk (fun j hj hjk => ?_) he
  have := ris_lt (r := rSv) (fun a b c => less_trans) h (k - j - 1) j (by omega)
  have e2 : j + (k - j - 1) + 1 = k := by omega
  simp only [e2] at this
  refine bytes_ne.2 fun e => ?_
  unfold rSv at this
  rw [e, ← bytes_eq.1 he, less_irrefl] at this
  cases this
theorem sv_none {S : List Sv} {s : ByteArray} (h : (S.any fun x => x.nm.toList == s.toList) = false) : svF S s = none := by
  unfold svF
  rw [List.find?_eq_none]
  rw [List.any_eq_false] at h
  exact h
def sv0 : Sv := ⟨⟨#[]⟩, 0, false, 0, 0, 0, 0, 0, 0, 0, 0, 0, 0⟩

/-- what the place of a berth is -/
def BeIs (Bl : List Be) (s : ByteArray) (c : Int) (t : Bool) : Prop := t = hasBe Bl s ∧ (t = true → ∃ (k : Nat) (h : k < Bl.length), c = (k : Int) ∧ (Bl[k].nm.toList == s.toList) = true)

set_option maxRecDepth 100000 in
set_option maxHeartbeats 4000000 in
theorem berthPlace_any (lo m : Nat) (sv cv bv : Value) (B : Sb) (s : ByteArray) (w : World) (h : SbAt lo w sv cv bv B) (hx : IxAt w m B) (hs : s.size ≤ maxLen) :
    Calls Try.prog 86 #[.agg #[.int .i64 B.now, sv, cv, bv, .map (some m)], .string s] w fun e w' => ∃ (c : Int) (t : Bool), e = .returned (.tuple #[.int .i64 c, .bool t]) ∧ Below w.heap.size w w' ∧ Hid (BeIs B.bs s c t) := by
  obtain ⟨a0, k0, rfl⟩ := h.svs.form
  obtain ⟨a1, k1, rfl⟩ := h.cps.form
  obtain ⟨a2, k2, rfl⟩ := h.bes.form
  clear h
  obtain ⟨n, D, ho, hi⟩ := hx
  have HO := hide ho
  have HI := hide (hi.be s hs)
  have HY := hide (hi.bey s hs)
  have HS := hide hs
  clear ho hi hs
  go_enter Try.func86, Try.ntmps86
  have hl : ∀ o : Obj, ∃ c : Int, (Instr.lookup 71 (.map (some m)) (.agg #[.int .i64 1, .string s]) true).run Try.prog (w.alloc o) = .ok (.tuple #[.int .i64 c, .bool (Maps.has D (ixL 1 s))]) (w.alloc o) ∧ D.atKey (ixL 1 s) (.lit (.int .i64 0)) = .lit (.int .i64 c) := fun o => by
    obtain ⟨v, ps, hrun, hv⟩ := (HO.out.alloc o).look_ok ixKeyed Try.underlying71 (ixZero _) (plainElem_int Try.underlying3 (by decide)) (ixNum.mk' wf1 HS.out)
    obtain ⟨c, rfl, hc, -⟩ := plainElem_int_inv Try.underlying3 hv
    simp only [Prod.mk.injEq] at hc
    exact ⟨c, hrun, hc.1⟩
  obtain ⟨c, hrun, hat⟩ := hl (.cells #[.int .i64 B.now, .slice a0 B.ss.length k0, .slice a1 B.cs.length k1, .slice a2 B.bs.length k2, .map (some m)] 73)
  have HE : Hid (BeIs B.bs s c (Maps.has D (ixL 1 s))) := by
    unfold Hid
    refine ⟨HI.out, fun hq => ?_⟩
    obtain ⟨k, hk, he, hat'⟩ := HY.out hq
    have hck : c = (k : Int) := by
      have := hat.symm.trans hat'
      injection this with e
      injection e
    exact ⟨k, hk, hck, he⟩
  clear hl hat
  generalize Maps.has D (ixL 1 s) = t at *
  go_wp2
  exact bodyPost_ret (v := .tuple #[.int .i64 c, .bool t]) (by simp [results, Try.results86, go_sem]) rfl ⟨c, t, rfl, one_al _ _, HE.out⟩

/-- what the place of a service is -/
def SvIs (S : List Sv) (s : ByteArray) (c : Int) (t : Bool) : Prop := (t = false ∧ svF S s = none) ∨ (t = true ∧ ∃ (k : Nat) (h : k < S.length), c = (k : Int) ∧ svF S s = some S[k] ∧ svI S s = k ∧ S[k].nm = s)
theorem svI_one {S : List Sv} (h : risR rSv S = true) {s : ByteArray} {k : Nat} (hk : k < S.length) (he : (S[k].nm.toList == s.toList) = true) : svI S s = k := by
  refine idx_at (f := fun x : Sv => x.nm.toList == s.toList) hk (fun j hj hjk => ?_) he
  have := ris_lt (r := rSv) (fun a b c => less_trans) h (k - j - 1) j (by omega)
  have e2 : j + (k - j - 1) + 1 = k := by omega
  simp only [e2] at this
  refine bytes_ne.2 fun e => ?_
  unfold rSv at this
  rw [e, ← bytes_eq.1 he, less_irrefl] at this
  cases this

set_option maxRecDepth 100000 in
set_option maxHeartbeats 4000000 in
theorem svcPlace_any (lo m : Nat) (sv cv bv : Value) (B : Sb) (s : ByteArray) (w : World) (h : SbAt lo w sv cv bv B) (hx : IxAt w m B) (hs : s.size ≤ maxLen) (hu : risR rSv B.ss = true) :
    Calls Try.prog 88 #[.agg #[.int .i64 B.now, sv, cv, bv, .map (some m)], .string s] w fun e w' => ∃ (c : Int) (t : Bool), e = .returned (.tuple #[.int .i64 c, .bool t]) ∧ Below w.heap.size w w' ∧ Hid (SvIs B.ss s c t) := by
  obtain ⟨a0, k0, rfl⟩ := h.svs.form
  obtain ⟨a1, k1, rfl⟩ := h.cps.form
  obtain ⟨a2, k2, rfl⟩ := h.bes.form
  clear h
  obtain ⟨n, D, ho, hi⟩ := hx
  have HO := hide ho
  have HI := hide (hi.no s hs)
  have HY := hide (hi.yes s hs)
  have HS := hide hs
  have HU := hide hu
  clear ho hi hs hu
  go_enter Try.func88, Try.ntmps88
  have hl : ∀ o : Obj, ∃ c : Int, (Instr.lookup 71 (.map (some m)) (.agg #[.int .i64 0, .string s]) true).run Try.prog (w.alloc o) = .ok (.tuple #[.int .i64 c, .bool (Maps.has D (ixL 0 s))]) (w.alloc o) ∧ D.atKey (ixL 0 s) (.lit (.int .i64 0)) = .lit (.int .i64 c) := fun o => by
    obtain ⟨v, ps, hrun, hv⟩ := (HO.out.alloc o).look_ok ixKeyed Try.underlying71 (ixZero _) (plainElem_int Try.underlying3 (by decide)) (ixNum.mk' wf0 HS.out)
    obtain ⟨c, rfl, hc, -⟩ := plainElem_int_inv Try.underlying3 hv
    simp only [Prod.mk.injEq] at hc
    exact ⟨c, hrun, hc.1⟩
  obtain ⟨c, hrun, hat⟩ := hl (.cells #[.int .i64 B.now, .slice a0 B.ss.length k0, .slice a1 B.cs.length k1, .slice a2 B.bs.length k2, .map (some m)] 73)
  have HE : Hid (SvIs B.ss s c (Maps.has D (ixL 0 s))) := by
    unfold Hid
    cases hq : Maps.has D (ixL 0 s) with
    | false => exact Or.inl ⟨rfl, sv_none (by rw [← HI.out]; exact hq)⟩
    | true =>
      obtain ⟨k, hk, he, hat'⟩ := HY.out hq
      have hck : c = (k : Int) := by
        have := hat.symm.trans hat'
        injection this with e
        injection e
      exact Or.inr ⟨rfl, k, hk, hck, sv_one HU.out hk he, svI_one HU.out hk he, bytes_eq.1 he⟩
  clear hl hat
  generalize Maps.has D (ixL 0 s) = t at *
  go_wp2
  exact bodyPost_ret (v := .tuple #[.int .i64 c, .bool t]) (by simp [results, Try.results88, go_sem]) rfl ⟨c, t, rfl, one_al _ _, HE.out⟩

set_option maxRecDepth 100000 in
set_option maxHeartbeats 4000000 in
theorem svcOf_any (lo m : Nat) (sv cv bv : Value) (B : Sb) (s : ByteArray) (w : World) (h : SbAt lo w sv cv bv B) (hx : IxAt w m B) (hs : s.size ≤ maxLen) (hu : risR rSv B.ss = true) :
    Calls Try.prog 85 #[.agg #[.int .i64 B.now, sv, cv, bv, .map (some m)], .string s] w fun e w' => ∃ (x : Sv) (t : Bool), e = .returned (.tuple #[.agg #[.string x.nm, .int .i64 x.ve, .bool x.gn, .int .i64 x.im, .int .i64 x.wa, .int .i64 x.dn, .int .i64 x.ov, .int .i64 x.nx, .int .i64 x.pr, .int .i64 x.ls, .int .i64 x.ms, .int .i64 x.ld, .int .i64 x.cl], .bool t]) ∧ Below w.heap.size w w' ∧ Hid (svF B.ss s = if t then some x else none) := by
  have HK := hide h
  have HX := hide hx
  obtain ⟨a0, k0, rfl⟩ := h.svs.form
  obtain ⟨a1, k1, rfl⟩ := h.cps.form
  obtain ⟨a2, k2, rfl⟩ := h.bes.form
  have hmx := h.svs.max
  unfold maxLen at hmx
  have HS := hide hs
  have HU := hide hu
  clear h hx hs hu
  go_enter Try.func85, Try.ntmps85
  go_wp2_with fail
  generalize hWa : World.alloc (w.alloc _) _ = Wa
  have HB0 : Hid (Below w.heap.size w Wa) := by rw [← hWa]; exact (one_al w _).alloc (by simp) _
  have FA0 : Hid (Box Wa w.heap.size #[.int .i64 B.now, .slice a0 B.ss.length k0, .slice a1 B.cs.length k1, .slice a2 B.bs.length k2, .map (some m)]) := by rw [← hWa]; exact (Box.new _ _ _ _ rfl).on (one_al _ _)
  have FR0 : Hid (Box Wa (w.heap.size + 1) #[.string ⟨#[]⟩, .int .i64 0, .bool false, .int .i64 0, .int .i64 0, .int .i64 0, .int .i64 0, .int .i64 0, .int .i64 0, .int .i64 0, .int .i64 0, .int .i64 0, .int .i64 0]) := by rw [← hWa]; exact Box.new _ _ _ _ (by simp)
  clear hWa
  refine (svcPlace_any lo m _ _ _ B s _ (HK.out.below HB0.out) (HX.out.below HB0.out) HS.out HU.out).mono ?_
  rintro e w1 ⟨c, t, rfl, hb1, hf⟩
  have HB1 := hide (bt HB0.out hb1)
  have FA1 := hide (FA0.out.on hb1)
  have FR1 := hide (FR0.out.on hb1)
  clear hb1 FA0 FR0 HB0 HX
  have hlt := HB1.out.size
  have r0 := FR1.out.cell
  have g0 := FR1.out.free
  rcases hf.out with ⟨rfl, hn⟩ | ⟨rfl, k, hk, rfl, hs, -, -⟩
  · have HE := hide hn
    clear hn hf
    go_wp2
    refine bodyPost_ret (v := .tuple #[.agg #[.string ⟨#[]⟩, .int .i64 0, .bool false, .int .i64 0, .int .i64 0, .int .i64 0, .int .i64 0, .int .i64 0, .int .i64 0, .int .i64 0, .int .i64 0, .int .i64 0, .int .i64 0], .bool false]) (by simp [results, Try.results85, go_sem, r0]) rfl ⟨sv0, false, rfl, ?_, HE.out⟩
    repeat (refine Below.setCell ?_ (by simp) _)
    exact HB1.out
  · have HE := hide hs
    clear hs hf
    obtain ⟨b, off, rfl, hbw, -, hc⟩ := HK.out.svs.full' (by omega)
    have hc1 := (hc k hk).2.below HB1.out hbw
    obtain ⟨c0, c1, c2, c3, c4, c5, c6, c7, c8, c9, c10, c11, c12⟩ := hc1
    have x0 := FA1.out.cell
    clear hc
    go_wp2
    refine bodyPost_ret (v := .tuple #[.agg #[.string B.ss[k].nm, .int .i64 B.ss[k].ve, .bool B.ss[k].gn, .int .i64 B.ss[k].im, .int .i64 B.ss[k].wa, .int .i64 B.ss[k].dn, .int .i64 B.ss[k].ov, .int .i64 B.ss[k].nx, .int .i64 B.ss[k].pr, .int .i64 B.ss[k].ls, .int .i64 B.ss[k].ms, .int .i64 B.ss[k].ld, .int .i64 B.ss[k].cl], .bool true]) (by simp [results, Try.results85, go_sem, r0]) rfl ⟨B.ss[k], true, rfl, ?_, HE.out⟩
    repeat (refine Below.setCell ?_ (by simp) _)
    exact HB1.out
end Go.Proofs.Ythecacabcgaenaa
