import Derived.Test.YtfbfgljkiikabaaV11
import Derived.Test.YtfbfgljkiikabaaV19
namespace Go.Proofs.Ytfbfgljkiikabaa
open Go.RowKit Go.Deep

theorem RtsFill.own {wr : World} {B : Nat} {Xl : List ByteArray} {k : Nat} (h : RtsFill wr B Xl k) (hk : Xl.length ≤ k) (hne : Xl ≠ []) (hm : Xl.length ≤ maxLen) : RtsOwn B wr.heap.size wr (.slice (some ⟨B, 0, none⟩) Xl.length Xl.length) Xl := by
  obtain ⟨f, hr, hall⟩ := h
  refine Or.inr ⟨B, 0, Xl.length, rfl, hne, hm, Nat.le_refl _, hr.lt, fun i hi => by
    obtain ⟨hz, h0⟩ := hall i hi (by omega)
    exact ⟨hz, by rw [Nat.zero_add, hr.cell hi, h0]⟩, Nat.le_refl _, hr.lt, fun i => hr.frozen _⟩

set_option maxHeartbeats 1000000 in
theorem toRtsO_any (lo : Nat) (v : Value) (Xl : List ByteArray) (w : World) (hv : RtsAt lo w v Xl) (hn : RtsSmall Xl) :
    Calls Try.prog 30 #[v] w fun e w' => ∃ v', e = .returned v' ∧ Below w.heap.size w w' ∧ RtsOwn w.heap.size w'.heap.size w' v' Xl := by
  unfold RtsSmall at hn
  by_cases hL : Xl = []
  · subst hL
    obtain ⟨a, cap, rfl⟩ := hv.form
    clear hv
    have hmk : ∀ u : World, (Instr.makeSlice 28 (.int .i64 0) (.int .i64 0)).run Try.prog u = .ok (.slice (some ⟨u.heap.size, 0, none⟩) 0 0) (u.alloc (.cells (madeCells #[.string ⟨#[]⟩] 0) 9)) :=
      fun u => run_make_row' 28 9 (.string ⟨#[]⟩) 16 Try.underlying28 Try.infoRts rfl .i64 .i64 0 (by omega) (by omega) u
    go_enter Try.func30, Try.ntmps30
    go_wp2
    go_loop [4] (fun i => i = .int .i64 0) (fun _ => 0)
    case atStart => rfl
    case round =>
      subst hrel
      go_wp2
      go_ret
      exact ⟨_, rfl, (Below.refl _ _).alloc (Nat.le_refl _) _, Or.inl ⟨_, _, rfl, rfl⟩⟩
  · obtain ⟨b, off, cap, rfl, hm, hbw, _, hc⟩ := hv.full hL
    clear hv
    have HM : Hid (Xl.length ≤ maxLen) := hm
    unfold maxLen at hm
    have hmk : ∀ u : World, (Instr.makeSlice 28 (.int .i64 (Xl.length : Int)) (.int .i64 (Xl.length : Int))).run Try.prog u = .ok (.slice (some ⟨u.heap.size, 0, none⟩) Xl.length Xl.length) (u.alloc (.cells (madeCells #[.string ⟨#[]⟩] Xl.length) 9)) :=
      fun u => run_make_row' 28 9 (.string ⟨#[]⟩) 16 Try.underlying28 Try.infoRts rfl .i64 .i64 Xl.length (by omega) (by omega) u
    go_enter Try.func30, Try.ntmps30
    go_wp2
    clear hmk
    go_loopw [4] (fun i wr => ∃ k : Nat, i = .int .i64 k ∧ k ≤ Xl.length ∧ Below w.heap.size w wr ∧ RtsFill wr w.heap.size Xl k) (fun i _ => Xl.length - (intOf i).toNat)
    case atStart => exact ⟨0, rfl, by omega, (Below.refl _ _).alloc (Nat.le_refl _) _, ⟨_, World.rowIs_made w (.string ⟨#[]⟩) Xl.length 9, fun i _ h => by omega⟩⟩
    case round =>
      obtain ⟨k, rfl, hk, hb, hf⟩ := hrel
      by_cases hlt : k < Xl.length
      · obtain ⟨hz, hck⟩ := hc k hlt
        rw [← hb.cell (p := ⟨b, off + k, none⟩) hbw] at hck
        obtain ⟨v0, hold⟩ := hf.there k hlt
        have hfz := hf.free k
        have HZ := hide hz
        have HF := hide hf
        have HB := hide hb
        clear hz hf hb
        go_wp2
        go_roundw
        case rel => exact ⟨k + 1, by go_num, by omega, HB.out.setCell (Nat.le_refl _) _, HF.out.step hlt HZ.out⟩
        case measure => simp [intOf]; omega
      · go_wp2
        go_ret
        exact ⟨_, rfl, hb, hf.own (by omega) hL HM.out⟩
end Go.Proofs.Ytfbfgljkiikabaa
namespace Go.Proofs.Ytfbfgljkiikabaa
open Go.RowKit Go.Deep

/-- a stewards' book -/
structure Sb where
  now : Int
  ss : List Sv
  cs : List Cp
  bs : List Be
/-- a book in memory, all of it above lo -/
structure SbAt (lo : Nat) (w : World) (sv cv bv : Value) (B : Sb) : Prop where
  svs : SvsAt lo w sv B.ss
  cps : CpsAt lo w cv B.cs
  bes : BesAt lo w bv B.bs
theorem SbAt.below {lo : Nat} {w w' : World} {sv cv bv : Value} {B : Sb} (h : SbAt lo w sv cv bv B) (hb : Below w.heap.size w w') : SbAt lo w' sv cv bv B :=
  ⟨h.svs.below hb, h.cps.below hb, h.bes.below hb⟩
theorem SbAt.mono {lo lo' : Nat} {w : World} {sv cv bv : Value} {B : Sb} (h : SbAt lo w sv cv bv B) (hl : lo' ≤ lo) : SbAt lo' w sv cv bv B :=
  ⟨h.svs.mono hl, h.cps.mono hl, h.bes.mono hl⟩
theorem SbAt.set {lo : Nat} {w : World} {sv cv bv : Value} {B : Sb} (h : SbAt lo w sv cv bv B) {p : Addr} (hp : p.block < lo) (u : Value) : SbAt lo (w.setCell p u) sv cv bv B :=
  ⟨h.svs.set hp u, h.cps.set hp u, h.bes.set hp u⟩
def SbSmall (B : Sb) : Prop := SvsSmall B.ss ∧ CpsSmall B.cs ∧ BesSmall B.bs

section
variable (lo : Nat) (sv cv bv : Value) (B : Sb) (w : World)

end
end Go.Proofs.Ytfbfgljkiikabaa
namespace Go.Proofs.Ytfbfgljkiikabaa
open Go.RowKit Go.Deep

/-! what is asked of a stewards' book -/
theorem inB_lo {lo hi n : Int} (h : inB lo hi n = true) : lo ≤ n := by unfold inB at h; simp at h; exact h.1
theorem inB_hi {lo hi n : Int} (h : inB lo hi n = true) : n ≤ hi := by unfold inB at h; simp at h; exact h.2
def nmB (s : ByteArray) : Bool := inB 1 20 s.size && allB nameByte s
def perB (x : Sv) : Bool := if x.pr == 0 then (x.ls == 0) && ((x.ms == 0) && ((x.ld == 0) && (x.cl == 0))) else inB 0 1000000 x.pr && (inB 0 1000000 x.ld && (inB 0 10 x.ls && (inB x.ls 10 x.ms && inB 0 3 x.cl)))
def svB (now : Int) (x : Sv) : Bool := (nmB x.nm && (inB 1 now x.ve && (inB 1 1000000 x.im && (inB 1 1000000 x.nx && (inB 0 10 x.wa && (inB 0 10 x.dn && (inB 0 10 x.ov && (!(x.dn + x.ov == 0) && perB x))))))))
/-- the place of the first that is so -/
def pls {X : Type} (p : X → Bool) (L : List X) : Int := match L.findIdx? p with | some i => i | none => -1
def svP (L : List Sv) (s : ByteArray) : Int := pls (fun x => x.nm.toList == s.toList) L
def beP (L : List Be) (s : ByteArray) : Int := pls (fun x => x.nm.toList == s.toList) L
end Go.Proofs.Ytfbfgljkiikabaa
namespace Go.Proofs.Ytfbfgljkiikabaa
open Go.RowKit Go.Deep

/-! rows that grow and may be nil; rows whose things have lists of their own inside -/
def NRow {X : Type} (f : X → List Value) (n : Nat) (w : World) (lo hi : Nat) (v : Value) (L : List X) : Prop := (v = .slice none 0 0 ∧ L = []) ∨ FRow f n w lo hi v L
theorem NRow.below {X : Type} {f : X → List Value} {n : Nat} {w w' : World} {lo hi : Nat} {v : Value} {L : List X} (h : NRow f n w lo hi v L) (hb : Below w.heap.size w w') : NRow f n w' lo hi v L := h.imp id fun h => h.below hb
theorem NRow.touch {X : Type} {f : X → List Value} {n : Nat} {w w' : World} {lo hi lo' hi' : Nat} {v : Value} {L : List X} (h : NRow f n w lo hi v L) (ht : Touch lo' hi' w w') (ho : hi ≤ lo' ∨ hi' ≤ lo) : NRow f n w' lo hi v L := h.imp id fun h => h.touch ht ho
theorem NRow.wide {X : Type} {f : X → List Value} {n : Nat} {w : World} {lo hi lo' hi' : Nat} {v : Value} {L : List X} (h : NRow f n w lo hi v L) (h1 : lo' ≤ lo) (h2 : hi ≤ hi') : NRow f n w lo' hi' v L := h.imp id fun h => h.wide h1 h2
theorem NRow.set {X : Type} {f : X → List Value} {n : Nat} {w : World} {lo hi : Nat} {v : Value} {L : List X} (h : NRow f n w lo hi v L) {p : Addr} (hp : p.block < lo) (u : Value) : NRow f n (w.setCell p u) lo hi v L :=
  h.touch (Touch.setCell p.block (p.block + 1) w p u ⟨Nat.le_refl _, Nat.lt_succ_self _⟩) (Or.inr hp)
theorem NRow.form {X : Type} {f : X → List Value} {n : Nat} {w : World} {lo hi : Nat} {v : Value} {L : List X} (h : NRow f n w lo hi v L) : ∃ a c, v = .slice a L.length c := by
  rcases h with ⟨h, rfl⟩ | ⟨g, cap, h, _⟩
  · exact ⟨none, 0, h⟩
  · exact ⟨_, _, h⟩
theorem NRow.nil {X : Type} (f : X → List Value) (n : Nat) (w : World) (lo hi : Nat) : NRow f n w lo hi (.slice none 0 0) [] := Or.inl ⟨rfl, rfl⟩
theorem run_nilapp {P : Program} (w : World) (t ty e : TypeId) (i : TypeInfo) (z : Value) (size bytes : Nat) (ht : P.underlying t = some (.slice e)) (hi : P.info? e = some i) (hz : i.zero = some z)
    (hsize : i.size = size) (hby : i.bytes = bytes) (hzs : z.cells.size = size) (a : Addr) (m c : Nat) (news : List Value) (hl : news.length = m * size) (hnews : ∀ j u, news[j]? = some u → w.cell? (a.add j) = some u)
    (h0 : 0 < m) (h63 : m ≤ maxLen) (hbytes : m * bytes ≤ 140737488355328) :
    ∃ v' w', (Builtin.append_ #[t, t] ty #[.slice none 0 0, .slice (some a) m c]).run P w = .ok v' w' ∧ w'.ownsRow w.heap.size e size v' m news ∧ Below w.heap.size w w' := by
  subst hsize
  subst hby
  have hsmall : m ≤ 9223372036854775807 := by simp only [maxLen] at h63; omega
  have hge := grownCap_ge w m 0 e
  have hcm : grownCap w m 0 e ≤ maxLen := grownCap_le_maxLen w m 0 e h63
  have hr := run_append_nil (P := P) w t ty e i z ht hi hz a m c news hl hnews h0 (by omega) (by omega)
  refine ⟨_, _, hr, ⟨hl, .inr ⟨w.heap.size, _, _, rfl, Nat.le_refl _, heap_alloc_new w.drew _, hge, hcm, ?_, ?_⟩⟩, ⟨rfl, rfl, rfl, by simp, fun k hk => heap_alloc_old w.drew _ hk⟩⟩
  · simp only [Array.size_append, List.size_toArray, size_zeroCells, hzs, hl, ← Nat.add_mul]
    congr 1
    omega
  · simp only [Array.toList_append]
    rw [← hl]
    exact List.take_left
/-- append to a row that grows or is nil: where it moves or is new, it lies behind all that is there -/
theorem run_nr {X : Type} {f : X → List Value} {n bytes : Nat} (hf : ∀ x, (f x).length = n) (hn : 0 < n) {t e : TypeId} {z : Value} (ht : Try.prog.underlying t = some (.slice e)) (hi : (Try.prog.info? e).map (fun i => (i.zero, i.size, i.bytes)) = some (some z, n, bytes)) (hzs : z.cells.size = n)
    {w : World} {lo hi' : Nat} {v : Value} {L M : List X} (ty : TypeId) (h : NRow f n w lo hi' v L) (ao : Option Addr) (m c : Nat) (hM : m = M.length) (hm : ao = none → m = 0)
    (hsrc : ∀ ad, ao = some ad → ∀ j u, (flatV f M)[j]? = some u → w.cell? (ad.add j) = some u) (h1 : ∀ u ∈ flatV f M, u.oneCell' = true) (hb : L.length + M.length ≤ 10000000) (hby : bytes ≤ 1000000) :
    ∃ v' w', (Builtin.append_ #[t, t] ty #[v, .slice ao m c]).run Try.prog w = .ok v' w' ∧ Touch lo hi' w w' ∧ (NRow f n w' lo hi' v' (L ++ M) ∨ NRow f n w' w.heap.size w'.heap.size v' (L ++ M)) := by
  rcases h with ⟨rfl, rfl⟩ | h
  · have hex : ∃ i, Try.prog.info? e = some i ∧ i.zero = some z ∧ i.size = n ∧ i.bytes = bytes := by
      cases hh : Try.prog.info? e with
      | none => rw [hh] at hi; simp at hi
      | some i =>
        rw [hh] at hi
        simp only [Option.map_some, Option.some.injEq, Prod.mk.injEq] at hi
        exact ⟨i, rfl, hi.1, hi.2.1, hi.2.2⟩
    obtain ⟨i0, hi0, hz0, hz1, hz2⟩ := hex
    have hlm : (flatV f M).length = M.length * n := flatV_len hf M
    subst hM
    simp only [List.length_nil, Nat.zero_add] at hb
    by_cases h0 : M.length = 0
    · obtain rfl : M = [] := List.eq_nil_of_length_eq_zero h0
      refine ⟨.slice none 0 0, w, ?_, Touch.refl _ _ _, Or.inl (Or.inl ⟨rfl, rfl⟩)⟩
      cases ao with
      | none => simp [Builtin.append_, run_underlying ht, sizeOf, typeInfo, hi0, Builtin.lenOf, Builtin.firstCells]
      | some ad => simp [Builtin.append_, run_underlying ht, sizeOf, typeInfo, hi0, Builtin.lenOf, Builtin.firstCells, loadCells, loadCellsFrom]
    · cases ao with
      | none => exact absurd (hm rfl) h0
      | some ad =>
        obtain ⟨v', w', h2, h3, h4⟩ := run_nilapp (P := Try.prog) w t ty e i0 z n bytes ht hi0 hz0 hz1 hz2 hzs ad M.length c (flatV f M) hlm (hsrc ad rfl) (by omega) (by unfold maxLen; omega) (by
            have := Nat.mul_le_mul hb hby
            omega)
        exact ⟨v', w', h2, Touch.below h4, Or.inr (Or.inr (owns_fr hf h3 rfl (by omega)))⟩
  · obtain ⟨v', w', h2, h3, h4⟩ := run_fr hf hn ht hi hzs ty h ao m c hM hm hsrc h1 hb hby
    exact ⟨v', w', h2, h3, h4.imp Or.inr Or.inr⟩
theorem wpList_nr {X : Type} {f : X → List Value} {n bytes : Nat} (hf : ∀ x, (f x).length = n) (hn : 0 < n) {t e : TypeId} {z : Value} (ht : Try.prog.underlying t = some (.slice e)) (hi : (Try.prog.info? e).map (fun i => (i.zero, i.size, i.bytes)) = some (some z, n, bytes)) (hzs : z.cells.size = n)
    {w : World} {lo hi' : Nat} {v : Value} {L : List X} (M : List X) {ops : Array Oper} {rest : List Oper} {o : Oper} {a : Act} {Q : Exit → Act → World → Prop} (hgd : o.guard = none) (s x : Operand)
    (ho : o.op = .call { callee := .builtin .append, args := #[s, x], argTypes := #[t, t] }) (hs : a.eval s = v) (h : NRow f n w lo hi' v L) (ao : Option Addr) (m c : Nat) (hx : a.eval x = .slice ao m c) (hM : m = M.length) (hm : ao = none → m = 0)
    (hsrc : ∀ ad, ao = some ad → ∀ j u, (flatV f M)[j]? = some u → w.cell? (ad.add j) = some u) (h1 : ∀ u ∈ flatV f M, u.oneCell' = true) (hb : L.length + M.length ≤ 10000000) (hby : bytes ≤ 1000000)
    (K : ∀ v' w', Touch lo hi' w w' → (NRow f n w' lo hi' v' (L ++ M) ∨ NRow f n w' w.heap.size w'.heap.size v' (L ++ M)) → wpList Try.prog ops Q rest (a.put o.dst v') w') : wpList Try.prog ops Q (o :: rest) a w := by
  obtain ⟨v', w', h2, h3, h4⟩ := run_nr hf hn ht hi hzs o.type h ao m c hM hm hsrc h1 hb hby
  exact wpList_append_run hgd s x _ ho hs hx h2 (K v' w' h3 h4)
theorem NRow.rss {w : World} {lo hi : Nat} {v : Value} {L : List Rs} (h : NRow rsL 2 w lo hi v L) (hz : ∀ i (h : i < L.length), RsSize L[i]) : RssOwn lo hi w v L := by
  rcases h with ⟨h, rfl⟩ | ⟨g, cap, h1, h2⟩
  · exact Or.inl ⟨_, _, h, rfl⟩
  by_cases hL : L = []
  · subst hL; exact Or.inl ⟨_, _, h1, rfl⟩
  · have h0 : 0 < L.length := List.length_pos_iff.2 hL
    refine Or.inr ⟨g, 0, cap, fun _ => g + 1, fun i => if h : i < L.length then L[i] else L[0], h1, hL, Nat.le_trans h2.le h2.mx, h2.le, fun i hi => by simp [hi], h2.lt, h2.bs, Nat.lt_succ_self _, h2.up, fun _ _ => Nat.le_refl _, h2.up, h2.fz, fun i hi => ?_⟩
    simp only [hi, dif_pos]
    have e0 := h2.get rsL_len hi (t := 0) (by omega) (v := .int .i64 L[i].ba) rfl
    have e1 := h2.get rsL_len hi (t := 1) (by omega) (v := .string L[i].tx) rfl
    exact ⟨hz i hi, ⟨by rw [Nat.zero_add]; exact e0, by rw [Nat.zero_add]; exact e1⟩⟩
end Go.Proofs.Ytfbfgljkiikabaa
