import Derived.Test.YtfbfgljkiikabaaV33
import Derived.Test.YtfbfgljkiikabaaV34
import Derived.OrdersHeld
import Derived.Deep.RegionHeld3
namespace Go.Proofs.Ytfbfgljkiikabaa
open Go.RowKit Go.Deep

def wishOkB (U : Rr) (tx : ByteArray) : Bool := !decide ((tx.size : Int) < 1) && (!decide (160 < (tx.size : Int)) && (!decide (20 ≤ (U.wi.length : Int)) && (!hasSl (U.dk.sl.take U.dk.kn.toNat) tx && !(U.wi.any (fun s => s.toList == tx.toList)))))
def wishU (U : Rr) (tx : ByteArray) : Rr := if wishOkB U tx then { U with wi := U.wi ++ [tx] } else U
theorem RssAt.takeR {lo : Nat} {w : World} {a : Option Addr} {cap n : Nat} {L : List Rs} (h : RssAt lo w (.slice a L.length cap) L) (k : Nat) (hn : n = k) (hk : k ≤ L.length) : RssAt lo w (.slice a n cap) (L.take k) := by
  subst hn
  by_cases h0 : n = 0
  · subst h0
    exact Or.inl ⟨a, cap, rfl, rfl⟩
  · have hl : (L.take n).length = n := by simp; omega
    rcases h with ⟨_, _, _, e⟩ | ⟨b, off, c2, h1, h2, h3, h4, h5, h6, h7⟩
    · rw [e] at hk; simp at hk; omega
    · injection h1 with e1 e2 e3
      subst e3
      subst e1
      refine Or.inr ⟨b, off, cap, by rw [hl], by intro e; rw [e] at hl; simp at hl; omega, by omega, h4, h5, by omega, fun i hi => ?_⟩
      rw [List.getElem_take]
      exact h7 i (by omega)
end Go.Proofs.Ytfbfgljkiikabaa
namespace Go.Proofs.Ytfbfgljkiikabaa
open Go.RowKit Go.Deep

theorem szN {cs : List Value} (h : cs.length = 18) : (Try.prog.info? 40).map (·.size) = some cs.toArray.size := by rw [show cs.toArray.size = 18 from h]; exact sizeRr
def specW (U : Rr) (tx : ByteArray) : Rr := if validR U then (if U.up then wishU U tx else U) else nwU 0 0 false
theorem wish_small {U : Rr} (h : RrSmall U) (tx : ByteArray) : RrSmall (wishU U tx) := by
  unfold wishU
  split
  · rename_i hw
    obtain ⟨h0, h1, h2, h3, h4, h5, h6⟩ := h
    refine ⟨h0, h1, h2, ?_, h4, h5, h6⟩
    unfold wishOkB at hw
    simp only [Bool.and_eq_true, Bool.not_eq_true', decide_eq_false_iff_not] at hw
    unfold RtsSmall at h3 ⊢
    simp only [List.length_append, List.length_cons, List.length_nil]
    omega
  · exact h
theorem nw_small (n of : Int) (up : Bool) : RrSmall (nwU n of up) := by
  unfold RrSmall RdSmall RssSmall RmsSmall RtsSmall RisSmall RasSmall nwU
  simp
theorem specW_small {U : Rr} (h : RrSmall U) (tx : ByteArray) : RrSmall (specW U tx) := by
  unfold specW
  split
  · split
    · exact wish_small h tx
    · exact h
  · exact nw_small _ _ _
theorem valid_kn {U : Rr} (h : validR U = true) : 0 ≤ U.dk.kn ∧ U.dk.kn ≤ (U.dk.sl.length : Int) := by
  unfold validR at h
  simp only [Bool.and_eq_true] at h
  have h2 := h.2.2.2.1
  unfold diskB at h2
  simp only [Bool.and_eq_true] at h2
  have h3 := h2.2.2.1
  unfold inB at h3
  simpa using h3
theorem nwL_len (n of : Int) (up : Bool) : (nwL n of up).length = 18 := rfl
theorem rrL_len (U : Rr) (a0 : Option Addr) (k0 : Nat) ( a1 : Option Addr) (k1 : Nat) ( a2 : Option Addr) (k2 : Nat) ( a3 : Option Addr) (k3 : Nat) ( a4 : Option Addr) (k4 : Nat) ( a5 : Option Addr) (k5 : Nat) (a6 : Option Addr) (k6 : Nat) : (rrL U a0 k0 a1 k1 a2 k2 a3 k3 a4 k4 a5 k5 a6 k6).length = 18 := rfl
theorem rrL_one (U : Rr) (a0 : Option Addr) (k0 : Nat) ( a1 : Option Addr) (k1 : Nat) ( a2 : Option Addr) (k2 : Nat) ( a3 : Option Addr) (k3 : Nat) ( a4 : Option Addr) (k4 : Nat) ( a5 : Option Addr) (k5 : Nat) (a6 : Option Addr) (k6 : Nat) : (rrL U a0 k0 a1 k1 a2 k2 a3 k3 a4 k4 a5 k5 a6 k6).toArray.all (·.oneCell') = true := by simp [rrL, Value.oneCell']
theorem nwL_one (n of : Int) (up : Bool) : (nwL n of up).toArray.all (·.oneCell') = true := by simp [nwL, Value.oneCell']

theorem Touch.belowB {lo hi : Nat} {w w' : World} (h : Touch lo hi w w') {p : Addr} (hp : p.block < w.heap.size) (ho : hi ≤ p.block) : w'.cell? p = w.cell? p := h.cell hp (Or.inr ho)
theorem RssAt.tup {lo l u : Nat} {w w' : World} {v : Value} {L : List Rs} (h : RssAt lo w v L) (ht : Touch l u w w') (hu : u ≤ lo) : RssAt lo w' v L := by
  rcases h with h | ⟨b, off, cap, h1, h2, h3, h4, h5, h6, h7⟩
  · exact Or.inl h
  · refine Or.inr ⟨b, off, cap, h1, h2, h3, Nat.lt_of_lt_of_le h4 ht.size, h5, h6, fun i hi => ?_⟩
    obtain ⟨hs, hc⟩ := h7 i hi
    exact ⟨hs, ⟨(ht.belowB (p := ⟨b, _, none⟩) h4 (Nat.le_trans hu h5)).trans hc.c0, (ht.belowB (p := ⟨b, _, none⟩) h4 (Nat.le_trans hu h5)).trans hc.c1⟩⟩
theorem RisAt.tup {lo l u : Nat} {w w' : World} {v : Value} {L : List Int} (h : RisAt lo w v L) (ht : Touch l u w w') (hu : u ≤ lo) : RisAt lo w' v L := by
  rcases h with h | ⟨b, off, cap, h1, h2, h3, h4, h5, h6, h7⟩
  · exact Or.inl h
  · exact Or.inr ⟨b, off, cap, h1, h2, h3, Nat.lt_of_lt_of_le h4 ht.size, h5, h6, fun i hi => ⟨(h7 i hi).1, (ht.belowB (p := ⟨b, _, none⟩) h4 (Nat.le_trans hu h5)).trans (h7 i hi).2⟩⟩
theorem RtsAt.tup {lo l u : Nat} {w w' : World} {v : Value} {L : List ByteArray} (h : RtsAt lo w v L) (ht : Touch l u w w') (hu : u ≤ lo) : RtsAt lo w' v L := by
  rcases h with h | ⟨b, off, cap, h1, h2, h3, h4, h5, h6, h7⟩
  · exact Or.inl h
  · exact Or.inr ⟨b, off, cap, h1, h2, h3, Nat.lt_of_lt_of_le h4 ht.size, h5, h6, fun i hi => ⟨(h7 i hi).1, (ht.belowB (p := ⟨b, _, none⟩) h4 (Nat.le_trans hu h5)).trans (h7 i hi).2⟩⟩
theorem rng_tup {l u b o : Nat} {w w' : World} {cs : List Value} (h : w.rangeAt b o cs) (ht : Touch l u w w') (hb : b < w.heap.size) (hu : u ≤ b) : w'.rangeAt b o cs := fun j v hv => (ht.belowB (p := ⟨b, o + j, none⟩) hb hu).trans (h j v hv)
theorem RmsAt.tup {lo l u : Nat} {w w' : World} {v : Value} {L : List Rm} (h : RmsAt lo w v L) (ht : Touch l u w w') (hu : u ≤ lo) : RmsAt lo w' v L := by
  rcases h with h | ⟨b, off, cap, h1, h2, h3, h4, h5, h6, h7⟩
  · exact Or.inl h
  · refine Or.inr ⟨b, off, cap, h1, h2, h3, Nat.lt_of_lt_of_le h4 ht.size, h5, h6, fun i hi => ?_⟩
    obtain ⟨cs, hr, a0, k0, e, hf⟩ := h7 i hi
    exact ⟨cs, rng_tup hr ht h4 (Nat.le_trans hu h5), a0, k0, e, ⟨hf.l0.tup ht hu, hf.s0⟩⟩
theorem RasAt.tup {lo l u : Nat} {w w' : World} {v : Value} {L : List Ra} (h : RasAt lo w v L) (ht : Touch l u w w') (hu : u ≤ lo) : RasAt lo w' v L := by
  rcases h with h | ⟨b, off, cap, h1, h2, h3, h4, h5, h6, h7⟩
  · exact Or.inl h
  · refine Or.inr ⟨b, off, cap, h1, h2, h3, Nat.lt_of_lt_of_le h4 ht.size, h5, h6, fun i hi => ?_⟩
    obtain ⟨cs, hr, a0, k0, e, hf⟩ := h7 i hi
    exact ⟨cs, rng_tup hr ht h4 (Nat.le_trans hu h5), a0, k0, e, ⟨hf.l0.tup ht hu⟩⟩
theorem RrAt.touchUp {lo l u : Nat} {w w' : World} {v0 v1 v2 v3 v4 v5 v6 : Value} {U : Rr} (h : RrAt lo w v0 v1 v2 v3 v4 v5 v6 U) (ht : Touch l u w w') (hu : u ≤ lo) : RrAt lo w' v0 v1 v2 v3 v4 v5 v6 U :=
  ⟨h.l0.tup ht hu, h.l1.tup ht hu, h.l2.tup ht hu, h.l3.tup ht hu, h.l4.tup ht hu, h.l5.tup ht hu, h.l6.tup ht hu⟩


end Go.Proofs.Ytfbfgljkiikabaa
namespace Go.Proofs.Ytfbfgljkiikabaa
open Go.RowKit Go.Deep

/-! a region that draws, with operations B that break what the loads read (S): whatever is taken first is waited for by all of B -/
section
variable {P : Program} {ops : Array Oper} {Q : Exit → Act → World → Prop} {md : Region.Mode} {S : World → Prop} {B : List Nat}

/-- whatever order is picked, and S holds behind every operation but those of B -/
def wpAnyB (P : Program) (md : Region.Mode) (ops : Array Oper) (Q : Exit → Act → World → Prop) (S : World → Prop) (B : List Nat) : Nat → Array Bool → Act → World → Prop
  | 0, listed, a, w => Region.ready md ops listed = [] ∧ Q .normal a w
  | fuel + 1, listed, a, w =>
    (Region.ready md ops listed = [] → Q .normal a w) ∧
    ∀ i ∈ Region.ready md ops listed, wpOp P ops Q i (fun a' w' => (i ∉ B → S w') ∧ wpAnyB P md ops Q S B fuel (listed.setIfInBounds i true) a' w') a w
theorem wpAny_of_B : ∀ (fuel : Nat) (listed : Array Bool) (a : Act) (w : World), wpAnyB P md ops Q S B fuel listed a w → wpAny P md ops Q fuel listed a w
  | 0, _, _, _, h => h
  | fuel + 1, _, _, _, h => ⟨h.1, fun i hi => wpOp_mono (fun a' w' h' => wpAny_of_B fuel _ a' w' h'.2) (h.2 i hi)⟩
/-- each of D waits for i, or for one of D -/
def waitsB (md : Region.Mode) (ops : Array Oper) (i : Nat) (D : List Nat) : Bool := D.all fun j => match ops[j]? with
  | some oj => oj.after.any fun e => Region.binds md e && ((e.on == i) || D.contains e.on)
  | none => false
theorem waitsB_no {listed : Array Bool} {i : Nat} {D : List Nat} (hD : waitsB md ops i D = true) (hi : listed.getD i true = false) (hun : ∀ j ∈ D, listed.getD j true = false) {j : Nat} (hj : j ∈ Region.ready md ops listed) : j ∉ D := by
  intro hjD
  unfold waitsB at hD
  rw [List.all_eq_true] at hD
  have h1 := hD j hjD
  obtain ⟨-, oj, hoj, hall⟩ := mem_ready.1 hj
  rw [hoj] at h1
  simp only [Array.any_eq_true] at h1
  obtain ⟨k, hk, he⟩ := h1
  rw [Bool.and_eq_true, Bool.or_eq_true, beq_iff_eq] at he
  have h2 := hall _ (Array.getElem_mem hk) he.1
  have h3 : listed.getD (oj.after[k]).on true = false := by
    rcases he.2 with h | h
    · rw [h]; exact hi
    · exact hun _ (by simpa using h)
  rcases Nat.lt_or_ge (oj.after[k]).on listed.size with h' | h'
  · simp [h'] at h2 h3; rw [h3] at h2; cases h2
  · simp [Array.getElem?_eq_none h'] at h2
theorem wpAnyB_first {i : Nat} {oi : Oper} {v : Value} {D : List Nat} (hi : ops[i]? = some oi) (hsel : ∀ (j : Nat) (o : Oper) cs b, ops[j]? = some o → o.op ≠ .select cs b)
    (hQ : ∀ c a w, Q (.panic c) (a.put oi.dst v) w → Q (.panic c) a w) (hD : waitsB md ops i D = true) (hl : ∀ b ∈ B, b ∈ D) (hil : i ∉ B) (hiD : i ∉ D) :
    ∀ (fuel : Nat) (listed : Array Bool) (a : Act) (w : World),
      (∀ j oj, ops[j]? = some oj → j ≠ i → listed.getD j true = false → (∀ e ∈ oj.after, Region.binds md e = true → e.on ≠ i) → oi.apart ops oj = true) →
      (∀ j ∈ D, listed.getD j true = false) →
      i ∈ Region.ready md ops listed → YieldsIf P ops S oi v a → S w →
      wpAnyB P md ops Q S B fuel (listed.setIfInBounds i true) (a.put oi.dst v) w → wpAnyB P md ops Q S B (fuel + 1) listed a w := by
  intro fuel
  induction fuel with
  | zero =>
    intro listed a w _ _ hr hy hS H
    refine ⟨fun h => (by rw [h] at hr; cases hr), fun j hj => ?_⟩
    by_cases hji : j = i
    · subst hji; exact hy.wpOp hi hS ⟨fun _ => hS, H⟩
    · have := ready_mono hj hji
      rw [H.1] at this
      cases this
  | succ fuel ih =>
    intro listed a w hfree hun hr hy hS H
    refine ⟨fun h => (by rw [h] at hr; cases hr), fun j hj => ?_⟩
    by_cases hji : j = i
    · subst hji; exact hy.wpOp hi hS ⟨fun _ => hS, H⟩
    · have hjD : j ∉ D := waitsB_no hD (mem_ready.1 hr).1 hun hj
      have hjl : j ∉ B := fun e => hjD (hl j e)
      have h1 := H.2 j (ready_mono hj hji)
      obtain ⟨hjun, oj, hoj, hall⟩ := mem_ready.1 hj
      have hnot : ∀ e ∈ oj.after, Region.binds md e = true → e.on ≠ i := fun e he hb heq => by
        have h1 := hall e he hb
        have h0 := (mem_ready.1 hr).1
        rw [heq] at h1
        rcases Nat.lt_or_ge i listed.size with h' | h'
        · simp [h'] at h0 h1; rw [h0] at h1; cases h1
        · simp [Array.getElem?_eq_none h'] at h1
      have h2 := wpOp_putIf hoj (hfree j oj hoj hji hjun hnot) (fun cs b => hsel i oi cs b hi) (fun cs b => hsel j oj cs b hoj) hQ hy h1
      have hfree' : ∀ k ok, ops[k]? = some ok → k ≠ i → (listed.setIfInBounds j true).getD k true = false →
          (∀ e ∈ ok.after, Region.binds md e = true → e.on ≠ i) → oi.apart ops ok = true := fun k ok hk hki hun hno => by
        refine hfree k ok hk hki ?_ hno
        by_cases hjk : j = k
        · subst hjk; exact hjun
        · rw [getD_set_ne true hjk] at hun; exact hun
      have hun' : ∀ k ∈ D, (listed.setIfInBounds j true).getD k true = false := fun k hk => by
        rw [getD_set_ne true (fun e => hjD (by rw [e]; exact hk))]
        exact hun k hk
      refine wpOp_mono (fun a' w' h3 => ⟨h3.2.1, ih (listed.setIfInBounds j true) a' w' hfree' hun' (ready_mono hr (Ne.symm hji)) h3.1 (h3.2.1 hjl) ?_⟩) h2
      rw [Array.setIfInBounds_comm _ _ hji]
      exact h3.2.2
theorem wpAnyB_take (D : List Nat) {i : Nat} {oi : Oper} {v : Value} {fuel : Nat} {listed : Array Bool} {a : Act} {w : World} (hi : ops[i]? = some oi)
    (hs : Region.noSelect ops = true) (hf : Region.free md ops listed i = true) (hr : (Region.ready md ops listed).contains i = true)
    (hD : (waitsB md ops i D && (B.all fun b => D.contains b) && !(B.contains i) && !D.contains i && D.all fun j => !listed.getD j true) = true)
    (hQ : ∀ c a w, Q (.panic c) (a.put oi.dst v) w → Q (.panic c) a w) (hy : YieldsIf P ops S oi v a) (hS : S w)
    (h : wpAnyB P md ops Q S B fuel (listed.setIfInBounds i true) (a.put oi.dst v) w) : wpAnyB P md ops Q S B (fuel + 1) listed a w := by
  simp only [Bool.and_eq_true, Bool.not_eq_true', List.all_eq_true] at hD
  obtain ⟨⟨⟨⟨h1, h2⟩, h3⟩, h4⟩, h5⟩ := hD
  exact wpAnyB_first hi (Region.noSelect_spec hs) hQ h1 (fun b hb => by simpa using h2 b hb) (by simpa using h3) (by simpa using h4) fuel listed a w (Region.free_spec hi hf) h5 (by simpa using hr) hy hS h
/-- one operation comes up -/
theorem wpAnyB_one {i : Nat} {o : Oper} {fuel : Nat} {listed : Array Bool} {a : Act} {w : World} (hr : Region.ready md ops listed = [i]) (ho : ops[i]? = some o)
    (h : ∀ K' : Act → World → Prop, Shut (∀ a w, (i ∉ B → S w) → ((i ∉ B → S w) → wpAnyB P md ops Q S B fuel (listed.setIfInBounds i true) a w) → K' a w) → if Region.wanted o (yielded ops a.tmps) = true then Oper.wp P o a w K' Q else K' (a.put o.dst undef) w) : wpAnyB P md ops Q S B (fuel + 1) listed a w := by
  refine ⟨fun h0 => (by rw [hr] at h0; cases h0), fun j hj => ?_⟩
  rw [hr] at hj
  have := List.mem_singleton.1 hj
  subst this
  exact wpOp_step ho fun K' hK => h K' fun a w hS hW => hK a w ⟨hS, hW hS⟩
theorem wpAnyB_two {i i' : Nat} {o o' : Oper} {fuel : Nat} {listed : Array Bool} {a : Act} {w : World} (hr : Region.ready md ops listed = [i, i']) (ho : ops[i]? = some o) (ho' : ops[i']? = some o')
    (h : ∀ K' : Act → World → Prop, Shut (∀ a w, (i ∉ B → S w) → ((i ∉ B → S w) → wpAnyB P md ops Q S B fuel (listed.setIfInBounds i true) a w) → K' a w) → if Region.wanted o (yielded ops a.tmps) = true then Oper.wp P o a w K' Q else K' (a.put o.dst undef) w)
    (h' : ∀ K' : Act → World → Prop, Shut (∀ a w, (i' ∉ B → S w) → ((i' ∉ B → S w) → wpAnyB P md ops Q S B fuel (listed.setIfInBounds i' true) a w) → K' a w) → if Region.wanted o' (yielded ops a.tmps) = true then Oper.wp P o' a w K' Q else K' (a.put o'.dst undef) w) : wpAnyB P md ops Q S B (fuel + 1) listed a w := by
  refine ⟨fun h0 => (by rw [hr] at h0; cases h0), fun j hj => ?_⟩
  rw [hr] at hj
  rcases List.mem_cons.1 hj with rfl | hj
  · exact wpOp_step ho fun K' hK => h K' fun a w hS hW => hK a w ⟨hS, hW hS⟩
  · have := List.mem_singleton.1 hj
    subst this
    exact wpOp_step ho' fun K' hK => h' K' fun a w hS hW => hK a w ⟨hS, hW hS⟩
theorem wpAnyB_done {listed : Array Bool} {a : Act} {w : World} (hr : Region.ready md ops listed = []) (h : Q .normal a w) : ∀ fuel, wpAnyB P md ops Q S B fuel listed a w
  | 0 => ⟨hr, h⟩
  | _ + 1 => ⟨fun _ => h, by rw [hr]; simp⟩
theorem wp_region_B (B : List Nat) {id : Nat} {a : Act} {w : World} (hm : P.follows .mixedOrders = true) (hS : S w.drew)
    (h : S w.drew → wpAnyB P .any ops Q S B ops.size (Array.replicate ops.size false) a w.drew) : (Code.region id ops true).wp P Q a w :=
  wp_region_any hm (wpAny_of_B _ _ _ _ (h hS))
end
end Go.Proofs.Ytfbfgljkiikabaa
namespace Go.Proofs.Ytfbfgljkiikabaa
open Go.RowKit Go.Deep

set_option maxRecDepth 20000 in
set_option maxHeartbeats 8000000 in
theorem eachAck_any (lo : Nat) (v : Value) (Xl : List Ra) (w : World) (hv : RasAt lo w v Xl) (hn : RasSmall Xl) :
    Calls Try.prog 84 #[v, .func (.func 85) #[] #[]] w fun e w' => ∃ v' L, e = .returned v' ∧ Below w.heap.size w w' ∧ NGRow PA axL 2 w' w.heap.size w'.heap.size v' L ∧ L.map (·.1) = Xl := by
  have hnil := fun W a n c => Lib.run_eql_slice_nil (P := Try.prog) W 38 100 a n c 0 0 Try.underlying38
  obtain ⟨i0, hi, hz0, hz1, hz2⟩ := info_parts Ra_info
  have HSM := hide hn.2
  have hn1 := hn.1
  clear hn
  have hmk : ∀ u : World, (Instr.makeSlice 38 (.int .i64 (Xl.length : Int)) (.int .i64 (Xl.length : Int))).run Try.prog u = .ok (.slice (some ⟨u.heap.size, 0, none⟩) Xl.length Xl.length) (u.alloc (.cells (madeCells (Value.cells (.agg #[.int .i64 0, .slice none 0 0])) (Xl.length * 2)) 100)) := fun u => by
    have h := run_make (P := Try.prog) u 38 100 i0 _ Try.underlying38 hi hz0 .i64 .i64 Xl.length Xl.length (by omega) (by omega) (by rw [hz2]; omega) (by omega)
    rw [hz1] at h
    simpa using h
  clear hi hz0 hz1 hz2
  have HV := hide hv
  obtain ⟨a, cap, rfl⟩ := hv.form
  clear hv
  cases a with
  | none =>
    have h0 : Xl.length = 0 := by
      rcases HV.out with ⟨_, _, _, rfl⟩ | ⟨_, _, _, h1, _⟩
      · rfl
      · injection h1 with e; cases e
    obtain rfl := List.eq_nil_of_length_eq_zero h0
    go_enter Try.func84, Try.ntmps84
    go_wp2
    go_ret
    exact ⟨_, [], rfl, Below.refl _ _, Or.inl ⟨rfl, rfl⟩, rfl⟩
  | some ad =>
  go_enter Try.func84, Try.ntmps84
  go_wp2
  clear hmk hnil
  go_loopw [15] (fun i wr => ∃ (k : Nat) (L : List AX) (c : Nat → Nat × Nat), i = .int .i64 k ∧ k ≤ Xl.length ∧ Below w.heap.size w wr ∧ FR axL 2 wr w.heap.size (w.heap.size + 1) w.heap.size Xl.length L ∧ Inns PA wr w.heap.size wr.heap.size w.heap.size L c ∧ (∀ i, i < L.length → (c i).2 ≤ wr.heap.size) ∧ L.map (·.1) = Xl.take k) (fun i _ => Xl.length - (intOf i).toNat)
  case atStart => exact ⟨0, [], fun _ => (0, 0), rfl, by omega, one_al _ _, fr_new axL 2 w _ _ Xl.length (by rw [size_madeCells]) (by unfold maxLen; omega), ⟨fun i hi => by simp at hi, fun i j hi => by simp at hi, fun i hi => by simp at hi⟩, fun i hi => by simp at hi, by simp⟩
  case round =>
    obtain ⟨k, L, c, rfl, hk, hb, hf, hin, htop, hL⟩ := hrel
    have HB := hide hb
    have HF := hide hf
    have HI := hide hin
    have HTP := hide htop
    have HL := hide hL
    have HLl : Hid (L.length = k) := by
      unfold Hid
      have := congrArg List.length hL
      rw [List.length_map, List.length_take] at this
      omega
    clear hb hf hin hL htop
    by_cases hlt : k < Xl.length
    · obtain ⟨b, off, had, hbw, -, hc⟩ := HV.out.full' (by omega)
      injection had with had
      subst had
      obtain ⟨m, hm'⟩ : ∃ m, m = Xl[k] := ⟨_, rfl⟩
      obtain ⟨ms, hr, b0, m0, rfl, hf⟩ := hc k hlt
      rw [← hm'] at hf hr
      have HS : Hid (m.fr.length ≤ 1048576) := by unfold Hid; rw [hm']; exact HSM.out k hlt
      have HFi : Hid (RisAt lo wr (.slice b0 m.fr.length m0) m.fr) := hf.l0.below HB.out
      have HR := rng_below hr HB.out hbw
      have HX := hide hm'
      have s0 : wr.cell? ⟨b, off + k * 2, none⟩ = some (.int .i64 m.ix) := HR 0 _ rfl
      have s1 : wr.cell? ⟨b, off + k * 2 + 1, none⟩ = some (.slice b0 m.fr.length m0) := HR 1 _ rfl
      have i0 : (0 : Int) ≤ (k : Int) := by omega
      have i1 : (k : Int) < (Xl.length : Int) := by omega
      clear hc hr hf hm' HR
      go_wp2_with fail
      clear s0 s1
      generalize hWx : wr.alloc _ = Wx
      have hx : Below wr.heap.size wr Wx := by rw [← hWx]; exact one_al _ _
      clear hWx
      refine (copyAck_any lo m b0 m0 _ (HFi.out.below hx) HS.out).mono ?_
      rintro e w1 ⟨b1, m1, rfl, hb1, hf1⟩
      have hb2 : Below wr.heap.size wr w1 := bt hx hb1
      have HB1 : Hid (Below w.heap.size w w1) := bt HB.out hb2
      have hsz := HB.out.size
      have hsz1 := hb2.size
      have hszx := hx.size
      have hwlt : w.heap.size < wr.heap.size := HF.out.lt
      have HF1 := hide (HF.out.below hb2)
      have HI1 : Hid (Inns PA w1 w.heap.size w1.heap.size w.heap.size (L ++ [(m, b1, m1)]) (cSnoc c L.length (Wx.heap.size, w1.heap.size))) :=
        ((HI.out.below cloA hb2).wide (Nat.le_refl _) hsz1).snoc hf1 (by omega) hb1.size (Nat.le_refl _) (Or.inl (by omega)) (fun i hi => Or.inl (by have := HTP.out i hi; omega))
      have hth : ∀ j, j < Xl.length * 2 → ∃ o, w1.cell? ⟨w.heap.size, j, none⟩ = some o := fun j hj => Option.isSome_iff_exists.1 (HF1.out.th j hj)
      have hfr := HF1.out.fz
      obtain ⟨o0, ho0⟩ := hth (k * 2) (by omega)
      obtain ⟨o1, ho1⟩ := hth (k * 2 + 1) (by omega)
      have HFn : Hid (FR axL 2 ((w1.setCell ⟨w.heap.size, k * 2, none⟩ (.int .i64 m.ix)).setCell ⟨w.heap.size, k * 2 + 1, none⟩ (.slice b1 m.fr.length m1)) w.heap.size (w.heap.size + 1) w.heap.size Xl.length (L ++ [(m, b1, m1)])) := by
        unfold Hid
        have h := HF1.out.put axL_len (M := [(m, b1, m1)]) (by have := HLl.out; simp; omega)
        rw [Nat.zero_add, HLl.out] at h
        exact h
      have HTT : Hid (Touch w.heap.size (w.heap.size + 1) w1 ((w1.setCell ⟨w.heap.size, k * 2, none⟩ (.int .i64 m.ix)).setCell ⟨w.heap.size, k * 2 + 1, none⟩ (.slice b1 m.fr.length m1))) := by
        have h := Touch.sets (lo := w.heap.size) (hi := w.heap.size + 1) (b := w.heap.size) ⟨Nat.le_refl _, Nat.lt_succ_self _⟩ (flatV axL [(m, b1, m1)]) (k * 2) w1
        exact h
      clear hth hb1 hb2 hf1 hx HF HI HB
      rw [show (raL m b1 m1).toArray = #[.int .i64 m.ix, .slice b1 m.fr.length m1] from rfl]
      go_wp2
      generalize hWn : World.setCell _ _ _ = Wn at *
      clear hWn
      go_roundw
      case rel =>
        have ht := HTT.out
        have hszn := ht.size
        refine ⟨k + 1, L ++ [(m, b1, m1)], _, by go_num, by omega, HB1.out.trans (ht.under (by omega)), HFn.out, ((HI1.out.touch cloA ht (fun i hi => ?_)).wide (Nat.le_refl _) hszn), fun i hi => ?_, by rw [List.map_append, HL.out, List.take_succ_eq_append_getElem hlt, HX.out]; rfl⟩
        · rcases (HI1.out.seg i hi).2.2.2 with h | h
          · exact Or.inr h
          · exact Or.inl h
        · exact Nat.le_trans (HI1.out.seg i hi).2.2.1 hszn
      case measure => simp [intOf]; omega
    · have e : k = Xl.length := by omega
      subst e
      have hl := HLl.out
      go_wp2
      go_ret
      refine ⟨.slice (some ⟨w.heap.size, 0, none⟩) Xl.length Xl.length, L, rfl, HB.out, Or.inr ⟨w.heap.size, c, ⟨w.heap.size, Xl.length, by rw [hl], HF.out⟩, Nat.le_refl _, HF.out.lt, HI.out⟩, by rw [HL.out, List.take_of_length_le (Nat.le_refl _)]⟩
end Go.Proofs.Ytfbfgljkiikabaa
namespace Go.Proofs.Ytfbfgljkiikabaa
open Go.RowKit Go.Deep

def upd {X : Type} (f : Nat → X) (i : Nat) (x : X) : Nat → X := fun k => if k = i then x else f k
theorem upd_same {X : Type} (f : Nat → X) (i : Nat) (x : X) : upd f i x i = x := if_pos rfl
theorem upd_ne {X : Type} (f : Nat → X) {i k : Nat} (x : X) (h : k ≠ i) : upd f i x k = f k := if_neg h
/-- blocks that a call leaves as they are -/
structure Kept (K : Nat → Prop) (w w' : World) : Prop where
  os : w'.os = w.os
  tape : w'.tape = w.tape
  output : w'.output = w.output
  size : w.heap.size ≤ w'.heap.size
  block : ∀ k, K k → w'.heap[k]? = w.heap[k]?
theorem Kept.refl (K : Nat → Prop) (w : World) : Kept K w w := ⟨rfl, rfl, rfl, Nat.le_refl _, fun _ _ => rfl⟩
theorem Kept.trans {K : Nat → Prop} {a b c : World} (h : Kept K a b) (k : Kept K b c) : Kept K a c :=
  ⟨k.os.trans h.os, k.tape.trans h.tape, k.output.trans h.output, Nat.le_trans h.size k.size, fun i hi => (k.block i hi).trans (h.block i hi)⟩
theorem Kept.less {K K' : Nat → Prop} {a b : World} (h : Kept K a b) (hk : ∀ k, K' k → K k) : Kept K' a b := ⟨h.os, h.tape, h.output, h.size, fun k hk' => h.block k (hk k hk')⟩
theorem Kept.touch {K : Nat → Prop} {lo hi : Nat} {w w' : World} (h : Touch lo hi w w') (hk : ∀ k, K k → k < w.heap.size ∧ (k < lo ∨ hi ≤ k)) : Kept K w w' :=
  ⟨h.os, h.tape, h.output, h.size, fun k hk' => h.block k (hk k hk').1 (hk k hk').2⟩
theorem Kept.below {K : Nat → Prop} {n : Nat} {w w' : World} (h : Below n w w') (hk : ∀ k, K k → k < n) : Kept K w w' :=
  ⟨h.os, h.tape, h.output, h.size, fun k hk' => h.block k (hk k hk')⟩
theorem Kept.under {K : Nat → Prop} {n : Nat} {w w' : World} (h : Kept K w w') (hk : ∀ k, k < n → K k) : Below n w w' :=
  ⟨h.os, h.tape, h.output, h.size, fun k hk' => h.block k (hk k hk')⟩
theorem Box.kept {K : Nat → Prop} {w w' : World} {β : Nat} {cs : Array Value} (h : Box w β cs) (hk : Kept K w w') (hb : K β) : Box w' β cs :=
  ⟨Nat.lt_of_lt_of_le h.lt hk.size, fun i => (World.cell?_of_block (w := w) (a := ⟨β, i, none⟩) (hk.block β hb)).trans (h.cell i), fun i => (World.frozen?_of_block (w := w) (a := ⟨β, i, none⟩) (hk.block β hb)).trans (h.free i)⟩
/-- only blocks of S may have turned -/
structure TouchS (S : Nat → Prop) (w w' : World) : Prop where
  os : w'.os = w.os
  tape : w'.tape = w.tape
  output : w'.output = w.output
  size : w.heap.size ≤ w'.heap.size
  block : ∀ k, k < w.heap.size → ¬ S k → w'.heap[k]? = w.heap[k]?
theorem TouchS.refl (S : Nat → Prop) (w : World) : TouchS S w w := ⟨rfl, rfl, rfl, Nat.le_refl _, fun _ _ _ => rfl⟩
theorem TouchS.trans {S : Nat → Prop} {a b c : World} (h : TouchS S a b) (k : TouchS S b c) : TouchS S a c :=
  ⟨k.os.trans h.os, k.tape.trans h.tape, k.output.trans h.output, Nat.le_trans h.size k.size, fun i hi hn => (k.block i (Nat.lt_of_lt_of_le hi h.size) hn).trans (h.block i hi hn)⟩
theorem TouchS.wide {S S' : Nat → Prop} {a b : World} (h : TouchS S a b) (hs : ∀ k, S k → S' k) : TouchS S' a b := ⟨h.os, h.tape, h.output, h.size, fun k hk hn => h.block k hk fun h' => hn (hs k h')⟩
theorem Touch.toS {lo hi : Nat} {S : Nat → Prop} {a b : World} (h : Touch lo hi a b) (hs : ∀ k, lo ≤ k → k < hi → S k) : TouchS S a b :=
  ⟨h.os, h.tape, h.output, h.size, fun k hk hn => h.block k hk (by
    rcases Nat.lt_or_ge k lo with h1 | h1
    · exact Or.inl h1
    · rcases Nat.lt_or_ge k hi with h2 | h2
      · exact absurd (hs k h1 h2) hn
      · exact Or.inr h2)⟩
theorem TouchS.below {S : Nat → Prop} {a b : World} (h : Below a.heap.size a b) : TouchS S a b := ⟨h.os, h.tape, h.output, h.size, fun k hk _ => h.block k hk⟩
theorem TouchS.touch {lo hi : Nat} {S : Nat → Prop} {a b : World} (h : TouchS S a b) (hs : ∀ k, S k → lo ≤ k ∧ k < hi) : Touch lo hi a b :=
  ⟨h.os, h.tape, h.output, h.size, fun k hk ho => h.block k hk fun h' => by have := hs k h'; omega⟩
theorem Kept.touchS {K S : Nat → Prop} {w w' : World} (h : TouchS S w w') (hk : ∀ k, K k → k < w.heap.size ∧ ¬ S k) : Kept K w w' :=
  ⟨h.os, h.tape, h.output, h.size, fun k hk' => h.block k (hk k hk').1 (hk k hk').2⟩
theorem Kept.cell {K : Nat → Prop} {w w' : World} (h : Kept K w w') {p : Addr} (hp : K p.block) : w'.cell? p = w.cell? p := World.cell?_of_block (w := w) (h.block p.block hp)
theorem Kept.frozen {K : Nat → Prop} {w w' : World} (h : Kept K w w') {p : Addr} (hp : K p.block) : w'.frozen? p = w.frozen? p := World.frozen?_of_block (w := w) (h.block p.block hp)
theorem RssOwn.kept {K : Nat → Prop} {lo hi : Nat} {w w' : World} {v : Value} {Xl : List Rs} (h : RssOwn lo hi w v Xl) (hk : Kept K w w') (ho : ∀ k, lo ≤ k → k < hi → K k) : RssOwn lo hi w' v Xl := by
  rcases h with h | ⟨b, off, cap, c, X, h1, h2, h3, h4, h5, h6⟩
  · exact Or.inl h
  · have hb : K b := ho b h6.low h6.bh
    refine Or.inr ⟨b, off, cap, c, X, h1, h2, h3, h4, h5, ⟨Nat.lt_of_lt_of_le h6.lt hk.size, h6.low, h6.bc, h6.bh, h6.mono, h6.top, fun i => (hk.frozen (p := ⟨b, i, none⟩) hb).trans (h6.frz i), fun i hi' => ?_⟩⟩
    obtain ⟨hs, hc⟩ := h6.row i hi'
    exact ⟨hs, ⟨(hk.cell (p := ⟨b, _, none⟩) hb).trans hc.c0, (hk.cell (p := ⟨b, _, none⟩) hb).trans hc.c1⟩⟩
theorem RtsOwn.kept {K : Nat → Prop} {lo hi : Nat} {w w' : World} {v : Value} {L : List ByteArray} (h : RtsOwn lo hi w v L) (hk : Kept K w w') (ho : ∀ k, lo ≤ k → k < hi → K k) : RtsOwn lo hi w' v L := by
  rcases h with h | ⟨b, off, cap, h1, h2, h3, hcp, h4, h5, h7, h8, h9⟩
  · exact Or.inl h
  · have hb : K b := ho b h7 h8
    exact Or.inr ⟨b, off, cap, h1, h2, h3, hcp, Nat.lt_of_lt_of_le h4 hk.size, fun i hi' => ⟨(h5 i hi').1, (hk.cell (p := ⟨b, off + i, none⟩) hb).trans (h5 i hi').2⟩, h7, h8, fun i => (hk.frozen (p := ⟨b, off + i, none⟩) hb).trans (h9 i)⟩
theorem RisOwn.kept {K : Nat → Prop} {lo hi : Nat} {w w' : World} {v : Value} {L : List Int} (h : RisOwn lo hi w v L) (hk : Kept K w w') (ho : ∀ k, lo ≤ k → k < hi → K k) : RisOwn lo hi w' v L := by
  rcases h with h | ⟨b, off, cap, h1, h2, h3, hcp, h4, h5, h7, h8, h9⟩
  · exact Or.inl h
  · have hb : K b := ho b h7 h8
    exact Or.inr ⟨b, off, cap, h1, h2, h3, hcp, Nat.lt_of_lt_of_le h4 hk.size, fun i hi' => (hk.cell (p := ⟨b, off + i, none⟩) hb).trans (h5 i hi'), h7, h8, fun i => (hk.frozen (p := ⟨b, off + i, none⟩) hb).trans (h9 i)⟩
theorem Near.toS {b o n lo hi : Nat} {S : Nat → Prop} {w w' : World} (h : Near b o n lo hi w w') (_hb : b < w.heap.size) (sb : S b) (hs : ∀ k, lo ≤ k → k < hi → S k) : TouchS S w w' :=
  ⟨h.os, h.tape, h.output, h.size, fun k hk hn => h.block k hk (fun e => hn (e ▸ sb)) (by
    rcases Nat.lt_or_ge k lo with h1 | h1
    · exact Or.inl h1
    · rcases Nat.lt_or_ge k hi with h2 | h2
      · exact absurd (hs k h1 h2) hn
      · exact Or.inr h2)⟩
theorem RssOwn.at_ge {n lo hi : Nat} {w : World} {v : Value} {Xl : List Rs} (h : RssOwn lo hi w v Xl) (hs : ∀ k, lo ≤ k → k < hi → n ≤ k) : RssAt n w v Xl := by
  rcases h with h | ⟨b, off, cap, c, X, h1, h2, h3, h4, h5, h6⟩
  · exact Or.inl h
  · refine Or.inr ⟨b, off, cap, h1, h2, h3, h6.lt, hs b h6.low h6.bh, h4, fun i hi' => ?_⟩
    have hr := h6.row i hi'
    rw [h5 i hi'] at hr
    exact hr
theorem RtsOwn.at_ge {n lo hi : Nat} {w : World} {v : Value} {L : List ByteArray} (h : RtsOwn lo hi w v L) (hs : ∀ k, lo ≤ k → k < hi → n ≤ k) : RtsAt n w v L := by
  rcases h with h | ⟨g, off, cap, h1, h2, h3, hcp, h4, h5, h7, h8, h9⟩
  · exact Or.inl h
  · exact Or.inr ⟨g, off, cap, h1, h2, h3, h4, hs g h7 h8, hcp, h5⟩
theorem RisOwn.at_ge {n lo hi : Nat} {w : World} {v : Value} {L : List Int} (h : RisOwn lo hi w v L) (hs : ∀ k, lo ≤ k → k < hi → n ≤ k) : RisAt n w v L := by
  rcases h with h | ⟨g, off, cap, h1, h2, h3, hcp, h4, h5, h7, h8, h9⟩
  · exact Or.inl h
  · exact Or.inr ⟨g, off, cap, h1, h2, h3, h4, hs g h7 h8, hcp, fun i hi => ⟨rfl, h5 i hi⟩⟩
end Go.Proofs.Ytfbfgljkiikabaa
namespace Go.Proofs.Ytfbfgljkiikabaa
open Go.RowKit Go.Deep

/-! impl.recKnows -/
def txSl (L : List Rs) (tx : ByteArray) : Bool := L.any (fun x => x.tx.toList == tx.toList)
end Go.Proofs.Ytfbfgljkiikabaa
