import Derived.Test.YtjkkbkdpoebfaaaGreatV23
import Derived.Test.YtjkkbkdpoebfaaaGreatV24
import Derived.Laws.AppendOwn
namespace Go.Proofs.YtjkkbkdpoebfaaaGreat
open Go.RowKit Go.Deep

/-! l1Fit whole -/
theorem l1Fit_any (lo ρ p : Nat) (bs : List UInt8) (f : Fd) (wv : Value) (a0 a1 a2 : Int) (ov g1 g2 g3 : Value) (L : List (ByteArray × ByteArray)) (w : World) (h : Rd w ρ p bs) (hp : p ≤ 900000000) (hf : FdFew f) (hw : StrsIn lo w wv f.words) (hl : ρ < lo)
    (hO : KnAt ρ w ov L) (hL : L.length ≤ 10) (hLs : ∀ x ∈ L, x.2.size ≤ 1000) :
    Calls Tryz.prog 86 #[.pointer (some ⟨ρ, 0, none⟩), .agg (fdL f wv).toArray, .agg #[.int .i64 a0, .int .i64 a1, .int .i64 a2, ov, g1, g2, g3]] w (FitTo ρ p bs w) := by
  obtain ⟨nm, kd, le, mo, words, tt, ro, mu, fx, df, we⟩ := f
  by_cases h1 : kd = 1
  · subst h1; exact l1Fit1_any ρ p bs nm tt df we le mo ro mu fx wv a0 a1 a2 ov g1 g2 g3 w hf.le hf.mo h hp
  by_cases h2 : kd = 2
  · subst h2; exact l1Fit2_any lo ρ p bs nm tt df we le mo ro mu fx wv words a0 a1 a2 ov g1 g2 g3 w hw hl hf.wn hf.ws h hp
  by_cases h3 : kd = 3
  · subst h3; exact l1Fit3_any ρ p bs nm tt df we le mo ro mu fx wv a0 a1 a2 ov g1 g2 g3 w hf.le hf.mo h hp
  exact l1Fit0_any ρ p bs nm tt df we le mo ro mu fx wv a0 a1 a2 ov g1 g2 g3 L w kd h1 h2 h3 hO hL hLs h hp

/-! rows of a call's own making -/
theorem owns_lt {base : Nat} {e : TypeId} {sz n : Nat} {W : World} {v : Value} {cs : List Value} (h : W.ownsRow base e sz v n cs) {g : Nat} (hg : v.ownBlock = some g) : g < W.heap.size ∧ base ≤ g := by
  rcases h.2 with ⟨hv, _⟩ | ⟨g', cap, cur, hv, h1, h2, _⟩
  · rw [hv] at hg; cases hg
  · rw [hv] at hg
    have e : g' = g := by simpa [Value.ownBlock] using hg
    subst e
    rcases Nat.lt_or_ge g' W.heap.size with h | h
    · exact ⟨h, h1⟩
    · rw [Array.getElem?_eq_none h] at h2; cases h2
theorem owns_kept {base : Nat} {e : TypeId} {sz n : Nat} {W W' : World} {v : Value} {cs : List Value} (h : W.ownsRow base e sz v n cs) (hk : ∀ k, v.ownBlock = some k → W'.heap[k]? = W.heap[k]?) : W'.ownsRow base e sz v n cs := by
  refine ⟨h.1, ?_⟩
  rcases h.2 with hv | ⟨g, cap, cur, hv, h1, h2, h3⟩
  · exact Or.inl hv
  · exact Or.inr ⟨g, cap, cur, hv, h1, by rw [hk g (by rw [hv]; rfl)]; exact h2, h3⟩
theorem owns_grown {base : Nat} {e : TypeId} {sz n : Nat} {W w' : World} {v : Value} {cs : List Value} (h : W.ownsRow base e sz v n cs) (hg : W.grownBy w' v.ownBlock) (hb : base ≤ W.heap.size) : Below base W w' := by
  have hlt := fun g hg => @owns_lt base e sz n W v cs h g hg
  exact ⟨hg.os, hg.tape, hg.output, hg.size, fun k hk => hg.block k (by omega) fun e => by have := (hlt k e.symm).2; omega⟩
theorem owns_form {base : Nat} {e : TypeId} {sz n : Nat} {W : World} {v : Value} {cs : List Value} (h : W.ownsRow base e sz v n cs) : ∃ a cap, v = .slice a n cap := by
  rcases h.2 with ⟨hv, hn⟩ | ⟨g', cap, cur, hv, _⟩
  · subst hn; exact ⟨_, _, hv⟩
  · exact ⟨_, _, hv⟩
theorem owns_lo {base base' : Nat} {e : TypeId} {sz n : Nat} {W : World} {v : Value} {cs : List Value} (h : W.ownsRow base e sz v n cs) (hb : base' ≤ base) : W.ownsRow base' e sz v n cs := by
  refine ⟨h.1, ?_⟩
  rcases h.2 with hv | ⟨g, cap, cur, hv, h1, h2⟩
  · exact Or.inl hv
  · exact Or.inr ⟨g, cap, cur, hv, Nat.le_trans hb h1, h2⟩
theorem Tch.belowB {ρ base : Nat} {a b c : World} (h : Tch ρ a b) (hb : Below base b c) (hs : a.heap.size ≤ base) : Tch ρ a c :=
  ⟨hb.os.trans h.os, hb.tape.trans h.tape, hb.output.trans h.output, Nat.le_trans h.size hb.size, fun k hk hn => (hb.block k (by omega)).trans (h.block k hk hn)⟩
theorem Rd.belowB {w w' : World} {ρ p base : Nat} {bs : List UInt8} (h : Rd w ρ p bs) (hb : Below base w w') (hs : ρ < base) : Rd w' ρ p bs := by
  obtain ⟨v, h1, h2⟩ := h.code
  refine ⟨Nat.lt_of_lt_of_le h.lt hb.size, ⟨v, (hb.cell (p := ⟨ρ, 0, none⟩) hs).trans h1, ?_⟩, (hb.cell (p := ⟨ρ, 1, none⟩) hs).trans h.place, fun i => (hb.frozen (p := ⟨ρ, i, none⟩) hs).trans (h.free i)⟩
  rcases h2 with h2 | ⟨b, off, cap, h1, h2, h3, h4, h5⟩
  · exact Or.inl h2
  · exact Or.inr ⟨b, off, cap, h1, h2, h3, h4, fun i hi => (hb.cell (p := ⟨b, off + i, none⟩) (by show b < base; omega)).trans (h5 i hi)⟩

section
variable {β : Type} (cells : β → List Value) (sz : Nat) (T : TypeId) (P : (Nat → Prop) → World → β → Prop)
def flatC : List β → List Value
  | [] => []
  | x :: L => cells x ++ flatC L
theorem flatC_app : ∀ (A B : List β), flatC cells (A ++ B) = flatC cells A ++ flatC cells B
  | [], B => rfl
  | x :: A, B => by simp only [List.cons_append, flatC, flatC_app A B, List.append_assoc]
theorem flatC_len (h : ∀ x, (cells x).length = sz) : ∀ L : List β, (flatC cells L).length = L.length * sz
  | [] => by simp [flatC]
  | x :: L => by rw [flatC, List.length_append, flatC_len h L, h, List.length_cons, Nat.add_mul]; omega
theorem flatC_at (h : ∀ x, (cells x).length = sz) : ∀ (L : List β) (i j : Nat) (hi : i < L.length), j < sz → (flatC cells L)[i * sz + j]? = (cells L[i])[j]?
  | [], i, j, hi, _ => by simp at hi
  | x :: L, 0, j, _, hj => by
    rw [flatC, Nat.zero_mul, Nat.zero_add, List.getElem?_append_left (by rw [h]; exact hj)]
    rfl
  | x :: L, i + 1, j, hi, hj => by
    rw [flatC, List.getElem?_append_right (by rw [h, Nat.add_mul]; omega), h, show (i + 1) * sz + j - sz = i * sz + j by rw [Nat.add_mul]; omega]
    exact flatC_at h L i j (by simpa using hi) hj
/-- what lies in blocks K stays, if these do -/
def Keeps : Prop := ∀ (K : Nat → Prop) (W W' : World) (x : β), P K W x → (∀ k, K k → W'.heap[k]? = W.heap[k]?) → P K W' x
/-- a row of one's own, and what its parts lead to -/
structure ZRw (base : Nat) (v : Value) (L : List β) (W : World) : Prop where
  own : W.ownsRow base T sz v L.length (flatC cells L)
  inn : ∀ x ∈ L, ∃ K : Nat → Prop, P K W x ∧ ∀ k, K k → base ≤ k ∧ k < W.heap.size ∧ v.ownBlock ≠ some k
variable {cells sz T P}
theorem ZRw.same {base : Nat} {v : Value} {L : List β} {W W' : World} (hP : Keeps P) (h : ZRw cells sz T P base v L W) (hk : ∀ k, base ≤ k → k < W.heap.size → W'.heap[k]? = W.heap[k]?) (hs : W.heap.size ≤ W'.heap.size) : ZRw cells sz T P base v L W' :=
  ⟨owns_kept h.own fun k hv => hk k (owns_lt h.own hv).2 (owns_lt h.own hv).1, fun x hx => by
    obtain ⟨K, h1, h2⟩ := h.inn x hx
    exact ⟨K, hP K W W' x h1 fun k hK => hk k (h2 k hK).1 (h2 k hK).2.1, fun k hK => ⟨(h2 k hK).1, Nat.lt_of_lt_of_le (h2 k hK).2.1 hs, (h2 k hK).2.2⟩⟩⟩
theorem ZRw.below {base : Nat} {v : Value} {L : List β} {W W' : World} (hP : Keeps P) (h : ZRw cells sz T P base v L W) (hb : Below W.heap.size W W') : ZRw cells sz T P base v L W' := h.same hP (fun k _ hk => hb.block k hk) hb.size
theorem ZRw.tch {base ρ : Nat} {v : Value} {L : List β} {W W' : World} (hP : Keeps P) (h : ZRw cells sz T P base v L W) (ht : Tch ρ W W') (hl : ρ < base) : ZRw cells sz T P base v L W' := h.same hP (fun k h1 hk => ht.block k hk (by omega)) ht.size
theorem ZRw.set {base : Nat} {v : Value} {L : List β} {W : World} (hP : Keeps P) (h : ZRw cells sz T P base v L W) {p : Addr} (hp : p.block < base) (u : Value) : ZRw cells sz T P base v L (W.setCell p u) := h.same hP (fun k h1 _ => Below.heap_setCell W p u k (by omega)) (by simp [World.setCell])
theorem ZRw.mono {base base' : Nat} {v : Value} {L : List β} {W : World} (h : ZRw cells sz T P base v L W) (hb : base' ≤ base) : ZRw cells sz T P base' v L W :=
  ⟨owns_lo h.own hb, fun x hx => by
    obtain ⟨K, h1, h2⟩ := h.inn x hx
    exact ⟨K, h1, fun k hK => ⟨Nat.le_trans hb (h2 k hK).1, (h2 k hK).2⟩⟩⟩
theorem ZRw.nil (base : Nat) (W : World) : ZRw cells sz T P base (.slice none 0 0) [] W := ⟨World.ownsRow_nil _ _ _ _, fun x hx => by cases hx⟩
theorem ZRw.made {base : Nat} (W : World) (g : Nat) (hg : W.heap.size = g) (hb : base ≤ g) : ZRw cells sz T P base (.slice (some ⟨g, 0, none⟩) 0 0) [] (W.alloc (.cells #[] T)) := by
  subst hg
  exact ⟨World.ownsRow_made (base := base) (e := T) (size := sz) W #[] 0 hb (Nat.zero_le _) (by simp), fun x hx => by cases hx⟩
theorem ZRw.form {base : Nat} {v : Value} {L : List β} {W : World} (h : ZRw cells sz T P base v L W) : ∃ a cap, v = .slice a L.length cap := owns_form h.own
theorem ZRw.app {base g cap : Nat} {v : Value} {L : List β} {W W' : World} (hP : Keeps P) (h : ZRw cells sz T P base v L W) (x : β) (K : Nat → Prop) (hx : P K W x) (hK : ∀ k, K k → base ≤ k ∧ k < W.heap.size ∧ v.ownBlock ≠ some k)
    (hown : W'.ownsRow base T sz (.slice (some ⟨g, 0, none⟩) (L.length + 1) cap) (L.length + 1) (flatC cells L ++ cells x)) (hg : W.grownBy W' v.ownBlock) (hat : v.ownBlock = some g ∨ g = W.heap.size) : ZRw cells sz T P base (.slice (some ⟨g, 0, none⟩) (L.length + 1) cap) (L ++ [x]) W' := by
  refine ⟨?_, fun y hy => ?_⟩
  · rw [List.length_append, flatC_app]
    simpa [flatC] using hown
  · have hy1 : ∃ K : Nat → Prop, P K W y ∧ ∀ k, K k → base ≤ k ∧ k < W.heap.size ∧ v.ownBlock ≠ some k := by
      rcases List.mem_append.1 hy with hy | hy
      · exact h.inn y hy
      · rw [List.mem_singleton.1 hy]; exact ⟨K, hx, hK⟩
    obtain ⟨K', h1, h2⟩ := hy1
    refine ⟨K', hP K' W W' y h1 fun k hk => hg.block k (h2 k hk).2.1 (fun e => (h2 k hk).2.2 e.symm), fun k hk => ⟨(h2 k hk).1, Nat.lt_of_lt_of_le (h2 k hk).2.1 hg.size, fun e => ?_⟩⟩
    have e' : g = k := by simpa [Value.ownBlock] using e
    subst e'
    rcases hat with hat | hat
    · exact (h2 g hk).2.2 hat
    · have := (h2 g hk).2.1; omega
theorem ZRw.cell {base b off cap : Nat} {L : List β} {W : World} (h : ZRw cells sz T P base (.slice (some ⟨b, off, none⟩) L.length cap) L W) (hc : ∀ x, (cells x).length = sz) {i j : Nat} (hi : i < L.length) (hj : j < sz) : off = 0 ∧ b < W.heap.size ∧ base ≤ b ∧ W.cell? ⟨b, i * sz + j, none⟩ = (cells L[i])[j]? := by
  rcases h.own.2 with ⟨hv, _⟩ | ⟨g, cap', cur, hv, h1, h2, h3, h4, h5, h6⟩
  · cases hv
  · cases hv
    have hlt := owns_lt h.own (g := b) rfl
    refine ⟨rfl, hlt.1, hlt.2, ?_⟩
    rw [cell_of_row W b _ cur T (0, 0) h2, ← flatC_at cells sz hc L i j hi hj, ← h6, List.getElem?_take_of_lt]
    · simp
    · calc i * sz + j < i * sz + sz := by omega
        _ = (i + 1) * sz := by rw [Nat.add_mul]; omega
        _ ≤ L.length * sz := Nat.mul_le_mul_right _ hi
end
/-! fields in a row -/
def fdC (x : Value × Fd) : List Value := fdL x.2 x.1
theorem fdC_len (x : Value × Fd) : (fdC x).length = 11 := rfl
/-- texts in a block of K -/
def StrsK (K : Nat → Prop) (W : World) (v : Value) (L : List ByteArray) : Prop :=
  (∃ (a : Option Addr) (cap : Nat), v = .slice a 0 cap ∧ L = []) ∨
  ∃ (b off cap : Nat), v = .slice (some ⟨b, off, none⟩) L.length cap ∧ L ≠ [] ∧ L.length ≤ maxLen ∧ K b ∧ (∀ i (h : i < L.length), W.cell? ⟨b, off + i, none⟩ = some (.string L[i])) ∧ ∀ s ∈ L, s.size ≤ maxLen
theorem StrsK.keep {K : Nat → Prop} {W W' : World} {v : Value} {L : List ByteArray} (h : StrsK K W v L) (hk : ∀ k, K k → W'.heap[k]? = W.heap[k]?) : StrsK K W' v L := by
  rcases h with h | ⟨b, off, cap, h1, h2, h3, h4, h5, h6⟩
  · exact Or.inl h
  · exact Or.inr ⟨b, off, cap, h1, h2, h3, h4, fun i hi => (World.cell?_of_block (hk b h4)).trans (h5 i hi), h6⟩
theorem StrsIn.toK {lo : Nat} {W : World} {v : Value} {L : List ByteArray} (h : StrsIn lo W v L) : StrsK (fun k => lo ≤ k ∧ k < W.heap.size) W v L := by
  rcases h with h | ⟨b, off, cap, h1, h2, h3, h4, h5, h6, h7⟩
  · exact Or.inl h
  · exact Or.inr ⟨b, off, cap, h1, h2, h3, ⟨h7, h4⟩, h5, h6⟩
theorem StrsK.inn {K : Nat → Prop} {lo : Nat} {W : World} {v : Value} {L : List ByteArray} (h : StrsK K W v L) (hk : ∀ k, K k → lo ≤ k ∧ k < W.heap.size) : StrsIn lo W v L := by
  rcases h with h | ⟨b, off, cap, h1, h2, h3, h4, h5, h6⟩
  · exact Or.inl h
  · exact Or.inr ⟨b, off, cap, h1, h2, h3, (hk b h4).2, h5, h6, (hk b h4).1⟩
def FdP (K : Nat → Prop) (W : World) (x : Value × Fd) : Prop := FdFew x.2 ∧ StrsK K W x.1 x.2.words
theorem fd_keeps : Keeps FdP := fun _ _ _ _ h hk => ⟨h.1, h.2.keep hk⟩
def FdsG := ZRw fdC 11 56 FdP
/-! shapes in a row -/
structure SX where
  fv : Value
  kd : ByteArray
  fs : List (Value × Fd)
def shC (x : SX) : List Value := [.string x.kd, x.fv]
theorem shC_len (x : SX) : (shC x).length = 2 := rfl
structure ShP (K : Nat → Prop) (W : World) (x : SX) : Prop where
  kd : x.kd.size ≤ 1000
  n : x.fs.length ≤ 10
  own : W.ownsRow 0 56 11 x.fv x.fs.length (flatC fdC x.fs)
  blk : ∀ k, x.fv.ownBlock = some k → K k
  inn : ∀ y ∈ x.fs, FdP K W y
theorem sh_keeps : Keeps ShP := fun _ _ _ _ h hk => ⟨h.kd, h.n, owns_kept h.own fun k hv => hk k (h.blk k hv), h.blk, fun y hy => fd_keeps _ _ _ _ (h.inn y hy) hk⟩
def ShsG := ZRw shC 2 45 ShP
def SX.sh (x : SX) : Sh := ⟨x.kd, x.fs.map Prod.snd⟩
end Go.Proofs.YtjkkbkdpoebfaaaGreat
namespace Go.Proofs.YtjkkbkdpoebfaaaGreat
open Go.RowKit Go.Deep

theorem MdsAt.setCell {lo : Nat} {w : World} {v : Value} {Ms : List Md} (h : MdsAt lo w v Ms) {p : Addr} (hp : p.block < lo) (u : Value) : MdsAt lo (w.setCell p u) v Ms := by
  rcases h with h | ⟨b, off, cap, h1, h2, h3, h4, h5, h6, h7⟩
  · exact Or.inl h
  · refine Or.inr ⟨b, off, cap, h1, h2, h3, by simpa [World.setCell] using h4, h5, h6, fun i hi => ?_⟩
    obtain ⟨hs, hc⟩ := h7 i hi
    have e : ∀ o, (w.setCell p u).cell? ⟨b, o, none⟩ = w.cell? ⟨b, o, none⟩ := fun o => cell_setCell_ne _ _ _ _ (by show b ≠ p.block; omega)
    exact ⟨hs, by rw [e]; exact hc.c0, by rw [e]; exact hc.c1, by rw [e]; exact hc.c2, by rw [e]; exact hc.c3, by rw [e]; exact hc.c4, by rw [e]; exact hc.c5⟩

def MdsFill (wr : World) (B : Nat) (Ms : List Md) (k : Nat) : Prop :=
  ∃ f, wr.rowIs B 54 (Ms.length * 6) f ∧ ∀ i (h : i < Ms.length), i < k → MdSize Ms[i] ∧ f (i * 6) = .string Ms[i].kind ∧ f (i * 6 + 1) = .string Ms[i].field ∧ f (i * 6 + 2) = .string Ms[i].wh ∧ f (i * 6 + 3) = .string Ms[i].is ∧ f (i * 6 + 4) = .string Ms[i].put ∧ f (i * 6 + 5) = .string Ms[i].fr
theorem MdsFill.below {wr w1 : World} {B : Nat} {Ms : List Md} {k : Nat} (h : MdsFill wr B Ms k) (hb : Below wr.heap.size wr w1) : MdsFill w1 B Ms k := by
  obtain ⟨f, hr, hall⟩ := h
  exact ⟨f, hr.of_block (hb.block B hr.lt), hall⟩
theorem MdsFill.free {wr : World} {B : Nat} {Ms : List Md} {k : Nat} (h : MdsFill wr B Ms k) (i : Nat) : wr.frozen? ⟨B, i, none⟩ = false := by
  obtain ⟨f, hr, _⟩ := h
  exact hr.frozen i
theorem MdsFill.there {wr : World} {B : Nat} {Ms : List Md} {k : Nat} (h : MdsFill wr B Ms k) (i : Nat) (hi : i < Ms.length * 6) : ∃ v, wr.cell? ⟨B, i, none⟩ = some v := by
  obtain ⟨f, hr, _⟩ := h
  exact ⟨_, hr.cell hi⟩
theorem MdsFill.lt {wr : World} {B : Nat} {Ms : List Md} {k : Nat} (h : MdsFill wr B Ms k) : B < wr.heap.size := by
  obtain ⟨f, hr, _⟩ := h
  exact hr.lt
theorem MdsFill.step {w1 : World} {B : Nat} {Ms : List Md} {k : Nat} (h : MdsFill w1 B Ms k) (hk : k < Ms.length) (hz : MdSize Ms[k]) :
    MdsFill ((((((w1.setCell ⟨B, k * 6, none⟩ (.string Ms[k].kind)).setCell ⟨B, k * 6 + 1, none⟩ (.string Ms[k].field)).setCell ⟨B, k * 6 + 2, none⟩ (.string Ms[k].wh)).setCell ⟨B, k * 6 + 3, none⟩ (.string Ms[k].is)).setCell ⟨B, k * 6 + 4, none⟩ (.string Ms[k].put)).setCell ⟨B, k * 6 + 5, none⟩ (.string Ms[k].fr)) B Ms (k + 1) := by
  obtain ⟨f, hr, hall⟩ := h
  refine ⟨_, ((((((hr.set _ _).set _ _).set _ _).set _ _).set _ _).set _ _), fun i hi hik => ?_⟩
  by_cases e : i = k
  · subst e
    exact ⟨hz, by simp, by simp, by simp, by simp, by simp, by simp⟩
  · obtain ⟨hz', h0, h1, h2, h3, h4, h5⟩ := hall i hi (by omega)
    refine ⟨hz', ?_, ?_, ?_, ?_, ?_, ?_⟩
    · rw [if_neg (by omega), if_neg (by omega), if_neg (by omega), if_neg (by omega), if_neg (by omega), if_neg (by omega)]; exact h0
    · rw [if_neg (by omega), if_neg (by omega), if_neg (by omega), if_neg (by omega), if_neg (by omega), if_neg (by omega)]; exact h1
    · rw [if_neg (by omega), if_neg (by omega), if_neg (by omega), if_neg (by omega), if_neg (by omega), if_neg (by omega)]; exact h2
    · rw [if_neg (by omega), if_neg (by omega), if_neg (by omega), if_neg (by omega), if_neg (by omega), if_neg (by omega)]; exact h3
    · rw [if_neg (by omega), if_neg (by omega), if_neg (by omega), if_neg (by omega), if_neg (by omega), if_neg (by omega)]; exact h4
    · rw [if_neg (by omega), if_neg (by omega), if_neg (by omega), if_neg (by omega), if_neg (by omega), if_neg (by omega)]; exact h5
/-- A []GateMend OF n MENDS THAT MAY BE WRITTEN. -/
def MdsW (lo hi : Nat) (w : World) (v : Value) (n : Nat) : Prop :=
  (∃ (a : Option Addr) (cap : Nat), v = .slice a 0 cap ∧ n = 0) ∨
  ∃ (b off cap : Nat), v = .slice (some ⟨b, off, none⟩) n cap ∧ 0 < n ∧ n ≤ maxLen ∧ lo ≤ b ∧ b < hi ∧ b < w.heap.size ∧ (∀ i, i < n * 6 → (w.cell? ⟨b, off + i, none⟩).isSome = true) ∧ ∀ i, w.frozen? ⟨b, i, none⟩ = false
theorem MdsW.kept {lo hi lo' hi' : Nat} {w w' : World} {v : Value} {n : Nat} (h : MdsW lo hi w v n) (k : Kept lo' hi' w w') : MdsW lo hi w' v n := by
  rcases h with h | ⟨b, off, cap, h1, h2, h3, h4, h5, h6, h7, h8⟩
  · exact Or.inl h
  · exact Or.inr ⟨b, off, cap, h1, h2, h3, h4, h5, Nat.lt_of_lt_of_le h6 k.touch.size, fun i hi' => k.there _ h6 (h7 i hi'), fun i => (k.frz _ h6).trans (h8 i)⟩
theorem MdsW.below {lo hi : Nat} {w w' : World} {v : Value} {n : Nat} (h : MdsW lo hi w v n) (hb : Below w.heap.size w w') : MdsW lo hi w' v n := h.kept (Kept.below (lo := 0) (hi := 0) hb)
theorem MdsFill.done {wr : World} {B : Nat} {Ms : List Md} {k : Nat} (h : MdsFill wr B Ms k) (hk : Ms.length ≤ k) (hne : Ms ≠ []) (hm : Ms.length ≤ maxLen) : MdsAt B wr (.slice (some ⟨B, 0, none⟩) Ms.length Ms.length) Ms ∧ MdsW B wr.heap.size wr (.slice (some ⟨B, 0, none⟩) Ms.length Ms.length) Ms.length := by
  refine ⟨?_, Or.inr ⟨B, 0, Ms.length, rfl, List.length_pos_iff.2 hne, hm, Nat.le_refl _, h.lt, h.lt, fun i hi => ?_, h.free⟩⟩
  · obtain ⟨f, hr, hall⟩ := h
    refine Or.inr ⟨B, 0, Ms.length, rfl, hne, hm, hr.lt, Nat.le_refl _, Nat.le_refl _, fun i hi => ?_⟩
    obtain ⟨hz, h0, h1, h2, h3, h4, h5⟩ := hall i hi (by omega)
    rw [Nat.zero_add]
    exact ⟨hz, by rw [hr.cell (by omega), h0], by rw [hr.cell (by omega), h1], by rw [hr.cell (by omega), h2], by rw [hr.cell (by omega), h3], by rw [hr.cell (by omega), h4], by rw [hr.cell (by omega), h5]⟩
  · obtain ⟨v, hv⟩ := h.there i hi; rw [Nat.zero_add, hv]; rfl
theorem MdsFill.new (w : World) (Ms : List Md) (z : Array Value) : MdsFill (w.alloc (.cells (madeCells z (Ms.length * 6)) 54)) w.heap.size Ms 0 := by
  refine ⟨fun i => (madeCells z (Ms.length * 6)).getD i default, ?_, fun i _ h => by omega⟩
  have := World.rowIs_alloc w (madeCells z (Ms.length * 6)) 54 (fun i => (madeCells z (Ms.length * 6)).getD i default) (fun i hi => by simp [Array.getD, hi])
  rwa [size_madeCells] at this

end Go.Proofs.YtjkkbkdpoebfaaaGreat
