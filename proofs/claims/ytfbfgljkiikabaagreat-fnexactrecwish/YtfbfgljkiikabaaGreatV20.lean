import Derived.Test.YtfbfgljkiikabaaGreatV15
import Derived.Test.YtfbfgljkiikabaaGreatV17
import Derived.Test.YtfbfgljkiikabaaGreatV18
import Derived.Test.YtfbfgljkiikabaaGreatV19
import Derived.Sort.Walk0
namespace Go.Proofs.YtfbfgljkiikabaaGreat
open Go.RowKit Go.Deep

set_option maxRecDepth 20000 in
set_option maxHeartbeats 16000000 in
theorem toRdO_any (lo : Nat) (cs : List Value) (U : Rd) (w : World) (h : RdC lo w cs U) (hn : RdSmall U) :
    Calls Tryz.prog 35 #[.agg cs.toArray] w
      fun e w' => ∃ b0 m0, e = .returned (.agg (rdL U b0 m0).toArray) ∧ Below w.heap.size w w' ∧ RssOwn w.heap.size w'.heap.size w' (.slice b0 U.sl.length m0) U.sl := by
  obtain ⟨a0, k0, rfl, h⟩ := h
  show Calls Tryz.prog 35 #[.agg #[.int .i64 U.pr, .int .i64 U.kn, .slice a0 U.sl.length k0]] w _
  have HL := hide h
  have hn0 := hn
  clear h
  go_enter Tryz.func35, Tryz.ntmps35
  go_wp2_with fail
  obtain ⟨wz, hwz, FX, FR, FO, HB⟩ : ∃ wz, wz = ((w.alloc (.cells #[.int .i64 U.pr, .int .i64 U.kn, .slice a0 U.sl.length k0] 24)).alloc (.cells #[.int .i64 0, .int .i64 0, .slice none 0 0] 37)).alloc (.cells #[.int .i64 U.pr, .int .i64 U.kn, .slice none 0 0] 37) ∧
      Hid (Box wz w.heap.size #[.int .i64 U.pr, .int .i64 U.kn, .slice a0 U.sl.length k0]) ∧ Hid (Box wz (w.heap.size + 1) #[.int .i64 0, .int .i64 0, .slice none 0 0]) ∧ Hid (Box wz (w.heap.size + 1 + 1) #[.int .i64 U.pr, .int .i64 U.kn, .slice none 0 0]) ∧ Hid (Below w.heap.size w wz) :=
    ⟨_, rfl, ((Box.new w _ _ _ rfl).on (one_al _ _)).on (one_al _ _), (Box.new _ _ _ _ (by simp)).on (one_al _ _), Box.new _ _ _ _ (by simp), ((one_al _ _).trans ((one_al _ _).mono (by simp))).trans ((one_al _ _).mono (by simp; omega))⟩
  rw [← hwz]
  clear hwz
  generalize wz = v0 at *
  have hz0 : w.heap.size + 3 ≤ v0.heap.size := by have := FO.out.lt; omega
  refine (toRssO_any lo _ U.sl _ ((HL.out.below HB.out).l0) hn0).mono ?_
  rintro e x0 ⟨u, rfl, hb, hs⟩
  obtain ⟨b0, m0, rfl⟩ := hs.form
  have N0 := hide (hs.wide hz0 (Nat.le_refl _))
  replace FX := hide (FX.out.on hb)
  replace FR := hide (FR.out.on hb)
  replace FO := hide (FO.out.on hb)
  replace HB := hide (bt HB.out hb)
  clear hb hs hz0
  have g0 := FO.out.cell
  have g1 := FO.out.free
  have g2 := FR.out.cell
  have g3 := FR.out.free
  have g4 := FX.out.cell
  go_wp2
  refine bodyPost_ret (v := .agg #[.int .i64 U.pr, .int .i64 U.kn, .slice b0 U.sl.length m0]) (by simp [results, Tryz.results35, go_sem, g2]) rfl ⟨b0, m0, rfl, ?_, ?_⟩
  · repeat (refine Below.setCell ?_ (by simp only []; omega) _)
    exact HB.out
  · refine RssOwn.wide (lo := w.heap.size + 3) (hi := x0.heap.size) ?_ (by omega) (by simp [World.setCell])
    repeat (refine RssOwn.set ?_ (by simp only []; omega) _)
    exact N0.out
end Go.Proofs.YtfbfgljkiikabaaGreat
namespace Go.Proofs.YtfbfgljkiikabaaGreat
open Go.RowKit Go.Deep

theorem Box.tch {w w' : World} {β lo hi : Nat} {cs : Array Value} (h : Box w β cs) (ht : Touch lo hi w w') (ho : hi ≤ β) : Box w' β cs :=
  ⟨Nat.lt_of_lt_of_le h.lt ht.size, fun i => (ht.cell (p := ⟨β, i, none⟩) h.lt (Or.inr ho)).trans (h.cell i), fun i => (ht.frozen (p := ⟨β, i, none⟩) h.lt (Or.inr ho)).trans (h.free i)⟩
theorem Box.tch2 {w w' : World} {β lo hi : Nat} {cs : Array Value} (h : Box w β cs) (ht : Touch lo hi w w') (ho : β < lo ∨ hi ≤ β) : Box w' β cs :=
  ⟨Nat.lt_of_lt_of_le h.lt ht.size, fun i => (ht.cell (p := ⟨β, i, none⟩) h.lt ho).trans (h.cell i), fun i => (ht.frozen (p := ⟨β, i, none⟩) h.lt ho).trans (h.free i)⟩
structure RrO (lo hi : Nat) (w : World) (c : Nat → Nat × Nat) (v0 v1 v2 v3 v4 v5 v6 : Value) (U : Rr) : Prop where
  seg : ∀ i, i < 7 → lo ≤ (c i).1 ∧ (c i).2 ≤ hi
  ap : ∀ i j, i < 7 → j < 7 → i ≠ j → (c i).2 ≤ (c j).1 ∨ (c j).2 ≤ (c i).1
  o0 : RssOwn (c 0).1 (c 0).2 w v0 U.sf.sl
  o1 : RssOwn (c 1).1 (c 1).2 w v1 U.dk.sl
  o2 : RmsOwn (c 2).1 (c 2).2 w v2 U.he
  o3 : RtsOwn (c 3).1 (c 3).2 w v3 U.wi
  o4 : RisOwn (c 4).1 (c 4).2 w v4 U.ye
  o5 : RssOwn (c 5).1 (c 5).2 w v5 U.be
  o6 : RasOwn (c 6).1 (c 6).2 w v6 U.ac
theorem RrO.below {lo hi : Nat} {w w' : World} {c : Nat → Nat × Nat} {v0 v1 v2 v3 v4 v5 v6 : Value} {U : Rr} (h : RrO lo hi w c v0 v1 v2 v3 v4 v5 v6 U) (hb : Below w.heap.size w w') : RrO lo hi w' c v0 v1 v2 v3 v4 v5 v6 U := ⟨h.seg, h.ap, h.o0.below hb, h.o1.below hb, h.o2.below hb, h.o3.below hb, h.o4.below hb, h.o5.below hb, h.o6.below hb⟩
theorem RrO.touch {lo hi lo' hi' : Nat} {w w' : World} {c : Nat → Nat × Nat} {v0 v1 v2 v3 v4 v5 v6 : Value} {U : Rr} (h : RrO lo hi w c v0 v1 v2 v3 v4 v5 v6 U) (ht : Touch lo' hi' w w') (ho : hi ≤ lo' ∨ hi' ≤ lo) : RrO lo hi w' c v0 v1 v2 v3 v4 v5 v6 U := by
  have s0 := h.seg 0 (by omega)
  have s1 := h.seg 1 (by omega)
  have s2 := h.seg 2 (by omega)
  have s3 := h.seg 3 (by omega)
  have s4 := h.seg 4 (by omega)
  have s5 := h.seg 5 (by omega)
  have s6 := h.seg 6 (by omega)
  exact ⟨h.seg, h.ap, h.o0.touch ht (by omega), h.o1.touch ht (by omega), h.o2.touch ht (by omega), h.o3.touch ht (by omega), h.o4.touch ht (by omega), h.o5.touch ht (by omega), h.o6.touch ht (by omega)⟩
/-- a recorder of one's own -/
def RrOwn (lo hi : Nat) (w : World) (cs : List Value) (U : Rr) : Prop := ∃ a0 k0 a1 k1 a2 k2 a3 k3 a4 k4 a5 k5 a6 k6 c, cs = rrL U a0 k0 a1 k1 a2 k2 a3 k3 a4 k4 a5 k5 a6 k6 ∧ RrO lo hi w c (.slice a0 U.sf.sl.length k0) (.slice a1 U.dk.sl.length k1) (.slice a2 U.he.length k2) (.slice a3 U.wi.length k3) (.slice a4 U.ye.length k4) (.slice a5 U.be.length k5) (.slice a6 U.ac.length k6) U
theorem RrOwn.below {lo hi : Nat} {w w' : World} {cs : List Value} {U : Rr} (h : RrOwn lo hi w cs U) (hb : Below w.heap.size w w') : RrOwn lo hi w' cs U := by
  obtain ⟨a0, k0, a1, k1, a2, k2, a3, k3, a4, k4, a5, k5, a6, k6, c, h1, h2⟩ := h
  exact ⟨a0, k0, a1, k1, a2, k2, a3, k3, a4, k4, a5, k5, a6, k6, c, h1, h2.below hb⟩
theorem RrOwn.touch {lo hi lo' hi' : Nat} {w w' : World} {cs : List Value} {U : Rr} (h : RrOwn lo hi w cs U) (ht : Touch lo' hi' w w') (ho : hi ≤ lo' ∨ hi' ≤ lo) : RrOwn lo hi w' cs U := by
  obtain ⟨a0, k0, a1, k1, a2, k2, a3, k3, a4, k4, a5, k5, a6, k6, c, h1, h2⟩ := h
  exact ⟨a0, k0, a1, k1, a2, k2, a3, k3, a4, k4, a5, k5, a6, k6, c, h1, h2.touch ht ho⟩
theorem RrOwn.at {lo hi : Nat} {w : World} {cs : List Value} {U : Rr} (h : RrOwn lo hi w cs U) : RrC lo w cs U := by
  obtain ⟨a0, k0, a1, k1, a2, k2, a3, k3, a4, k4, a5, k5, a6, k6, c, h1, h2⟩ := h
  exact ⟨a0, k0, a1, k1, a2, k2, a3, k3, a4, k4, a5, k5, a6, k6, h1, ⟨h2.o0.at.mono (h2.seg 0 (by omega)).1, h2.o1.at.mono (h2.seg 1 (by omega)).1, h2.o2.at.mono (h2.seg 2 (by omega)).1, h2.o3.at.mono (h2.seg 3 (by omega)).1, h2.o4.at.mono (h2.seg 4 (by omega)).1, h2.o5.at.mono (h2.seg 5 (by omega)).1, h2.o6.at.mono (h2.seg 6 (by omega)).1⟩⟩
def kR0 (k : Int) (_U : Rr) : Int := k
def kR1 (k : Int) (U : Rr) : Int := kR0 k U + (posRs U.sf.sl U.sf.sl.length : Int)
def kR2 (k : Int) (U : Rr) : Int := kR1 k U + (posRs U.dk.sl U.dk.sl.length : Int)
def kR3 (k : Int) (U : Rr) : Int := kR2 k U + (posRm U.he U.he.length : Int)
def kR4 (k : Int) (U : Rr) : Int := kR3 k U + (U.wi.length : Int)
def kR5 (k : Int) (U : Rr) : Int := kR4 k U + (U.ye.length : Int)
def kR6 (k : Int) (U : Rr) : Int := kR5 k U + (posRs U.be U.be.length : Int)
def kR7 (k : Int) (U : Rr) : Int := kR6 k U + (posRa U.ac U.ac.length : Int)
def mkRr (k : Int) (U : Rr) : Rr := { U with sf := { U.sf with sl := mkRss (kR0 k U) U.sf.sl }, dk := { U.dk with sl := mkRss (kR1 k U) U.dk.sl }, he := mkRms (kR2 k U) U.he, wi := tmarks (kR3 k U) U.wi.length, ye := imarks (kR4 k U) U.ye.length, be := mkRss (kR5 k U) U.be, ac := mkRas (kR6 k U) U.ac }
theorem mkRr_L (k : Int) (U : Rr) (a0 : Option Addr) (k0 : Nat) ( a1 : Option Addr) (k1 : Nat) ( a2 : Option Addr) (k2 : Nat) ( a3 : Option Addr) (k3 : Nat) ( a4 : Option Addr) (k4 : Nat) ( a5 : Option Addr) (k5 : Nat) (a6 : Option Addr) (k6 : Nat) : rrL (mkRr k U) a0 k0 a1 k1 a2 k2 a3 k3 a4 k4 a5 k5 a6 k6 = rrL U a0 k0 a1 k1 a2 k2 a3 k3 a4 k4 a5 k5 a6 k6 := by
  simp [rrL, mkRr, mkRss_len, mkRms_len, tmarks_len, imarks_len, mkRas_len]
theorem kR_bd {k : Int} {U : Rr} (hn : RrSmall U) (h0 : 0 ≤ k) (hk : k ≤ 1000000000000000) : (0 ≤ kR1 k U ∧ kR1 k U ≤ 10000000000000000) ∧ (0 ≤ kR2 k U ∧ kR2 k U ≤ 20000000000000000) ∧ (0 ≤ kR3 k U ∧ kR3 k U ≤ 30000000000000000) ∧ (0 ≤ kR4 k U ∧ kR4 k U ≤ 40000000000000000) ∧ (0 ≤ kR5 k U ∧ kR5 k U ≤ 50000000000000000) ∧ (0 ≤ kR6 k U ∧ kR6 k U ≤ 60000000000000000) ∧ (0 ≤ kR7 k U ∧ kR7 k U ≤ 70000000000000000) := by
  obtain ⟨n0, n1, n2, n3, n4, n5, n6⟩ := hn
  unfold RdSmall at n0 n1
  have p0 := posRs_le n0 (Nat.le_refl _)
  have p1 := posRs_le n1 (Nat.le_refl _)
  have p2 := posRm_le n2 (Nat.le_refl _)
  have p5 := posRs_le n5 (Nat.le_refl _)
  have p6 := posRa_le n6 (Nat.le_refl _)
  have q0 := n0.1
  have q1 := n1.1
  have q2 := n2.1
  have q5 := n5.1
  have q6 := n6.1
  unfold RtsSmall at n3
  unfold RisSmall at n4
  unfold kR7 kR6 kR5 kR4 kR3 kR2 kR1 kR0
  omega
end Go.Proofs.YtfbfgljkiikabaaGreat
namespace Go.Proofs.YtfbfgljkiikabaaGreat
open Go.RowKit Go.Deep

/-- a thing's inner list, apart from the row's own block g -/
def InA (w : World) (lo hi g : Nat) (x : AX) : Prop := ∃ l u, lo ≤ l ∧ l ≤ u ∧ u ≤ hi ∧ (g < l ∨ u ≤ g) ∧ FRow inL 1 w l u (.slice x.2.1 x.1.fr.length x.2.2) x.1.fr
/-- a row that grows, its inner lists apart from each other, all of it in [lo, hi) -/
structure AR (w : World) (lo hi g : Nat) (v : Value) (L : List AX) : Prop where
  row : FRow axL 2 w g (g + 1) v L
  low : lo ≤ g
  up : g < hi
  inn : ∃ c : Nat → Nat × Nat, (∀ i, i < L.length → lo ≤ (c i).1 ∧ (c i).1 ≤ (c i).2 ∧ (c i).2 ≤ hi ∧ (g < (c i).1 ∨ (c i).2 ≤ g)) ∧ (∀ i j, i < L.length → j < L.length → i ≠ j → (c i).2 ≤ (c j).1 ∨ (c j).2 ≤ (c i).1) ∧ ∀ i (h : i < L.length), FRow inL 1 w (c i).1 (c i).2 (.slice L[i].2.1 L[i].1.fr.length L[i].2.2) L[i].1.fr
theorem AR.below {w w' : World} {lo hi g : Nat} {v : Value} {L : List AX} (h : AR w lo hi g v L) (hb : Below w.heap.size w w') : AR w' lo hi g v L := by
  obtain ⟨c, h1, h2, h3⟩ := h.inn
  exact ⟨h.row.below hb, h.low, h.up, c, h1, h2, fun i hi => (h3 i hi).below hb⟩
theorem AR.wide {w : World} {lo hi hi' g : Nat} {v : Value} {L : List AX} (h : AR w lo hi g v L) (hh : hi ≤ hi') : AR w lo hi' g v L := by
  obtain ⟨c, h1, h2, h3⟩ := h.inn
  exact ⟨h.row, h.low, Nat.lt_of_lt_of_le h.up hh, c, fun i hi => ⟨(h1 i hi).1, (h1 i hi).2.1, Nat.le_trans (h1 i hi).2.2.1 hh, (h1 i hi).2.2.2⟩, h2, h3⟩
theorem AR.touch {w w' : World} {lo hi g : Nat} {v : Value} {L : List AX} (h : AR w lo hi g v L) {lo' hi' : Nat} (ht : Touch lo' hi' w w') (hh : hi ≤ lo' ∨ hi' ≤ lo) : AR w' lo hi g v L := by
  obtain ⟨c, h1, h2, h3⟩ := h.inn
  exact ⟨h.row.touch ht (by have := h.low; have := h.up; omega), h.low, h.up, c, h1, h2, fun i hi => (h3 i hi).touch ht (by have := h1 i hi; omega)⟩
theorem AR.lt {w : World} {lo hi g : Nat} {v : Value} {L : List AX} (h : AR w lo hi g v L) : g < w.heap.size := by
  obtain ⟨g', cap, -, hr⟩ := h.row
  have h1 := hr.bs
  have h2 := hr.up
  have h3 := hr.lt
  omega
/-- behind an append of one more, its inner list behind all that was there -/
theorem AR.snoc {W W' : World} {lo n g : Nat} {v v' : Value} {L : List AX} {x : AX} (h : AR W lo n g v L) (_hn : n ≤ W.heap.size) (hx : InA W n W.heap.size g x) (ht : Touch g (g + 1) W W') (hf : FRow axL 2 W' g (g + 1) v' (L ++ [x]) ∨ FRow axL 2 W' W.heap.size W'.heap.size v' (L ++ [x])) (hlo : lo ≤ n) : ∃ g', AR W' lo W'.heap.size g' v' (L ++ [x]) := by
  obtain ⟨c, h1, h2, h3⟩ := h.inn
  obtain ⟨l, u, x1, x2, x3, x4, x5⟩ := hx
  have hsz := ht.size
  have hll : (L ++ [x]).length = L.length + 1 := by simp
  obtain ⟨d, hd⟩ : ∃ d : Nat → Nat × Nat, d = fun i => if i = L.length then (l, u) else c i := ⟨_, rfl⟩
  have e1 : ∀ i, i < L.length → d i = c i := fun i hi => by rw [hd]; exact if_neg (by omega)
  have e2 : d L.length = (l, u) := by rw [hd]; exact if_pos rfl
  have seg : ∀ i, i < (L ++ [x]).length → lo ≤ (d i).1 ∧ (d i).1 ≤ (d i).2 ∧ (d i).2 ≤ W.heap.size ∧ (g < (d i).1 ∨ (d i).2 ≤ g) := fun i hi => by
    by_cases q : i < L.length
    · rw [e1 i q]; have := h1 i q; omega
    · rw [show i = L.length by omega, e2]; exact ⟨by omega, x2, x3, x4⟩
  have ap : ∀ i j, i < (L ++ [x]).length → j < (L ++ [x]).length → i ≠ j → (d i).2 ≤ (d j).1 ∨ (d j).2 ≤ (d i).1 := fun i j hi hj hne => by
    by_cases q : i < L.length
    · by_cases r : j < L.length
      · rw [e1 i q, e1 j r]; exact h2 i j q r hne
      · rw [e1 i q, show j = L.length by omega, e2]; have := h1 i q; simp only []; omega
    · rw [show i = L.length by omega, e2, e1 j (by omega)]; have := h1 j (by omega); simp only []; omega
  have inn : ∀ i (hi : i < (L ++ [x]).length), FRow inL 1 W' (d i).1 (d i).2 (.slice (L ++ [x])[i].2.1 (L ++ [x])[i].1.fr.length (L ++ [x])[i].2.2) (L ++ [x])[i].1.fr := fun i hi => by
    have hs := seg i hi
    refine FRow.touch ?_ ht (by omega)
    by_cases q : i < L.length
    · rw [e1 i q, List.getElem_append_left q]; exact h3 i q
    · have e : i = L.length := by omega
      subst e
      have ex : (L ++ [x])[L.length] = x := by simp
      rw [e2, ex]; exact x5
  rcases hf with hf | hf
  · exact ⟨g, hf, h.low, by have := h.up; omega, d, fun i hi => by have := seg i hi; omega, ap, inn⟩
  · obtain ⟨g', cap, q1, q2⟩ := hf
    have hbs := q2.bs
    exact ⟨g', ⟨g', cap, q1, q2.own⟩, by omega, q2.lt, d, fun i hi => by have := seg i hi; omega, ap, inn⟩
theorem AR.ras {w : World} {lo hi g : Nat} {v : Value} {L : List AX} {Xl : List Ra} (h : AR w lo hi g v L) (hL : L.map (·.1) = Xl) : RasAt lo w v Xl := by
  subst hL
  refine h.row.ras h.low fun i hi => ?_
  obtain ⟨c, h1, h2, h3⟩ := h.inn
  exact (h3 i hi).ris.at.mono (h1 i hi).1
end Go.Proofs.YtfbfgljkiikabaaGreat
namespace Go.Proofs.YtfbfgljkiikabaaGreat
open Go.RowKit Go.Deep

def svF (L : List Sv) (s : ByteArray) : Option Sv := L.find? fun x => x.nm.toList == s.toList
def hasBe (L : List Be) (s : ByteArray) : Bool := L.any fun x => x.nm.toList == s.toList
def cpT (B : Sb) (c : Cp) (x : Sv) : Bool := inB 1 (x.nx - 1) c.nu && (inB 1 B.now c.ve && (inB 1 1000000 c.im && (inB 1 4 c.st && (if c.st == 1 then c.be.toList.isEmpty else hasBe B.bs c.be))))
def cpB (B : Sb) (c : Cp) : Bool := match svF B.ss c.se with
  | none => false
  | some x => cpT B c x
def aheadB (a b : Cp) : Bool := Op.bytesLess a.se.toList b.se.toList || ((a.se.toList == b.se.toList) && decide (a.nu < b.nu))
/-- each stands behind the one ahead of it -/
def risN {X : Type} (r : X → X → Bool) (L : List X) : Nat → Bool
  | 0 => true
  | j + 1 => match L[j]?, L[j + 1]? with
    | some x, some y => r x y
    | _, _ => true
def risR {X : Type} (r : X → X → Bool) (L : List X) : Bool := (List.range L.length).all (risN r L)
theorem risN_at {X : Type} {r : X → X → Bool} {L : List X} {j : Nat} (h : j + 1 < L.length) : risN r L (j + 1) = r L[j] L[j + 1] := by
  show (match L[j]?, L[j + 1]? with | some x, some y => r x y | _, _ => true) = _
  rw [List.getElem?_eq_getElem (by omega), List.getElem?_eq_getElem h]
def rSv (x y : Sv) : Bool := Op.bytesLess x.nm.toList y.nm.toList
def rBe (x y : Be) : Bool := Op.bytesLess x.nm.toList y.nm.toList
def beB (x : Be) : Bool := nmB x.nm
/-- where a service stands; whether a berth is there -/
def svI (L : List Sv) (s : ByteArray) : Nat := L.findIdx fun x => x.nm.toList == s.toList
def SvPl (L : List Sv) (s : ByteArray) (r : Int) : Prop := (r = -1 ∧ svF L s = none) ∨ (r = (svI L s : Int) ∧ ∃ (h : svI L s < L.length), svF L s = some L[svI L s])
def BePl (L : List Be) (s : ByteArray) (r : Int) : Prop := decide (0 ≤ r) = hasBe L s
/-- a valid book -/
def validB (B : Sb) : Bool := inB 0 1000000 B.now && (decide (B.ss.length ≤ 8) && (decide (B.cs.length ≤ 200) && (decide (B.bs.length ≤ 6) && ((B.ss.all (svB B.now) && risR rSv B.ss) && ((B.bs.all beB && risR rBe B.bs) && (B.cs.all (cpB B) && risR aheadB B.cs))))))
theorem zall_no {X : Type} {L : List X} {f : X → Bool} {k : Nat} (hk : k < L.length) (h : f L[k] = false) : L.all f = false := by
  rw [List.all_eq_false]
  exact ⟨L[k], List.getElem_mem hk, by simp [h]⟩
theorem zall_yes {X : Type} {L : List X} {f : X → Bool} (h : ∀ i (h : i < L.length), f L[i] = true) : L.all f = true := by
  rw [List.all_eq_true]
  intro x hx
  obtain ⟨i, hi, rfl⟩ := List.getElem_of_mem hx
  exact h i hi
theorem zall_at {X : Type} {L : List X} {f : X → Bool} (h : L.all f = true) {k : Nat} (hk : k < L.length) : f L[k] = true := List.all_eq_true.1 h _ (List.getElem_mem hk)
theorem zstep_all {X : Type} {L : List X} {f : X → Bool} {k : Nat} (hall : ∀ j (h : j < L.length), j < k → f L[j] = true) (hk : k < L.length) (h : f L[k] = true) : ∀ j (h : j < L.length), j < k + 1 → f L[j] = true := fun j hj hjk => by
  by_cases e : j = k
  · subst e; exact h
  · exact hall j hj (by omega)
theorem find_at {X : Type} {L : List X} {f : X → Bool} {k : Nat} (hk : k < L.length) (hno : ∀ j (h : j < L.length), j < k → f L[j] = false) (h : f L[k] = true) : L.find? f = some L[k] := by
  rw [List.find?_eq_some_iff_getElem]
  exact ⟨h, k, hk, rfl, fun j hj => by rw [hno j (by omega) hj]; rfl⟩
theorem idx_at {X : Type} {L : List X} {f : X → Bool} {k : Nat} (hk : k < L.length) (hno : ∀ j (h : j < L.length), j < k → f L[j] = false) (h : f L[k] = true) : L.findIdx f = k := (List.findIdx_eq hk).2 ⟨h, fun j hj => hno j (by omega) hj⟩
theorem SvPl.at {L : List Sv} {s : ByteArray} {k : Nat} (hk : k < L.length) (hno : ∀ j (h : j < L.length), j < k → (L[j].nm.toList == s.toList) = false) (h : (L[k].nm.toList == s.toList) = true) : SvPl L s (k : Int) := by
  have hi : svI L s = k := idx_at (f := fun x : Sv => x.nm.toList == s.toList) hk hno h
  refine Or.inr ?_
  rw [hi]
  exact ⟨rfl, hk, find_at (f := fun x : Sv => x.nm.toList == s.toList) hk hno h⟩
theorem find_none {X : Type} {L : List X} {f : X → Bool} (hno : ∀ j (h : j < L.length), f L[j] = false) : L.find? f = none := by
  rw [List.find?_eq_none]
  intro x hx
  obtain ⟨i, hi, rfl⟩ := List.getElem_of_mem hx
  rw [hno i hi]; exact Bool.false_ne_true
theorem any_at {X : Type} {L : List X} {f : X → Bool} {k : Nat} (hk : k < L.length) (h : f L[k] = true) : L.any f = true := List.any_eq_true.2 ⟨_, List.getElem_mem hk, h⟩
theorem any_none {X : Type} {L : List X} {f : X → Bool} (hno : ∀ j (h : j < L.length), f L[j] = false) : L.any f = false := by
  rw [List.any_eq_false]
  intro x hx
  obtain ⟨i, hi, rfl⟩ := List.getElem_of_mem hx
  rw [hno i hi]; exact Bool.false_ne_true
theorem svB_nx {now : Int} {x : Sv} (h : svB now x = true) : 1 ≤ x.nx ∧ x.nx ≤ 1000000 := by
  unfold svB at h
  simp only [Bool.and_eq_true] at h
  have := h.2.2.2.1
  exact ⟨inB_lo this, inB_hi this⟩
end Go.Proofs.YtfbfgljkiikabaaGreat
namespace Go.Proofs.YtfbfgljkiikabaaGreat
open Go.RowKit Go.Deep

/-- how two texts stand to each other -/
def cmpS (a b : ByteArray) : Int := if Op.bytesLess a.toList b.toList = true then -1 else if (a.toList == b.toList) = true then 0 else 1
theorem less_irrefl (a : List UInt8) : Op.bytesLess a a = false := by rw [bytesLess_eq]; exact decide_eq_false (List.lt_irrefl _)
theorem less_asymm {a b : List UInt8} (h : Op.bytesLess a b = true) : Op.bytesLess b a = false := by
  rw [bytesLess_eq] at h ⊢
  exact decide_eq_false (fun h' => List.lt_irrefl _ (List.lt_trans (of_decide_eq_true h) h'))
theorem less_trans {a b c : List UInt8} (h : Op.bytesLess a b = true) (h' : Op.bytesLess b c = true) : Op.bytesLess a c = true := by
  rw [bytesLess_eq] at h h' ⊢
  exact decide_eq_true (List.lt_trans (of_decide_eq_true h) (of_decide_eq_true h'))
theorem less_tri {a b : List UInt8} (h : Op.bytesLess a b = false) (h' : Op.bytesLess b a = false) : a = b := by
  rw [bytesLess_eq] at h h'
  exact List.le_antisymm (List.not_lt.1 (of_decide_eq_false h')) (List.not_lt.1 (of_decide_eq_false h))
theorem toList_inj {a b : ByteArray} (h : a.toList = b.toList) : a = b := bytes_eq.1 (by rw [h]; simp)
theorem cmpS_self (a : ByteArray) : cmpS a a = 0 := by unfold cmpS; simp [less_irrefl]
theorem cmpS_zero {a b : ByteArray} : cmpS a b = 0 ↔ a = b := by
  refine ⟨fun h => ?_, fun h => by rw [h]; exact cmpS_self _⟩
  unfold cmpS at h
  split at h
  · omega
  · split at h
    · rename_i h2
      exact bytes_eq.1 h2
    · omega
theorem cmpS_neg {a b : ByteArray} : cmpS a b < 0 ↔ Op.bytesLess a.toList b.toList = true := by
  unfold cmpS
  split
  · rename_i h; simp [h]
  · rename_i h
    split <;> simp [h]
theorem cmpS_pos {a b : ByteArray} : 0 < cmpS a b ↔ Op.bytesLess b.toList a.toList = true := by
  unfold cmpS
  split
  · rename_i h; simp [less_asymm h]
  · rename_i h
    split
    · rename_i h2
      rw [bytes_eq.1 h2]; simp [less_irrefl]
    · rename_i h2
      have : Op.bytesLess b.toList a.toList = true := by
        cases h3 : Op.bytesLess b.toList a.toList with
        | true => rfl
        | false => exact absurd (bytes_eq.2 (toList_inj (less_tri (by simpa using h) h3))) h2
      simp [this]
theorem cmpS_bd (a b : ByteArray) : -1 ≤ cmpS a b ∧ cmpS a b ≤ 1 := by unfold cmpS; split <;> (try split) <;> omega
/-- the first that is not 0 -/
def orI (a b : Int) : Int := if a = 0 then b else a
theorem orI_zero {a b : Int} : orI a b = 0 ↔ a = 0 ∧ b = 0 := by unfold orI; split <;> omega
theorem orI_bd {a b : Int} (h : -1 ≤ a ∧ a ≤ 1) (h' : -1 ≤ b ∧ b ≤ 1) : -1 ≤ orI a b ∧ orI a b ≤ 1 := by unfold orI; split <;> omega

/-- the first of a list that is not 0 -/
def orL : List Int → Int
  | [] => 0
  | x :: r => if x = 0 then orL r else x
theorem orL_skip {L : List Int} {k : Nat} (hk : k < L.length) (h : L[k] = 0) : orL (L.drop k) = orL (L.drop (k + 1)) := by
  rw [List.drop_eq_getElem_cons hk, orL, if_pos h]
theorem orL_stop {L : List Int} {k : Nat} (hk : k < L.length) (h : L[k] ≠ 0) : orL (L.drop k) = L[k] := by
  rw [List.drop_eq_getElem_cons hk, orL, if_neg h]

theorem orL_two (a b : Int) : orL [a, b] = orI a b := by simp only [orL]; unfold orI; split <;> (try split) <;> omega
def cmpI (a b : Int) : Int := if a < b then -1 else if b < a then 1 else 0
theorem cmpI_neg {a b : Int} : cmpI a b < 0 ↔ a < b := by unfold cmpI; split <;> (try split) <;> omega
theorem nanI_any (a : Int) (w : World) : Calls Tryz.prog 157 #[.int .i64 a] w fun e w' => e = .returned (.bool false) ∧ w' = w := by
  go_enter Tryz.func157, Tryz.ntmps157
  go_wp2
  go_ret
  exact ⟨rfl, rfl⟩
set_option maxHeartbeats 400000 in
theorem cmpInt_any (a b : Int) (w : World) :
    Calls Tryz.prog 139 #[.int .i64 a, .int .i64 b] w fun e w' => e = .returned (.int .i64 (cmpI a b)) ∧ w' = w := by
  by_cases h1 : a < b
  · have HE : Hid (cmpI a b = -1) := if_pos h1
    go_enter Tryz.func139, Tryz.ntmps139
    go_wp2_with (go_at_call 157; refine (nanI_any _ _).mono ?_; rintro e w' ⟨rfl, rfl⟩)
    go_ret
    exact ⟨ret_int HE.out.symm, rfl⟩
  · by_cases h2 : b < a
    · have HE : Hid (cmpI a b = 1) := by unfold Hid cmpI; rw [if_neg h1, if_pos h2]
      go_enter Tryz.func139, Tryz.ntmps139
      go_wp2_with (go_at_call 157; refine (nanI_any _ _).mono ?_; rintro e w' ⟨rfl, rfl⟩)
      go_ret
      exact ⟨ret_int HE.out.symm, rfl⟩
    · have HE : Hid (cmpI a b = 0) := by unfold Hid cmpI; rw [if_neg h1, if_neg h2]
      go_enter Tryz.func139, Tryz.ntmps139
      go_wp2_with (go_at_call 157; refine (nanI_any _ _).mono ?_; rintro e w' ⟨rfl, rfl⟩)
      go_ret
      exact ⟨ret_int HE.out.symm, rfl⟩
theorem within_any (n lo hi : Int) (w : World) :
    Calls Tryz.prog 94 #[.int .i64 n, .int .i64 lo, .int .i64 hi] w fun e w' => e = .returned (.bool (inB lo hi n)) ∧ w' = w := by
  rw [inB_eq]
  by_cases h : lo ≤ n
  · by_cases h2 : n ≤ hi
    · go_enter Tryz.func94, Tryz.ntmps94
      go_wp2
      go_ret
      exact ⟨by rw [decide_eq_true h, decide_eq_true h2]; rfl, rfl⟩
    · go_enter Tryz.func94, Tryz.ntmps94
      go_wp2
      go_ret
      exact ⟨by simp [h2], rfl⟩
  · go_enter Tryz.func94, Tryz.ntmps94
    go_wp2
    go_ret
    exact ⟨by rw [decide_eq_false (show ¬ lo ≤ n by omega)]; rfl, rfl⟩

end Go.Proofs.YtfbfgljkiikabaaGreat
