import Derived.Test.YtfbfgljkiikabaaV15
import Derived.Test.YtfbfgljkiikabaaV16
import Derived.Test.YtfbfgljkiikabaaV17
import Derived.Test.YtfbfgljkiikabaaV18
namespace Go.Proofs.Ytfbfgljkiikabaa
open Go.RowKit Go.Deep

theorem Box.tch {w w' : World} {β lo hi : Nat} {cs : Array Value} (h : Box w β cs) (ht : Touch lo hi w w') (ho : hi ≤ β) : Box w' β cs :=
  ⟨Nat.lt_of_lt_of_le h.lt ht.size, fun i => (ht.cell (p := ⟨β, i, none⟩) h.lt (Or.inr ho)).trans (h.cell i), fun i => (ht.frozen (p := ⟨β, i, none⟩) h.lt (Or.inr ho)).trans (h.free i)⟩
theorem Box.tch2 {w w' : World} {β lo hi : Nat} {cs : Array Value} (h : Box w β cs) (ht : Touch lo hi w w') (ho : β < lo ∨ hi ≤ β) : Box w' β cs :=
  ⟨Nat.lt_of_lt_of_le h.lt ht.size, fun i => (ht.cell (p := ⟨β, i, none⟩) h.lt ho).trans (h.cell i), fun i => (ht.frozen (p := ⟨β, i, none⟩) h.lt ho).trans (h.free i)⟩
structure RrO (lo hi : Nat) (w : World) (c : Nat → Nat × Nat) (v0 v1 v2 v3 v4 v5 v6 : Value) (U : Rr) : Prop where
  seg : ∀ i, i < 7 → lo ≤ (c i).1 ∧ (c i).2 ≤ hi
  ap : ∀ i j, i < 7 → j < 7 → i ≠ j → (c i).2 ≤ (c j).1 ∨ (c j).2 ≤ (c i).1
  o0 : RssOwn (c 0).1 (c 0).2 w v0 U.sf.sl
  o1 : RssOwn (c 1).1 (c 1).2 w v1 U.dk.sl
  o2 : RmsOwn (c 2).1 (c 2).2 w v2 U.he
  o3 : RtsOwn (c 3).1 (c 3).2 w v3 U.wi
  o4 : RisOwn (c 4).1 (c 4).2 w v4 U.ye
  o5 : RssOwn (c 5).1 (c 5).2 w v5 U.be
  o6 : RasOwn (c 6).1 (c 6).2 w v6 U.ac
theorem RrO.below {lo hi : Nat} {w w' : World} {c : Nat → Nat × Nat} {v0 v1 v2 v3 v4 v5 v6 : Value} {U : Rr} (h : RrO lo hi w c v0 v1 v2 v3 v4 v5 v6 U) (hb : Below w.heap.size w w') : RrO lo hi w' c v0 v1 v2 v3 v4 v5 v6 U := ⟨h.seg, h.ap, h.o0.below hb, h.o1.below hb, h.o2.below hb, h.o3.below hb, h.o4.below hb, h.o5.below hb, h.o6.below hb⟩
theorem RrO.touch {lo hi lo' hi' : Nat} {w w' : World} {c : Nat → Nat × Nat} {v0 v1 v2 v3 v4 v5 v6 : Value} {U : Rr} (h : RrO lo hi w c v0 v1 v2 v3 v4 v5 v6 U) (ht : Touch lo' hi' w w') (ho : hi ≤ lo' ∨ hi' ≤ lo) : RrO lo hi w' c v0 v1 v2 v3 v4 v5 v6 U := by
  have s0 := h.seg 0 (by omega)
  have s1 := h.seg 1 (by omega)
  have s2 := h.seg 2 (by omega)
  have s3 := h.seg 3 (by omega)
  have s4 := h.seg 4 (by omega)
  have s5 := h.seg 5 (by omega)
  have s6 := h.seg 6 (by omega)
  exact ⟨h.seg, h.ap, h.o0.touch ht (by omega), h.o1.touch ht (by omega), h.o2.touch ht (by omega), h.o3.touch ht (by omega), h.o4.touch ht (by omega), h.o5.touch ht (by omega), h.o6.touch ht (by omega)⟩
/-- a recorder of one's own -/
def RrOwn (lo hi : Nat) (w : World) (cs : List Value) (U : Rr) : Prop := ∃ a0 k0 a1 k1 a2 k2 a3 k3 a4 k4 a5 k5 a6 k6 c, cs = rrL U a0 k0 a1 k1 a2 k2 a3 k3 a4 k4 a5 k5 a6 k6 ∧ RrO lo hi w c (.slice a0 U.sf.sl.length k0) (.slice a1 U.dk.sl.length k1) (.slice a2 U.he.length k2) (.slice a3 U.wi.length k3) (.slice a4 U.ye.length k4) (.slice a5 U.be.length k5) (.slice a6 U.ac.length k6) U
theorem RrOwn.below {lo hi : Nat} {w w' : World} {cs : List Value} {U : Rr} (h : RrOwn lo hi w cs U) (hb : Below w.heap.size w w') : RrOwn lo hi w' cs U := by
  obtain ⟨a0, k0, a1, k1, a2, k2, a3, k3, a4, k4, a5, k5, a6, k6, c, h1, h2⟩ := h
  exact ⟨a0, k0, a1, k1, a2, k2, a3, k3, a4, k4, a5, k5, a6, k6, c, h1, h2.below hb⟩
theorem RrOwn.touch {lo hi lo' hi' : Nat} {w w' : World} {cs : List Value} {U : Rr} (h : RrOwn lo hi w cs U) (ht : Touch lo' hi' w w') (ho : hi ≤ lo' ∨ hi' ≤ lo) : RrOwn lo hi w' cs U := by
  obtain ⟨a0, k0, a1, k1, a2, k2, a3, k3, a4, k4, a5, k5, a6, k6, c, h1, h2⟩ := h
  exact ⟨a0, k0, a1, k1, a2, k2, a3, k3, a4, k4, a5, k5, a6, k6, c, h1, h2.touch ht ho⟩
theorem RrOwn.at {lo hi : Nat} {w : World} {cs : List Value} {U : Rr} (h : RrOwn lo hi w cs U) : RrC lo w cs U := by
  obtain ⟨a0, k0, a1, k1, a2, k2, a3, k3, a4, k4, a5, k5, a6, k6, c, h1, h2⟩ := h
  exact ⟨a0, k0, a1, k1, a2, k2, a3, k3, a4, k4, a5, k5, a6, k6, h1, ⟨h2.o0.at.mono (h2.seg 0 (by omega)).1, h2.o1.at.mono (h2.seg 1 (by omega)).1, h2.o2.at.mono (h2.seg 2 (by omega)).1, h2.o3.at.mono (h2.seg 3 (by omega)).1, h2.o4.at.mono (h2.seg 4 (by omega)).1, h2.o5.at.mono (h2.seg 5 (by omega)).1, h2.o6.at.mono (h2.seg 6 (by omega)).1⟩⟩
def kR0 (k : Int) (_U : Rr) : Int := k
def kR1 (k : Int) (U : Rr) : Int := kR0 k U + (posRs U.sf.sl U.sf.sl.length : Int)
def kR2 (k : Int) (U : Rr) : Int := kR1 k U + (posRs U.dk.sl U.dk.sl.length : Int)
def kR3 (k : Int) (U : Rr) : Int := kR2 k U + (posRm U.he U.he.length : Int)
def kR4 (k : Int) (U : Rr) : Int := kR3 k U + (U.wi.length : Int)
def kR5 (k : Int) (U : Rr) : Int := kR4 k U + (U.ye.length : Int)
def kR6 (k : Int) (U : Rr) : Int := kR5 k U + (posRs U.be U.be.length : Int)
def kR7 (k : Int) (U : Rr) : Int := kR6 k U + (posRa U.ac U.ac.length : Int)
def mkRr (k : Int) (U : Rr) : Rr := { U with sf := { U.sf with sl := mkRss (kR0 k U) U.sf.sl }, dk := { U.dk with sl := mkRss (kR1 k U) U.dk.sl }, he := mkRms (kR2 k U) U.he, wi := tmarks (kR3 k U) U.wi.length, ye := imarks (kR4 k U) U.ye.length, be := mkRss (kR5 k U) U.be, ac := mkRas (kR6 k U) U.ac }
theorem mkRr_L (k : Int) (U : Rr) (a0 : Option Addr) (k0 : Nat) ( a1 : Option Addr) (k1 : Nat) ( a2 : Option Addr) (k2 : Nat) ( a3 : Option Addr) (k3 : Nat) ( a4 : Option Addr) (k4 : Nat) ( a5 : Option Addr) (k5 : Nat) (a6 : Option Addr) (k6 : Nat) : rrL (mkRr k U) a0 k0 a1 k1 a2 k2 a3 k3 a4 k4 a5 k5 a6 k6 = rrL U a0 k0 a1 k1 a2 k2 a3 k3 a4 k4 a5 k5 a6 k6 := by
  simp [rrL, mkRr, mkRss_len, mkRms_len, tmarks_len, imarks_len, mkRas_len]
theorem kR_bd {k : Int} {U : Rr} (hn : RrSmall U) (h0 : 0 ≤ k) (hk : k ≤ 1000000000000000) : (0 ≤ kR1 k U ∧ kR1 k U ≤ 10000000000000000) ∧ (0 ≤ kR2 k U ∧ kR2 k U ≤ 20000000000000000) ∧ (0 ≤ kR3 k U ∧ kR3 k U ≤ 30000000000000000) ∧ (0 ≤ kR4 k U ∧ kR4 k U ≤ 40000000000000000) ∧ (0 ≤ kR5 k U ∧ kR5 k U ≤ 50000000000000000) ∧ (0 ≤ kR6 k U ∧ kR6 k U ≤ 60000000000000000) ∧ (0 ≤ kR7 k U ∧ kR7 k U ≤ 70000000000000000) := by
  obtain ⟨n0, n1, n2, n3, n4, n5, n6⟩ := hn
  unfold RdSmall at n0 n1
  have p0 := posRs_le n0 (Nat.le_refl _)
  have p1 := posRs_le n1 (Nat.le_refl _)
  have p2 := posRm_le n2 (Nat.le_refl _)
  have p5 := posRs_le n5 (Nat.le_refl _)
  have p6 := posRa_le n6 (Nat.le_refl _)
  have q0 := n0.1
  have q1 := n1.1
  have q2 := n2.1
  have q5 := n5.1
  have q6 := n6.1
  unfold RtsSmall at n3
  unfold RisSmall at n4
  unfold kR7 kR6 kR5 kR4 kR3 kR2 kR1 kR0
  omega
end Go.Proofs.Ytfbfgljkiikabaa
namespace Go.Proofs.Ytfbfgljkiikabaa
open Go.RowKit Go.Deep

structure Sv where
  nm : ByteArray
  ve : Int
  gn : Bool
  im : Int
  wa : Int
  dn : Int
  ov : Int
  nx : Int
  pr : Int
  ls : Int
  ms : Int
  ld : Int
  cl : Int
structure SvSize (x : Sv) : Prop where
  s0 : x.nm.size ≤ maxLen
def SvSmall (x : Sv) : Prop := x = x
structure SvCells (w : World) (b o : Nat) (x : Sv) : Prop where
  c0 : w.cell? ⟨b, o, none⟩ = some (.string x.nm)
  c1 : w.cell? ⟨b, o + 1, none⟩ = some (.int .i64 x.ve)
  c2 : w.cell? ⟨b, o + 2, none⟩ = some (.bool x.gn)
  c3 : w.cell? ⟨b, o + 3, none⟩ = some (.int .i64 x.im)
  c4 : w.cell? ⟨b, o + 4, none⟩ = some (.int .i64 x.wa)
  c5 : w.cell? ⟨b, o + 5, none⟩ = some (.int .i64 x.dn)
  c6 : w.cell? ⟨b, o + 6, none⟩ = some (.int .i64 x.ov)
  c7 : w.cell? ⟨b, o + 7, none⟩ = some (.int .i64 x.nx)
  c8 : w.cell? ⟨b, o + 8, none⟩ = some (.int .i64 x.pr)
  c9 : w.cell? ⟨b, o + 9, none⟩ = some (.int .i64 x.ls)
  c10 : w.cell? ⟨b, o + 10, none⟩ = some (.int .i64 x.ms)
  c11 : w.cell? ⟨b, o + 11, none⟩ = some (.int .i64 x.ld)
  c12 : w.cell? ⟨b, o + 12, none⟩ = some (.int .i64 x.cl)
theorem SvCells.below {w w' : World} {b o : Nat} {x : Sv} (h : SvCells w b o x ) {m : Nat} (hb : Below m w w') (hlt : b < m) : SvCells w' b o x  := by
  have e : ∀ o, w'.cell? ⟨b, o, none⟩ = w.cell? ⟨b, o, none⟩ := fun o => hb.cell (p := ⟨b, o, none⟩) hlt
  exact ⟨by rw [e]; exact h.c0, by rw [e]; exact h.c1, by rw [e]; exact h.c2, by rw [e]; exact h.c3, by rw [e]; exact h.c4, by rw [e]; exact h.c5, by rw [e]; exact h.c6, by rw [e]; exact h.c7, by rw [e]; exact h.c8, by rw [e]; exact h.c9, by rw [e]; exact h.c10, by rw [e]; exact h.c11, by rw [e]; exact h.c12⟩
theorem SvCells.set {w : World} {b o : Nat} {x : Sv} (h : SvCells w b o x ) {p : Addr} (hp : b ≠ p.block) (u : Value) : SvCells (w.setCell p u) b o x  := by
  have e : ∀ o, (w.setCell p u).cell? ⟨b, o, none⟩ = w.cell? ⟨b, o, none⟩ := fun o => cell_setCell_ne _ _ _ _ hp
  exact ⟨by rw [e]; exact h.c0, by rw [e]; exact h.c1, by rw [e]; exact h.c2, by rw [e]; exact h.c3, by rw [e]; exact h.c4, by rw [e]; exact h.c5, by rw [e]; exact h.c6, by rw [e]; exact h.c7, by rw [e]; exact h.c8, by rw [e]; exact h.c9, by rw [e]; exact h.c10, by rw [e]; exact h.c11, by rw [e]; exact h.c12⟩
def SvsAt (lo : Nat) (w : World) (v : Value) (Xl : List Sv) : Prop :=
  (∃ (a : Option Addr) (cap : Nat), v = .slice a 0 cap ∧ Xl = []) ∨
  ∃ (b off cap : Nat), v = .slice (some ⟨b, off, none⟩) Xl.length cap ∧ Xl ≠ [] ∧ Xl.length ≤ maxLen ∧ b < w.heap.size ∧ lo ≤ b ∧ Xl.length ≤ cap ∧
    ∀ i (h : i < Xl.length), SvSize Xl[i] ∧ SvCells w b (off + i * 13) Xl[i]
theorem SvsAt.below {lo : Nat} {w w' : World} {v : Value} {Xl : List Sv} (h : SvsAt lo w v Xl) (hb : Below w.heap.size w w') : SvsAt lo w' v Xl := by
  rcases h with h | ⟨b, off, cap, h1, h2, h3, h4, h5, h6, h7⟩
  · exact Or.inl h
  · refine Or.inr ⟨b, off, cap, h1, h2, h3, Nat.lt_of_lt_of_le h4 hb.size, h5, h6, fun i hi => ?_⟩
    obtain ⟨hs, hc⟩ := h7 i hi
    exact ⟨hs, hc.below hb h4⟩
theorem SvsAt.mono {lo lo' : Nat} {w : World} {v : Value} {Xl : List Sv} (h : SvsAt lo w v Xl) (hl : lo' ≤ lo) : SvsAt lo' w v Xl := by
  rcases h with h | ⟨b, off, cap, h1, h2, h3, h4, h5, h6, h7⟩
  · exact Or.inl h
  · refine Or.inr ⟨b, off, cap, h1, h2, h3, h4, Nat.le_trans hl h5, h6, fun i hi => ?_⟩
    obtain ⟨hs, hc⟩ := h7 i hi
    exact ⟨hs, hc⟩
theorem SvsAt.set {lo : Nat} {w : World} {v : Value} {Xl : List Sv} (h : SvsAt lo w v Xl) {p : Addr} (hp : p.block < lo) (u : Value) : SvsAt lo (w.setCell p u) v Xl := by
  rcases h with h | ⟨b, off, cap, h1, h2, h3, h4, h5, h6, h7⟩
  · exact Or.inl h
  · refine Or.inr ⟨b, off, cap, h1, h2, h3, by simpa [World.setCell] using h4, h5, h6, fun i hi => ?_⟩
    obtain ⟨hs, hc⟩ := h7 i hi
    exact ⟨hs, hc.set (by omega) u⟩
theorem SvsAt.form {lo : Nat} {w : World} {v : Value} {Xl : List Sv} (h : SvsAt lo w v Xl) : ∃ a cap, v = .slice a Xl.length cap := by
  rcases h with ⟨a, cap, h, rfl⟩ | ⟨b, off, cap, h, _⟩
  · exact ⟨a, cap, h⟩
  · exact ⟨_, cap, h⟩
theorem SvsAt.max {lo : Nat} {w : World} {v : Value} {Xl : List Sv} (h : SvsAt lo w v Xl) : Xl.length ≤ maxLen := by
  rcases h with ⟨a, cap, h, rfl⟩ | ⟨b, off, cap, h, _, h3, _⟩
  · exact Nat.zero_le _
  · exact h3
theorem SvsAt.full {lo : Nat} {w : World} {v : Value} {Xl : List Sv} (h : SvsAt lo w v Xl) (hne : Xl ≠ []) : ∃ (b off cap : Nat), v = .slice (some ⟨b, off, none⟩) Xl.length cap ∧ Xl.length ≤ maxLen ∧ b < w.heap.size ∧ Xl.length ≤ cap ∧
    ∀ i (h : i < Xl.length), SvSize Xl[i] ∧ SvCells w b (off + i * 13) Xl[i] := by
  rcases h with ⟨_, _, _, h⟩ | ⟨b, off, cap, h1, _, h3, h4, _, h6, h7⟩
  · exact absurd h hne
  · exact ⟨b, off, cap, h1, h3, h4, h6, h7⟩
theorem SvsAt.full' {lo : Nat} {w : World} {a : Option Addr} {n cap : Nat} {Xl : List Sv} (h : SvsAt lo w (.slice a n cap) Xl) (hL : 0 < Xl.length) :
    ∃ b off, a = some ⟨b, off, none⟩ ∧ b < w.heap.size ∧ lo ≤ b ∧ ∀ i (h : i < Xl.length), SvSize Xl[i] ∧ SvCells w b (off + i * 13) Xl[i] := by
  rcases h with ⟨a', cap', h, rfl⟩ | ⟨b', off', cap', h1, h2, h3, h4, h5, h6, h7⟩
  · simp at hL
  · injection h1 with e1 e2 e3
    exact ⟨b', off', e1, h4, h5, h7⟩
def SvsSmall (Xl : List Sv) : Prop := Xl.length ≤ 1048576 ∧ ∀ i (h : i < Xl.length), SvSmall Xl[i]
def SzSvs (Xl : List Sv) (left r : Int) : Prop := -1 ≤ r ∧ r ≤ left ∧ (0 ≤ r → SvsSmall Xl)

end Go.Proofs.Ytfbfgljkiikabaa
namespace Go.Proofs.Ytfbfgljkiikabaa
open Go.RowKit Go.Deep

set_option maxHeartbeats 1000000 in
theorem markRdO_any (lo hi : Nat) (a : Option Addr) (m : Nat) (D : Rd) (k : Int) (w : World) (h : RssOwn lo hi w (.slice a D.sl.length m) D.sl) (hn : RdSmall D) (h0 : 0 ≤ k) (hk : k ≤ 2000000000000000000) :
    Calls Try.prog 45 #[.agg #[.int .i64 D.pr, .int .i64 D.kn, .slice a D.sl.length m], .int .i64 k] w fun e w' => e = .returned (.int .i64 (k + (posRs D.sl D.sl.length : Int))) ∧ Touch lo hi w w' ∧ RssOwn lo hi w' (.slice a D.sl.length m) (mkRss k D.sl) := by
  have H := hide h
  clear h
  have HO : ∀ o, Hid (Below w.heap.size w (w.alloc o)) := fun o => one_al w o
  go_enter Try.func45, Try.ntmps45
  go_wp2_with fail
  refine (markRss_any lo hi _ D.sl k _ (H.out.below (HO _).out) hn h0 hk).mono ?_
  rintro e w1 ⟨rfl, ht, ho⟩
  have HT := hide ((Touch.below (HO _).out).trans ht)
  have HW := hide ho
  clear ht ho
  go_wp2
  go_ret
  exact ⟨rfl, HT.out, HW.out⟩

set_option maxRecDepth 20000 in
set_option maxHeartbeats 8000000 in
theorem markRr_any (lo hi : Nat) (cs : List Value) (U : Rr) (k : Int) (w : World) (h : RrOwn lo hi w cs U) (hhi : hi ≤ w.heap.size) (hn : RrSmall U) (h0 : 0 ≤ k) (hk : k ≤ 1000000000000000) :
    Calls Try.prog 13 #[.agg cs.toArray, .int .i64 k] w fun e w' => e = .returned (.int .i64 (kR7 k U)) ∧ Touch lo hi w w' ∧ RrOwn lo hi w' cs (mkRr k U) := by
  have HN := hide hn
  obtain ⟨b1, b2, b3, b4, b5, b6, b7⟩ := kR_bd hn h0 hk
  have w3 := hn.2.2.2.1
  have w4 := hn.2.2.2.2.1
  unfold RtsSmall at w3
  unfold RisSmall at w4
  obtain ⟨a0, k0, a1, k1, a2, k2, a3, k3, a4, k4, a5, k5, a6, k6, c, hcs, h⟩ := h
  have c3 : cs[3]? = some (.int .i64 U.sf.pr) := by rw [hcs]; rfl
  have c4 : cs[4]? = some (.int .i64 U.sf.kn) := by rw [hcs]; rfl
  have c5 : cs[5]? = some (.slice a0 U.sf.sl.length k0) := by rw [hcs]; rfl
  have c6 : cs[6]? = some (.int .i64 U.dk.pr) := by rw [hcs]; rfl
  have c7 : cs[7]? = some (.int .i64 U.dk.kn) := by rw [hcs]; rfl
  have c8 : cs[8]? = some (.slice a1 U.dk.sl.length k1) := by rw [hcs]; rfl
  have c9 : cs[9]? = some (.slice a2 U.he.length k2) := by rw [hcs]; rfl
  have c10 : cs[10]? = some (.slice a3 U.wi.length k3) := by rw [hcs]; rfl
  have c14 : cs[14]? = some (.slice a4 U.ye.length k4) := by rw [hcs]; rfl
  have c15 : cs[15]? = some (.slice a5 U.be.length k5) := by rw [hcs]; rfl
  have c16 : cs[16]? = some (.slice a6 U.ac.length k6) := by rw [hcs]; rfl
  have HCS := hide hcs
  have HSG := hide h.seg
  have HAP := hide h.ap
  have O0 := hide h.o0
  have O1 := hide h.o1
  have O2 := hide h.o2
  have O3 := hide h.o3
  have O4 := hide h.o4
  have O5 := hide h.o5
  have O6 := hide h.o6
  clear h hcs hn
  go_enter Try.func13, Try.ntmps13
  go_wp2_with fail
  generalize hWa : w.alloc _ = Wa
  have HB : Hid (Below w.heap.size w Wa) := by unfold Hid; rw [← hWa]; exact (one_al w _)
  have F : Hid (Box Wa w.heap.size cs.toArray) := by unfold Hid; rw [← hWa]; exact (Box.new _ _ _ _ rfl)
  clear hWa
  have HT : Hid (Touch lo hi w Wa) := Touch.below HB.out
  replace O0 := hide (O0.out.below HB.out)
  replace O1 := hide (O1.out.below HB.out)
  replace O2 := hide (O2.out.below HB.out)
  replace O3 := hide (O3.out.below HB.out)
  replace O4 := hide (O4.out.below HB.out)
  replace O5 := hide (O5.out.below HB.out)
  replace O6 := hide (O6.out.below HB.out)
  refine (markRdO_any (c 0).1 (c 0).2 a0 k0 U.sf (kR0 k U) _ O0.out HN.out.1 (show (0 : Int) ≤ kR0 k U from h0) (show kR0 k U ≤ 2000000000000000000 from Int.le_trans hk (by decide))).mono ?_
  rintro e w11 ⟨rfl, ht, ho⟩
  rw [show kR0 k U + (posRs U.sf.sl U.sf.sl.length : Int) = kR1 k U from rfl]
  replace HT : Hid (Touch lo hi w w11) := HT.out.trans (ht.wide (HSG.out 0 (by decide)).1 (HSG.out 0 (by decide)).2)
  replace F := hide (F.out.tch ht (Nat.le_trans (HSG.out 0 (by decide)).2 hhi))
  replace O1 := hide (O1.out.touch ht (HAP.out 1 0 (by decide) (by decide) (by decide)))
  replace O2 := hide (O2.out.touch ht (HAP.out 2 0 (by decide) (by decide) (by decide)))
  replace O3 := hide (O3.out.touch ht (HAP.out 3 0 (by decide) (by decide) (by decide)))
  replace O4 := hide (O4.out.touch ht (HAP.out 4 0 (by decide) (by decide) (by decide)))
  replace O5 := hide (O5.out.touch ht (HAP.out 5 0 (by decide) (by decide) (by decide)))
  replace O6 := hide (O6.out.touch ht (HAP.out 6 0 (by decide) (by decide) (by decide)))
  clear O0 ht
  have O0 := hide ho
  clear ho
  have g6 : w11.cell? ⟨w.heap.size, 6, none⟩ = some (.int .i64 U.dk.pr) := by rw [F.out.cell 6, List.getElem?_toArray]; exact c6
  have g7 : w11.cell? ⟨w.heap.size, 7, none⟩ = some (.int .i64 U.dk.kn) := by rw [F.out.cell 7, List.getElem?_toArray]; exact c7
  have g8 : w11.cell? ⟨w.heap.size, 8, none⟩ = some (.slice a1 U.dk.sl.length k1) := by rw [F.out.cell 8, List.getElem?_toArray]; exact c8
  go_wp2_with fail
  clear g6 g7 g8
  refine (markRdO_any (c 1).1 (c 1).2 a1 k1 U.dk (kR1 k U) _ O1.out HN.out.2.1 (by omega) (by omega)).mono ?_
  rintro e w12 ⟨rfl, ht, ho⟩
  rw [show kR1 k U + (posRs U.dk.sl U.dk.sl.length : Int) = kR2 k U from rfl]
  replace HT : Hid (Touch lo hi w w12) := HT.out.trans (ht.wide (HSG.out 1 (by decide)).1 (HSG.out 1 (by decide)).2)
  replace F := hide (F.out.tch ht (Nat.le_trans (HSG.out 1 (by decide)).2 hhi))
  replace O0 := hide (O0.out.touch ht (HAP.out 0 1 (by decide) (by decide) (by decide)))
  replace O2 := hide (O2.out.touch ht (HAP.out 2 1 (by decide) (by decide) (by decide)))
  replace O3 := hide (O3.out.touch ht (HAP.out 3 1 (by decide) (by decide) (by decide)))
  replace O4 := hide (O4.out.touch ht (HAP.out 4 1 (by decide) (by decide) (by decide)))
  replace O5 := hide (O5.out.touch ht (HAP.out 5 1 (by decide) (by decide) (by decide)))
  replace O6 := hide (O6.out.touch ht (HAP.out 6 1 (by decide) (by decide) (by decide)))
  clear O1 ht
  have O1 := hide ho
  clear ho
  have g9 : w12.cell? ⟨w.heap.size, 9, none⟩ = some (.slice a2 U.he.length k2) := by rw [F.out.cell 9, List.getElem?_toArray]; exact c9
  go_wp2_with fail
  clear g9
  refine (markRms_any (c 2).1 (c 2).2 _ U.he (kR2 k U) _ O2.out HN.out.2.2.1 (by omega) (by omega)).mono ?_
  rintro e w13 ⟨rfl, ht, ho⟩
  rw [show kR2 k U + (posRm U.he U.he.length : Int) = kR3 k U from rfl]
  replace HT : Hid (Touch lo hi w w13) := HT.out.trans (ht.wide (HSG.out 2 (by decide)).1 (HSG.out 2 (by decide)).2)
  replace F := hide (F.out.tch ht (Nat.le_trans (HSG.out 2 (by decide)).2 hhi))
  replace O0 := hide (O0.out.touch ht (HAP.out 0 2 (by decide) (by decide) (by decide)))
  replace O1 := hide (O1.out.touch ht (HAP.out 1 2 (by decide) (by decide) (by decide)))
  replace O3 := hide (O3.out.touch ht (HAP.out 3 2 (by decide) (by decide) (by decide)))
  replace O4 := hide (O4.out.touch ht (HAP.out 4 2 (by decide) (by decide) (by decide)))
  replace O5 := hide (O5.out.touch ht (HAP.out 5 2 (by decide) (by decide) (by decide)))
  replace O6 := hide (O6.out.touch ht (HAP.out 6 2 (by decide) (by decide) (by decide)))
  clear O2 ht
  have O2 := hide ho
  clear ho
  have g10 : w13.cell? ⟨w.heap.size, 10, none⟩ = some (.slice a3 U.wi.length k3) := by rw [F.out.cell 10, List.getElem?_toArray]; exact c10
  go_wp2_with fail
  clear g10
  refine (markRts_any (c 3).1 (c 3).2 _ U.wi (kR3 k U) _ O3.out (by omega) (by omega)).mono ?_
  rintro e w14 ⟨rfl, ht, ho⟩
  rw [show kR3 k U + (U.wi.length : Int) = kR4 k U from rfl]
  replace HT : Hid (Touch lo hi w w14) := HT.out.trans (ht.wide (HSG.out 3 (by decide)).1 (HSG.out 3 (by decide)).2)
  replace F := hide (F.out.tch ht (Nat.le_trans (HSG.out 3 (by decide)).2 hhi))
  replace O0 := hide (O0.out.touch ht (HAP.out 0 3 (by decide) (by decide) (by decide)))
  replace O1 := hide (O1.out.touch ht (HAP.out 1 3 (by decide) (by decide) (by decide)))
  replace O2 := hide (O2.out.touch ht (HAP.out 2 3 (by decide) (by decide) (by decide)))
  replace O4 := hide (O4.out.touch ht (HAP.out 4 3 (by decide) (by decide) (by decide)))
  replace O5 := hide (O5.out.touch ht (HAP.out 5 3 (by decide) (by decide) (by decide)))
  replace O6 := hide (O6.out.touch ht (HAP.out 6 3 (by decide) (by decide) (by decide)))
  clear O3 ht
  have O3 := hide ho
  clear ho
  have g14 : w14.cell? ⟨w.heap.size, 14, none⟩ = some (.slice a4 U.ye.length k4) := by rw [F.out.cell 14, List.getElem?_toArray]; exact c14
  go_wp2_with fail
  clear g14
  refine (markRis_any (c 4).1 (c 4).2 _ U.ye (kR4 k U) _ O4.out (by omega) (by omega)).mono ?_
  rintro e w15 ⟨rfl, ht, ho⟩
  rw [show kR4 k U + (U.ye.length : Int) = kR5 k U from rfl]
  replace HT : Hid (Touch lo hi w w15) := HT.out.trans (ht.wide (HSG.out 4 (by decide)).1 (HSG.out 4 (by decide)).2)
  replace F := hide (F.out.tch ht (Nat.le_trans (HSG.out 4 (by decide)).2 hhi))
  replace O0 := hide (O0.out.touch ht (HAP.out 0 4 (by decide) (by decide) (by decide)))
  replace O1 := hide (O1.out.touch ht (HAP.out 1 4 (by decide) (by decide) (by decide)))
  replace O2 := hide (O2.out.touch ht (HAP.out 2 4 (by decide) (by decide) (by decide)))
  replace O3 := hide (O3.out.touch ht (HAP.out 3 4 (by decide) (by decide) (by decide)))
  replace O5 := hide (O5.out.touch ht (HAP.out 5 4 (by decide) (by decide) (by decide)))
  replace O6 := hide (O6.out.touch ht (HAP.out 6 4 (by decide) (by decide) (by decide)))
  clear O4 ht
  have O4 := hide ho
  clear ho
  have g15 : w15.cell? ⟨w.heap.size, 15, none⟩ = some (.slice a5 U.be.length k5) := by rw [F.out.cell 15, List.getElem?_toArray]; exact c15
  go_wp2_with fail
  clear g15
  refine (markRss_any (c 5).1 (c 5).2 _ U.be (kR5 k U) _ O5.out HN.out.2.2.2.2.2.1 (by omega) (by omega)).mono ?_
  rintro e w16 ⟨rfl, ht, ho⟩
  rw [show kR5 k U + (posRs U.be U.be.length : Int) = kR6 k U from rfl]
  replace HT : Hid (Touch lo hi w w16) := HT.out.trans (ht.wide (HSG.out 5 (by decide)).1 (HSG.out 5 (by decide)).2)
  replace F := hide (F.out.tch ht (Nat.le_trans (HSG.out 5 (by decide)).2 hhi))
  replace O0 := hide (O0.out.touch ht (HAP.out 0 5 (by decide) (by decide) (by decide)))
  replace O1 := hide (O1.out.touch ht (HAP.out 1 5 (by decide) (by decide) (by decide)))
  replace O2 := hide (O2.out.touch ht (HAP.out 2 5 (by decide) (by decide) (by decide)))
  replace O3 := hide (O3.out.touch ht (HAP.out 3 5 (by decide) (by decide) (by decide)))
  replace O4 := hide (O4.out.touch ht (HAP.out 4 5 (by decide) (by decide) (by decide)))
  replace O6 := hide (O6.out.touch ht (HAP.out 6 5 (by decide) (by decide) (by decide)))
  clear O5 ht
  have O5 := hide ho
  clear ho
  have g16 : w16.cell? ⟨w.heap.size, 16, none⟩ = some (.slice a6 U.ac.length k6) := by rw [F.out.cell 16, List.getElem?_toArray]; exact c16
  go_wp2_with fail
  clear g16
  refine (markRas_any (c 6).1 (c 6).2 _ U.ac (kR6 k U) _ O6.out HN.out.2.2.2.2.2.2 (by omega) (by omega)).mono ?_
  rintro e w17 ⟨rfl, ht, ho⟩
  rw [show kR6 k U + (posRa U.ac U.ac.length : Int) = kR7 k U from rfl]
  replace HT : Hid (Touch lo hi w w17) := HT.out.trans (ht.wide (HSG.out 6 (by decide)).1 (HSG.out 6 (by decide)).2)
  replace F := hide (F.out.tch ht (Nat.le_trans (HSG.out 6 (by decide)).2 hhi))
  replace O0 := hide (O0.out.touch ht (HAP.out 0 6 (by decide) (by decide) (by decide)))
  replace O1 := hide (O1.out.touch ht (HAP.out 1 6 (by decide) (by decide) (by decide)))
  replace O2 := hide (O2.out.touch ht (HAP.out 2 6 (by decide) (by decide) (by decide)))
  replace O3 := hide (O3.out.touch ht (HAP.out 3 6 (by decide) (by decide) (by decide)))
  replace O4 := hide (O4.out.touch ht (HAP.out 4 6 (by decide) (by decide) (by decide)))
  replace O5 := hide (O5.out.touch ht (HAP.out 5 6 (by decide) (by decide) (by decide)))
  clear O6 ht
  have O6 := hide ho
  clear ho
  go_wp2
  go_ret
  exact ⟨rfl, HT.out, a0, k0, a1, k1, a2, k2, a3, k3, a4, k4, a5, k5, a6, k6, c, by rw [mkRr_L]; exact HCS.out, ⟨HSG.out, HAP.out, by have := O0.out; simp only [mkRr, mkRss_len]; exact this, by have := O1.out; simp only [mkRr, mkRss_len]; exact this, by have := O2.out; simp only [mkRr, mkRms_len]; exact this, by have := O3.out; simp only [mkRr, tmarks_len]; exact this, by have := O4.out; simp only [mkRr, imarks_len]; exact this, by have := O5.out; simp only [mkRr, mkRss_len]; exact this, by have := O6.out; simp only [mkRr, mkRas_len]; exact this⟩⟩
end Go.Proofs.Ytfbfgljkiikabaa
