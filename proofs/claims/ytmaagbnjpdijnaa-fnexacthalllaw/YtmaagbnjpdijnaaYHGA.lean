import Derived.Test.YtmaagbnjpdijnaaYHG1
import Derived.Test.YtmaagbnjpdijnaaYSC2
import Derived.Deep.AppendLies
import Derived.Deep.RegionHeldLaw
import Derived.Test.YtmaagbnjpdijnaaYOWX
import Derived.Test.YtmaagbnjpdijnaaYHG2
import Derived.Test.YtmaagbnjpdijnaaYB1
import Derived.Test.YtmaagbnjpdijnaaYOXg
import Derived.Test.YtmaagbnjpdijnaaYDA
import Derived.Test.YtmaagbnjpdijnaaYA1
import Derived.Test.YtmaagbnjpdijnaaYCLE
import Derived.Test.YtmaagbnjpdijnaaYTA
import Derived.Test.YtmaagbnjpdijnaaYP1
import Derived.Test.YtmaagbnjpdijnaaYOXF
import Derived.Test.YtmaagbnjpdijnaaYNN
import Derived.Test.YtmaagbnjpdijnaaYOXM
import Derived.Test.YtmaagbnjpdijnaaYM2
namespace Go.Proofs.Ytmaagbnjpdijnaa
open Go.RowKit Go.Deep

theorem hg_field : (Try.prog.info? 62).map (fun i => (i.zero, i.size, i.bytes)) = some (some (.agg #[.string ⟨#[]⟩, .int .i64 0, .int .i64 0, .int .i64 0, .slice none 0 0, .string ⟨#[]⟩, .int .i64 0, .bool false, .bool false, .string ⟨#[]⟩, .string ⟨#[]⟩]), 11, 128) := by kernel_rfl
theorem hg_shape : (Try.prog.info? 68).map (fun i => (i.zero, i.size, i.bytes)) = some (some (.agg #[.string ⟨#[]⟩, .slice none 0 0]), 2, 40) := by kernel_rfl
theorem hg_mend : (Try.prog.info? 66).map (fun i => (i.zero, i.size, i.bytes)) = some (some (.agg #[.string ⟨#[]⟩, .string ⟨#[]⟩, .string ⟨#[]⟩, .string ⟨#[]⟩, .string ⟨#[]⟩, .string ⟨#[]⟩]), 6, 96) := by kernel_rfl
/-- the cells of a field without words -/
def fdV (f : Fd) : List Value := [.string f.nm, .int .i64 f.kd, .int .i64 f.le, .int .i64 f.mo, .slice none 0 0, .string f.to, .int .i64 f.ro, .bool f.mu, .bool f.fx, .string f.df, .string f.we]
theorem fdV_one (f : Fd) : ∀ u ∈ fdV f, u.oneCell' = true := by
  intro u hu
  simp only [fdV, List.mem_cons, List.not_mem_nil, or_false] at hu
  rcases hu with rfl | rfl | rfl | rfl | rfl | rfl | rfl | rfl | rfl | rfl | rfl <;> rfl
/-- a cell and a box below a base -/
abbrev HeldF (base : Nat) (W0 : World) (p : Addr) (u : Value) (β : Nat) (cs : Array Value) (W : World) : Prop :=
  W.cell? p = some u ∧ (∀ i, W.cell? ⟨β, i, none⟩ = cs[i]?) ∧ Hid (Below base W0 W ∧ p.block < base ∧ β < base)
theorem HeldF.on {base : Nat} {W0 W W' : World} {p : Addr} {u : Value} {β : Nat} {cs : Array Value} (h : HeldF base W0 p u β cs W) (hb : Below base W W') : HeldF base W0 p u β cs W' :=
  ⟨(hb.cell h.2.2.out.2.1).trans h.1, fun i => (hb.cell (p := ⟨β, i, none⟩) h.2.2.out.2.2).trans (h.2.1 i), h.2.2.out.1.trans hb, h.2.2.out.2⟩
theorem HeldF.al {base : Nat} {W0 W : World} {p : Addr} {u : Value} {β : Nat} {cs : Array Value} (h : HeldF base W0 p u β cs W) (hz : base ≤ W.heap.size) (o : Obj) : HeldF base W0 p u β cs (W.alloc o) := h.on ((Below.refl _ _).alloc hz _)

set_option maxRecDepth 20000 in
set_option maxHeartbeats 8000000 in
theorem fieldC_any (base lam sb β cap n : Nat) (fv : Value) (f : Fd) (xs : List Value) (w : World) (_hl : lam < base) (hs : sb < base) (hβ : β < base) (hz : base ≤ w.heap.size) (hn : n ≤ 100)
    (c0 : w.cell? ⟨lam, 0, none⟩ = some (.slice (some ⟨sb, 0, none⟩) 1 cap)) (c1 : w.cell? ⟨sb, 1, none⟩ = some fv) (f1 : w.frozen? ⟨sb, 1, none⟩ = false) (hB : Box w β (fdV f).toArray) (ho : w.ownsRow base 62 11 fv n xs) :
    Calls Try.prog 64 #[.pointer (some ⟨lam, 0, none⟩), .pointer (some ⟨β, 0, none⟩)] w
      fun e w' => e = .returned (.tuple #[]) ∧ ∃ w3 v', w' = w3.setCell ⟨sb, 1, none⟩ v' ∧ Below base w w3 ∧ w3.ownsRow base 62 11 v' (n + 1) (xs ++ fdV f) := by
  obtain ⟨i0, hi, hz0, hz1, hz2⟩ := info_parts hg_field
  have HI := hide (And.intro hi (And.intro hz0 (And.intro hz1 hz2)))
  clear hi hz0 hz1 hz2
  have HO := hide ho
  have HF1 := hide f1
  have HB := hide hB
  clear ho hB f1
  go_enter Try.func64, Try.ntmps64
  go_wp2
  go_region
  generalize hwd : w.drew = wd
  have HBd : Hid (Below base w wd) := by unfold Hid; rw [← hwd]; exact (Below.refl _ _).drew
  have hzd : base ≤ wd.heap.size := by rw [← hwd]; exact hz
  have HOd : Hid (wd.ownsRow base 62 11 fv n xs) := by unfold Hid; rw [← hwd]; exact HO.out
  have K0 : Hid (HeldF base wd ⟨sb, 1, none⟩ fv β #[.string f.nm, .int .i64 f.kd, .int .i64 f.le, .int .i64 f.mo, .slice none 0 0, .string f.to, .int .i64 f.ro, .bool f.mu, .bool f.fx, .string f.df, .string f.we] wd) := ⟨by rw [← hwd]; exact c1, fun i => by rw [← hwd]; exact HB.out.cell i, Below.refl _ _, hs, hβ⟩
  have HF2 : Hid (∀ W, Below base wd W → W.frozen? ⟨sb, 1, none⟩ = false) := fun W hW => (World.frozen?_of_block (w := wd) (hW.block sb hs)).trans (by rw [← hwd]; exact HF1.out)
  clear hwd c0 c1 HO HB HF1
  have s1 : wd.cell? ⟨sb, 1, none⟩ = some fv := K0.out.1
  have s2 : ∀ i, wd.cell? ⟨β, i, none⟩ = #[.string f.nm, .int .i64 f.kd, .int .i64 f.le, .int .i64 f.mo, .slice none 0 0, .string f.to, .int .i64 f.ro, .bool f.mu, .bool f.fx, .string f.df, .string f.we][i]? := K0.out.2.1
  have s3 : ∀ o, (wd.alloc o).cell? ⟨sb, 1, none⟩ = some fv := fun o => (HeldF.al K0.out hzd o).1
  go_wp2
  go_region_law (first
      | (refine step_append_lies _ (by rfl) (.tmp 19) (.tmp 21) 64 (by rfl) base 62 i0 (.agg #[.string ⟨#[]⟩, .int .i64 0, .int .i64 0, .int .i64 0, .slice none 0 0, .string ⟨#[]⟩, .int .i64 0, .bool false, .bool false, .string ⟨#[]⟩, .string ⟨#[]⟩]) 11 128 Try.underlying64 HI.out.1 HI.out.2.1 HI.out.2.2.1 HI.out.2.2.2 (by rfl) (by decide) fv n xs (by rfl) (Below.ownsB HOd.out ((one_al _ _).drew)) ⟨wd.heap.size, 0, none⟩ 1 1 (fdV f) (by rfl) (by rfl) (cell_new7 _ _ _ _ rfl) (fdV_one f) (by decide) (by unfold maxLen; omega) (by omega) (by simp; omega) _ rfl ?_
         intro g cap3 w3 hown3 hgrow3 hat3 hlt3
         have HB3 : Hid (Below base wd w3) := (((one_al wd _).mono hzd).drew).trans (ownsB_grown (Below.ownsB HOd.out ((one_al _ _).drew)) hgrow3 (by simp; omega))
         have y3 : w3.cell? ⟨sb, 1, none⟩ = some fv := (HB3.out.cell (p := ⟨sb, 1, none⟩) hs).trans s1
         have f3 : w3.frozen? ⟨sb, 1, none⟩ = false := HF2.out w3 HB3.out))
  all_goals go_end0
  all_goals exact ⟨rfl, w3, _, rfl, HBd.out.trans HB3.out, hown3⟩
end Go.Proofs.Ytmaagbnjpdijnaa

namespace Go.Proofs.Ytmaagbnjpdijnaa
open Go.RowKit Go.Deep

def Tmvs : List Tm → List Value
  | [] => []
  | x :: L => .string x.nm :: .string x.ov :: Tmvs L
theorem Tmvs_len : ∀ L : List Tm, (Tmvs L).length = L.length * 2
  | [] => rfl
  | x :: L => by simp only [Tmvs, List.length_cons, Tmvs_len L]; omega
theorem Tmvs_at : ∀ (L : List Tm) (i : Nat) (h : i < L.length), (Tmvs L)[i * 2]? = some (.string L[i].nm) ∧ (Tmvs L)[i * 2 + 1]? = some (.string L[i].ov)
  | [], i, h => by simp at h
  | x :: L, 0, _ => ⟨rfl, rfl⟩
  | x :: L, i + 1, h => by
    have := Tmvs_at L i (by simpa using h)
    rw [show (i + 1) * 2 = i * 2 + 1 + 1 by omega]
    exact this
theorem Tmvs_one : ∀ (L : List Tm), ∀ u ∈ Tmvs L, u.oneCell' = true
  | [], u, hu => by simp [Tmvs] at hu
  | x :: L, u, hu => by
    simp only [Tmvs, List.mem_cons] at hu
    rcases hu with rfl | rfl | hu
    · rfl
    · rfl
    · exact Tmvs_one L u hu
theorem Tmvs_news {lo : Nat} {w W : World} {ad : Addr} {cap : Nat} {L : List Tm} (h : TmsAt lo w (.slice (some ad) L.length cap) L) (hb : Below w.heap.size w W) : ∀ j u, (Tmvs L)[j]? = some u → W.cell? (ad.add j) = some u := by
  intro j u hj
  have hl : j < L.length * 2 := by
    rcases Nat.lt_or_ge j (L.length * 2) with h | h
    · exact h
    · rw [List.getElem?_eq_none (by rw [Tmvs_len]; exact h)] at hj; cases hj
  obtain ⟨b, off, e, hlt, hc⟩ := h.full' (by omega)
  injection e with e
  subst e
  have hi : j / 2 < L.length := by omega
  obtain ⟨_, hcc⟩ := hc (j / 2) hi
  obtain ⟨h0, h1⟩ := hcc
  obtain ⟨v0, v1⟩ := Tmvs_at L (j / 2) hi
  rw [Go.WideShapes.add_plain, hb.cell (p := ⟨b, off + j, none⟩) hlt]
  have hm : j = j / 2 * 2 ∨ j = j / 2 * 2 + 1 := by omega
  rcases hm with hm | hm
  · have e1 : (Tmvs L)[j]? = (Tmvs L)[j / 2 * 2]? := congrArg (fun q => (Tmvs L)[q]?) hm
    have e2 : w.cell? ⟨b, off + j, none⟩ = w.cell? ⟨b, off + j / 2 * 2, none⟩ := congrArg (fun q => w.cell? ⟨b, q, none⟩) (by omega)
    exact e2.trans (h0.trans (v0.symm.trans (e1.symm.trans hj)))
  · have e1 : (Tmvs L)[j]? = (Tmvs L)[j / 2 * 2 + 1]? := congrArg (fun q => (Tmvs L)[q]?) hm
    have e2 : w.cell? ⟨b, off + j, none⟩ = w.cell? ⟨b, off + j / 2 * 2 + 1, none⟩ := congrArg (fun q => w.cell? ⟨b, q, none⟩) (by omega)
    exact e2.trans (h1.trans (v1.symm.trans (e1.symm.trans hj)))
theorem Tmvs_own {base : Nat} {W : World} {v : Value} {L : List Tm} (h : W.ownsRow base 108 2 v L.length (Tmvs L)) (hz : ∀ i (hi : i < L.length), TmSize L[i]) : TmsOwn base W.heap.size W v L := by
  by_cases hL : L = []
  · subst hL
    rcases h.2 with ⟨hv, _⟩ | ⟨g, cap, cur, hv, _⟩
    · exact Or.inl ⟨_, _, hv, rfl⟩
    · exact Or.inl ⟨_, _, hv, rfl⟩
  · rcases h.2 with ⟨_, hn⟩ | ⟨g, cap, cur, hv, h1, h2, h3, h4, _⟩
    · exact absurd (List.length_eq_zero_iff.1 hn) hL
    · have hl := ownsB_lt h (g := g) (by rw [hv]; rfl)
      have ho := h
      have h0 : 0 < L.length := List.length_pos_iff.2 hL
      subst hv
      refine Or.inr ⟨g, 0, cap, fun _ => g + 1, fun i => if h : i < L.length then L[i] else L[0], rfl, hL, Nat.le_trans h3 h4, h3, fun i hi => by simp [hi], hl.1, hl.2.1, Nat.lt_succ_self _, hl.1, fun _ _ => Nat.le_refl _, hl.1, hl.2.2, fun i hi => ?_⟩
      obtain ⟨v0, v1⟩ := Tmvs_at L i hi
      simp only [hi, dif_pos]
      have ce : ∀ j, j < 2 → W.cell? ⟨g, 0 + i * 2 + j, none⟩ = (Tmvs L)[i * 2 + j]? := fun j hj => by rw [Nat.zero_add]; exact ho.cellAt _ (by omega)
      exact ⟨hz i hi, ⟨(ce 0 (by omega)).trans v0, (ce 1 (by omega)).trans v1⟩⟩
/-- append(nil, x...) of whatever list, its run -/
theorem run_append_all {P : Program} (w : World) (t ty e : TypeId) (i : TypeInfo) (z : Value) (size bytes : Nat) (ht : P.underlying t = some (.slice e)) (hi : P.info? e = some i) (hz : i.zero = some z)
    (hsize : i.size = size) (hby : i.bytes = bytes) (hzs : z.cells.size = size) (hsz : 0 < size) (ao : Option Addr) (m c : Nat) (news : List Value) (hl : news.length = m * size) (hm : ao = none → m = 0)
    (hnews : ∀ ad, ao = some ad → ∀ j u, news[j]? = some u → w.cell? (ad.add j) = some u) (h1 : ∀ u ∈ news, u.oneCell' = true) (h63 : m ≤ maxLen) (hbytes : m * bytes ≤ 140737488355328) :
    ∃ v' w', (Builtin.append_ #[t, t] ty #[.slice none 0 0, .slice ao m c]).run P w = .ok v' w' ∧ w'.ownsRow w.heap.size e size v' m news ∧ Below w.heap.size w w' := by
  cases ao with
  | none =>
    have hm0 := hm rfl
    subst hm0
    have hn : news = [] := List.length_eq_zero_iff.1 (by rw [hl, Nat.zero_mul])
    subst hn
    exact ⟨_, _, run_append_void w t ty e i ht hi c, ownsB_none _ _ _, Below.refl _ _⟩
  | some ad =>
    obtain ⟨v', w', hr, h2, h3, _⟩ := run_append_own_at w w.heap.size t ty e i z size bytes ht hi hz hsize hby hzs hsz _ 0 [] (ownsB_none _ _ _) ad m c news hl (hnews ad rfl) h1 (by omega) (by rw [Nat.zero_add]; exact hbytes) (Nat.le_refl _)
    rw [Nat.zero_add, List.nil_append] at h2
    exact ⟨v', w', hr, h2, Below.grown h3⟩
theorem step_append_all {P : Program} {w : World} {ops : Array Oper} {o : Oper} {a : Act} {K : Act → World → Prop} {Q : Exit → Act → World → Prop} {E : Prop} (hgd : o.guard = none) (s x : Operand) (t : TypeId)
    (ho : o.op = .call { callee := .builtin .append, args := #[s, x], argTypes := #[t, t] })
    (e : TypeId) (i : TypeInfo) (z : Value) (size bytes : Nat) (ht : P.underlying t = some (.slice e)) (hi : P.info? e = some i) (hz : i.zero = some z)
    (hsize : i.size = size) (hby : i.bytes = bytes) (hzs : z.cells.size = size) (hsz : 0 < size) (hs : a.eval s = .slice none 0 0)
    (ao : Option Addr) (m c : Nat) (news : List Value) (hx : a.eval x = .slice ao m c) (hl : news.length = m * size) (hm : ao = none → m = 0) (hnews : ∀ ad, ao = some ad → ∀ j u, news[j]? = some u → w.cell? (ad.add j) = some u)
    (h1 : ∀ u ∈ news, u.oneCell' = true) (h63 : m ≤ maxLen) (hbytes : m * bytes ≤ 140737488355328)
    (h : ∀ v' w', w'.ownsRow w.heap.size e size v' m news → Below w.heap.size w w' → K (a.put o.dst v') w') :
    if Region.wanted o (yielded ops a.tmps) = true then Oper.wp P o a w K Q else E := by
  have hw : Region.wanted o (yielded ops a.tmps) = true := by simp [Region.wanted, hgd]
  rw [if_pos hw]
  obtain ⟨v', w', hr, h2, h3⟩ := run_append_all (P := P) w t o.type e i z size bytes ht hi hz hsize hby hzs hsz ao m c news hl hm hnews h1 h63 hbytes
  unfold Oper.wp execOp
  simp only [ho, resolve, invoke, builtin, Sem.run_bind, Sem.run_pure, Result.andThen_ok, List.map_toArray, List.map_cons, List.map_nil, hs, hx, hr]
  exact h v' w' h2 h3

set_option maxRecDepth 20000 in
set_option maxHeartbeats 8000000 in
theorem shapeC_any (base lam β : Nat) (kd : ByteArray) (w : World) (hl : lam < base) (hβ : β < base) (hz : base ≤ w.heap.size)
    (c1 : w.cell? ⟨lam, 0, none⟩ = some (.slice none 0 0)) (f1 : w.frozen? ⟨lam, 0, none⟩ = false) (hB : Box w β #[.string kd]) :
    Calls Try.prog 63 #[.pointer (some ⟨lam, 0, none⟩), .pointer (some ⟨β, 0, none⟩)] w
      fun e w' => e = .returned (.tuple #[]) ∧ ∃ w3 v', w' = w3.setCell ⟨lam, 0, none⟩ v' ∧ Below base w w3 ∧ w3.ownsRow base 68 2 v' 1 [.string kd, .slice none 0 0] := by
  obtain ⟨i0, hi, hz0, hz1, hz2⟩ := info_parts hg_shape
  have HI := hide (And.intro hi (And.intro hz0 (And.intro hz1 hz2)))
  clear hi hz0 hz1 hz2
  have K0 : Hid (HeldF base w ⟨lam, 0, none⟩ (.slice none 0 0) β #[.string kd] w) := ⟨c1, hB.cell, Below.refl _ _, hl, hβ⟩
  have HF2 : Hid (∀ W, Below base w W → W.frozen? ⟨lam, 0, none⟩ = false) := fun W hW => (World.frozen?_of_block (w := w) (hW.block lam hl)).trans f1
  have HOd : Hid (∀ W : World, W.ownsRow base 68 2 (.slice none 0 0) 0 []) := fun W => World.ownsRow_nil W _ _ _
  clear c1 f1 hB
  have s1 : w.cell? ⟨lam, 0, none⟩ = some (.slice none 0 0) := K0.out.1
  have s2 : ∀ i, w.cell? ⟨β, i, none⟩ = #[.string kd][i]? := K0.out.2.1
  have s3 : ∀ o, (w.alloc o).cell? ⟨lam, 0, none⟩ = some (.slice none 0 0) := fun o => (HeldF.al K0.out hz o).1
  go_enter Try.func63, Try.ntmps63
  go_wp2
  go_region_law (first
      | (refine step_append_lies _ (by rfl) (.tmp 7) (.tmp 10) 27 (by rfl) base 68 i0 (.agg #[.string ⟨#[]⟩, .slice none 0 0]) 2 40 Try.underlying27 HI.out.1 HI.out.2.1 HI.out.2.2.1 HI.out.2.2.2 (by rfl) (by decide) (.slice none 0 0) 0 [] (by rfl) (HOd.out _) ⟨w.heap.size, 0, none⟩ 1 1 [.string kd, .slice none 0 0] (by rfl) (by rfl) (cell_new7 _ _ _ _ rfl) (by intro u hu; simp only [List.mem_cons, List.not_mem_nil, or_false] at hu; rcases hu with rfl | rfl <;> rfl) (by decide) (by decide) (by decide) (by simp; omega) _ rfl ?_
         intro g cap3 w3 hown3 hgrow3 hat3 hlt3
         have HB3 : Hid (Below base w w3) := (((one_al w _).mono hz).drew).trans (ownsB_grown (HOd.out _) hgrow3 (by simp; omega))
         have y3 : w3.cell? ⟨lam, 0, none⟩ = some (.slice none 0 0) := (HB3.out.cell (p := ⟨lam, 0, none⟩) hl).trans s1
         have f3 : w3.frozen? ⟨lam, 0, none⟩ = false := HF2.out w3 HB3.out))
  all_goals go_end0
  all_goals exact ⟨rfl, w3, _, rfl, HB3.out, hown3⟩

set_option maxRecDepth 20000 in
set_option maxHeartbeats 8000000 in
theorem mendC_any (base lam β : Nat) (m : Md) (w : World) (hl : lam < base) (hβ : β < base) (hz : base ≤ w.heap.size)
    (c1 : w.cell? ⟨lam, 1, none⟩ = some (.slice none 0 0)) (f1 : w.frozen? ⟨lam, 1, none⟩ = false) (hB : Box w β #[.string m.kind, .string m.field, .string m.wh, .string m.is, .string m.put, .string m.fr]) :
    Calls Try.prog 65 #[.pointer (some ⟨lam, 0, none⟩), .pointer (some ⟨β, 0, none⟩)] w
      fun e w' => e = .returned (.tuple #[]) ∧ ∃ w3 v', w' = w3.setCell ⟨lam, 1, none⟩ v' ∧ Below base w w3 ∧ w3.ownsRow base 66 6 v' 1 [.string m.kind, .string m.field, .string m.wh, .string m.is, .string m.put, .string m.fr] := by
  obtain ⟨i0, hi, hz0, hz1, hz2⟩ := info_parts hg_mend
  have HI := hide (And.intro hi (And.intro hz0 (And.intro hz1 hz2)))
  clear hi hz0 hz1 hz2
  have K0 : Hid (HeldF base w ⟨lam, 1, none⟩ (.slice none 0 0) β #[.string m.kind, .string m.field, .string m.wh, .string m.is, .string m.put, .string m.fr] w) := ⟨c1, hB.cell, Below.refl _ _, hl, hβ⟩
  have HF2 : Hid (∀ W, Below base w W → W.frozen? ⟨lam, 1, none⟩ = false) := fun W hW => (World.frozen?_of_block (w := w) (hW.block lam hl)).trans f1
  have HOd : Hid (∀ W : World, W.ownsRow base 66 6 (.slice none 0 0) 0 []) := fun W => World.ownsRow_nil W _ _ _
  clear c1 f1 hB
  have s1 : w.cell? ⟨lam, 1, none⟩ = some (.slice none 0 0) := K0.out.1
  have s2 : ∀ i, w.cell? ⟨β, i, none⟩ = #[.string m.kind, .string m.field, .string m.wh, .string m.is, .string m.put, .string m.fr][i]? := K0.out.2.1
  have s3 : ∀ o, (w.alloc o).cell? ⟨lam, 1, none⟩ = some (.slice none 0 0) := fun o => (HeldF.al K0.out hz o).1
  go_enter Try.func65, Try.ntmps65
  go_wp2
  go_region_law (first
      | (refine step_append_lies _ (by rfl) (.tmp 7) (.tmp 9) 28 (by rfl) base 66 i0 (.agg #[.string ⟨#[]⟩, .string ⟨#[]⟩, .string ⟨#[]⟩, .string ⟨#[]⟩, .string ⟨#[]⟩, .string ⟨#[]⟩]) 6 96 Try.underlying28 HI.out.1 HI.out.2.1 HI.out.2.2.1 HI.out.2.2.2 (by rfl) (by decide) (.slice none 0 0) 0 [] (by rfl) (HOd.out _) ⟨w.heap.size, 0, none⟩ 1 1 [.string m.kind, .string m.field, .string m.wh, .string m.is, .string m.put, .string m.fr] (by rfl) (by rfl) (cell_new7 _ _ _ _ rfl) (by intro u hu; simp only [List.mem_cons, List.not_mem_nil, or_false] at hu; rcases hu with rfl | rfl | rfl | rfl | rfl | rfl <;> rfl) (by decide) (by decide) (by decide) (by simp; omega) _ rfl ?_
         intro g cap3 w3 hown3 hgrow3 hat3 hlt3
         have HB3 : Hid (Below base w w3) := (((one_al w _).mono hz).drew).trans (ownsB_grown (HOd.out _) hgrow3 (by simp; omega))
         have y3 : w3.cell? ⟨lam, 1, none⟩ = some (.slice none 0 0) := (HB3.out.cell (p := ⟨lam, 1, none⟩) hl).trans s1
         have f3 : w3.frozen? ⟨lam, 1, none⟩ = false := HF2.out w3 HB3.out))
  all_goals go_end0
  all_goals exact ⟨rfl, w3, _, rfl, HB3.out, hown3⟩

set_option maxRecDepth 20000 in
set_option maxHeartbeats 8000000 in
theorem teamsC_any (base lo lam β : Nat) (a : Option Addr) (cap : Nat) (Ts : List Tm) (w : World) (hl : lam < base) (_hβ : β < base) (hz : base ≤ w.heap.size) (hn : Ts.length ≤ 1048576)
    (c1 : w.cell? ⟨lam, 2, none⟩ = some (.slice none 0 0)) (f1 : w.frozen? ⟨lam, 2, none⟩ = false) (hB : Box w β #[.slice a Ts.length cap]) (hT : TmsAt lo w (.slice a Ts.length cap) Ts) :
    Calls Try.prog 62 #[.pointer (some ⟨lam, 0, none⟩), .pointer (some ⟨β, 0, none⟩)] w
      fun e w' => e = .returned (.tuple #[]) ∧ ∃ w3 v', w' = w3.setCell ⟨lam, 2, none⟩ v' ∧ Below w.heap.size w w3 ∧ w3.ownsRow w.heap.size 108 2 v' Ts.length (Tmvs Ts) := by
  obtain ⟨i0, hi, hz0, hz1, hz2⟩ := info_parts Try.info108
  have HI := hide (And.intro hi (And.intro hz0 (And.intro hz1 hz2)))
  clear hi hz0 hz1 hz2
  have HT := hide hT
  have hm : a = none → Ts.length = 0 := fun e => by
    rcases HT.out with ⟨_, _, h, hx⟩ | ⟨_, _, _, h, _⟩
    · rw [hx]; rfl
    · injection h with h; rw [e] at h; cases h
  have HM := hide hm
  have HNW : Hid (∀ ad, a = some ad → ∀ j u, (Tmvs Ts)[j]? = some u → w.drew.cell? (ad.add j) = some u) := fun ad e => by
    have h := HT.out
    rw [e] at h
    exact Tmvs_news h (Below.refl _ _).drew
  have HF2 : Hid (∀ W, Below w.heap.size w W → W.frozen? ⟨lam, 2, none⟩ = false) := fun W hW => (World.frozen?_of_block (w := w) (hW.block lam (by omega))).trans f1
  have s1 : w.cell? ⟨lam, 2, none⟩ = some (.slice none 0 0) := c1
  have s2 : ∀ i, w.cell? ⟨β, i, none⟩ = #[.slice a Ts.length cap][i]? := hB.cell
  clear c1 f1 hB hT hm
  go_enter Try.func62, Try.ntmps62
  go_wp2
  go_region_law (first
      | (refine step_append_all (by rfl) (.tmp 7) (.tmp 8) 29 (by rfl) 108 i0 (.agg #[.string ⟨#[]⟩, .string ⟨#[]⟩]) 2 32 Try.underlying29 HI.out.1 HI.out.2.1 HI.out.2.2.1 HI.out.2.2.2 (by rfl) (by decide) (by rfl) a Ts.length cap (Tmvs Ts) (by rfl) (Tmvs_len _) HM.out HNW.out (Tmvs_one _) (by unfold maxLen; omega) (by omega) ?_
         intro v3 w3 hown3 hb3
         have HB3 : Hid (Below w.heap.size w w3) := bt ((Below.refl _ _).drew) hb3
         have y3 : w3.cell? ⟨lam, 2, none⟩ = some (.slice none 0 0) := (HB3.out.cell (p := ⟨lam, 2, none⟩) (by simp only []; omega)).trans s1
         have f3 : w3.frozen? ⟨lam, 2, none⟩ = false := HF2.out w3 HB3.out
         obtain ⟨a3, c3, rfl⟩ : ∃ a3 c3, v3 = .slice a3 Ts.length c3 := by
           rcases hown3.2 with ⟨hv, h0⟩ | ⟨g, cp, cur, hv, _⟩
           · exact ⟨none, 0, by rw [hv, h0]⟩
           · exact ⟨_, _, hv⟩))
  all_goals go_end0
  all_goals exact ⟨rfl, w3, _, rfl, HB3.out, hown3⟩
end Go.Proofs.Ytmaagbnjpdijnaa

namespace Go.Proofs.Ytmaagbnjpdijnaa
open Go.RowKit Go.Deep

/-- the cells of a list, one thing behind the other -/
def flatV {X : Type} (f : X → List Value) : List X → List Value
  | [] => []
  | x :: r => f x ++ flatV f r
theorem flatV_get {X : Type} {f : X → List Value} {n : Nat} (h : ∀ x, (f x).length = n) : ∀ (L : List X) (i t : Nat) (hi : i < L.length), t < n → (flatV f L)[i * n + t]? = (f L[i])[t]?
  | [], i, t, hi, _ => by simp at hi
  | x :: r, 0, t, hi, ht => by
    rw [flatV, Nat.zero_mul, Nat.zero_add, List.getElem?_append_left (by rw [h]; exact ht)]
    rfl
  | x :: r, i + 1, t, hi, ht => by
    rw [flatV, List.getElem?_append_right (by rw [h, Nat.succ_mul]; omega), h, show (i + 1) * n + t - n = i * n + t by rw [Nat.succ_mul]; omega, flatV_get h r i t (by simpa using hi) ht]
    rfl
theorem flatV_app {X : Type} {f : X → List Value} : ∀ A B : List X, flatV f (A ++ B) = flatV f A ++ flatV f B
  | [], B => rfl
  | x :: r, B => by rw [List.cons_append, flatV, flatV, flatV_app r B, List.append_assoc]
theorem fdV_len (f : Fd) : (fdV f).length = 11 := rfl
theorem flat_snoc {F : List Fd} {j : Nat} (h : j < F.length) : flatV fdV (F.take (j + 1)) = flatV fdV (F.take j) ++ fdV F[j] := by
  rw [List.take_succ_eq_append_getElem h, flatV_app]
  rfl
theorem Fdvs_own {base : Nat} {W : World} {v : Value} {L : List Fd} (h : W.ownsRow base 62 11 v L.length (flatV fdV L)) (hL : L ≠ []) (hz : ∀ i (hi : i < L.length), FdSize L[i] ∧ L[i].words = []) : FdsOwn base W.heap.size W v L := by
  rcases h.2 with ⟨_, hn⟩ | ⟨g, cap, cur, hv, h1, h2, h3, h4, _⟩
  · exact absurd (List.length_eq_zero_iff.1 hn) hL
  · have hl := ownsB_lt h (g := g) (by rw [hv]; rfl)
    have ho := h
    have h0 : 0 < L.length := List.length_pos_iff.2 hL
    have hl2 := hl.2.1
    have hl1 := hl.1
    subst hv
    refine Or.inr ⟨g, 0, cap, fun _ => (g + 1, g + 1), fun i => if h : i < L.length then L[i] else L[0], rfl, hL, Nat.le_trans h3 h4, h3, fun i hi => by simp [hi], hl.1, hl.2.1, hl.1, fun i hi => ⟨by simp only []; omega, by simp only []; omega, by simp only []; omega⟩, fun i j _ _ => Nat.le_refl _, hl.2.2, fun i hi => ?_⟩
    simp only [hi, dif_pos]
    have ce : ∀ t, t < 11 → W.cell? ⟨g, 0 + i * 11 + t, none⟩ = (fdV L[i])[t]? := fun t ht => by
      rw [Nat.zero_add, ho.cellAt _ (by omega)]
      exact flatV_get fdV_len L i t hi ht
    refine ⟨(hz i hi).1, .slice none 0 0, Nat.le_refl _, ⟨ce 0 (by omega), ce 1 (by omega), ce 2 (by omega), ce 3 (by omega), ce 4 (by omega), ce 5 (by omega), ce 6 (by omega), ce 7 (by omega), ce 8 (by omega), ce 9 (by omega), ce 10 (by omega)⟩, ?_⟩
    rw [(hz i hi).2]
    exact Or.inl ⟨none, 0, rfl, rfl⟩
theorem Mdv_own {base : Nat} {W : World} {v : Value} {m : Md} (h : W.ownsRow base 66 6 v 1 [.string m.kind, .string m.field, .string m.wh, .string m.is, .string m.put, .string m.fr]) (hz : MdSize m) : MdsOwn base W.heap.size W v [m] := by
  obtain ⟨g, cap, hv⟩ := ownsRow_succ h
  have hl := ownsB_lt h (g := g) (by rw [hv]; rfl)
  rcases h.2 with ⟨_, hn⟩ | ⟨g', cap', cur, hv', h1, h2, h3, h4, _⟩
  · cases hn
  · have ho := h
    rw [hv] at hv'
    injection hv' with e1 e2 e3
    subst hv
    subst e3
    refine Or.inr ⟨g, 0, cap, fun _ => g + 1, fun _ => m, rfl, by simp, Nat.le_trans h3 h4, h3, fun i hi => (by have h9 : i = 0 := (by simpa using hi); subst h9; rfl), hl.1, hl.2.1, Nat.lt_succ_self _, hl.1, fun _ _ => Nat.le_refl _, hl.1, hl.2.2, fun i hi => ?_⟩
    have hi0 : i = 0 := by simpa using hi
    subst hi0
    have ce : ∀ t, t < 6 → W.cell? ⟨g, 0 + 0 * 6 + t, none⟩ = ([.string m.kind, .string m.field, .string m.wh, .string m.is, .string m.put, .string m.fr] : List Value)[t]? := fun t ht => by
      rw [show 0 + 0 * 6 + t = t by omega]
      exact ho.cellAt _ (by omega)
    exact ⟨hz, ⟨ce 0 (by omega), ce 1 (by omega), ce 2 (by omega), ce 3 (by omega), ce 4 (by omega), ce 5 (by omega)⟩⟩
theorem touch_step {l fb : Nat} {W1 wr w3 : World} (ht : Touch l (l + 1) W1 wr) (hb : Below fb wr w3) (h : W1.heap.size ≤ fb) : Touch l (l + 1) W1 w3 :=
  ⟨hb.os.trans ht.os, hb.tape.trans ht.tape, hb.output.trans ht.output, Nat.le_trans ht.size hb.size, fun k hk ho => (hb.block k (by omega)).trans (ht.block k hk ho)⟩
theorem touch_set {l : Nat} {W1 wr : World} (ht : Touch l (l + 1) W1 wr) (p : Addr) (u : Value) (h : p.block = l ∨ W1.heap.size ≤ p.block) : Touch l (l + 1) W1 (wr.setCell p u) := by
  have h2 := Touch.setCell p.block (p.block + 1) wr p u ⟨Nat.le_refl _, Nat.lt_succ_self _⟩
  have hs := ht.size
  exact ⟨h2.os.trans ht.os, h2.tape.trans ht.tape, h2.output.trans ht.output, Nat.le_trans ht.size h2.size, fun k hk ho => (h2.block k (by omega) (by omega)).trans (ht.block k hk ho)⟩
end Go.Proofs.Ytmaagbnjpdijnaa

