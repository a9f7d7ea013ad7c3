import Derived.Test.YthfdfdlojfdckaaGreatVG3c
import Derived.Test.YthfdfdlojfdckaaGreatVM5R
import Derived.Test.YthfdfdlojfdckaaGreatVB1
import Derived.Test.YthfdfdlojfdckaaGreatVDA
import Derived.Test.YthfdfdlojfdckaaGreatVLA
import Derived.Test.YthfdfdlojfdckaaGreatVA1
namespace Go.Proofs.YthfdfdlojfdckaaGreat
open Go.RowKit Go.Deep Go.Shelf Go.Maps

attribute [local go_sem] Oper.semAt_some

/-- a link that is set: its place, its role, what it names -/
abbrev Tie := Nat × Int × ByteArray × ByteArray
def tieOne (k : Nat) (f : Fd) (s : ByteArray) : List Tie := if (f.kd == 4 && !s.toList.isEmpty) = true then [(k, f.ro, f.to, s)] else []
def ties (Fs : List Fd) (V : List ByteArray) : Nat → List Tie
  | 0 => []
  | k + 1 => ties Fs V k ++ (match Fs[k]?, V[k]? with | some f, some s => tieOne k f s | _, _ => [])
theorem ties_succ {Fs : List Fd} {V : List ByteArray} {k : Nat} (hf : k < Fs.length) (hv : k < V.length) : ties Fs V (k + 1) = ties Fs V k ++ tieOne k Fs[k] V[k] := by
  rw [ties]
  simp [hf, hv]
theorem ties_len (Fs : List Fd) (V : List ByteArray) (k : Nat) : (ties Fs V k).length ≤ k := by
  induction k with
  | zero => simp [ties]
  | succ k ih =>
    rw [ties, List.length_append]
    split
    · unfold tieOne
      split
      · simp; omega
      · simp; omega
    · simp; omega
abbrev encT (x : Tie) : Array Value := #[.agg #[.int .i64 x.1, .int .i64 x.2.1, .string (cutS x.2.2.1), .string (cutS x.2.2.2)]]

section
variable (lo : Nat) (sk : ByteArray) (fv : Value) (Fs : List Fd) (kind nm team : ByteArray) (vv hv : Value) (en : Bool) (ver : Int) (V Ho : List ByteArray) (w : World)

set_option maxHeartbeats 1000000 in
theorem ties_in (F : Fence) (n : Nat) (hf : F.fn 187) (hro : F.round = none) (a : Option Addr) (ln cap : Nat) (va : Option Addr) (vn vcap : Nat) (ha : Option Addr) (hn hcap : Nat) :
    CallsIn F n Tryz.prog 187 #[.agg #[.string sk, .slice a ln cap], .agg #[.string kind, .string nm, .string team, .slice va vn vcap, .bool en, .slice ha hn hcap, .int .i64 ver]] w
      fun e w' => e = .returned (.func (.func 212) #[] #[.pointer (some ⟨w.heap.size, 0, none⟩), .pointer (some ⟨w.heap.size + 1, 0, none⟩)]) ∧
        w' = (w.alloc (.cells #[.string sk, .slice a ln cap] 129)).alloc (.cells #[.string kind, .string nm, .string team, .slice va vn vcap, .bool en, .slice ha hn hcap, .int .i64 ver] 135) := by
  refine callsIn_of_wp Tryz.func187 rfl hf ?_ hro
  simp only [Tryz.ntmps187, List.size_toArray, List.length_cons, List.length_nil, Nat.reduceAdd, Nat.reduceSub, Array.replicate_succ, Array.replicate_zero, List.push_toArray, List.append_toArray, List.nil_append, List.cons_append]
  gi_wp2
  go_ret
  exact ⟨rfl, rfl⟩

set_option maxRecDepth 100000 in
set_option maxHeartbeats 4000000 in
theorem ties_stops (n : Nat) (hn : 1 ≤ n) (S : Nat → Prop) (w0 : World) (B1 B2 : Nat) (h0 : Below w0.heap.size w0 w) (hF : FdsAt lo w0 fv Fs) (hV : StrsAt w0 vv V) (hl : Fs.length = V.length) (n1 : Fs.length ≤ 1048576)
    (s0 : ∀ k, k < w0.heap.size → ¬ S k) (s2 : ¬ S B2)
    (hX1 : Box w B1 #[.string sk, fv]) (hX2 : Box w B2 #[.string kind, .string nm, .string team, vv, .bool en, hv, .int .i64 ver]) :
    SeqStopsK Fence.wide n Tryz.prog 212 #[.pointer (some ⟨B1, 0, none⟩), .pointer (some ⟨B2, 0, none⟩)] encT (KeepsBut S w.heap.size) (fun xs => xs = ties Fs V Fs.length) (fun xs => ∃ k, k ≤ Fs.length ∧ xs = ties Fs V k) Fs.length w := by
  intro l J Jx W hW hJ hJx hY hJ0
  have HF := hide hF
  have HV := hide hV
  obtain ⟨fa, fcap, rfl⟩ := hF.form
  obtain ⟨va, vcap, rfl⟩ := hV.form'
  have H0 := hide (h0.trans (hW.mono h0.size))
  have x1 := (hX1.below hW hX1.lt).cell 1
  have HO := hide (hX2.below hW hX2.lt)
  have hw : w.heap.size ≤ W.heap.size := hW.size
  have hw0 : w0.heap.size ≤ w.heap.size := h0.size
  have HJ := hide hJ
  have HJX := hide hJx
  have HY := hide hY
  have HL := hide hl
  have S0 := hide s0
  have S2 := hide s2
  have HJ0 := hide hJ0
  simp at x1
  clear hF hV h0 hW hX1 hX2 hJ hJx hY s0 s2 hJ0 hl
  refine callsIn_of_wp Tryz.func212 rfl trivial ?_ rfl
  simp only [Tryz.ntmps212, List.size_toArray, List.length_cons, List.length_nil, Nat.reduceAdd, Nat.reduceSub, Array.replicate_succ, Array.replicate_zero, List.push_toArray, List.append_toArray, List.nil_append, List.cons_append]
  have o3 := HO.out.cell 3
  have olt := HO.out.lt
  simp at o3
  gi_wp2
  gi_loopw [9] (fun i wr => ∃ k : Nat, i = .int .i64 k ∧ k ≤ Fs.length ∧ J (ties Fs V k) wr ∧ Below w0.heap.size w0 wr ∧ wr.cell? ⟨B2, 3, none⟩ = some (.slice va V.length vcap) ∧ B2 < wr.heap.size ∧ w.heap.size ≤ wr.heap.size)
    (fun i _ => Fs.length - (intOf i).toNat)
  case atStart => exact ⟨0, rfl, Nat.zero_le _, HJ0.out, H0.out, o3, olt, hw⟩
  case round =>
    clear o3 olt hw x1
    obtain ⟨k, rfl, hkl, hJk, hBk, q3, qlt, qw⟩ := hrel
    have HJK := hide hJk
    have HBK := hide hBk
    clear hJk hBk
    by_cases hlt : k < Fs.length
    · have hlv : k < V.length := by have := HL.out; omega
      obtain ⟨fb, foff, rfl, hfb, hfc⟩ := HF.out.full' (by omega)
      obtain ⟨hsz, wv, hcell, hst⟩ := hfc k hlt
      obtain ⟨c0, c1, c2, c3, c4, c5, c6, c7, c8, c9, c10⟩ := hcell.below HBK.out hfb
      obtain ⟨wa, wn, wcap, rfl⟩ := hst.form
      obtain ⟨vb, voff, rfl, hvb, hvc, hvs⟩ := HV.out.spread (by omega)
      have hvk : wr.cell? ⟨vb, voff + k, none⟩ = some (.string V[k]) := (HBK.out.cell (p := ⟨vb, voff + k, none⟩) hvb).trans (hvc k hlv)
      have hvz : V[k].size ≤ maxLen := hvs _ (List.getElem_mem hlv)
      have hto := hsz.s5
      have HST := hide (ties_succ hlt hlv)
      have HTO : Hid (tieOne k Fs[k] V[k] = if (Fs[k].kd == 4 && !V[k].toList.isEmpty) = true then [(k, Fs[k].ro, Fs[k].to, V[k])] else []) := rfl
      clear hfc hcell hst hvc hvs hsz
      obtain ⟨Wb, hWb, hvk', q3', f5, f6, HA, HAB, hzb⟩ : ∃ Wb, Wb = wr.alloc (.cells #[.string Fs[k].nm, .int .i64 Fs[k].kd, .int .i64 Fs[k].le, .int .i64 Fs[k].mo, .slice wa wn wcap, .string Fs[k].to, .int .i64 Fs[k].ro, .bool Fs[k].mu, .bool Fs[k].fx, .string Fs[k].df, .string Fs[k].we] 176) ∧
          Wb.cell? ⟨vb, voff + k, none⟩ = some (.string V[k]) ∧ Wb.cell? ⟨B2, 3, none⟩ = some (.slice (some ⟨vb, voff, none⟩) V.length vcap) ∧ Wb.cell? ⟨wr.heap.size, 5, none⟩ = some (.string Fs[k].to) ∧ Wb.cell? ⟨wr.heap.size, 6, none⟩ = some (.int .i64 Fs[k].ro) ∧
          Hid (J (ties Fs V k) Wb) ∧ Hid (Below w0.heap.size w0 Wb) ∧ Wb.heap.size = wr.heap.size + 1 := by
        refine ⟨_, rfl, (cell_alloc_lt _ _ _ _ (Nat.lt_of_lt_of_le hvb HBK.out.size)).trans hvk, (cell_alloc_lt _ _ _ _ qlt).trans q3, new_cell _ _ _ _ 5 rfl, new_cell _ _ _ _ 6 rfl, abides_below HJ.out HJK.out (one_al _ _), HBK.out.trans ((one_al _ _).mono HBK.out.size), by simp⟩
      cases hk1 : (Fs[k].kd == 4) with
      | false =>
        have hk1' : (Fs[k].kd != 4) = true := by simp [bne, hk1]
        have HE2 : Hid (ties Fs V (k + 1) = ties Fs V k) := by unfold Hid; rw [HST.out, HTO.out, hk1]; simp
        gi_wp2
        rw [← hWb]
        clear hWb
        go_roundw
        case rel => exact ⟨k + 1, by go_num, by omega, by rw [HE2.out]; exact HA.out, HAB.out, q3', by omega, by omega⟩
        case measure => simp [intOf]; omega
      | true =>
        have hk1' : (Fs[k].kd != 4) = false := by simp [bne, hk1]
        cases hk2 : V[k].toList.isEmpty with
        | true =>
          have HE2 : Hid (ties Fs V (k + 1) = ties Fs V k) := by unfold Hid; rw [HST.out, HTO.out, hk1, hk2]; simp
          have hvk2 : ∀ o, (wr.alloc o).cell? ⟨vb, voff + k, none⟩ = some (.string V[k]) := fun o => (cell_alloc_lt _ _ _ _ (Nat.lt_of_lt_of_le hvb HBK.out.size)).trans hvk
          have q32 : ∀ o, (wr.alloc o).cell? ⟨B2, 3, none⟩ = some (.slice (some ⟨vb, voff, none⟩) V.length vcap) := fun o => (cell_alloc_lt _ _ _ _ qlt).trans q3
          gi_wp2
          rw [← hWb]
          clear hWb
          go_roundw
          case rel => exact ⟨k + 1, by go_num, by omega, by rw [HE2.out]; exact HA.out, HAB.out, q3', by omega, by omega⟩
          case measure => simp [intOf]; omega
        | false =>
          have HE2 : Hid (ties Fs V (k + 1) = ties Fs V k ++ [(k, Fs[k].ro, Fs[k].to, V[k])]) := by unfold Hid; rw [HST.out, HTO.out, hk1, hk2]; simp
          have hpl : (ties Fs V k).length < Fs.length := by have := ties_len Fs V k; omega
          have HAD : Hid (J (ties Fs V k) Wb.drew) := abides_below HJ.out HA.out (Below.refl _ _).drew
          obtain ⟨fn, tmps, assign, body, hy, hR⟩ := HY.out _ (k, Fs[k].ro, Fs[k].to, V[k]) _ HAD.out hpl
          dsimp only [encT] at hy
          rw [cutS_ok hto, cutS_ok hvz] at hy
          have HR := hide hR
          have hvk2 : ∀ o, (wr.alloc o).cell? ⟨vb, voff + k, none⟩ = some (.string V[k]) := fun o => (cell_alloc_lt _ _ _ _ (Nat.lt_of_lt_of_le hvb HBK.out.size)).trans hvk
          have q32 : ∀ o, (wr.alloc o).cell? ⟨B2, 3, none⟩ = some (.slice (some ⟨vb, voff, none⟩) V.length vcap) := fun o => (cell_alloc_lt _ _ _ _ qlt).trans q3
          clear hR hpl
          gi_wp2
          rw [← hWb]
          clear hWb hvk2 q32 hvk
          have HR2 : Hid (RoundIn Fence.wide (n - 1) Tryz.prog l fn tmps assign body Wb.drew fun e W' => ∃ r : Bool, e = .returned (.bool r) ∧ ((r = true ∧ J (ties Fs V k ++ [(k, Fs[k].ro, Fs[k].to, V[k])]) W' ∧ KeepsBut S w.heap.size Wb.drew W') ∨ (r = false ∧ Jx (ties Fs V k ++ [(k, Fs[k].ro, Fs[k].to, V[k])]) W'))) := by
            refine HR.out.mono ?_
            rintro e W' (⟨rfl, h1, h2⟩ | ⟨rfl, h1⟩)
            · exact ⟨true, rfl, .inl ⟨rfl, h1, h2⟩⟩
            · exact ⟨false, rfl, .inr ⟨rfl, h1⟩⟩
          have HK0 : Hid (k + 1 ≤ Fs.length ∧ ties Fs V k ++ [(k, Fs[k].ro, Fs[k].to, V[k])] = ties Fs V (k + 1)) := ⟨by omega, HE2.out.symm⟩
          gi_region_with (refine HR2.out.mono ?_; rintro e W3 ⟨r, rfl, hP⟩)
          all_goals clear HR HR2 hy HY HJ HJX hvk' f5 f6
          all_goals
            rcases hP with ⟨rfl, hJ3, hk3⟩ | ⟨rfl, hJx3⟩
            · have HJ3 := hide hJ3
              have r3 : W3.cell? ⟨B2, 3, none⟩ = some (.slice (some ⟨vb, voff, none⟩) V.length vcap) := hk3.cell (show Wb.drew.cell? _ = _ from q3') S2.out
              have rB : Hid (Below w0.heap.size w0 W3) := HAB.out.drew.trans (hk3.below HAB.out.size S0.out hw0)
              have rz := hk3.size
              have rz' : Wb.drew.heap.size = wr.heap.size + 1 := hzb
              clear hk3 hJ3
              gi_wp2
              go_roundw
              case rel => exact ⟨k + 1, by go_num, by omega, by rw [HE2.out]; exact HJ3.out, rB.out, r3, by omega, by omega⟩
              case measure => simp [intOf]; omega
            · have HX3 := hide hJx3
              clear hJx3
              gi_wp2
              refine bodyPost_ret (results_none rfl _ _ _) rfl ?_
              exact ⟨⟨_, rfl⟩, .inr ⟨_, ⟨k + 1, HK0.out.1, HK0.out.2⟩, HX3.out⟩⟩
    · have he : k = Fs.length := by omega
      subst he
      gi_wp2
      go_end0
      exact ⟨⟨_, rfl⟩, .inl ⟨_, rfl, HJK.out⟩⟩
end
end Go.Proofs.YthfdfdlojfdckaaGreat

