import Derived.Test.YtpdlcccnlciecaaGreatV33
namespace Go.Proofs.YtpdlcccnlciecaaGreat
open Go.RowKit Go.Deep Go.Maps

theorem valid_cps {B : Sb} (h : validB B = true) : B.cs.length ≤ 200 ∧ risR rSv B.ss = true ∧ risR aheadB B.cs = true ∧ ∀ i (h : i < B.cs.length), 1 ≤ B.cs[i].nu := by
  unfold validB at h
  simp only [Bool.and_eq_true, decide_eq_true_iff] at h
  obtain ⟨-, -, h1, -, ⟨-, h2⟩, -, h3, h4⟩ := h
  refine ⟨h1, h2, h4, fun i hi => ?_⟩
  have := all_at h3 hi
  unfold cpB at this
  split at this
  · cases this
  · unfold cpT at this
    simp only [Bool.and_eq_true] at this
    exact inB_lo this.1

end Go.Proofs.YtpdlcccnlciecaaGreat
namespace Go.Proofs.YtpdlcccnlciecaaGreat
open Go.RowKit Go.Deep

/-! an act by its cells -/
def acV (A : Ac) (a : Option Addr) (k : Nat) : List Value := [.string A.sv, .int .i64 A.sn, .int .i64 A.cr, .int .i64 A.wa, .int .i64 A.cl, .bool A.sc, .slice a A.es.length k, .bool A.dp]
theorem acV_one (A : Ac) (a : Option Addr) (k : Nat) : Array.all (acV A a k).toArray (·.oneCell') = true := by
  unfold acV
  simp [Value.oneCell']
theorem AcAt.set {lo : Nat} {w : World} {ev : Value} {A : Ac} (h : AcAt lo w ev A) {p : Addr} (hp : p.block < lo) (u : Value) : AcAt lo (w.setCell p u) ev A := ⟨h.ens.set hp u, h.siz⟩
/-- an act's cells, and what they lead to -/
def AcC (lo : Nat) (w : World) (cs : List Value) (A : Ac) : Prop := ∃ a k, cs = acV A a k ∧ AcAt lo w (.slice a A.es.length k) A
theorem AcC.below {lo : Nat} {w w' : World} {cs : List Value} {A : Ac} (h : AcC lo w cs A) (hb : Below w.heap.size w w') : AcC lo w' cs A := by
  obtain ⟨a, k, h1, h2⟩ := h
  exact ⟨a, k, h1, h2.below hb⟩
theorem AcC.mono {lo lo' : Nat} {w : World} {cs : List Value} {A : Ac} (h : AcC lo w cs A) (hl : lo' ≤ lo) : AcC lo' w cs A := by
  obtain ⟨a, k, h1, h2⟩ := h
  exact ⟨a, k, h1, h2.mono hl⟩
theorem AcC.set {lo : Nat} {w : World} {cs : List Value} {A : Ac} (h : AcC lo w cs A) {p : Addr} (hp : p.block < lo) (u : Value) : AcC lo (w.setCell p u) cs A := by
  obtain ⟨a, k, h1, h2⟩ := h
  exact ⟨a, k, h1, h2.set hp u⟩
theorem AcC.len {lo : Nat} {w : World} {cs : List Value} {A : Ac} (h : AcC lo w cs A) : cs.length = 8 := by
  obtain ⟨a, k, h1, h2⟩ := h
  rw [h1]; rfl
theorem AcC.one {lo : Nat} {w : World} {cs : List Value} {A : Ac} (h : AcC lo w cs A) : Array.all cs.toArray (·.oneCell') = true := by
  obtain ⟨a, k, h1, h2⟩ := h
  rw [h1]; exact acV_one _ _ _
theorem eqAc_c (lo lo' : Nat) (cs cs' : List Value) (A : Ac) (w : World) (h : AcC lo w cs A) (h' : AcC lo' w cs' A) :
    Calls Tryz.prog 24 #[.agg cs.toArray, .agg cs'.toArray] w fun e w' => e = .returned (.bool true) ∧ Below w.heap.size w w' := by
  obtain ⟨a, k, rfl, h2⟩ := h
  obtain ⟨b, m, rfl, h3⟩ := h'
  exact eqAc_same lo _ A w lo' _ h2 h3
end Go.Proofs.YtpdlcccnlciecaaGreat
