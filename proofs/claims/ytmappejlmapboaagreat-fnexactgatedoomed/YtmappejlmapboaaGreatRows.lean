/-
  No cell of these rows narrows 'for every input' (looked for: loops, veiled, ifaces, maps, wideKeys, modest, calm, conditions, laid).
  DERIVED. THE GIVEN ROWS OF THIS SEAT. 4 by the template 'for every input the law returns true; each argument reads behind the call as it read before'; 0 by the template 'total and deterministic' (their statements: YtmappejlmapboaaGreatTotals.lean).
  GIVEN WITH THE SEED: the statements are not yours to turn. If you find one false, say at which input.
  Laid BY PROGRAM, IN A SANDBOX (cutbox-rows.mjs): the forced cells as the released guide's own fill.sh prints them over the translation cabc862179d301d5… (all of the seat's roots in one cut). By AI agents, Wed Nov 11 2026. No macro, syntax, notation, axiom, sorry.
-/
import Derived.Test.YtmappejlmapboaaGreatChecked
import GoSem.Claim
import GoSem.ClaimJoined
import GoSem.ClaimMapViews
import Derived.JoinedTies
import Derived.KernelRfl
namespace Go.Proofs.YtmappejlmapboaaGreat
/- THE CELL 'sum', in the pinned program and in every row, IS THE sha256 OF THE DUMP (.gsa) THAT YtmappejlmapboaaGreatProg.lean LOADS. Nothing in Lean hashes anything: it is a label: what it is worth is what the hold of that sum in a sandbox is worth. -/
noncomputable def Tryz.pinned : Pinned := { name := "ytmappejlmapboaagreat", sum := "cabc862179d301d52045f2e2a5ea026f745ea929cb89c479030ad7bf22ef6284", checked := Tryz.checked }
namespace Rows
def none {H : Type} : Left H := { results := [], args := [] }

/-- 'laws.FnExactGateMark': WHATEVER THE INPUT: true; the input reads as it did. -/
def fnExactGateMarkSpec : ChangeSpec := { name := "fnExactGateMark", fn := fun _ => fun
  | [d1, d2] => { results := [.lit (.bool true)], args := [d1, d2] }
  | _ => none }
def fnExactGateMarkRow : OpenClaim := { program := "ytmappejlmapboaagreat", sum := "cabc862179d301d52045f2e2a5ea026f745ea929cb89c479030ad7bf22ef6284", func := "loop.example/wharfhall/laws.FnExactGateMark", spec := "fnExactGateMark", unfollowed := true, recurses := true, plainKeys := false, apart := false }
def FnExactGateMarkSaid : Prop := fnExactGateMarkRow.holds Tryz.pinned (OpenSpec.ofChange fnExactGateMarkSpec)

/-- ITS FALSE NEIGHBOUR: 'it returns false'. Refute it at one input. -/
def fnExactGateMarkWrong : ChangeSpec := { name := "fnExactGateMark", fn := fun _ => fun
  | [d1, d2] => { results := [.lit (.bool false)], args := [d1, d2] }
  | _ => none }
def FnExactGateMarkWrongFalsely : Prop := fnExactGateMarkRow.holds Tryz.pinned (OpenSpec.ofChange fnExactGateMarkWrong)

/-- 'laws.FnExactGateGoing': WHATEVER THE INPUT: true; the input reads as it did. -/
def fnExactGateGoingSpec : ChangeSpec := { name := "fnExactGateGoing", fn := fun _ => fun
  | [d1, d2] => { results := [.lit (.bool true)], args := [d1, d2] }
  | _ => none }
def fnExactGateGoingRow : OpenClaim := { program := "ytmappejlmapboaagreat", sum := "cabc862179d301d52045f2e2a5ea026f745ea929cb89c479030ad7bf22ef6284", func := "loop.example/wharfhall/laws.FnExactGateGoing", spec := "fnExactGateGoing", unfollowed := true, recurses := true, plainKeys := false, apart := false }
def FnExactGateGoingSaid : Prop := fnExactGateGoingRow.holds Tryz.pinned (OpenSpec.ofChange fnExactGateGoingSpec)

/-- ITS FALSE NEIGHBOUR: 'it returns false'. Refute it at one input. -/
def fnExactGateGoingWrong : ChangeSpec := { name := "fnExactGateGoing", fn := fun _ => fun
  | [d1, d2] => { results := [.lit (.bool false)], args := [d1, d2] }
  | _ => none }
def FnExactGateGoingWrongFalsely : Prop := fnExactGateGoingRow.holds Tryz.pinned (OpenSpec.ofChange fnExactGateGoingWrong)

/-- 'laws.FnExactGateSweep': WHATEVER THE INPUT: true; the input reads as it did. -/
def fnExactGateSweepSpec : ChangeSpec := { name := "fnExactGateSweep", fn := fun _ => fun
  | [d1, d2] => { results := [.lit (.bool true)], args := [d1, d2] }
  | _ => none }
def fnExactGateSweepRow : OpenClaim := { program := "ytmappejlmapboaagreat", sum := "cabc862179d301d52045f2e2a5ea026f745ea929cb89c479030ad7bf22ef6284", func := "loop.example/wharfhall/laws.FnExactGateSweep", spec := "fnExactGateSweep", unfollowed := true, recurses := true, plainKeys := false, apart := false }
def FnExactGateSweepSaid : Prop := fnExactGateSweepRow.holds Tryz.pinned (OpenSpec.ofChange fnExactGateSweepSpec)

/-- ITS FALSE NEIGHBOUR: 'it returns false'. Refute it at one input. -/
def fnExactGateSweepWrong : ChangeSpec := { name := "fnExactGateSweep", fn := fun _ => fun
  | [d1, d2] => { results := [.lit (.bool false)], args := [d1, d2] }
  | _ => none }
def FnExactGateSweepWrongFalsely : Prop := fnExactGateSweepRow.holds Tryz.pinned (OpenSpec.ofChange fnExactGateSweepWrong)

/-- 'laws.FnExactGateDoomed': WHATEVER THE INPUT: true; the input reads as it did. -/
def fnExactGateDoomedSpec : ChangeSpec := { name := "fnExactGateDoomed", fn := fun _ => fun
  | [d1, d2] => { results := [.lit (.bool true)], args := [d1, d2] }
  | _ => none }
def fnExactGateDoomedRow : OpenClaim := { program := "ytmappejlmapboaagreat", sum := "cabc862179d301d52045f2e2a5ea026f745ea929cb89c479030ad7bf22ef6284", func := "loop.example/wharfhall/laws.FnExactGateDoomed", spec := "fnExactGateDoomed", unfollowed := true, recurses := true, plainKeys := false, apart := false }
def FnExactGateDoomedSaid : Prop := fnExactGateDoomedRow.holds Tryz.pinned (OpenSpec.ofChange fnExactGateDoomedSpec)

/-- ITS FALSE NEIGHBOUR: 'it returns false'. Refute it at one input. -/
def fnExactGateDoomedWrong : ChangeSpec := { name := "fnExactGateDoomed", fn := fun _ => fun
  | [d1, d2] => { results := [.lit (.bool false)], args := [d1, d2] }
  | _ => none }
def FnExactGateDoomedWrongFalsely : Prop := fnExactGateDoomedRow.holds Tryz.pinned (OpenSpec.ofChange fnExactGateDoomedWrong)

/- THE SECOND FORM. 'bulk': how many values and letters a reading holds, each counted each time it is reached (what is shared counts as often as it is met; a slice's spare places count too). A statement '..UptoSaid' is the law's where the arguments, and the package variables that the reading takes, are together of bulk at most 1048576: NARROWER than '..Said'. Prove '..Said' where nothing that the law and all that it calls make is longer than what came in: it says more and counts as full. Else prove '..UptoSaid'. A law counts once. -/
mutual
def uptoBulk {H : Type} : DataW H → Nat
  | .lit (.string bytes) => bytes.length + 1
  | .lit _ => 1
  | .nil => 1
  | .ptr d => uptoBulk d + 1
  | .slice elems spare => uptoBulkAll elems + uptoBulkAll spare + 1
  | .agg parts => uptoBulkAll parts + 1
  | .iface _ d => uptoBulk d + 1
  | .map entries => uptoBulkEntries entries + 1
  | .held _ => 1
def uptoBulkAll {H : Type} : List (DataW H) → Nat
  | [] => 0
  | d :: r => uptoBulk d + uptoBulkAll r
def uptoBulkEntries {H : Type} : List (Lit × DataW H) → Nat
  | [] => 0
  | x :: r => uptoBulkEntry x + uptoBulkEntries r
def uptoBulkEntry {H : Type} : Lit × DataW H → Nat
  | (.string bytes, d) => bytes.length + uptoBulk d + 1
  | (_, d) => uptoBulk d + 1
 end
def uptoSmall : (H : Type) → List (DataW H) → Bool := fun _ ds => decide (uptoBulkAll ds ≤ 1048576)
def OpenSpec.upto (s : _root_.Go.ChangeSpec) : _root_.Go.OpenSpec := { _root_.Go.OpenSpec.ofChange s with cond := some uptoSmall }

/-- 'laws.FnExactGateMark', WHERE WHAT IT READS IS OF BULK AT MOST 1048576: true; the input reads as it did. -/
def fnExactGateMarkUptoRow : OpenClaim := { program := "ytmappejlmapboaagreat", sum := "cabc862179d301d52045f2e2a5ea026f745ea929cb89c479030ad7bf22ef6284", func := "loop.example/wharfhall/laws.FnExactGateMark", spec := "fnExactGateMark", unfollowed := true, recurses := true, plainKeys := false, apart := false, narrowed := true }
def FnExactGateMarkUptoSaid : Prop := fnExactGateMarkUptoRow.holds Tryz.pinned (OpenSpec.upto fnExactGateMarkSpec)

/-- 'laws.FnExactGateGoing', WHERE WHAT IT READS IS OF BULK AT MOST 1048576: true; the input reads as it did. -/
def fnExactGateGoingUptoRow : OpenClaim := { program := "ytmappejlmapboaagreat", sum := "cabc862179d301d52045f2e2a5ea026f745ea929cb89c479030ad7bf22ef6284", func := "loop.example/wharfhall/laws.FnExactGateGoing", spec := "fnExactGateGoing", unfollowed := true, recurses := true, plainKeys := false, apart := false, narrowed := true }
def FnExactGateGoingUptoSaid : Prop := fnExactGateGoingUptoRow.holds Tryz.pinned (OpenSpec.upto fnExactGateGoingSpec)

/-- 'laws.FnExactGateSweep', WHERE WHAT IT READS IS OF BULK AT MOST 1048576: true; the input reads as it did. -/
def fnExactGateSweepUptoRow : OpenClaim := { program := "ytmappejlmapboaagreat", sum := "cabc862179d301d52045f2e2a5ea026f745ea929cb89c479030ad7bf22ef6284", func := "loop.example/wharfhall/laws.FnExactGateSweep", spec := "fnExactGateSweep", unfollowed := true, recurses := true, plainKeys := false, apart := false, narrowed := true }
def FnExactGateSweepUptoSaid : Prop := fnExactGateSweepUptoRow.holds Tryz.pinned (OpenSpec.upto fnExactGateSweepSpec)

/-- 'laws.FnExactGateDoomed', WHERE WHAT IT READS IS OF BULK AT MOST 1048576: true; the input reads as it did. -/
def fnExactGateDoomedUptoRow : OpenClaim := { program := "ytmappejlmapboaagreat", sum := "cabc862179d301d52045f2e2a5ea026f745ea929cb89c479030ad7bf22ef6284", func := "loop.example/wharfhall/laws.FnExactGateDoomed", spec := "fnExactGateDoomed", unfollowed := true, recurses := true, plainKeys := false, apart := false, narrowed := true }
def FnExactGateDoomedUptoSaid : Prop := fnExactGateDoomedUptoRow.holds Tryz.pinned (OpenSpec.upto fnExactGateDoomedSpec)

end Rows
end Go.Proofs.YtmappejlmapboaaGreat
