/-
  No cell of these rows narrows 'for every input' (looked for: loops, veiled, ifaces, maps, wideKeys, modest, calm, conditions, laid).
  DERIVED. THE GIVEN ROWS OF THIS SEAT. 3 by the template 'for every input the law returns true; each argument reads behind the call as it read before'; 0 by the template 'total and deterministic' (their statements: YtfbfgljkiikabaaTotals.lean).
  GIVEN WITH THE SEED: the statements are not yours to turn. If you find one false, say at which input.
  Laid BY PROGRAM, IN A SANDBOX (cutbox-rows.mjs): the forced cells as the released guide's own fill.sh prints them over the translation 462f6bdc370e371b… (all of the seat's roots in one cut). By AI agents, Wed Nov 11 2026. No macro, syntax, notation, axiom, sorry.
-/
import Derived.Test.YtfbfgljkiikabaaChecked
import GoSem.Claim
import GoSem.ClaimJoined
import GoSem.ClaimMapViews
import Derived.JoinedTies
import Derived.KernelRfl
namespace Go.Proofs.Ytfbfgljkiikabaa
/- THE CELL 'sum', in the pinned program and in every row, IS THE sha256 OF THE DUMP (.gsa) THAT YtfbfgljkiikabaaProg.lean LOADS. Nothing in Lean hashes anything: it is a label: what it is worth is what the hold of that sum in a sandbox is worth. -/
noncomputable def Try.pinned : Pinned := { name := "ytfbfgljkiikabaa", sum := "462f6bdc370e371b7605fb714374e48e445cc74a6d3f700e16f21122cd39d8fd", checked := Try.checked }
namespace Rows
def none {H : Type} : Left H := { results := [], args := [] }

/-- 'laws.FnExactRecNextBallot': WHATEVER THE INPUT: true; the input reads as it did. -/
def fnExactRecNextBallotSpec : ChangeSpec := { name := "fnExactRecNextBallot", fn := fun _ => fun
  | [d1, d2, d3] => { results := [.lit (.bool true)], args := [d1, d2, d3] }
  | _ => none }
def fnExactRecNextBallotRow : OpenClaim := { program := "ytfbfgljkiikabaa", sum := "462f6bdc370e371b7605fb714374e48e445cc74a6d3f700e16f21122cd39d8fd", func := "loop.example/wharfhall/laws.FnExactRecNextBallot", spec := "fnExactRecNextBallot", apart := false }
def FnExactRecNextBallotSaid : Prop := fnExactRecNextBallotRow.holds Try.pinned (OpenSpec.ofChange fnExactRecNextBallotSpec)

/-- ITS FALSE NEIGHBOUR: 'it returns false'. Refute it at one input. -/
def fnExactRecNextBallotWrong : ChangeSpec := { name := "fnExactRecNextBallot", fn := fun _ => fun
  | [d1, d2, d3] => { results := [.lit (.bool false)], args := [d1, d2, d3] }
  | _ => none }
def FnExactRecNextBallotWrongFalsely : Prop := fnExactRecNextBallotRow.holds Try.pinned (OpenSpec.ofChange fnExactRecNextBallotWrong)

/-- 'laws.FnExactRecFall': WHATEVER THE INPUT: true; the input reads as it did. -/
def fnExactRecFallSpec : ChangeSpec := { name := "fnExactRecFall", fn := fun _ => fun
  | [d] => { results := [.lit (.bool true)], args := [d] }
  | _ => none }
def fnExactRecFallRow : OpenClaim := { program := "ytfbfgljkiikabaa", sum := "462f6bdc370e371b7605fb714374e48e445cc74a6d3f700e16f21122cd39d8fd", func := "loop.example/wharfhall/laws.FnExactRecFall", spec := "fnExactRecFall", unfollowed := true, recurses := true, apart := false }
def FnExactRecFallSaid : Prop := fnExactRecFallRow.holds Try.pinned (OpenSpec.ofChange fnExactRecFallSpec)

/-- ITS FALSE NEIGHBOUR: 'it returns false'. Refute it at one input. -/
def fnExactRecFallWrong : ChangeSpec := { name := "fnExactRecFall", fn := fun _ => fun
  | [d] => { results := [.lit (.bool false)], args := [d] }
  | _ => none }
def FnExactRecFallWrongFalsely : Prop := fnExactRecFallRow.holds Try.pinned (OpenSpec.ofChange fnExactRecFallWrong)

/-- 'laws.FnExactRecRise': WHATEVER THE INPUT: true; the input reads as it did. -/
def fnExactRecRiseSpec : ChangeSpec := { name := "fnExactRecRise", fn := fun _ => fun
  | [d] => { results := [.lit (.bool true)], args := [d] }
  | _ => none }
def fnExactRecRiseRow : OpenClaim := { program := "ytfbfgljkiikabaa", sum := "462f6bdc370e371b7605fb714374e48e445cc74a6d3f700e16f21122cd39d8fd", func := "loop.example/wharfhall/laws.FnExactRecRise", spec := "fnExactRecRise", unfollowed := true, recurses := true, apart := false }
def FnExactRecRiseSaid : Prop := fnExactRecRiseRow.holds Try.pinned (OpenSpec.ofChange fnExactRecRiseSpec)

/-- ITS FALSE NEIGHBOUR: 'it returns false'. Refute it at one input. -/
def fnExactRecRiseWrong : ChangeSpec := { name := "fnExactRecRise", fn := fun _ => fun
  | [d] => { results := [.lit (.bool false)], args := [d] }
  | _ => none }
def FnExactRecRiseWrongFalsely : Prop := fnExactRecRiseRow.holds Try.pinned (OpenSpec.ofChange fnExactRecRiseWrong)

/- THE SECOND FORM. 'bulk': how many values and letters a reading holds, each counted each time it is reached (what is shared counts as often as it is met; a slice's spare places count too). A statement '..UptoSaid' is the law's where the arguments, and the package variables that the reading takes, are together of bulk at most 1048576: NARROWER than '..Said'. Prove '..Said' where nothing that the law and all that it calls make is longer than what came in: it says more and counts as full. Else prove '..UptoSaid'. A law counts once. -/
mutual
def uptoBulk {H : Type} : DataW H → Nat
  | .lit (.string bytes) => bytes.length + 1
  | .lit _ => 1
  | .nil => 1
  | .ptr d => uptoBulk d + 1
  | .slice elems spare => uptoBulkAll elems + uptoBulkAll spare + 1
  | .agg parts => uptoBulkAll parts + 1
  | .iface _ d => uptoBulk d + 1
  | .map entries => uptoBulkEntries entries + 1
  | .held _ => 1
def uptoBulkAll {H : Type} : List (DataW H) → Nat
  | [] => 0
  | d :: r => uptoBulk d + uptoBulkAll r
def uptoBulkEntries {H : Type} : List (Lit × DataW H) → Nat
  | [] => 0
  | x :: r => uptoBulkEntry x + uptoBulkEntries r
def uptoBulkEntry {H : Type} : Lit × DataW H → Nat
  | (.string bytes, d) => bytes.length + uptoBulk d + 1
  | (_, d) => uptoBulk d + 1
 end
def uptoSmall : (H : Type) → List (DataW H) → Bool := fun _ ds => decide (uptoBulkAll ds ≤ 1048576)
def OpenSpec.upto (s : _root_.Go.ChangeSpec) : _root_.Go.OpenSpec := { _root_.Go.OpenSpec.ofChange s with cond := some uptoSmall }

/-- 'laws.FnExactRecNextBallot', WHERE WHAT IT READS IS OF BULK AT MOST 1048576: true; the input reads as it did. -/
def fnExactRecNextBallotUptoRow : OpenClaim := { program := "ytfbfgljkiikabaa", sum := "462f6bdc370e371b7605fb714374e48e445cc74a6d3f700e16f21122cd39d8fd", func := "loop.example/wharfhall/laws.FnExactRecNextBallot", spec := "fnExactRecNextBallot", apart := false, narrowed := true }
def FnExactRecNextBallotUptoSaid : Prop := fnExactRecNextBallotUptoRow.holds Try.pinned (OpenSpec.upto fnExactRecNextBallotSpec)

/-- 'laws.FnExactRecFall', WHERE WHAT IT READS IS OF BULK AT MOST 1048576: true; the input reads as it did. -/
def fnExactRecFallUptoRow : OpenClaim := { program := "ytfbfgljkiikabaa", sum := "462f6bdc370e371b7605fb714374e48e445cc74a6d3f700e16f21122cd39d8fd", func := "loop.example/wharfhall/laws.FnExactRecFall", spec := "fnExactRecFall", unfollowed := true, recurses := true, apart := false, narrowed := true }
def FnExactRecFallUptoSaid : Prop := fnExactRecFallUptoRow.holds Try.pinned (OpenSpec.upto fnExactRecFallSpec)

/-- 'laws.FnExactRecRise', WHERE WHAT IT READS IS OF BULK AT MOST 1048576: true; the input reads as it did. -/
def fnExactRecRiseUptoRow : OpenClaim := { program := "ytfbfgljkiikabaa", sum := "462f6bdc370e371b7605fb714374e48e445cc74a6d3f700e16f21122cd39d8fd", func := "loop.example/wharfhall/laws.FnExactRecRise", spec := "fnExactRecRise", unfollowed := true, recurses := true, apart := false, narrowed := true }
def FnExactRecRiseUptoSaid : Prop := fnExactRecRiseUptoRow.holds Try.pinned (OpenSpec.upto fnExactRecRiseSpec)

end Rows
end Go.Proofs.Ytfbfgljkiikabaa
