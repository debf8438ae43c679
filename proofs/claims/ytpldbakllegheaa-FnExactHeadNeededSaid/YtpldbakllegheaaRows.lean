/-
  No cell of these rows narrows 'for every input' (looked for: loops, veiled, ifaces, maps, wideKeys, modest, calm, conditions, laid).
  DERIVED. THE GIVEN ROWS OF THIS SEAT. 12 by the template 'for every input the law returns true; each argument reads behind the call as it read before'; 0 by the template 'total and deterministic' (their statements: YtpldbakllegheaaTotals.lean).
  GIVEN WITH THE SEED: the statements are not yours to turn. If you find one false, say at which input.
  Laid BY PROGRAM, IN A SANDBOX (cutbox-rows.mjs): the forced cells as the released guide's own fill.sh prints them over the translation 19f063ae11bfcc6f… (all of the seat's roots in one cut). By AI agents, Wed Nov 11 2026. No macro, syntax, notation, axiom, sorry.
-/
import Derived.Test.YtpldbakllegheaaChecked
import GoSem.Claim
import GoSem.ClaimJoined
import GoSem.ClaimMapViews
import Derived.JoinedTies
import Derived.KernelRfl
namespace Go.Proofs.Ytpldbakllegheaa
/- THE CELL 'sum', in the pinned program and in every row, IS THE sha256 OF THE DUMP (.gsa) THAT YtpldbakllegheaaProg.lean LOADS. Nothing in Lean hashes anything: it is a label: what it is worth is what the hold of that sum in a sandbox is worth. -/
noncomputable def Try.pinned : Pinned := { name := "ytpldbakllegheaa", sum := "19f063ae11bfcc6f197b944a036cb98650e380833aafc09201c50703275f3da3", checked := Try.checked }
namespace Rows
def none {H : Type} : Left H := { results := [], args := [] }

/-- 'laws.FnExactLossOf': WHATEVER THE INPUT: true; the input reads as it did. -/
def fnExactLossOfSpec : ChangeSpec := { name := "fnExactLossOf", fn := fun _ => fun
  | [d1, d2, d3] => { results := [.lit (.bool true)], args := [d1, d2, d3] }
  | _ => none }
def fnExactLossOfRow : OpenClaim := { program := "ytpldbakllegheaa", sum := "19f063ae11bfcc6f197b944a036cb98650e380833aafc09201c50703275f3da3", func := "loop.example/g00853/laws.FnExactLossOf", spec := "fnExactLossOf", unfollowed := true, recurses := true, apart := false }
def FnExactLossOfSaid : Prop := fnExactLossOfRow.holds Try.pinned (OpenSpec.ofChange fnExactLossOfSpec)

/-- ITS FALSE NEIGHBOUR: 'it returns false'. Refute it at one input. -/
def fnExactLossOfWrong : ChangeSpec := { name := "fnExactLossOf", fn := fun _ => fun
  | [d1, d2, d3] => { results := [.lit (.bool false)], args := [d1, d2, d3] }
  | _ => none }
def FnExactLossOfWrongFalsely : Prop := fnExactLossOfRow.holds Try.pinned (OpenSpec.ofChange fnExactLossOfWrong)

/-- 'laws.FnExactHeadsOf': WHATEVER THE INPUT: true; the input reads as it did. -/
def fnExactHeadsOfSpec : ChangeSpec := { name := "fnExactHeadsOf", fn := fun _ => fun
  | [d1, d2, d3, d4] => { results := [.lit (.bool true)], args := [d1, d2, d3, d4] }
  | _ => none }
def fnExactHeadsOfRow : OpenClaim := { program := "ytpldbakllegheaa", sum := "19f063ae11bfcc6f197b944a036cb98650e380833aafc09201c50703275f3da3", func := "loop.example/g00853/laws.FnExactHeadsOf", spec := "fnExactHeadsOf", unfollowed := true, recurses := true, apart := false }
def FnExactHeadsOfSaid : Prop := fnExactHeadsOfRow.holds Try.pinned (OpenSpec.ofChange fnExactHeadsOfSpec)

/-- ITS FALSE NEIGHBOUR: 'it returns false'. Refute it at one input. -/
def fnExactHeadsOfWrong : ChangeSpec := { name := "fnExactHeadsOf", fn := fun _ => fun
  | [d1, d2, d3, d4] => { results := [.lit (.bool false)], args := [d1, d2, d3, d4] }
  | _ => none }
def FnExactHeadsOfWrongFalsely : Prop := fnExactHeadsOfRow.holds Try.pinned (OpenSpec.ofChange fnExactHeadsOfWrong)

/-- 'laws.FnExactPressuresOf': WHATEVER THE INPUT: true; the input reads as it did. -/
def fnExactPressuresOfSpec : ChangeSpec := { name := "fnExactPressuresOf", fn := fun _ => fun
  | [d1, d2, d3, d4, d5] => { results := [.lit (.bool true)], args := [d1, d2, d3, d4, d5] }
  | _ => none }
def fnExactPressuresOfRow : OpenClaim := { program := "ytpldbakllegheaa", sum := "19f063ae11bfcc6f197b944a036cb98650e380833aafc09201c50703275f3da3", func := "loop.example/g00853/laws.FnExactPressuresOf", spec := "fnExactPressuresOf", unfollowed := true, recurses := true, apart := false }
def FnExactPressuresOfSaid : Prop := fnExactPressuresOfRow.holds Try.pinned (OpenSpec.ofChange fnExactPressuresOfSpec)

/-- ITS FALSE NEIGHBOUR: 'it returns false'. Refute it at one input. -/
def fnExactPressuresOfWrong : ChangeSpec := { name := "fnExactPressuresOf", fn := fun _ => fun
  | [d1, d2, d3, d4, d5] => { results := [.lit (.bool false)], args := [d1, d2, d3, d4, d5] }
  | _ => none }
def FnExactPressuresOfWrongFalsely : Prop := fnExactPressuresOfRow.holds Try.pinned (OpenSpec.ofChange fnExactPressuresOfWrong)

/-- 'laws.FnExactWeakNodes': WHATEVER THE INPUT: true; the input reads as it did. -/
def fnExactWeakNodesSpec : ChangeSpec := { name := "fnExactWeakNodes", fn := fun _ => fun
  | [d1, d2, d3, d4, d5, d6] => { results := [.lit (.bool true)], args := [d1, d2, d3, d4, d5, d6] }
  | _ => none }
def fnExactWeakNodesRow : OpenClaim := { program := "ytpldbakllegheaa", sum := "19f063ae11bfcc6f197b944a036cb98650e380833aafc09201c50703275f3da3", func := "loop.example/g00853/laws.FnExactWeakNodes", spec := "fnExactWeakNodes", unfollowed := true, recurses := true, apart := false }
def FnExactWeakNodesSaid : Prop := fnExactWeakNodesRow.holds Try.pinned (OpenSpec.ofChange fnExactWeakNodesSpec)

/-- ITS FALSE NEIGHBOUR: 'it returns false'. Refute it at one input. -/
def fnExactWeakNodesWrong : ChangeSpec := { name := "fnExactWeakNodes", fn := fun _ => fun
  | [d1, d2, d3, d4, d5, d6] => { results := [.lit (.bool false)], args := [d1, d2, d3, d4, d5, d6] }
  | _ => none }
def FnExactWeakNodesWrongFalsely : Prop := fnExactWeakNodesRow.holds Try.pinned (OpenSpec.ofChange fnExactWeakNodesWrong)

/-- 'laws.FnExactHeadNeeded': WHATEVER THE INPUT: true; the input reads as it did. -/
def fnExactHeadNeededSpec : ChangeSpec := { name := "fnExactHeadNeeded", fn := fun _ => fun
  | [d1, d2, d3, d4, d5] => { results := [.lit (.bool true)], args := [d1, d2, d3, d4, d5] }
  | _ => none }
def fnExactHeadNeededRow : OpenClaim := { program := "ytpldbakllegheaa", sum := "19f063ae11bfcc6f197b944a036cb98650e380833aafc09201c50703275f3da3", func := "loop.example/g00853/laws.FnExactHeadNeeded", spec := "fnExactHeadNeeded", unfollowed := true, recurses := true, apart := false }
def FnExactHeadNeededSaid : Prop := fnExactHeadNeededRow.holds Try.pinned (OpenSpec.ofChange fnExactHeadNeededSpec)

/-- ITS FALSE NEIGHBOUR: 'it returns false'. Refute it at one input. -/
def fnExactHeadNeededWrong : ChangeSpec := { name := "fnExactHeadNeeded", fn := fun _ => fun
  | [d1, d2, d3, d4, d5] => { results := [.lit (.bool false)], args := [d1, d2, d3, d4, d5] }
  | _ => none }
def FnExactHeadNeededWrongFalsely : Prop := fnExactHeadNeededRow.holds Try.pinned (OpenSpec.ofChange fnExactHeadNeededWrong)

/-- 'laws.FnExactLossAlong': WHATEVER THE INPUT: true; the input reads as it did. -/
def fnExactLossAlongSpec : ChangeSpec := { name := "fnExactLossAlong", fn := fun _ => fun
  | [d1, d2, d3, d4] => { results := [.lit (.bool true)], args := [d1, d2, d3, d4] }
  | _ => none }
def fnExactLossAlongRow : OpenClaim := { program := "ytpldbakllegheaa", sum := "19f063ae11bfcc6f197b944a036cb98650e380833aafc09201c50703275f3da3", func := "loop.example/g00853/laws.FnExactLossAlong", spec := "fnExactLossAlong", unfollowed := true, recurses := true, apart := false }
def FnExactLossAlongSaid : Prop := fnExactLossAlongRow.holds Try.pinned (OpenSpec.ofChange fnExactLossAlongSpec)

/-- ITS FALSE NEIGHBOUR: 'it returns false'. Refute it at one input. -/
def fnExactLossAlongWrong : ChangeSpec := { name := "fnExactLossAlong", fn := fun _ => fun
  | [d1, d2, d3, d4] => { results := [.lit (.bool false)], args := [d1, d2, d3, d4] }
  | _ => none }
def FnExactLossAlongWrongFalsely : Prop := fnExactLossAlongRow.holds Try.pinned (OpenSpec.ofChange fnExactLossAlongWrong)

/-- 'laws.FnExactEnergyOf': WHATEVER THE INPUT: true; the input reads as it did. -/
def fnExactEnergyOfSpec : ChangeSpec := { name := "fnExactEnergyOf", fn := fun _ => fun
  | [d1, d2] => { results := [.lit (.bool true)], args := [d1, d2] }
  | _ => none }
def fnExactEnergyOfRow : OpenClaim := { program := "ytpldbakllegheaa", sum := "19f063ae11bfcc6f197b944a036cb98650e380833aafc09201c50703275f3da3", func := "loop.example/g00853/laws.FnExactEnergyOf", spec := "fnExactEnergyOf", unfollowed := true, recurses := true, apart := false }
def FnExactEnergyOfSaid : Prop := fnExactEnergyOfRow.holds Try.pinned (OpenSpec.ofChange fnExactEnergyOfSpec)

/-- ITS FALSE NEIGHBOUR: 'it returns false'. Refute it at one input. -/
def fnExactEnergyOfWrong : ChangeSpec := { name := "fnExactEnergyOf", fn := fun _ => fun
  | [d1, d2] => { results := [.lit (.bool false)], args := [d1, d2] }
  | _ => none }
def FnExactEnergyOfWrongFalsely : Prop := fnExactEnergyOfRow.holds Try.pinned (OpenSpec.ofChange fnExactEnergyOfWrong)

/-- 'laws.FnExactSteepestPipe': WHATEVER THE INPUT: true; the input reads as it did. -/
def fnExactSteepestPipeSpec : ChangeSpec := { name := "fnExactSteepestPipe", fn := fun _ => fun
  | [d1, d2] => { results := [.lit (.bool true)], args := [d1, d2] }
  | _ => none }
def fnExactSteepestPipeRow : OpenClaim := { program := "ytpldbakllegheaa", sum := "19f063ae11bfcc6f197b944a036cb98650e380833aafc09201c50703275f3da3", func := "loop.example/g00853/laws.FnExactSteepestPipe", spec := "fnExactSteepestPipe", unfollowed := true, recurses := true, apart := false }
def FnExactSteepestPipeSaid : Prop := fnExactSteepestPipeRow.holds Try.pinned (OpenSpec.ofChange fnExactSteepestPipeSpec)

/-- ITS FALSE NEIGHBOUR: 'it returns false'. Refute it at one input. -/
def fnExactSteepestPipeWrong : ChangeSpec := { name := "fnExactSteepestPipe", fn := fun _ => fun
  | [d1, d2] => { results := [.lit (.bool false)], args := [d1, d2] }
  | _ => none }
def FnExactSteepestPipeWrongFalsely : Prop := fnExactSteepestPipeRow.holds Try.pinned (OpenSpec.ofChange fnExactSteepestPipeWrong)

/-- 'laws.FnExactTreeFlows': WHATEVER THE INPUT: true; the input reads as it did. -/
def fnExactTreeFlowsSpec : ChangeSpec := { name := "fnExactTreeFlows", fn := fun _ => fun
  | [d1, d2, d3] => { results := [.lit (.bool true)], args := [d1, d2, d3] }
  | _ => none }
def fnExactTreeFlowsRow : OpenClaim := { program := "ytpldbakllegheaa", sum := "19f063ae11bfcc6f197b944a036cb98650e380833aafc09201c50703275f3da3", func := "loop.example/g00853/laws.FnExactTreeFlows", spec := "fnExactTreeFlows", unfollowed := true, recurses := true, apart := false }
def FnExactTreeFlowsSaid : Prop := fnExactTreeFlowsRow.holds Try.pinned (OpenSpec.ofChange fnExactTreeFlowsSpec)

/-- ITS FALSE NEIGHBOUR: 'it returns false'. Refute it at one input. -/
def fnExactTreeFlowsWrong : ChangeSpec := { name := "fnExactTreeFlows", fn := fun _ => fun
  | [d1, d2, d3] => { results := [.lit (.bool false)], args := [d1, d2, d3] }
  | _ => none }
def FnExactTreeFlowsWrongFalsely : Prop := fnExactTreeFlowsRow.holds Try.pinned (OpenSpec.ofChange fnExactTreeFlowsWrong)

/-- 'laws.FnExactDownstreamNodes': WHATEVER THE INPUT: true; the input reads as it did. -/
def fnExactDownstreamNodesSpec : ChangeSpec := { name := "fnExactDownstreamNodes", fn := fun _ => fun
  | [d1, d2, d3] => { results := [.lit (.bool true)], args := [d1, d2, d3] }
  | _ => none }
def fnExactDownstreamNodesRow : OpenClaim := { program := "ytpldbakllegheaa", sum := "19f063ae11bfcc6f197b944a036cb98650e380833aafc09201c50703275f3da3", func := "loop.example/g00853/laws.FnExactDownstreamNodes", spec := "fnExactDownstreamNodes", unfollowed := true, recurses := true, apart := false }
def FnExactDownstreamNodesSaid : Prop := fnExactDownstreamNodesRow.holds Try.pinned (OpenSpec.ofChange fnExactDownstreamNodesSpec)

/-- ITS FALSE NEIGHBOUR: 'it returns false'. Refute it at one input. -/
def fnExactDownstreamNodesWrong : ChangeSpec := { name := "fnExactDownstreamNodes", fn := fun _ => fun
  | [d1, d2, d3] => { results := [.lit (.bool false)], args := [d1, d2, d3] }
  | _ => none }
def FnExactDownstreamNodesWrongFalsely : Prop := fnExactDownstreamNodesRow.holds Try.pinned (OpenSpec.ofChange fnExactDownstreamNodesWrong)

/-- 'laws.FnHeads': WHATEVER THE INPUT: true; the input reads as it did. -/
def fnHeadsSpec : ChangeSpec := { name := "fnHeads", fn := fun _ => fun
  | [d] => { results := [.lit (.bool true)], args := [d] }
  | _ => none }
def fnHeadsRow : OpenClaim := { program := "ytpldbakllegheaa", sum := "19f063ae11bfcc6f197b944a036cb98650e380833aafc09201c50703275f3da3", func := "loop.example/g00853/laws.FnHeads", spec := "fnHeads", unfollowed := true, recurses := true, apart := false }
def FnHeadsSaid : Prop := fnHeadsRow.holds Try.pinned (OpenSpec.ofChange fnHeadsSpec)

/-- ITS FALSE NEIGHBOUR: 'it returns false'. Refute it at one input. -/
def fnHeadsWrong : ChangeSpec := { name := "fnHeads", fn := fun _ => fun
  | [d] => { results := [.lit (.bool false)], args := [d] }
  | _ => none }
def FnHeadsWrongFalsely : Prop := fnHeadsRow.holds Try.pinned (OpenSpec.ofChange fnHeadsWrong)

/-- 'laws.FnLosses': WHATEVER THE INPUT: true; the input reads as it did. -/
def fnLossesSpec : ChangeSpec := { name := "fnLosses", fn := fun _ => fun
  | [d] => { results := [.lit (.bool true)], args := [d] }
  | _ => none }
def fnLossesRow : OpenClaim := { program := "ytpldbakllegheaa", sum := "19f063ae11bfcc6f197b944a036cb98650e380833aafc09201c50703275f3da3", func := "loop.example/g00853/laws.FnLosses", spec := "fnLosses", unfollowed := true, recurses := true, apart := false }
def FnLossesSaid : Prop := fnLossesRow.holds Try.pinned (OpenSpec.ofChange fnLossesSpec)

/-- ITS FALSE NEIGHBOUR: 'it returns false'. Refute it at one input. -/
def fnLossesWrong : ChangeSpec := { name := "fnLosses", fn := fun _ => fun
  | [d] => { results := [.lit (.bool false)], args := [d] }
  | _ => none }
def FnLossesWrongFalsely : Prop := fnLossesRow.holds Try.pinned (OpenSpec.ofChange fnLossesWrong)

/- THE SECOND FORM. 'bulk': how many values and letters a reading holds, each counted each time it is reached (what is shared counts as often as it is met; a slice's spare places count too). A statement '..UptoSaid' is the law's where the arguments, and the package variables that the reading takes, are together of bulk at most 1048576: NARROWER than '..Said'. Prove '..Said' where nothing that the law and all that it calls make is longer than what came in: it says more and counts as full. Else prove '..UptoSaid'. A law counts once. -/
mutual
def uptoBulk {H : Type} : DataW H → Nat
  | .lit (.string bytes) => bytes.length + 1
  | .lit _ => 1
  | .nil => 1
  | .ptr d => uptoBulk d + 1
  | .slice elems spare => uptoBulkAll elems + uptoBulkAll spare + 1
  | .agg parts => uptoBulkAll parts + 1
  | .iface _ d => uptoBulk d + 1
  | .map entries => uptoBulkEntries entries + 1
  | .held _ => 1
def uptoBulkAll {H : Type} : List (DataW H) → Nat
  | [] => 0
  | d :: r => uptoBulk d + uptoBulkAll r
def uptoBulkEntries {H : Type} : List (Lit × DataW H) → Nat
  | [] => 0
  | x :: r => uptoBulkEntry x + uptoBulkEntries r
def uptoBulkEntry {H : Type} : Lit × DataW H → Nat
  | (.string bytes, d) => bytes.length + uptoBulk d + 1
  | (_, d) => uptoBulk d + 1
 end
def uptoSmall : (H : Type) → List (DataW H) → Bool := fun _ ds => decide (uptoBulkAll ds ≤ 1048576)
def OpenSpec.upto (s : _root_.Go.ChangeSpec) : _root_.Go.OpenSpec := { _root_.Go.OpenSpec.ofChange s with cond := some uptoSmall }

/-- 'laws.FnExactLossOf', WHERE WHAT IT READS IS OF BULK AT MOST 1048576: true; the input reads as it did. -/
def fnExactLossOfUptoRow : OpenClaim := { program := "ytpldbakllegheaa", sum := "19f063ae11bfcc6f197b944a036cb98650e380833aafc09201c50703275f3da3", func := "loop.example/g00853/laws.FnExactLossOf", spec := "fnExactLossOf", unfollowed := true, recurses := true, apart := false, narrowed := true }
def FnExactLossOfUptoSaid : Prop := fnExactLossOfUptoRow.holds Try.pinned (OpenSpec.upto fnExactLossOfSpec)

/-- 'laws.FnExactHeadsOf', WHERE WHAT IT READS IS OF BULK AT MOST 1048576: true; the input reads as it did. -/
def fnExactHeadsOfUptoRow : OpenClaim := { program := "ytpldbakllegheaa", sum := "19f063ae11bfcc6f197b944a036cb98650e380833aafc09201c50703275f3da3", func := "loop.example/g00853/laws.FnExactHeadsOf", spec := "fnExactHeadsOf", unfollowed := true, recurses := true, apart := false, narrowed := true }
def FnExactHeadsOfUptoSaid : Prop := fnExactHeadsOfUptoRow.holds Try.pinned (OpenSpec.upto fnExactHeadsOfSpec)

/-- 'laws.FnExactPressuresOf', WHERE WHAT IT READS IS OF BULK AT MOST 1048576: true; the input reads as it did. -/
def fnExactPressuresOfUptoRow : OpenClaim := { program := "ytpldbakllegheaa", sum := "19f063ae11bfcc6f197b944a036cb98650e380833aafc09201c50703275f3da3", func := "loop.example/g00853/laws.FnExactPressuresOf", spec := "fnExactPressuresOf", unfollowed := true, recurses := true, apart := false, narrowed := true }
def FnExactPressuresOfUptoSaid : Prop := fnExactPressuresOfUptoRow.holds Try.pinned (OpenSpec.upto fnExactPressuresOfSpec)

/-- 'laws.FnExactWeakNodes', WHERE WHAT IT READS IS OF BULK AT MOST 1048576: true; the input reads as it did. -/
def fnExactWeakNodesUptoRow : OpenClaim := { program := "ytpldbakllegheaa", sum := "19f063ae11bfcc6f197b944a036cb98650e380833aafc09201c50703275f3da3", func := "loop.example/g00853/laws.FnExactWeakNodes", spec := "fnExactWeakNodes", unfollowed := true, recurses := true, apart := false, narrowed := true }
def FnExactWeakNodesUptoSaid : Prop := fnExactWeakNodesUptoRow.holds Try.pinned (OpenSpec.upto fnExactWeakNodesSpec)

/-- 'laws.FnExactHeadNeeded', WHERE WHAT IT READS IS OF BULK AT MOST 1048576: true; the input reads as it did. -/
def fnExactHeadNeededUptoRow : OpenClaim := { program := "ytpldbakllegheaa", sum := "19f063ae11bfcc6f197b944a036cb98650e380833aafc09201c50703275f3da3", func := "loop.example/g00853/laws.FnExactHeadNeeded", spec := "fnExactHeadNeeded", unfollowed := true, recurses := true, apart := false, narrowed := true }
def FnExactHeadNeededUptoSaid : Prop := fnExactHeadNeededUptoRow.holds Try.pinned (OpenSpec.upto fnExactHeadNeededSpec)

/-- 'laws.FnExactLossAlong', WHERE WHAT IT READS IS OF BULK AT MOST 1048576: true; the input reads as it did. -/
def fnExactLossAlongUptoRow : OpenClaim := { program := "ytpldbakllegheaa", sum := "19f063ae11bfcc6f197b944a036cb98650e380833aafc09201c50703275f3da3", func := "loop.example/g00853/laws.FnExactLossAlong", spec := "fnExactLossAlong", unfollowed := true, recurses := true, apart := false, narrowed := true }
def FnExactLossAlongUptoSaid : Prop := fnExactLossAlongUptoRow.holds Try.pinned (OpenSpec.upto fnExactLossAlongSpec)

/-- 'laws.FnExactEnergyOf', WHERE WHAT IT READS IS OF BULK AT MOST 1048576: true; the input reads as it did. -/
def fnExactEnergyOfUptoRow : OpenClaim := { program := "ytpldbakllegheaa", sum := "19f063ae11bfcc6f197b944a036cb98650e380833aafc09201c50703275f3da3", func := "loop.example/g00853/laws.FnExactEnergyOf", spec := "fnExactEnergyOf", unfollowed := true, recurses := true, apart := false, narrowed := true }
def FnExactEnergyOfUptoSaid : Prop := fnExactEnergyOfUptoRow.holds Try.pinned (OpenSpec.upto fnExactEnergyOfSpec)

/-- 'laws.FnExactSteepestPipe', WHERE WHAT IT READS IS OF BULK AT MOST 1048576: true; the input reads as it did. -/
def fnExactSteepestPipeUptoRow : OpenClaim := { program := "ytpldbakllegheaa", sum := "19f063ae11bfcc6f197b944a036cb98650e380833aafc09201c50703275f3da3", func := "loop.example/g00853/laws.FnExactSteepestPipe", spec := "fnExactSteepestPipe", unfollowed := true, recurses := true, apart := false, narrowed := true }
def FnExactSteepestPipeUptoSaid : Prop := fnExactSteepestPipeUptoRow.holds Try.pinned (OpenSpec.upto fnExactSteepestPipeSpec)

/-- 'laws.FnExactTreeFlows', WHERE WHAT IT READS IS OF BULK AT MOST 1048576: true; the input reads as it did. -/
def fnExactTreeFlowsUptoRow : OpenClaim := { program := "ytpldbakllegheaa", sum := "19f063ae11bfcc6f197b944a036cb98650e380833aafc09201c50703275f3da3", func := "loop.example/g00853/laws.FnExactTreeFlows", spec := "fnExactTreeFlows", unfollowed := true, recurses := true, apart := false, narrowed := true }
def FnExactTreeFlowsUptoSaid : Prop := fnExactTreeFlowsUptoRow.holds Try.pinned (OpenSpec.upto fnExactTreeFlowsSpec)

/-- 'laws.FnExactDownstreamNodes', WHERE WHAT IT READS IS OF BULK AT MOST 1048576: true; the input reads as it did. -/
def fnExactDownstreamNodesUptoRow : OpenClaim := { program := "ytpldbakllegheaa", sum := "19f063ae11bfcc6f197b944a036cb98650e380833aafc09201c50703275f3da3", func := "loop.example/g00853/laws.FnExactDownstreamNodes", spec := "fnExactDownstreamNodes", unfollowed := true, recurses := true, apart := false, narrowed := true }
def FnExactDownstreamNodesUptoSaid : Prop := fnExactDownstreamNodesUptoRow.holds Try.pinned (OpenSpec.upto fnExactDownstreamNodesSpec)

/-- 'laws.FnHeads', WHERE WHAT IT READS IS OF BULK AT MOST 1048576: true; the input reads as it did. -/
def fnHeadsUptoRow : OpenClaim := { program := "ytpldbakllegheaa", sum := "19f063ae11bfcc6f197b944a036cb98650e380833aafc09201c50703275f3da3", func := "loop.example/g00853/laws.FnHeads", spec := "fnHeads", unfollowed := true, recurses := true, apart := false, narrowed := true }
def FnHeadsUptoSaid : Prop := fnHeadsUptoRow.holds Try.pinned (OpenSpec.upto fnHeadsSpec)

/-- 'laws.FnLosses', WHERE WHAT IT READS IS OF BULK AT MOST 1048576: true; the input reads as it did. -/
def fnLossesUptoRow : OpenClaim := { program := "ytpldbakllegheaa", sum := "19f063ae11bfcc6f197b944a036cb98650e380833aafc09201c50703275f3da3", func := "loop.example/g00853/laws.FnLosses", spec := "fnLosses", unfollowed := true, recurses := true, apart := false, narrowed := true }
def FnLossesUptoSaid : Prop := fnLossesUptoRow.holds Try.pinned (OpenSpec.upto fnLossesSpec)

end Rows
end Go.Proofs.Ytpldbakllegheaa
