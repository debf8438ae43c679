/-
  No cell of these rows narrows 'for every input' (looked for: loops, veiled, ifaces, maps, wideKeys, modest, calm, conditions, laid).
  DERIVED. THE GIVEN ROWS OF THIS SEAT. 16 by the template 'for every input the law returns true; each argument reads behind the call as it read before'; 0 by the template 'total and deterministic' (their statements: YtgjogjmfpbinfaaTotals.lean).
  GIVEN WITH THE SEED: the statements are not yours to turn. If you find one false, say at which input.
  Laid BY PROGRAM, IN A SANDBOX (cutbox-rows.mjs): the forced cells as the released guide's own fill.sh prints them over the translation eb55e5b9e8a9e048… (all of the seat's roots in one cut). By AI agents, Wed Nov 11 2026. No macro, syntax, notation, axiom, sorry.
-/
import Derived.Test.YtgjogjmfpbinfaaChecked
import GoSem.Claim
import GoSem.ClaimJoined
import GoSem.ClaimMapViews
import Derived.JoinedTies
import Derived.KernelRfl
namespace Go.Proofs.Ytgjogjmfpbinfaa
/- THE CELL 'sum', in the pinned program and in every row, IS THE sha256 OF THE DUMP (.gsa) THAT YtgjogjmfpbinfaaProg.lean LOADS. Nothing in Lean hashes anything: it is a label: what it is worth is what the hold of that sum in a sandbox is worth. -/
noncomputable def Try.pinned : Pinned := { name := "ytgjogjmfpbinfaa", sum := "eb55e5b9e8a9e0487218e85fcd8c26e18596bb1561fd7d17f943e75b91631c7d", checked := Try.checked }
namespace Rows
def none {H : Type} : Left H := { results := [], args := [] }

/-- 'laws.FnExactIsRing': WHATEVER THE INPUT: true; the input reads as it did. -/
def fnExactIsRingSpec : ChangeSpec := { name := "fnExactIsRing", fn := fun _ => fun
  | [d] => { results := [.lit (.bool true)], args := [d] }
  | _ => none }
def fnExactIsRingRow : OpenClaim := { program := "ytgjogjmfpbinfaa", sum := "eb55e5b9e8a9e0487218e85fcd8c26e18596bb1561fd7d17f943e75b91631c7d", func := "loop.example/g00853/laws.FnExactIsRing", spec := "fnExactIsRing", apart := false }
def FnExactIsRingSaid : Prop := fnExactIsRingRow.holds Try.pinned (OpenSpec.ofChange fnExactIsRingSpec)

/-- ITS FALSE NEIGHBOUR: 'it returns false'. Refute it at one input. -/
def fnExactIsRingWrong : ChangeSpec := { name := "fnExactIsRing", fn := fun _ => fun
  | [d] => { results := [.lit (.bool false)], args := [d] }
  | _ => none }
def FnExactIsRingWrongFalsely : Prop := fnExactIsRingRow.holds Try.pinned (OpenSpec.ofChange fnExactIsRingWrong)

/-- 'laws.FnExactLoopOf': WHATEVER THE INPUT: true; the input reads as it did. -/
def fnExactLoopOfSpec : ChangeSpec := { name := "fnExactLoopOf", fn := fun _ => fun
  | [d] => { results := [.lit (.bool true)], args := [d] }
  | _ => none }
def fnExactLoopOfRow : OpenClaim := { program := "ytgjogjmfpbinfaa", sum := "eb55e5b9e8a9e0487218e85fcd8c26e18596bb1561fd7d17f943e75b91631c7d", func := "loop.example/g00853/laws.FnExactLoopOf", spec := "fnExactLoopOf", apart := false }
def FnExactLoopOfSaid : Prop := fnExactLoopOfRow.holds Try.pinned (OpenSpec.ofChange fnExactLoopOfSpec)

/-- ITS FALSE NEIGHBOUR: 'it returns false'. Refute it at one input. -/
def fnExactLoopOfWrong : ChangeSpec := { name := "fnExactLoopOf", fn := fun _ => fun
  | [d] => { results := [.lit (.bool false)], args := [d] }
  | _ => none }
def FnExactLoopOfWrongFalsely : Prop := fnExactLoopOfRow.holds Try.pinned (OpenSpec.ofChange fnExactLoopOfWrong)

/-- 'laws.FnExactTurnFlows': WHATEVER THE INPUT: true; the input reads as it did. -/
def fnExactTurnFlowsSpec : ChangeSpec := { name := "fnExactTurnFlows", fn := fun _ => fun
  | [d1, d2, d3] => { results := [.lit (.bool true)], args := [d1, d2, d3] }
  | _ => none }
def fnExactTurnFlowsRow : OpenClaim := { program := "ytgjogjmfpbinfaa", sum := "eb55e5b9e8a9e0487218e85fcd8c26e18596bb1561fd7d17f943e75b91631c7d", func := "loop.example/g00853/laws.FnExactTurnFlows", spec := "fnExactTurnFlows", unfollowed := true, recurses := true, apart := false }
def FnExactTurnFlowsSaid : Prop := fnExactTurnFlowsRow.holds Try.pinned (OpenSpec.ofChange fnExactTurnFlowsSpec)

/-- ITS FALSE NEIGHBOUR: 'it returns false'. Refute it at one input. -/
def fnExactTurnFlowsWrong : ChangeSpec := { name := "fnExactTurnFlows", fn := fun _ => fun
  | [d1, d2, d3] => { results := [.lit (.bool false)], args := [d1, d2, d3] }
  | _ => none }
def FnExactTurnFlowsWrongFalsely : Prop := fnExactTurnFlowsRow.holds Try.pinned (OpenSpec.ofChange fnExactTurnFlowsWrong)

/-- 'laws.FnExactRingFlows': WHATEVER THE INPUT: true; the input reads as it did. -/
def fnExactRingFlowsSpec : ChangeSpec := { name := "fnExactRingFlows", fn := fun _ => fun
  | [d1, d2, d3] => { results := [.lit (.bool true)], args := [d1, d2, d3] }
  | _ => none }
def fnExactRingFlowsRow : OpenClaim := { program := "ytgjogjmfpbinfaa", sum := "eb55e5b9e8a9e0487218e85fcd8c26e18596bb1561fd7d17f943e75b91631c7d", func := "loop.example/g00853/laws.FnExactRingFlows", spec := "fnExactRingFlows", inPlace := ["slices.overlaps[int]"], unfollowed := true, recurses := true, apart := false }
def FnExactRingFlowsSaid : Prop := fnExactRingFlowsRow.holds Try.pinned (OpenSpec.ofChange fnExactRingFlowsSpec)

/-- ITS FALSE NEIGHBOUR: 'it returns false'. Refute it at one input. -/
def fnExactRingFlowsWrong : ChangeSpec := { name := "fnExactRingFlows", fn := fun _ => fun
  | [d1, d2, d3] => { results := [.lit (.bool false)], args := [d1, d2, d3] }
  | _ => none }
def FnExactRingFlowsWrongFalsely : Prop := fnExactRingFlowsRow.holds Try.pinned (OpenSpec.ofChange fnExactRingFlowsWrong)

/-- 'laws.FnExactLoopLoss': WHATEVER THE INPUT: true; the input reads as it did. -/
def fnExactLoopLossSpec : ChangeSpec := { name := "fnExactLoopLoss", fn := fun _ => fun
  | [d1, d2] => { results := [.lit (.bool true)], args := [d1, d2] }
  | _ => none }
def fnExactLoopLossRow : OpenClaim := { program := "ytgjogjmfpbinfaa", sum := "eb55e5b9e8a9e0487218e85fcd8c26e18596bb1561fd7d17f943e75b91631c7d", func := "loop.example/g00853/laws.FnExactLoopLoss", spec := "fnExactLoopLoss", unfollowed := true, recurses := true, apart := false }
def FnExactLoopLossSaid : Prop := fnExactLoopLossRow.holds Try.pinned (OpenSpec.ofChange fnExactLoopLossSpec)

/-- ITS FALSE NEIGHBOUR: 'it returns false'. Refute it at one input. -/
def fnExactLoopLossWrong : ChangeSpec := { name := "fnExactLoopLoss", fn := fun _ => fun
  | [d1, d2] => { results := [.lit (.bool false)], args := [d1, d2] }
  | _ => none }
def FnExactLoopLossWrongFalsely : Prop := fnExactLoopLossRow.holds Try.pinned (OpenSpec.ofChange fnExactLoopLossWrong)

/-- 'laws.FnExactSplitFlow': WHATEVER THE INPUT: true; the input reads as it did. -/
def fnExactSplitFlowSpec : ChangeSpec := { name := "fnExactSplitFlow", fn := fun _ => fun
  | [d1, d2] => { results := [.lit (.bool true)], args := [d1, d2] }
  | _ => none }
def fnExactSplitFlowRow : OpenClaim := { program := "ytgjogjmfpbinfaa", sum := "eb55e5b9e8a9e0487218e85fcd8c26e18596bb1561fd7d17f943e75b91631c7d", func := "loop.example/g00853/laws.FnExactSplitFlow", spec := "fnExactSplitFlow", unfollowed := true, recurses := true, apart := false }
def FnExactSplitFlowSaid : Prop := fnExactSplitFlowRow.holds Try.pinned (OpenSpec.ofChange fnExactSplitFlowSpec)

/-- ITS FALSE NEIGHBOUR: 'it returns false'. Refute it at one input. -/
def fnExactSplitFlowWrong : ChangeSpec := { name := "fnExactSplitFlow", fn := fun _ => fun
  | [d1, d2] => { results := [.lit (.bool false)], args := [d1, d2] }
  | _ => none }
def FnExactSplitFlowWrongFalsely : Prop := fnExactSplitFlowRow.holds Try.pinned (OpenSpec.ofChange fnExactSplitFlowWrong)

/-- 'laws.FnExactSplitEnergy': WHATEVER THE INPUT: true; the input reads as it did. -/
def fnExactSplitEnergySpec : ChangeSpec := { name := "fnExactSplitEnergy", fn := fun _ => fun
  | [d1, d2] => { results := [.lit (.bool true)], args := [d1, d2] }
  | _ => none }
def fnExactSplitEnergyRow : OpenClaim := { program := "ytgjogjmfpbinfaa", sum := "eb55e5b9e8a9e0487218e85fcd8c26e18596bb1561fd7d17f943e75b91631c7d", func := "loop.example/g00853/laws.FnExactSplitEnergy", spec := "fnExactSplitEnergy", unfollowed := true, recurses := true, apart := false }
def FnExactSplitEnergySaid : Prop := fnExactSplitEnergyRow.holds Try.pinned (OpenSpec.ofChange fnExactSplitEnergySpec)

/-- ITS FALSE NEIGHBOUR: 'it returns false'. Refute it at one input. -/
def fnExactSplitEnergyWrong : ChangeSpec := { name := "fnExactSplitEnergy", fn := fun _ => fun
  | [d1, d2] => { results := [.lit (.bool false)], args := [d1, d2] }
  | _ => none }
def FnExactSplitEnergyWrongFalsely : Prop := fnExactSplitEnergyRow.holds Try.pinned (OpenSpec.ofChange fnExactSplitEnergyWrong)

/-- 'laws.FnExactOpenedRing': WHATEVER THE INPUT: true; the input reads as it did. -/
def fnExactOpenedRingSpec : ChangeSpec := { name := "fnExactOpenedRing", fn := fun _ => fun
  | [d1, d2] => { results := [.lit (.bool true)], args := [d1, d2] }
  | _ => none }
def fnExactOpenedRingRow : OpenClaim := { program := "ytgjogjmfpbinfaa", sum := "eb55e5b9e8a9e0487218e85fcd8c26e18596bb1561fd7d17f943e75b91631c7d", func := "loop.example/g00853/laws.FnExactOpenedRing", spec := "fnExactOpenedRing", unfollowed := true, recurses := true, apart := false }
def FnExactOpenedRingSaid : Prop := fnExactOpenedRingRow.holds Try.pinned (OpenSpec.ofChange fnExactOpenedRingSpec)

/-- ITS FALSE NEIGHBOUR: 'it returns false'. Refute it at one input. -/
def fnExactOpenedRingWrong : ChangeSpec := { name := "fnExactOpenedRing", fn := fun _ => fun
  | [d1, d2] => { results := [.lit (.bool false)], args := [d1, d2] }
  | _ => none }
def FnExactOpenedRingWrongFalsely : Prop := fnExactOpenedRingRow.holds Try.pinned (OpenSpec.ofChange fnExactOpenedRingWrong)

/-- 'laws.FnSplits': WHATEVER THE INPUT: true; the input reads as it did. -/
def fnSplitsSpec : ChangeSpec := { name := "fnSplits", fn := fun _ => fun
  | [d] => { results := [.lit (.bool true)], args := [d] }
  | _ => none }
def fnSplitsRow : OpenClaim := { program := "ytgjogjmfpbinfaa", sum := "eb55e5b9e8a9e0487218e85fcd8c26e18596bb1561fd7d17f943e75b91631c7d", func := "loop.example/g00853/laws.FnSplits", spec := "fnSplits", unfollowed := true, recurses := true, apart := false }
def FnSplitsSaid : Prop := fnSplitsRow.holds Try.pinned (OpenSpec.ofChange fnSplitsSpec)

/-- ITS FALSE NEIGHBOUR: 'it returns false'. Refute it at one input. -/
def fnSplitsWrong : ChangeSpec := { name := "fnSplits", fn := fun _ => fun
  | [d] => { results := [.lit (.bool false)], args := [d] }
  | _ => none }
def FnSplitsWrongFalsely : Prop := fnSplitsRow.holds Try.pinned (OpenSpec.ofChange fnSplitsWrong)

/-- 'laws.FnRings': WHATEVER THE INPUT: true; the input reads as it did. -/
def fnRingsSpec : ChangeSpec := { name := "fnRings", fn := fun _ => fun
  | [d] => { results := [.lit (.bool true)], args := [d] }
  | _ => none }
def fnRingsRow : OpenClaim := { program := "ytgjogjmfpbinfaa", sum := "eb55e5b9e8a9e0487218e85fcd8c26e18596bb1561fd7d17f943e75b91631c7d", func := "loop.example/g00853/laws.FnRings", spec := "fnRings", inPlace := ["slices.overlaps[int]"], unfollowed := true, recurses := true, apart := false }
def FnRingsSaid : Prop := fnRingsRow.holds Try.pinned (OpenSpec.ofChange fnRingsSpec)

/-- ITS FALSE NEIGHBOUR: 'it returns false'. Refute it at one input. -/
def fnRingsWrong : ChangeSpec := { name := "fnRings", fn := fun _ => fun
  | [d] => { results := [.lit (.bool false)], args := [d] }
  | _ => none }
def FnRingsWrongFalsely : Prop := fnRingsRow.holds Try.pinned (OpenSpec.ofChange fnRingsWrong)

/-- 'laws.FnHeads': WHATEVER THE INPUT: true; the input reads as it did. -/
def fnHeadsSpec : ChangeSpec := { name := "fnHeads", fn := fun _ => fun
  | [d] => { results := [.lit (.bool true)], args := [d] }
  | _ => none }
def fnHeadsRow : OpenClaim := { program := "ytgjogjmfpbinfaa", sum := "eb55e5b9e8a9e0487218e85fcd8c26e18596bb1561fd7d17f943e75b91631c7d", func := "loop.example/g00853/laws.FnHeads", spec := "fnHeads", unfollowed := true, recurses := true, apart := false }
def FnHeadsSaid : Prop := fnHeadsRow.holds Try.pinned (OpenSpec.ofChange fnHeadsSpec)

/-- ITS FALSE NEIGHBOUR: 'it returns false'. Refute it at one input. -/
def fnHeadsWrong : ChangeSpec := { name := "fnHeads", fn := fun _ => fun
  | [d] => { results := [.lit (.bool false)], args := [d] }
  | _ => none }
def FnHeadsWrongFalsely : Prop := fnHeadsRow.holds Try.pinned (OpenSpec.ofChange fnHeadsWrong)

/-- 'laws.FnLosses': WHATEVER THE INPUT: true; the input reads as it did. -/
def fnLossesSpec : ChangeSpec := { name := "fnLosses", fn := fun _ => fun
  | [d] => { results := [.lit (.bool true)], args := [d] }
  | _ => none }
def fnLossesRow : OpenClaim := { program := "ytgjogjmfpbinfaa", sum := "eb55e5b9e8a9e0487218e85fcd8c26e18596bb1561fd7d17f943e75b91631c7d", func := "loop.example/g00853/laws.FnLosses", spec := "fnLosses", unfollowed := true, recurses := true, apart := false }
def FnLossesSaid : Prop := fnLossesRow.holds Try.pinned (OpenSpec.ofChange fnLossesSpec)

/-- ITS FALSE NEIGHBOUR: 'it returns false'. Refute it at one input. -/
def fnLossesWrong : ChangeSpec := { name := "fnLosses", fn := fun _ => fun
  | [d] => { results := [.lit (.bool false)], args := [d] }
  | _ => none }
def FnLossesWrongFalsely : Prop := fnLossesRow.holds Try.pinned (OpenSpec.ofChange fnLossesWrong)

/-- 'laws.FnTreeFlows': WHATEVER THE INPUT: true; the input reads as it did. -/
def fnTreeFlowsSpec : ChangeSpec := { name := "fnTreeFlows", fn := fun _ => fun
  | [d] => { results := [.lit (.bool true)], args := [d] }
  | _ => none }
def fnTreeFlowsRow : OpenClaim := { program := "ytgjogjmfpbinfaa", sum := "eb55e5b9e8a9e0487218e85fcd8c26e18596bb1561fd7d17f943e75b91631c7d", func := "loop.example/g00853/laws.FnTreeFlows", spec := "fnTreeFlows", unfollowed := true, recurses := true, apart := false }
def FnTreeFlowsSaid : Prop := fnTreeFlowsRow.holds Try.pinned (OpenSpec.ofChange fnTreeFlowsSpec)

/-- ITS FALSE NEIGHBOUR: 'it returns false'. Refute it at one input. -/
def fnTreeFlowsWrong : ChangeSpec := { name := "fnTreeFlows", fn := fun _ => fun
  | [d] => { results := [.lit (.bool false)], args := [d] }
  | _ => none }
def FnTreeFlowsWrongFalsely : Prop := fnTreeFlowsRow.holds Try.pinned (OpenSpec.ofChange fnTreeFlowsWrong)

/-- 'laws.FnPipes': WHATEVER THE INPUT: true; the input reads as it did. -/
def fnPipesSpec : ChangeSpec := { name := "fnPipes", fn := fun _ => fun
  | [d] => { results := [.lit (.bool true)], args := [d] }
  | _ => none }
def fnPipesRow : OpenClaim := { program := "ytgjogjmfpbinfaa", sum := "eb55e5b9e8a9e0487218e85fcd8c26e18596bb1561fd7d17f943e75b91631c7d", func := "loop.example/g00853/laws.FnPipes", spec := "fnPipes", unfollowed := true, recurses := true, apart := false }
def FnPipesSaid : Prop := fnPipesRow.holds Try.pinned (OpenSpec.ofChange fnPipesSpec)

/-- ITS FALSE NEIGHBOUR: 'it returns false'. Refute it at one input. -/
def fnPipesWrong : ChangeSpec := { name := "fnPipes", fn := fun _ => fun
  | [d] => { results := [.lit (.bool false)], args := [d] }
  | _ => none }
def FnPipesWrongFalsely : Prop := fnPipesRow.holds Try.pinned (OpenSpec.ofChange fnPipesWrong)

/-- 'laws.FnWays': WHATEVER THE INPUT: true; the input reads as it did. -/
def fnWaysSpec : ChangeSpec := { name := "fnWays", fn := fun _ => fun
  | [d] => { results := [.lit (.bool true)], args := [d] }
  | _ => none }
def fnWaysRow : OpenClaim := { program := "ytgjogjmfpbinfaa", sum := "eb55e5b9e8a9e0487218e85fcd8c26e18596bb1561fd7d17f943e75b91631c7d", func := "loop.example/g00853/laws.FnWays", spec := "fnWays", unfollowed := true, recurses := true, apart := false }
def FnWaysSaid : Prop := fnWaysRow.holds Try.pinned (OpenSpec.ofChange fnWaysSpec)

/-- ITS FALSE NEIGHBOUR: 'it returns false'. Refute it at one input. -/
def fnWaysWrong : ChangeSpec := { name := "fnWays", fn := fun _ => fun
  | [d] => { results := [.lit (.bool false)], args := [d] }
  | _ => none }
def FnWaysWrongFalsely : Prop := fnWaysRow.holds Try.pinned (OpenSpec.ofChange fnWaysWrong)

/-- 'laws.FnParts': WHATEVER THE INPUT: true; the input reads as it did. -/
def fnPartsSpec : ChangeSpec := { name := "fnParts", fn := fun _ => fun
  | [d] => { results := [.lit (.bool true)], args := [d] }
  | _ => none }
def fnPartsRow : OpenClaim := { program := "ytgjogjmfpbinfaa", sum := "eb55e5b9e8a9e0487218e85fcd8c26e18596bb1561fd7d17f943e75b91631c7d", func := "loop.example/g00853/laws.FnParts", spec := "fnParts", apart := false }
def FnPartsSaid : Prop := fnPartsRow.holds Try.pinned (OpenSpec.ofChange fnPartsSpec)

/-- ITS FALSE NEIGHBOUR: 'it returns false'. Refute it at one input. -/
def fnPartsWrong : ChangeSpec := { name := "fnParts", fn := fun _ => fun
  | [d] => { results := [.lit (.bool false)], args := [d] }
  | _ => none }
def FnPartsWrongFalsely : Prop := fnPartsRow.holds Try.pinned (OpenSpec.ofChange fnPartsWrong)

/- THE SECOND FORM. 'bulk': how many values and letters a reading holds, each counted each time it is reached (what is shared counts as often as it is met; a slice's spare places count too). A statement '..UptoSaid' is the law's where the arguments, and the package variables that the reading takes, are together of bulk at most 1048576: NARROWER than '..Said'. Prove '..Said' where nothing that the law and all that it calls make is longer than what came in: it says more and counts as full. Else prove '..UptoSaid'. A law counts once. -/
mutual
def uptoBulk {H : Type} : DataW H → Nat
  | .lit (.string bytes) => bytes.length + 1
  | .lit _ => 1
  | .nil => 1
  | .ptr d => uptoBulk d + 1
  | .slice elems spare => uptoBulkAll elems + uptoBulkAll spare + 1
  | .agg parts => uptoBulkAll parts + 1
  | .iface _ d => uptoBulk d + 1
  | .map entries => uptoBulkEntries entries + 1
  | .held _ => 1
def uptoBulkAll {H : Type} : List (DataW H) → Nat
  | [] => 0
  | d :: r => uptoBulk d + uptoBulkAll r
def uptoBulkEntries {H : Type} : List (Lit × DataW H) → Nat
  | [] => 0
  | x :: r => uptoBulkEntry x + uptoBulkEntries r
def uptoBulkEntry {H : Type} : Lit × DataW H → Nat
  | (.string bytes, d) => bytes.length + uptoBulk d + 1
  | (_, d) => uptoBulk d + 1
 end
def uptoSmall : (H : Type) → List (DataW H) → Bool := fun _ ds => decide (uptoBulkAll ds ≤ 1048576)
def OpenSpec.upto (s : _root_.Go.ChangeSpec) : _root_.Go.OpenSpec := { _root_.Go.OpenSpec.ofChange s with cond := some uptoSmall }

/-- 'laws.FnExactIsRing', WHERE WHAT IT READS IS OF BULK AT MOST 1048576: true; the input reads as it did. -/
def fnExactIsRingUptoRow : OpenClaim := { program := "ytgjogjmfpbinfaa", sum := "eb55e5b9e8a9e0487218e85fcd8c26e18596bb1561fd7d17f943e75b91631c7d", func := "loop.example/g00853/laws.FnExactIsRing", spec := "fnExactIsRing", apart := false, narrowed := true }
def FnExactIsRingUptoSaid : Prop := fnExactIsRingUptoRow.holds Try.pinned (OpenSpec.upto fnExactIsRingSpec)

/-- 'laws.FnExactLoopOf', WHERE WHAT IT READS IS OF BULK AT MOST 1048576: true; the input reads as it did. -/
def fnExactLoopOfUptoRow : OpenClaim := { program := "ytgjogjmfpbinfaa", sum := "eb55e5b9e8a9e0487218e85fcd8c26e18596bb1561fd7d17f943e75b91631c7d", func := "loop.example/g00853/laws.FnExactLoopOf", spec := "fnExactLoopOf", apart := false, narrowed := true }
def FnExactLoopOfUptoSaid : Prop := fnExactLoopOfUptoRow.holds Try.pinned (OpenSpec.upto fnExactLoopOfSpec)

/-- 'laws.FnExactTurnFlows', WHERE WHAT IT READS IS OF BULK AT MOST 1048576: true; the input reads as it did. -/
def fnExactTurnFlowsUptoRow : OpenClaim := { program := "ytgjogjmfpbinfaa", sum := "eb55e5b9e8a9e0487218e85fcd8c26e18596bb1561fd7d17f943e75b91631c7d", func := "loop.example/g00853/laws.FnExactTurnFlows", spec := "fnExactTurnFlows", unfollowed := true, recurses := true, apart := false, narrowed := true }
def FnExactTurnFlowsUptoSaid : Prop := fnExactTurnFlowsUptoRow.holds Try.pinned (OpenSpec.upto fnExactTurnFlowsSpec)

/-- 'laws.FnExactRingFlows', WHERE WHAT IT READS IS OF BULK AT MOST 1048576: true; the input reads as it did. -/
def fnExactRingFlowsUptoRow : OpenClaim := { program := "ytgjogjmfpbinfaa", sum := "eb55e5b9e8a9e0487218e85fcd8c26e18596bb1561fd7d17f943e75b91631c7d", func := "loop.example/g00853/laws.FnExactRingFlows", spec := "fnExactRingFlows", inPlace := ["slices.overlaps[int]"], unfollowed := true, recurses := true, apart := false, narrowed := true }
def FnExactRingFlowsUptoSaid : Prop := fnExactRingFlowsUptoRow.holds Try.pinned (OpenSpec.upto fnExactRingFlowsSpec)

/-- 'laws.FnExactLoopLoss', WHERE WHAT IT READS IS OF BULK AT MOST 1048576: true; the input reads as it did. -/
def fnExactLoopLossUptoRow : OpenClaim := { program := "ytgjogjmfpbinfaa", sum := "eb55e5b9e8a9e0487218e85fcd8c26e18596bb1561fd7d17f943e75b91631c7d", func := "loop.example/g00853/laws.FnExactLoopLoss", spec := "fnExactLoopLoss", unfollowed := true, recurses := true, apart := false, narrowed := true }
def FnExactLoopLossUptoSaid : Prop := fnExactLoopLossUptoRow.holds Try.pinned (OpenSpec.upto fnExactLoopLossSpec)

/-- 'laws.FnExactSplitFlow', WHERE WHAT IT READS IS OF BULK AT MOST 1048576: true; the input reads as it did. -/
def fnExactSplitFlowUptoRow : OpenClaim := { program := "ytgjogjmfpbinfaa", sum := "eb55e5b9e8a9e0487218e85fcd8c26e18596bb1561fd7d17f943e75b91631c7d", func := "loop.example/g00853/laws.FnExactSplitFlow", spec := "fnExactSplitFlow", unfollowed := true, recurses := true, apart := false, narrowed := true }
def FnExactSplitFlowUptoSaid : Prop := fnExactSplitFlowUptoRow.holds Try.pinned (OpenSpec.upto fnExactSplitFlowSpec)

/-- 'laws.FnExactSplitEnergy', WHERE WHAT IT READS IS OF BULK AT MOST 1048576: true; the input reads as it did. -/
def fnExactSplitEnergyUptoRow : OpenClaim := { program := "ytgjogjmfpbinfaa", sum := "eb55e5b9e8a9e0487218e85fcd8c26e18596bb1561fd7d17f943e75b91631c7d", func := "loop.example/g00853/laws.FnExactSplitEnergy", spec := "fnExactSplitEnergy", unfollowed := true, recurses := true, apart := false, narrowed := true }
def FnExactSplitEnergyUptoSaid : Prop := fnExactSplitEnergyUptoRow.holds Try.pinned (OpenSpec.upto fnExactSplitEnergySpec)

/-- 'laws.FnExactOpenedRing', WHERE WHAT IT READS IS OF BULK AT MOST 1048576: true; the input reads as it did. -/
def fnExactOpenedRingUptoRow : OpenClaim := { program := "ytgjogjmfpbinfaa", sum := "eb55e5b9e8a9e0487218e85fcd8c26e18596bb1561fd7d17f943e75b91631c7d", func := "loop.example/g00853/laws.FnExactOpenedRing", spec := "fnExactOpenedRing", unfollowed := true, recurses := true, apart := false, narrowed := true }
def FnExactOpenedRingUptoSaid : Prop := fnExactOpenedRingUptoRow.holds Try.pinned (OpenSpec.upto fnExactOpenedRingSpec)

/-- 'laws.FnSplits', WHERE WHAT IT READS IS OF BULK AT MOST 1048576: true; the input reads as it did. -/
def fnSplitsUptoRow : OpenClaim := { program := "ytgjogjmfpbinfaa", sum := "eb55e5b9e8a9e0487218e85fcd8c26e18596bb1561fd7d17f943e75b91631c7d", func := "loop.example/g00853/laws.FnSplits", spec := "fnSplits", unfollowed := true, recurses := true, apart := false, narrowed := true }
def FnSplitsUptoSaid : Prop := fnSplitsUptoRow.holds Try.pinned (OpenSpec.upto fnSplitsSpec)

/-- 'laws.FnRings', WHERE WHAT IT READS IS OF BULK AT MOST 1048576: true; the input reads as it did. -/
def fnRingsUptoRow : OpenClaim := { program := "ytgjogjmfpbinfaa", sum := "eb55e5b9e8a9e0487218e85fcd8c26e18596bb1561fd7d17f943e75b91631c7d", func := "loop.example/g00853/laws.FnRings", spec := "fnRings", inPlace := ["slices.overlaps[int]"], unfollowed := true, recurses := true, apart := false, narrowed := true }
def FnRingsUptoSaid : Prop := fnRingsUptoRow.holds Try.pinned (OpenSpec.upto fnRingsSpec)

/-- 'laws.FnHeads', WHERE WHAT IT READS IS OF BULK AT MOST 1048576: true; the input reads as it did. -/
def fnHeadsUptoRow : OpenClaim := { program := "ytgjogjmfpbinfaa", sum := "eb55e5b9e8a9e0487218e85fcd8c26e18596bb1561fd7d17f943e75b91631c7d", func := "loop.example/g00853/laws.FnHeads", spec := "fnHeads", unfollowed := true, recurses := true, apart := false, narrowed := true }
def FnHeadsUptoSaid : Prop := fnHeadsUptoRow.holds Try.pinned (OpenSpec.upto fnHeadsSpec)

/-- 'laws.FnLosses', WHERE WHAT IT READS IS OF BULK AT MOST 1048576: true; the input reads as it did. -/
def fnLossesUptoRow : OpenClaim := { program := "ytgjogjmfpbinfaa", sum := "eb55e5b9e8a9e0487218e85fcd8c26e18596bb1561fd7d17f943e75b91631c7d", func := "loop.example/g00853/laws.FnLosses", spec := "fnLosses", unfollowed := true, recurses := true, apart := false, narrowed := true }
def FnLossesUptoSaid : Prop := fnLossesUptoRow.holds Try.pinned (OpenSpec.upto fnLossesSpec)

/-- 'laws.FnTreeFlows', WHERE WHAT IT READS IS OF BULK AT MOST 1048576: true; the input reads as it did. -/
def fnTreeFlowsUptoRow : OpenClaim := { program := "ytgjogjmfpbinfaa", sum := "eb55e5b9e8a9e0487218e85fcd8c26e18596bb1561fd7d17f943e75b91631c7d", func := "loop.example/g00853/laws.FnTreeFlows", spec := "fnTreeFlows", unfollowed := true, recurses := true, apart := false, narrowed := true }
def FnTreeFlowsUptoSaid : Prop := fnTreeFlowsUptoRow.holds Try.pinned (OpenSpec.upto fnTreeFlowsSpec)

/-- 'laws.FnPipes', WHERE WHAT IT READS IS OF BULK AT MOST 1048576: true; the input reads as it did. -/
def fnPipesUptoRow : OpenClaim := { program := "ytgjogjmfpbinfaa", sum := "eb55e5b9e8a9e0487218e85fcd8c26e18596bb1561fd7d17f943e75b91631c7d", func := "loop.example/g00853/laws.FnPipes", spec := "fnPipes", unfollowed := true, recurses := true, apart := false, narrowed := true }
def FnPipesUptoSaid : Prop := fnPipesUptoRow.holds Try.pinned (OpenSpec.upto fnPipesSpec)

/-- 'laws.FnWays', WHERE WHAT IT READS IS OF BULK AT MOST 1048576: true; the input reads as it did. -/
def fnWaysUptoRow : OpenClaim := { program := "ytgjogjmfpbinfaa", sum := "eb55e5b9e8a9e0487218e85fcd8c26e18596bb1561fd7d17f943e75b91631c7d", func := "loop.example/g00853/laws.FnWays", spec := "fnWays", unfollowed := true, recurses := true, apart := false, narrowed := true }
def FnWaysUptoSaid : Prop := fnWaysUptoRow.holds Try.pinned (OpenSpec.upto fnWaysSpec)

/-- 'laws.FnParts', WHERE WHAT IT READS IS OF BULK AT MOST 1048576: true; the input reads as it did. -/
def fnPartsUptoRow : OpenClaim := { program := "ytgjogjmfpbinfaa", sum := "eb55e5b9e8a9e0487218e85fcd8c26e18596bb1561fd7d17f943e75b91631c7d", func := "loop.example/g00853/laws.FnParts", spec := "fnParts", apart := false, narrowed := true }
def FnPartsUptoSaid : Prop := fnPartsUptoRow.holds Try.pinned (OpenSpec.upto fnPartsSpec)

end Rows
end Go.Proofs.Ytgjogjmfpbinfaa
