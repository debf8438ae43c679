/-
  No cell of these rows narrows 'for every input' (looked for: loops, veiled, ifaces, maps, wideKeys, modest, calm, conditions, laid).
  DERIVED. THE GIVEN ROWS OF THIS SEAT. 7 by the template 'for every input the law returns true; each argument reads behind the call as it read before'; 0 by the template 'total and deterministic' (their statements: YtikppgbipdflbaaTotals.lean).
  GIVEN WITH THE SEED: the statements are not yours to turn. If you find one false, say at which input.
  Laid BY PROGRAM, IN A SANDBOX (cutbox-rows.mjs): the forced cells as the released guide's own fill.sh prints them over the translation fd4ac4e2f0a8999d… (all of the seat's roots in one cut). By AI agents, Wed Nov 11 2026. No macro, syntax, notation, axiom, sorry.
-/
import Derived.Test.YtikppgbipdflbaaChecked
import GoSem.Claim
import GoSem.ClaimJoined
import GoSem.ClaimMapViews
import Derived.JoinedTies
import Derived.KernelRfl
namespace Go.Proofs.Ytikppgbipdflbaa
/- THE CELL 'sum', in the pinned program and in every row, IS THE sha256 OF THE DUMP (.gsa) THAT YtikppgbipdflbaaProg.lean LOADS. Nothing in Lean hashes anything: it is a label: what it is worth is what the hold of that sum in a sandbox is worth. -/
noncomputable def Try.pinned : Pinned := { name := "ytikppgbipdflbaa", sum := "fd4ac4e2f0a8999d058edda0a9b25edab569dfd580dd595fbfcac6399613fef5", checked := Try.checked }
namespace Rows
def none {H : Type} : Left H := { results := [], args := [] }

/-- 'laws.FnExactIsValidTank': WHATEVER THE INPUT: true; the input reads as it did. -/
def fnExactIsValidTankSpec : ChangeSpec := { name := "fnExactIsValidTank", fn := fun _ => fun
  | [d] => { results := [.lit (.bool true)], args := [d] }
  | _ => none }
def fnExactIsValidTankRow : OpenClaim := { program := "ytikppgbipdflbaa", sum := "fd4ac4e2f0a8999d058edda0a9b25edab569dfd580dd595fbfcac6399613fef5", func := "loop.example/g00853/laws.FnExactIsValidTank", spec := "fnExactIsValidTank", apart := false }
def FnExactIsValidTankSaid : Prop := fnExactIsValidTankRow.holds Try.pinned (OpenSpec.ofChange fnExactIsValidTankSpec)

/-- ITS FALSE NEIGHBOUR: 'it returns false'. Refute it at one input. -/
def fnExactIsValidTankWrong : ChangeSpec := { name := "fnExactIsValidTank", fn := fun _ => fun
  | [d] => { results := [.lit (.bool false)], args := [d] }
  | _ => none }
def FnExactIsValidTankWrongFalsely : Prop := fnExactIsValidTankRow.holds Try.pinned (OpenSpec.ofChange fnExactIsValidTankWrong)

/-- 'laws.FnExactStepTank': WHATEVER THE INPUT: true; the input reads as it did. -/
def fnExactStepTankSpec : ChangeSpec := { name := "fnExactStepTank", fn := fun _ => fun
  | [d1, d2, d3] => { results := [.lit (.bool true)], args := [d1, d2, d3] }
  | _ => none }
def fnExactStepTankRow : OpenClaim := { program := "ytikppgbipdflbaa", sum := "fd4ac4e2f0a8999d058edda0a9b25edab569dfd580dd595fbfcac6399613fef5", func := "loop.example/g00853/laws.FnExactStepTank", spec := "fnExactStepTank", unfollowed := true, recurses := true, apart := false }
def FnExactStepTankSaid : Prop := fnExactStepTankRow.holds Try.pinned (OpenSpec.ofChange fnExactStepTankSpec)

/-- ITS FALSE NEIGHBOUR: 'it returns false'. Refute it at one input. -/
def fnExactStepTankWrong : ChangeSpec := { name := "fnExactStepTank", fn := fun _ => fun
  | [d1, d2, d3] => { results := [.lit (.bool false)], args := [d1, d2, d3] }
  | _ => none }
def FnExactStepTankWrongFalsely : Prop := fnExactStepTankRow.holds Try.pinned (OpenSpec.ofChange fnExactStepTankWrong)

/-- 'laws.FnExactRunTank': WHATEVER THE INPUT: true; the input reads as it did. -/
def fnExactRunTankSpec : ChangeSpec := { name := "fnExactRunTank", fn := fun _ => fun
  | [d1, d2, d3] => { results := [.lit (.bool true)], args := [d1, d2, d3] }
  | _ => none }
def fnExactRunTankRow : OpenClaim := { program := "ytikppgbipdflbaa", sum := "fd4ac4e2f0a8999d058edda0a9b25edab569dfd580dd595fbfcac6399613fef5", func := "loop.example/g00853/laws.FnExactRunTank", spec := "fnExactRunTank", unfollowed := true, recurses := true, apart := false }
def FnExactRunTankSaid : Prop := fnExactRunTankRow.holds Try.pinned (OpenSpec.ofChange fnExactRunTankSpec)

/-- ITS FALSE NEIGHBOUR: 'it returns false'. Refute it at one input. -/
def fnExactRunTankWrong : ChangeSpec := { name := "fnExactRunTank", fn := fun _ => fun
  | [d1, d2, d3] => { results := [.lit (.bool false)], args := [d1, d2, d3] }
  | _ => none }
def FnExactRunTankWrongFalsely : Prop := fnExactRunTankRow.holds Try.pinned (OpenSpec.ofChange fnExactRunTankWrong)

/-- 'laws.FnExactIsCalm': WHATEVER THE INPUT: true; the input reads as it did. -/
def fnExactIsCalmSpec : ChangeSpec := { name := "fnExactIsCalm", fn := fun _ => fun
  | [d1, d2, d3] => { results := [.lit (.bool true)], args := [d1, d2, d3] }
  | _ => none }
def fnExactIsCalmRow : OpenClaim := { program := "ytikppgbipdflbaa", sum := "fd4ac4e2f0a8999d058edda0a9b25edab569dfd580dd595fbfcac6399613fef5", func := "loop.example/g00853/laws.FnExactIsCalm", spec := "fnExactIsCalm", unfollowed := true, recurses := true, apart := false }
def FnExactIsCalmSaid : Prop := fnExactIsCalmRow.holds Try.pinned (OpenSpec.ofChange fnExactIsCalmSpec)

/-- ITS FALSE NEIGHBOUR: 'it returns false'. Refute it at one input. -/
def fnExactIsCalmWrong : ChangeSpec := { name := "fnExactIsCalm", fn := fun _ => fun
  | [d1, d2, d3] => { results := [.lit (.bool false)], args := [d1, d2, d3] }
  | _ => none }
def FnExactIsCalmWrongFalsely : Prop := fnExactIsCalmRow.holds Try.pinned (OpenSpec.ofChange fnExactIsCalmWrong)

/-- 'laws.FnExactWaterTaken': WHATEVER THE INPUT: true; the input reads as it did. -/
def fnExactWaterTakenSpec : ChangeSpec := { name := "fnExactWaterTaken", fn := fun _ => fun
  | [d1, d2, d3] => { results := [.lit (.bool true)], args := [d1, d2, d3] }
  | _ => none }
def fnExactWaterTakenRow : OpenClaim := { program := "ytikppgbipdflbaa", sum := "fd4ac4e2f0a8999d058edda0a9b25edab569dfd580dd595fbfcac6399613fef5", func := "loop.example/g00853/laws.FnExactWaterTaken", spec := "fnExactWaterTaken", unfollowed := true, recurses := true, apart := false }
def FnExactWaterTakenSaid : Prop := fnExactWaterTakenRow.holds Try.pinned (OpenSpec.ofChange fnExactWaterTakenSpec)

/-- ITS FALSE NEIGHBOUR: 'it returns false'. Refute it at one input. -/
def fnExactWaterTakenWrong : ChangeSpec := { name := "fnExactWaterTaken", fn := fun _ => fun
  | [d1, d2, d3] => { results := [.lit (.bool false)], args := [d1, d2, d3] }
  | _ => none }
def FnExactWaterTakenWrongFalsely : Prop := fnExactWaterTakenRow.holds Try.pinned (OpenSpec.ofChange fnExactWaterTakenWrong)

/-- 'laws.FnExactRepeatDay': WHATEVER THE INPUT: true; the input reads as it did. -/
def fnExactRepeatDaySpec : ChangeSpec := { name := "fnExactRepeatDay", fn := fun _ => fun
  | [d1, d2, d3, d4] => { results := [.lit (.bool true)], args := [d1, d2, d3, d4] }
  | _ => none }
def fnExactRepeatDayRow : OpenClaim := { program := "ytikppgbipdflbaa", sum := "fd4ac4e2f0a8999d058edda0a9b25edab569dfd580dd595fbfcac6399613fef5", func := "loop.example/g00853/laws.FnExactRepeatDay", spec := "fnExactRepeatDay", unfollowed := true, recurses := true, apart := false }
def FnExactRepeatDaySaid : Prop := fnExactRepeatDayRow.holds Try.pinned (OpenSpec.ofChange fnExactRepeatDaySpec)

/-- ITS FALSE NEIGHBOUR: 'it returns false'. Refute it at one input. -/
def fnExactRepeatDayWrong : ChangeSpec := { name := "fnExactRepeatDay", fn := fun _ => fun
  | [d1, d2, d3, d4] => { results := [.lit (.bool false)], args := [d1, d2, d3, d4] }
  | _ => none }
def FnExactRepeatDayWrongFalsely : Prop := fnExactRepeatDayRow.holds Try.pinned (OpenSpec.ofChange fnExactRepeatDayWrong)

/-- 'laws.FnExactSteadyLevel': WHATEVER THE INPUT: true; the input reads as it did. -/
def fnExactSteadyLevelSpec : ChangeSpec := { name := "fnExactSteadyLevel", fn := fun _ => fun
  | [d1, d2, d3] => { results := [.lit (.bool true)], args := [d1, d2, d3] }
  | _ => none }
def fnExactSteadyLevelRow : OpenClaim := { program := "ytikppgbipdflbaa", sum := "fd4ac4e2f0a8999d058edda0a9b25edab569dfd580dd595fbfcac6399613fef5", func := "loop.example/g00853/laws.FnExactSteadyLevel", spec := "fnExactSteadyLevel", unfollowed := true, recurses := true, apart := false }
def FnExactSteadyLevelSaid : Prop := fnExactSteadyLevelRow.holds Try.pinned (OpenSpec.ofChange fnExactSteadyLevelSpec)

/-- ITS FALSE NEIGHBOUR: 'it returns false'. Refute it at one input. -/
def fnExactSteadyLevelWrong : ChangeSpec := { name := "fnExactSteadyLevel", fn := fun _ => fun
  | [d1, d2, d3] => { results := [.lit (.bool false)], args := [d1, d2, d3] }
  | _ => none }
def FnExactSteadyLevelWrongFalsely : Prop := fnExactSteadyLevelRow.holds Try.pinned (OpenSpec.ofChange fnExactSteadyLevelWrong)

/- THE SECOND FORM. 'bulk': how many values and letters a reading holds, each counted each time it is reached (what is shared counts as often as it is met; a slice's spare places count too). A statement '..UptoSaid' is the law's where the arguments, and the package variables that the reading takes, are together of bulk at most 1048576: NARROWER than '..Said'. Prove '..Said' where nothing that the law and all that it calls make is longer than what came in: it says more and counts as full. Else prove '..UptoSaid'. A law counts once. -/
mutual
def uptoBulk {H : Type} : DataW H → Nat
  | .lit (.string bytes) => bytes.length + 1
  | .lit _ => 1
  | .nil => 1
  | .ptr d => uptoBulk d + 1
  | .slice elems spare => uptoBulkAll elems + uptoBulkAll spare + 1
  | .agg parts => uptoBulkAll parts + 1
  | .iface _ d => uptoBulk d + 1
  | .map entries => uptoBulkEntries entries + 1
  | .held _ => 1
def uptoBulkAll {H : Type} : List (DataW H) → Nat
  | [] => 0
  | d :: r => uptoBulk d + uptoBulkAll r
def uptoBulkEntries {H : Type} : List (Lit × DataW H) → Nat
  | [] => 0
  | x :: r => uptoBulkEntry x + uptoBulkEntries r
def uptoBulkEntry {H : Type} : Lit × DataW H → Nat
  | (.string bytes, d) => bytes.length + uptoBulk d + 1
  | (_, d) => uptoBulk d + 1
 end
def uptoSmall : (H : Type) → List (DataW H) → Bool := fun _ ds => decide (uptoBulkAll ds ≤ 1048576)
def OpenSpec.upto (s : _root_.Go.ChangeSpec) : _root_.Go.OpenSpec := { _root_.Go.OpenSpec.ofChange s with cond := some uptoSmall }

/-- 'laws.FnExactIsValidTank', WHERE WHAT IT READS IS OF BULK AT MOST 1048576: true; the input reads as it did. -/
def fnExactIsValidTankUptoRow : OpenClaim := { program := "ytikppgbipdflbaa", sum := "fd4ac4e2f0a8999d058edda0a9b25edab569dfd580dd595fbfcac6399613fef5", func := "loop.example/g00853/laws.FnExactIsValidTank", spec := "fnExactIsValidTank", apart := false, narrowed := true }
def FnExactIsValidTankUptoSaid : Prop := fnExactIsValidTankUptoRow.holds Try.pinned (OpenSpec.upto fnExactIsValidTankSpec)

/-- 'laws.FnExactStepTank', WHERE WHAT IT READS IS OF BULK AT MOST 1048576: true; the input reads as it did. -/
def fnExactStepTankUptoRow : OpenClaim := { program := "ytikppgbipdflbaa", sum := "fd4ac4e2f0a8999d058edda0a9b25edab569dfd580dd595fbfcac6399613fef5", func := "loop.example/g00853/laws.FnExactStepTank", spec := "fnExactStepTank", unfollowed := true, recurses := true, apart := false, narrowed := true }
def FnExactStepTankUptoSaid : Prop := fnExactStepTankUptoRow.holds Try.pinned (OpenSpec.upto fnExactStepTankSpec)

/-- 'laws.FnExactRunTank', WHERE WHAT IT READS IS OF BULK AT MOST 1048576: true; the input reads as it did. -/
def fnExactRunTankUptoRow : OpenClaim := { program := "ytikppgbipdflbaa", sum := "fd4ac4e2f0a8999d058edda0a9b25edab569dfd580dd595fbfcac6399613fef5", func := "loop.example/g00853/laws.FnExactRunTank", spec := "fnExactRunTank", unfollowed := true, recurses := true, apart := false, narrowed := true }
def FnExactRunTankUptoSaid : Prop := fnExactRunTankUptoRow.holds Try.pinned (OpenSpec.upto fnExactRunTankSpec)

/-- 'laws.FnExactIsCalm', WHERE WHAT IT READS IS OF BULK AT MOST 1048576: true; the input reads as it did. -/
def fnExactIsCalmUptoRow : OpenClaim := { program := "ytikppgbipdflbaa", sum := "fd4ac4e2f0a8999d058edda0a9b25edab569dfd580dd595fbfcac6399613fef5", func := "loop.example/g00853/laws.FnExactIsCalm", spec := "fnExactIsCalm", unfollowed := true, recurses := true, apart := false, narrowed := true }
def FnExactIsCalmUptoSaid : Prop := fnExactIsCalmUptoRow.holds Try.pinned (OpenSpec.upto fnExactIsCalmSpec)

/-- 'laws.FnExactWaterTaken', WHERE WHAT IT READS IS OF BULK AT MOST 1048576: true; the input reads as it did. -/
def fnExactWaterTakenUptoRow : OpenClaim := { program := "ytikppgbipdflbaa", sum := "fd4ac4e2f0a8999d058edda0a9b25edab569dfd580dd595fbfcac6399613fef5", func := "loop.example/g00853/laws.FnExactWaterTaken", spec := "fnExactWaterTaken", unfollowed := true, recurses := true, apart := false, narrowed := true }
def FnExactWaterTakenUptoSaid : Prop := fnExactWaterTakenUptoRow.holds Try.pinned (OpenSpec.upto fnExactWaterTakenSpec)

/-- 'laws.FnExactRepeatDay', WHERE WHAT IT READS IS OF BULK AT MOST 1048576: true; the input reads as it did. -/
def fnExactRepeatDayUptoRow : OpenClaim := { program := "ytikppgbipdflbaa", sum := "fd4ac4e2f0a8999d058edda0a9b25edab569dfd580dd595fbfcac6399613fef5", func := "loop.example/g00853/laws.FnExactRepeatDay", spec := "fnExactRepeatDay", unfollowed := true, recurses := true, apart := false, narrowed := true }
def FnExactRepeatDayUptoSaid : Prop := fnExactRepeatDayUptoRow.holds Try.pinned (OpenSpec.upto fnExactRepeatDaySpec)

/-- 'laws.FnExactSteadyLevel', WHERE WHAT IT READS IS OF BULK AT MOST 1048576: true; the input reads as it did. -/
def fnExactSteadyLevelUptoRow : OpenClaim := { program := "ytikppgbipdflbaa", sum := "fd4ac4e2f0a8999d058edda0a9b25edab569dfd580dd595fbfcac6399613fef5", func := "loop.example/g00853/laws.FnExactSteadyLevel", spec := "fnExactSteadyLevel", unfollowed := true, recurses := true, apart := false, narrowed := true }
def FnExactSteadyLevelUptoSaid : Prop := fnExactSteadyLevelUptoRow.holds Try.pinned (OpenSpec.upto fnExactSteadyLevelSpec)

end Rows
end Go.Proofs.Ytikppgbipdflbaa
