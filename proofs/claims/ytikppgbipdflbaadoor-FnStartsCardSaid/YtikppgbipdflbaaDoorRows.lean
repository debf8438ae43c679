/-
  NARROWER THAN 'FOR EVERY INPUT', by the rows' own cells (each row's printed sentence says how): FnExactLeastStart: ifaces, laid · FnExactFirstMissing: ifaces, laid · FnTanks: ifaces, laid · FnStarts: ifaces, laid.
  DERIVED. THE GIVEN ROWS OF THIS SEAT. 4 by the template 'for every input the law returns true; each argument reads behind the call as it read before'; 0 by the template 'total and deterministic' (their statements: YtikppgbipdflbaaDoorTotals.lean).
  GIVEN WITH THE SEED: the statements are not yours to turn. If you find one false, say at which input.
  Laid BY PROGRAM, IN A SANDBOX (cutbox-rows.mjs): the forced cells as the released guide's own fill.sh prints them over the translation 38c1c2cc0513e0f0… (all of the seat's roots in one cut). By AI agents, Wed Nov 11 2026. No macro, syntax, notation, axiom, sorry.
-/
import Derived.Test.YtikppgbipdflbaaDoorChecked
import GoSem.Claim
import GoSem.ClaimJoined
import GoSem.ClaimMapViews
import Derived.JoinedTies
import Derived.KernelRfl
namespace Go.Proofs.YtikppgbipdflbaaDoor
/- THE CELL 'sum', in the pinned program and in every row, IS THE sha256 OF THE DUMP (.gsa) THAT YtikppgbipdflbaaDoorProg.lean LOADS. Nothing in Lean hashes anything: it is a label: what it is worth is what the hold of that sum in a sandbox is worth. -/
noncomputable def Tryd.pinned : Pinned := { name := "ytikppgbipdflbaadoor", sum := "38c1c2cc0513e0f04756bd3508dc368b32a406f09642c5ce9c98f2e6e5f8b38d", checked := Tryd.checked }
namespace Rows
def none {H : Type} : Left H := { results := [], args := [] }

/- WHAT THE LISTED PACKAGE-LEVEL VARIABLES READ AS WHEN THE CALL BEGINS. Each datum BY PROGRAM (the guide's laid-datum.mjs) off the statement by which the dump's own 'gosem.cut.vars' lays the variable. In a bare row this is a premise. The card (YtikppgbipdflbaaDoorCards.lean) ties it to the program's text. -/
def laid_loop_example_g00853_impl_errNoTankDay {H : Type} : DataW H := .iface "*errors.errorString" (.ptr (.agg [.lit (.string [110, 111, 32, 118, 97, 108, 105, 100, 32, 116, 97, 110, 107, 32, 111, 114, 32, 110, 111, 32, 118, 97, 108, 105, 100, 32, 100, 97, 121])]))
def laid_errors_errorType {H : Type} : DataW H := .iface "internal/reflectlite.rtype" (.agg [.ptr (.lit (.string [101, 114, 114, 111, 114]))])

/-- 'laws.FnExactLeastStart': WHATEVER THE INPUT: true; the input reads as it did. -/
def fnExactLeastStartSpec : ChangeSpec := { name := "fnExactLeastStart", vars := ["loop.example/g00853/impl.errNoTankDay"], fn := fun _ => fun
  | [d1, d2, d3, g1] => { results := [.lit (.bool true)], args := [d1, d2, d3], vars := [g1] }
  | _ => none }
def fnExactLeastStartRow : OpenClaim := { program := "ytikppgbipdflbaadoor", sum := "38c1c2cc0513e0f04756bd3508dc368b32a406f09642c5ce9c98f2e6e5f8b38d", func := "loop.example/g00853/laws.FnExactLeastStart", spec := "fnExactLeastStart", unfollowed := true, recurses := true, named := ["loop.example/g00853/impl.errNoTankDay"], ifaces := true, apart := false, laid := [("loop.example/g00853/impl.errNoTankDay", laid_loop_example_g00853_impl_errNoTankDay)] }
def FnExactLeastStartSaid : Prop := fnExactLeastStartRow.holds Tryd.pinned (OpenSpec.ofChange fnExactLeastStartSpec)

/-- ITS FALSE NEIGHBOUR: 'it returns false'. Refute it at one input. -/
def fnExactLeastStartWrong : ChangeSpec := { name := "fnExactLeastStart", vars := ["loop.example/g00853/impl.errNoTankDay"], fn := fun _ => fun
  | [d1, d2, d3, g1] => { results := [.lit (.bool false)], args := [d1, d2, d3], vars := [g1] }
  | _ => none }
def FnExactLeastStartWrongFalsely : Prop := fnExactLeastStartRow.holds Tryd.pinned (OpenSpec.ofChange fnExactLeastStartWrong)

/-- 'laws.FnExactFirstMissing': WHATEVER THE INPUT: true; the input reads as it did. -/
def fnExactFirstMissingSpec : ChangeSpec := { name := "fnExactFirstMissing", vars := ["loop.example/g00853/impl.errNoTankDay"], fn := fun _ => fun
  | [d1, d2, d3, g1] => { results := [.lit (.bool true)], args := [d1, d2, d3], vars := [g1] }
  | _ => none }
def fnExactFirstMissingRow : OpenClaim := { program := "ytikppgbipdflbaadoor", sum := "38c1c2cc0513e0f04756bd3508dc368b32a406f09642c5ce9c98f2e6e5f8b38d", func := "loop.example/g00853/laws.FnExactFirstMissing", spec := "fnExactFirstMissing", inPlace := ["internal/reflectlite.ValueOf", "(internal/reflectlite.Value).Type", "(internal/reflectlite.Value).IsNil", "internal/reflectlite.TypeOf", "(internal/reflectlite.Value).Elem", "(internal/reflectlite.Value).Set"], unfollowed := true, recurses := true, named := ["loop.example/g00853/impl.errNoTankDay", "errors.errorType"], ifaces := true, apart := false, laid := [("errors.errorType", laid_errors_errorType), ("loop.example/g00853/impl.errNoTankDay", laid_loop_example_g00853_impl_errNoTankDay)] }
def FnExactFirstMissingSaid : Prop := fnExactFirstMissingRow.holds Tryd.pinned (OpenSpec.ofChange fnExactFirstMissingSpec)

/-- ITS FALSE NEIGHBOUR: 'it returns false'. Refute it at one input. -/
def fnExactFirstMissingWrong : ChangeSpec := { name := "fnExactFirstMissing", vars := ["loop.example/g00853/impl.errNoTankDay"], fn := fun _ => fun
  | [d1, d2, d3, g1] => { results := [.lit (.bool false)], args := [d1, d2, d3], vars := [g1] }
  | _ => none }
def FnExactFirstMissingWrongFalsely : Prop := fnExactFirstMissingRow.holds Tryd.pinned (OpenSpec.ofChange fnExactFirstMissingWrong)

/-- 'laws.FnTanks': WHATEVER THE INPUT: true; the input reads as it did. -/
def fnTanksSpec : ChangeSpec := { name := "fnTanks", vars := ["loop.example/g00853/impl.errNoTankDay"], fn := fun _ => fun
  | [d, g1] => { results := [.lit (.bool true)], args := [d], vars := [g1] }
  | _ => none }
def fnTanksRow : OpenClaim := { program := "ytikppgbipdflbaadoor", sum := "38c1c2cc0513e0f04756bd3508dc368b32a406f09642c5ce9c98f2e6e5f8b38d", func := "loop.example/g00853/laws.FnTanks", spec := "fnTanks", inPlace := ["internal/reflectlite.ValueOf", "(internal/reflectlite.Value).Type", "(internal/reflectlite.Value).IsNil", "internal/reflectlite.TypeOf", "(internal/reflectlite.Value).Elem", "(internal/reflectlite.Value).Set"], unfollowed := true, recurses := true, named := ["loop.example/g00853/impl.errNoTankDay", "errors.errorType"], ifaces := true, apart := false, laid := [("errors.errorType", laid_errors_errorType), ("loop.example/g00853/impl.errNoTankDay", laid_loop_example_g00853_impl_errNoTankDay)] }
def FnTanksSaid : Prop := fnTanksRow.holds Tryd.pinned (OpenSpec.ofChange fnTanksSpec)

/-- ITS FALSE NEIGHBOUR: 'it returns false'. Refute it at one input. -/
def fnTanksWrong : ChangeSpec := { name := "fnTanks", vars := ["loop.example/g00853/impl.errNoTankDay"], fn := fun _ => fun
  | [d, g1] => { results := [.lit (.bool false)], args := [d], vars := [g1] }
  | _ => none }
def FnTanksWrongFalsely : Prop := fnTanksRow.holds Tryd.pinned (OpenSpec.ofChange fnTanksWrong)

/-- 'laws.FnStarts': WHATEVER THE INPUT: true; the input reads as it did. -/
def fnStartsSpec : ChangeSpec := { name := "fnStarts", vars := ["loop.example/g00853/impl.errNoTankDay"], fn := fun _ => fun
  | [d, g1] => { results := [.lit (.bool true)], args := [d], vars := [g1] }
  | _ => none }
def fnStartsRow : OpenClaim := { program := "ytikppgbipdflbaadoor", sum := "38c1c2cc0513e0f04756bd3508dc368b32a406f09642c5ce9c98f2e6e5f8b38d", func := "loop.example/g00853/laws.FnStarts", spec := "fnStarts", inPlace := ["internal/reflectlite.ValueOf", "(internal/reflectlite.Value).Type", "(internal/reflectlite.Value).IsNil", "internal/reflectlite.TypeOf", "(internal/reflectlite.Value).Elem", "(internal/reflectlite.Value).Set"], unfollowed := true, recurses := true, named := ["loop.example/g00853/impl.errNoTankDay", "errors.errorType"], ifaces := true, apart := false, laid := [("errors.errorType", laid_errors_errorType), ("loop.example/g00853/impl.errNoTankDay", laid_loop_example_g00853_impl_errNoTankDay)] }
def FnStartsSaid : Prop := fnStartsRow.holds Tryd.pinned (OpenSpec.ofChange fnStartsSpec)

/-- ITS FALSE NEIGHBOUR: 'it returns false'. Refute it at one input. -/
def fnStartsWrong : ChangeSpec := { name := "fnStarts", vars := ["loop.example/g00853/impl.errNoTankDay"], fn := fun _ => fun
  | [d, g1] => { results := [.lit (.bool false)], args := [d], vars := [g1] }
  | _ => none }
def FnStartsWrongFalsely : Prop := fnStartsRow.holds Tryd.pinned (OpenSpec.ofChange fnStartsWrong)

/- THE SECOND FORM. 'bulk': how many values and letters a reading holds, each counted each time it is reached (what is shared counts as often as it is met; a slice's spare places count too). A statement '..UptoSaid' is the law's where the arguments, and the package variables that the reading takes, are together of bulk at most 1048576: NARROWER than '..Said'. Prove '..Said' where nothing that the law and all that it calls make is longer than what came in: it says more and counts as full. Else prove '..UptoSaid'. A law counts once. -/
mutual
def uptoBulk {H : Type} : DataW H → Nat
  | .lit (.string bytes) => bytes.length + 1
  | .lit _ => 1
  | .nil => 1
  | .ptr d => uptoBulk d + 1
  | .slice elems spare => uptoBulkAll elems + uptoBulkAll spare + 1
  | .agg parts => uptoBulkAll parts + 1
  | .iface _ d => uptoBulk d + 1
  | .map entries => uptoBulkEntries entries + 1
  | .held _ => 1
def uptoBulkAll {H : Type} : List (DataW H) → Nat
  | [] => 0
  | d :: r => uptoBulk d + uptoBulkAll r
def uptoBulkEntries {H : Type} : List (Lit × DataW H) → Nat
  | [] => 0
  | x :: r => uptoBulkEntry x + uptoBulkEntries r
def uptoBulkEntry {H : Type} : Lit × DataW H → Nat
  | (.string bytes, d) => bytes.length + uptoBulk d + 1
  | (_, d) => uptoBulk d + 1
 end
def uptoSmall : (H : Type) → List (DataW H) → Bool := fun _ ds => decide (uptoBulkAll ds ≤ 1048576)
def OpenSpec.upto (s : _root_.Go.ChangeSpec) : _root_.Go.OpenSpec := { _root_.Go.OpenSpec.ofChange s with cond := some uptoSmall }

/-- 'laws.FnExactLeastStart', WHERE WHAT IT READS IS OF BULK AT MOST 1048576: true; the input reads as it did. -/
def fnExactLeastStartUptoRow : OpenClaim := { program := "ytikppgbipdflbaadoor", sum := "38c1c2cc0513e0f04756bd3508dc368b32a406f09642c5ce9c98f2e6e5f8b38d", func := "loop.example/g00853/laws.FnExactLeastStart", spec := "fnExactLeastStart", unfollowed := true, recurses := true, named := ["loop.example/g00853/impl.errNoTankDay"], ifaces := true, apart := false, laid := [("loop.example/g00853/impl.errNoTankDay", laid_loop_example_g00853_impl_errNoTankDay)], narrowed := true }
def FnExactLeastStartUptoSaid : Prop := fnExactLeastStartUptoRow.holds Tryd.pinned (OpenSpec.upto fnExactLeastStartSpec)

/-- 'laws.FnExactFirstMissing', WHERE WHAT IT READS IS OF BULK AT MOST 1048576: true; the input reads as it did. -/
def fnExactFirstMissingUptoRow : OpenClaim := { program := "ytikppgbipdflbaadoor", sum := "38c1c2cc0513e0f04756bd3508dc368b32a406f09642c5ce9c98f2e6e5f8b38d", func := "loop.example/g00853/laws.FnExactFirstMissing", spec := "fnExactFirstMissing", inPlace := ["internal/reflectlite.ValueOf", "(internal/reflectlite.Value).Type", "(internal/reflectlite.Value).IsNil", "internal/reflectlite.TypeOf", "(internal/reflectlite.Value).Elem", "(internal/reflectlite.Value).Set"], unfollowed := true, recurses := true, named := ["loop.example/g00853/impl.errNoTankDay", "errors.errorType"], ifaces := true, apart := false, laid := [("errors.errorType", laid_errors_errorType), ("loop.example/g00853/impl.errNoTankDay", laid_loop_example_g00853_impl_errNoTankDay)], narrowed := true }
def FnExactFirstMissingUptoSaid : Prop := fnExactFirstMissingUptoRow.holds Tryd.pinned (OpenSpec.upto fnExactFirstMissingSpec)

/-- 'laws.FnTanks', WHERE WHAT IT READS IS OF BULK AT MOST 1048576: true; the input reads as it did. -/
def fnTanksUptoRow : OpenClaim := { program := "ytikppgbipdflbaadoor", sum := "38c1c2cc0513e0f04756bd3508dc368b32a406f09642c5ce9c98f2e6e5f8b38d", func := "loop.example/g00853/laws.FnTanks", spec := "fnTanks", inPlace := ["internal/reflectlite.ValueOf", "(internal/reflectlite.Value).Type", "(internal/reflectlite.Value).IsNil", "internal/reflectlite.TypeOf", "(internal/reflectlite.Value).Elem", "(internal/reflectlite.Value).Set"], unfollowed := true, recurses := true, named := ["loop.example/g00853/impl.errNoTankDay", "errors.errorType"], ifaces := true, apart := false, laid := [("errors.errorType", laid_errors_errorType), ("loop.example/g00853/impl.errNoTankDay", laid_loop_example_g00853_impl_errNoTankDay)], narrowed := true }
def FnTanksUptoSaid : Prop := fnTanksUptoRow.holds Tryd.pinned (OpenSpec.upto fnTanksSpec)

/-- 'laws.FnStarts', WHERE WHAT IT READS IS OF BULK AT MOST 1048576: true; the input reads as it did. -/
def fnStartsUptoRow : OpenClaim := { program := "ytikppgbipdflbaadoor", sum := "38c1c2cc0513e0f04756bd3508dc368b32a406f09642c5ce9c98f2e6e5f8b38d", func := "loop.example/g00853/laws.FnStarts", spec := "fnStarts", inPlace := ["internal/reflectlite.ValueOf", "(internal/reflectlite.Value).Type", "(internal/reflectlite.Value).IsNil", "internal/reflectlite.TypeOf", "(internal/reflectlite.Value).Elem", "(internal/reflectlite.Value).Set"], unfollowed := true, recurses := true, named := ["loop.example/g00853/impl.errNoTankDay", "errors.errorType"], ifaces := true, apart := false, laid := [("errors.errorType", laid_errors_errorType), ("loop.example/g00853/impl.errNoTankDay", laid_loop_example_g00853_impl_errNoTankDay)], narrowed := true }
def FnStartsUptoSaid : Prop := fnStartsUptoRow.holds Tryd.pinned (OpenSpec.upto fnStartsSpec)

end Rows
end Go.Proofs.YtikppgbipdflbaaDoor
