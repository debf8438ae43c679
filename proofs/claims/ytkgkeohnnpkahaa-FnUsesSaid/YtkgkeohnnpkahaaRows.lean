/-
  No cell of these rows narrows 'for every input' (looked for: loops, veiled, ifaces, maps, wideKeys, modest, calm, conditions, laid).
  DERIVED. THE GIVEN ROWS OF THIS SEAT. 12 by the template 'for every input the law returns true; each argument reads behind the call as it read before'; 0 by the template 'total and deterministic' (their statements: YtkgkeohnnpkahaaTotals.lean).
  GIVEN WITH THE SEED: the statements are not yours to turn. If you find one false, say at which input.
  Laid BY PROGRAM, IN A SANDBOX (cutbox-rows.mjs): the forced cells as the released guide's own fill.sh prints them over the translation 3487ec0ead24c844… (all of the seat's roots in one cut). By AI agents, Wed Nov 11 2026. No macro, syntax, notation, axiom, sorry.
-/
import Derived.Test.YtkgkeohnnpkahaaChecked
import GoSem.Claim
import GoSem.ClaimJoined
import GoSem.ClaimMapViews
import Derived.JoinedTies
import Derived.KernelRfl
namespace Go.Proofs.Ytkgkeohnnpkahaa
/- THE CELL 'sum', in the pinned program and in every row, IS THE sha256 OF THE DUMP (.gsa) THAT YtkgkeohnnpkahaaProg.lean LOADS. Nothing in Lean hashes anything: it is a label: what it is worth is what the hold of that sum in a sandbox is worth. -/
noncomputable def Try.pinned : Pinned := { name := "ytkgkeohnnpkahaa", sum := "3487ec0ead24c8447631691dcce3ce4f2eba796351cbaaa8b812cae7d0260920", checked := Try.checked }
namespace Rows
def none {H : Type} : Left H := { results := [], args := [] }

/-- 'laws.FnProfiles': WHATEVER THE INPUT: true; the input reads as it did. -/
def fnProfilesSpec : ChangeSpec := { name := "fnProfiles", fn := fun _ => fun
  | [d] => { results := [.lit (.bool true)], args := [d] }
  | _ => none }
def fnProfilesRow : OpenClaim := { program := "ytkgkeohnnpkahaa", sum := "3487ec0ead24c8447631691dcce3ce4f2eba796351cbaaa8b812cae7d0260920", func := "loop.example/g00853/laws.FnProfiles", spec := "fnProfiles", apart := false }
def FnProfilesSaid : Prop := fnProfilesRow.holds Try.pinned (OpenSpec.ofChange fnProfilesSpec)

/-- ITS FALSE NEIGHBOUR: 'it returns false'. Refute it at one input. -/
def fnProfilesWrong : ChangeSpec := { name := "fnProfiles", fn := fun _ => fun
  | [d] => { results := [.lit (.bool false)], args := [d] }
  | _ => none }
def FnProfilesWrongFalsely : Prop := fnProfilesRow.holds Try.pinned (OpenSpec.ofChange fnProfilesWrong)

/-- 'laws.FnUses': WHATEVER THE INPUT: true; the input reads as it did. -/
def fnUsesSpec : ChangeSpec := { name := "fnUses", fn := fun _ => fun
  | [d] => { results := [.lit (.bool true)], args := [d] }
  | _ => none }
def fnUsesRow : OpenClaim := { program := "ytkgkeohnnpkahaa", sum := "3487ec0ead24c8447631691dcce3ce4f2eba796351cbaaa8b812cae7d0260920", func := "loop.example/g00853/laws.FnUses", spec := "fnUses", apart := false }
def FnUsesSaid : Prop := fnUsesRow.holds Try.pinned (OpenSpec.ofChange fnUsesSpec)

/-- ITS FALSE NEIGHBOUR: 'it returns false'. Refute it at one input. -/
def fnUsesWrong : ChangeSpec := { name := "fnUses", fn := fun _ => fun
  | [d] => { results := [.lit (.bool false)], args := [d] }
  | _ => none }
def FnUsesWrongFalsely : Prop := fnUsesRow.holds Try.pinned (OpenSpec.ofChange fnUsesWrong)

/-- 'laws.FnExactIsValidProfile': WHATEVER THE INPUT: true; the input reads as it did. -/
def fnExactIsValidProfileSpec : ChangeSpec := { name := "fnExactIsValidProfile", fn := fun _ => fun
  | [d] => { results := [.lit (.bool true)], args := [d] }
  | _ => none }
def fnExactIsValidProfileRow : OpenClaim := { program := "ytkgkeohnnpkahaa", sum := "3487ec0ead24c8447631691dcce3ce4f2eba796351cbaaa8b812cae7d0260920", func := "loop.example/g00853/laws.FnExactIsValidProfile", spec := "fnExactIsValidProfile", apart := false }
def FnExactIsValidProfileSaid : Prop := fnExactIsValidProfileRow.holds Try.pinned (OpenSpec.ofChange fnExactIsValidProfileSpec)

/-- ITS FALSE NEIGHBOUR: 'it returns false'. Refute it at one input. -/
def fnExactIsValidProfileWrong : ChangeSpec := { name := "fnExactIsValidProfile", fn := fun _ => fun
  | [d] => { results := [.lit (.bool false)], args := [d] }
  | _ => none }
def FnExactIsValidProfileWrongFalsely : Prop := fnExactIsValidProfileRow.holds Try.pinned (OpenSpec.ofChange fnExactIsValidProfileWrong)

/-- 'laws.FnExactFlatProfile': WHATEVER THE INPUT: true; the input reads as it did. -/
def fnExactFlatProfileSpec : ChangeSpec := { name := "fnExactFlatProfile", fn := fun _ => fun
  | [] => { results := [.lit (.bool true)], args := [] }
  | _ => none }
def fnExactFlatProfileRow : OpenClaim := { program := "ytkgkeohnnpkahaa", sum := "3487ec0ead24c8447631691dcce3ce4f2eba796351cbaaa8b812cae7d0260920", func := "loop.example/g00853/laws.FnExactFlatProfile", spec := "fnExactFlatProfile", apart := false }
def FnExactFlatProfileSaid : Prop := fnExactFlatProfileRow.holds Try.pinned (OpenSpec.ofChange fnExactFlatProfileSpec)

/-- ITS FALSE NEIGHBOUR: 'it returns false'. Refute it at one input. -/
def fnExactFlatProfileWrong : ChangeSpec := { name := "fnExactFlatProfile", fn := fun _ => fun
  | [] => { results := [.lit (.bool false)], args := [] }
  | _ => none }
def FnExactFlatProfileWrongFalsely : Prop := fnExactFlatProfileRow.holds Try.pinned (OpenSpec.ofChange fnExactFlatProfileWrong)

/-- 'laws.FnExactUseAt': WHATEVER THE INPUT: true; the input reads as it did. -/
def fnExactUseAtSpec : ChangeSpec := { name := "fnExactUseAt", fn := fun _ => fun
  | [d1, d2, d3] => { results := [.lit (.bool true)], args := [d1, d2, d3] }
  | _ => none }
def fnExactUseAtRow : OpenClaim := { program := "ytkgkeohnnpkahaa", sum := "3487ec0ead24c8447631691dcce3ce4f2eba796351cbaaa8b812cae7d0260920", func := "loop.example/g00853/laws.FnExactUseAt", spec := "fnExactUseAt", apart := false }
def FnExactUseAtSaid : Prop := fnExactUseAtRow.holds Try.pinned (OpenSpec.ofChange fnExactUseAtSpec)

/-- ITS FALSE NEIGHBOUR: 'it returns false'. Refute it at one input. -/
def fnExactUseAtWrong : ChangeSpec := { name := "fnExactUseAt", fn := fun _ => fun
  | [d1, d2, d3] => { results := [.lit (.bool false)], args := [d1, d2, d3] }
  | _ => none }
def FnExactUseAtWrongFalsely : Prop := fnExactUseAtRow.holds Try.pinned (OpenSpec.ofChange fnExactUseAtWrong)

/-- 'laws.FnExactPeakHour': WHATEVER THE INPUT: true; the input reads as it did. -/
def fnExactPeakHourSpec : ChangeSpec := { name := "fnExactPeakHour", fn := fun _ => fun
  | [d] => { results := [.lit (.bool true)], args := [d] }
  | _ => none }
def fnExactPeakHourRow : OpenClaim := { program := "ytkgkeohnnpkahaa", sum := "3487ec0ead24c8447631691dcce3ce4f2eba796351cbaaa8b812cae7d0260920", func := "loop.example/g00853/laws.FnExactPeakHour", spec := "fnExactPeakHour", apart := false }
def FnExactPeakHourSaid : Prop := fnExactPeakHourRow.holds Try.pinned (OpenSpec.ofChange fnExactPeakHourSpec)

/-- ITS FALSE NEIGHBOUR: 'it returns false'. Refute it at one input. -/
def fnExactPeakHourWrong : ChangeSpec := { name := "fnExactPeakHour", fn := fun _ => fun
  | [d] => { results := [.lit (.bool false)], args := [d] }
  | _ => none }
def FnExactPeakHourWrongFalsely : Prop := fnExactPeakHourRow.holds Try.pinned (OpenSpec.ofChange fnExactPeakHourWrong)

/-- 'laws.FnExactQuietestHours': WHATEVER THE INPUT: true; the input reads as it did. -/
def fnExactQuietestHoursSpec : ChangeSpec := { name := "fnExactQuietestHours", fn := fun _ => fun
  | [d1, d2] => { results := [.lit (.bool true)], args := [d1, d2] }
  | _ => none }
def fnExactQuietestHoursRow : OpenClaim := { program := "ytkgkeohnnpkahaa", sum := "3487ec0ead24c8447631691dcce3ce4f2eba796351cbaaa8b812cae7d0260920", func := "loop.example/g00853/laws.FnExactQuietestHours", spec := "fnExactQuietestHours", apart := false }
def FnExactQuietestHoursSaid : Prop := fnExactQuietestHoursRow.holds Try.pinned (OpenSpec.ofChange fnExactQuietestHoursSpec)

/-- ITS FALSE NEIGHBOUR: 'it returns false'. Refute it at one input. -/
def fnExactQuietestHoursWrong : ChangeSpec := { name := "fnExactQuietestHours", fn := fun _ => fun
  | [d1, d2] => { results := [.lit (.bool false)], args := [d1, d2] }
  | _ => none }
def FnExactQuietestHoursWrongFalsely : Prop := fnExactQuietestHoursRow.holds Try.pinned (OpenSpec.ofChange fnExactQuietestHoursWrong)

/-- 'laws.FnExactShiftProfile': WHATEVER THE INPUT: true; the input reads as it did. -/
def fnExactShiftProfileSpec : ChangeSpec := { name := "fnExactShiftProfile", fn := fun _ => fun
  | [d1, d2] => { results := [.lit (.bool true)], args := [d1, d2] }
  | _ => none }
def fnExactShiftProfileRow : OpenClaim := { program := "ytkgkeohnnpkahaa", sum := "3487ec0ead24c8447631691dcce3ce4f2eba796351cbaaa8b812cae7d0260920", func := "loop.example/g00853/laws.FnExactShiftProfile", spec := "fnExactShiftProfile", apart := false }
def FnExactShiftProfileSaid : Prop := fnExactShiftProfileRow.holds Try.pinned (OpenSpec.ofChange fnExactShiftProfileSpec)

/-- ITS FALSE NEIGHBOUR: 'it returns false'. Refute it at one input. -/
def fnExactShiftProfileWrong : ChangeSpec := { name := "fnExactShiftProfile", fn := fun _ => fun
  | [d1, d2] => { results := [.lit (.bool false)], args := [d1, d2] }
  | _ => none }
def FnExactShiftProfileWrongFalsely : Prop := fnExactShiftProfileRow.holds Try.pinned (OpenSpec.ofChange fnExactShiftProfileWrong)

/-- 'laws.FnExactMixProfiles': WHATEVER THE INPUT: true; the input reads as it did. -/
def fnExactMixProfilesSpec : ChangeSpec := { name := "fnExactMixProfiles", fn := fun _ => fun
  | [d1, d2, d3] => { results := [.lit (.bool true)], args := [d1, d2, d3] }
  | _ => none }
def fnExactMixProfilesRow : OpenClaim := { program := "ytkgkeohnnpkahaa", sum := "3487ec0ead24c8447631691dcce3ce4f2eba796351cbaaa8b812cae7d0260920", func := "loop.example/g00853/laws.FnExactMixProfiles", spec := "fnExactMixProfiles", apart := false }
def FnExactMixProfilesSaid : Prop := fnExactMixProfilesRow.holds Try.pinned (OpenSpec.ofChange fnExactMixProfilesSpec)

/-- ITS FALSE NEIGHBOUR: 'it returns false'. Refute it at one input. -/
def fnExactMixProfilesWrong : ChangeSpec := { name := "fnExactMixProfiles", fn := fun _ => fun
  | [d1, d2, d3] => { results := [.lit (.bool false)], args := [d1, d2, d3] }
  | _ => none }
def FnExactMixProfilesWrongFalsely : Prop := fnExactMixProfilesRow.holds Try.pinned (OpenSpec.ofChange fnExactMixProfilesWrong)

/-- 'laws.FnExactFlattenProfile': WHATEVER THE INPUT: true; the input reads as it did. -/
def fnExactFlattenProfileSpec : ChangeSpec := { name := "fnExactFlattenProfile", fn := fun _ => fun
  | [d1, d2] => { results := [.lit (.bool true)], args := [d1, d2] }
  | _ => none }
def fnExactFlattenProfileRow : OpenClaim := { program := "ytkgkeohnnpkahaa", sum := "3487ec0ead24c8447631691dcce3ce4f2eba796351cbaaa8b812cae7d0260920", func := "loop.example/g00853/laws.FnExactFlattenProfile", spec := "fnExactFlattenProfile", apart := false }
def FnExactFlattenProfileSaid : Prop := fnExactFlattenProfileRow.holds Try.pinned (OpenSpec.ofChange fnExactFlattenProfileSpec)

/-- ITS FALSE NEIGHBOUR: 'it returns false'. Refute it at one input. -/
def fnExactFlattenProfileWrong : ChangeSpec := { name := "fnExactFlattenProfile", fn := fun _ => fun
  | [d1, d2] => { results := [.lit (.bool false)], args := [d1, d2] }
  | _ => none }
def FnExactFlattenProfileWrongFalsely : Prop := fnExactFlattenProfileRow.holds Try.pinned (OpenSpec.ofChange fnExactFlattenProfileWrong)

/-- 'laws.FnExactVolumeBetween': WHATEVER THE INPUT: true; the input reads as it did. -/
def fnExactVolumeBetweenSpec : ChangeSpec := { name := "fnExactVolumeBetween", fn := fun _ => fun
  | [d1, d2, d3, d4] => { results := [.lit (.bool true)], args := [d1, d2, d3, d4] }
  | _ => none }
def fnExactVolumeBetweenRow : OpenClaim := { program := "ytkgkeohnnpkahaa", sum := "3487ec0ead24c8447631691dcce3ce4f2eba796351cbaaa8b812cae7d0260920", func := "loop.example/g00853/laws.FnExactVolumeBetween", spec := "fnExactVolumeBetween", apart := false }
def FnExactVolumeBetweenSaid : Prop := fnExactVolumeBetweenRow.holds Try.pinned (OpenSpec.ofChange fnExactVolumeBetweenSpec)

/-- ITS FALSE NEIGHBOUR: 'it returns false'. Refute it at one input. -/
def fnExactVolumeBetweenWrong : ChangeSpec := { name := "fnExactVolumeBetween", fn := fun _ => fun
  | [d1, d2, d3, d4] => { results := [.lit (.bool false)], args := [d1, d2, d3, d4] }
  | _ => none }
def FnExactVolumeBetweenWrongFalsely : Prop := fnExactVolumeBetweenRow.holds Try.pinned (OpenSpec.ofChange fnExactVolumeBetweenWrong)

/-- 'laws.FnExactStorageFor': WHATEVER THE INPUT: true; the input reads as it did. -/
def fnExactStorageForSpec : ChangeSpec := { name := "fnExactStorageFor", fn := fun _ => fun
  | [d1, d2] => { results := [.lit (.bool true)], args := [d1, d2] }
  | _ => none }
def fnExactStorageForRow : OpenClaim := { program := "ytkgkeohnnpkahaa", sum := "3487ec0ead24c8447631691dcce3ce4f2eba796351cbaaa8b812cae7d0260920", func := "loop.example/g00853/laws.FnExactStorageFor", spec := "fnExactStorageFor", apart := false }
def FnExactStorageForSaid : Prop := fnExactStorageForRow.holds Try.pinned (OpenSpec.ofChange fnExactStorageForSpec)

/-- ITS FALSE NEIGHBOUR: 'it returns false'. Refute it at one input. -/
def fnExactStorageForWrong : ChangeSpec := { name := "fnExactStorageFor", fn := fun _ => fun
  | [d1, d2] => { results := [.lit (.bool false)], args := [d1, d2] }
  | _ => none }
def FnExactStorageForWrongFalsely : Prop := fnExactStorageForRow.holds Try.pinned (OpenSpec.ofChange fnExactStorageForWrong)

/- THE SECOND FORM. 'bulk': how many values and letters a reading holds, each counted each time it is reached (what is shared counts as often as it is met; a slice's spare places count too). A statement '..UptoSaid' is the law's where the arguments, and the package variables that the reading takes, are together of bulk at most 1048576: NARROWER than '..Said'. Prove '..Said' where nothing that the law and all that it calls make is longer than what came in: it says more and counts as full. Else prove '..UptoSaid'. A law counts once. -/
mutual
def uptoBulk {H : Type} : DataW H → Nat
  | .lit (.string bytes) => bytes.length + 1
  | .lit _ => 1
  | .nil => 1
  | .ptr d => uptoBulk d + 1
  | .slice elems spare => uptoBulkAll elems + uptoBulkAll spare + 1
  | .agg parts => uptoBulkAll parts + 1
  | .iface _ d => uptoBulk d + 1
  | .map entries => uptoBulkEntries entries + 1
  | .held _ => 1
def uptoBulkAll {H : Type} : List (DataW H) → Nat
  | [] => 0
  | d :: r => uptoBulk d + uptoBulkAll r
def uptoBulkEntries {H : Type} : List (Lit × DataW H) → Nat
  | [] => 0
  | x :: r => uptoBulkEntry x + uptoBulkEntries r
def uptoBulkEntry {H : Type} : Lit × DataW H → Nat
  | (.string bytes, d) => bytes.length + uptoBulk d + 1
  | (_, d) => uptoBulk d + 1
 end
def uptoSmall : (H : Type) → List (DataW H) → Bool := fun _ ds => decide (uptoBulkAll ds ≤ 1048576)
def OpenSpec.upto (s : _root_.Go.ChangeSpec) : _root_.Go.OpenSpec := { _root_.Go.OpenSpec.ofChange s with cond := some uptoSmall }

/-- 'laws.FnProfiles', WHERE WHAT IT READS IS OF BULK AT MOST 1048576: true; the input reads as it did. -/
def fnProfilesUptoRow : OpenClaim := { program := "ytkgkeohnnpkahaa", sum := "3487ec0ead24c8447631691dcce3ce4f2eba796351cbaaa8b812cae7d0260920", func := "loop.example/g00853/laws.FnProfiles", spec := "fnProfiles", apart := false, narrowed := true }
def FnProfilesUptoSaid : Prop := fnProfilesUptoRow.holds Try.pinned (OpenSpec.upto fnProfilesSpec)

/-- 'laws.FnUses', WHERE WHAT IT READS IS OF BULK AT MOST 1048576: true; the input reads as it did. -/
def fnUsesUptoRow : OpenClaim := { program := "ytkgkeohnnpkahaa", sum := "3487ec0ead24c8447631691dcce3ce4f2eba796351cbaaa8b812cae7d0260920", func := "loop.example/g00853/laws.FnUses", spec := "fnUses", apart := false, narrowed := true }
def FnUsesUptoSaid : Prop := fnUsesUptoRow.holds Try.pinned (OpenSpec.upto fnUsesSpec)

/-- 'laws.FnExactIsValidProfile', WHERE WHAT IT READS IS OF BULK AT MOST 1048576: true; the input reads as it did. -/
def fnExactIsValidProfileUptoRow : OpenClaim := { program := "ytkgkeohnnpkahaa", sum := "3487ec0ead24c8447631691dcce3ce4f2eba796351cbaaa8b812cae7d0260920", func := "loop.example/g00853/laws.FnExactIsValidProfile", spec := "fnExactIsValidProfile", apart := false, narrowed := true }
def FnExactIsValidProfileUptoSaid : Prop := fnExactIsValidProfileUptoRow.holds Try.pinned (OpenSpec.upto fnExactIsValidProfileSpec)

/-- 'laws.FnExactFlatProfile', WHERE WHAT IT READS IS OF BULK AT MOST 1048576: true; the input reads as it did. -/
def fnExactFlatProfileUptoRow : OpenClaim := { program := "ytkgkeohnnpkahaa", sum := "3487ec0ead24c8447631691dcce3ce4f2eba796351cbaaa8b812cae7d0260920", func := "loop.example/g00853/laws.FnExactFlatProfile", spec := "fnExactFlatProfile", apart := false, narrowed := true }
def FnExactFlatProfileUptoSaid : Prop := fnExactFlatProfileUptoRow.holds Try.pinned (OpenSpec.upto fnExactFlatProfileSpec)

/-- 'laws.FnExactUseAt', WHERE WHAT IT READS IS OF BULK AT MOST 1048576: true; the input reads as it did. -/
def fnExactUseAtUptoRow : OpenClaim := { program := "ytkgkeohnnpkahaa", sum := "3487ec0ead24c8447631691dcce3ce4f2eba796351cbaaa8b812cae7d0260920", func := "loop.example/g00853/laws.FnExactUseAt", spec := "fnExactUseAt", apart := false, narrowed := true }
def FnExactUseAtUptoSaid : Prop := fnExactUseAtUptoRow.holds Try.pinned (OpenSpec.upto fnExactUseAtSpec)

/-- 'laws.FnExactPeakHour', WHERE WHAT IT READS IS OF BULK AT MOST 1048576: true; the input reads as it did. -/
def fnExactPeakHourUptoRow : OpenClaim := { program := "ytkgkeohnnpkahaa", sum := "3487ec0ead24c8447631691dcce3ce4f2eba796351cbaaa8b812cae7d0260920", func := "loop.example/g00853/laws.FnExactPeakHour", spec := "fnExactPeakHour", apart := false, narrowed := true }
def FnExactPeakHourUptoSaid : Prop := fnExactPeakHourUptoRow.holds Try.pinned (OpenSpec.upto fnExactPeakHourSpec)

/-- 'laws.FnExactQuietestHours', WHERE WHAT IT READS IS OF BULK AT MOST 1048576: true; the input reads as it did. -/
def fnExactQuietestHoursUptoRow : OpenClaim := { program := "ytkgkeohnnpkahaa", sum := "3487ec0ead24c8447631691dcce3ce4f2eba796351cbaaa8b812cae7d0260920", func := "loop.example/g00853/laws.FnExactQuietestHours", spec := "fnExactQuietestHours", apart := false, narrowed := true }
def FnExactQuietestHoursUptoSaid : Prop := fnExactQuietestHoursUptoRow.holds Try.pinned (OpenSpec.upto fnExactQuietestHoursSpec)

/-- 'laws.FnExactShiftProfile', WHERE WHAT IT READS IS OF BULK AT MOST 1048576: true; the input reads as it did. -/
def fnExactShiftProfileUptoRow : OpenClaim := { program := "ytkgkeohnnpkahaa", sum := "3487ec0ead24c8447631691dcce3ce4f2eba796351cbaaa8b812cae7d0260920", func := "loop.example/g00853/laws.FnExactShiftProfile", spec := "fnExactShiftProfile", apart := false, narrowed := true }
def FnExactShiftProfileUptoSaid : Prop := fnExactShiftProfileUptoRow.holds Try.pinned (OpenSpec.upto fnExactShiftProfileSpec)

/-- 'laws.FnExactMixProfiles', WHERE WHAT IT READS IS OF BULK AT MOST 1048576: true; the input reads as it did. -/
def fnExactMixProfilesUptoRow : OpenClaim := { program := "ytkgkeohnnpkahaa", sum := "3487ec0ead24c8447631691dcce3ce4f2eba796351cbaaa8b812cae7d0260920", func := "loop.example/g00853/laws.FnExactMixProfiles", spec := "fnExactMixProfiles", apart := false, narrowed := true }
def FnExactMixProfilesUptoSaid : Prop := fnExactMixProfilesUptoRow.holds Try.pinned (OpenSpec.upto fnExactMixProfilesSpec)

/-- 'laws.FnExactFlattenProfile', WHERE WHAT IT READS IS OF BULK AT MOST 1048576: true; the input reads as it did. -/
def fnExactFlattenProfileUptoRow : OpenClaim := { program := "ytkgkeohnnpkahaa", sum := "3487ec0ead24c8447631691dcce3ce4f2eba796351cbaaa8b812cae7d0260920", func := "loop.example/g00853/laws.FnExactFlattenProfile", spec := "fnExactFlattenProfile", apart := false, narrowed := true }
def FnExactFlattenProfileUptoSaid : Prop := fnExactFlattenProfileUptoRow.holds Try.pinned (OpenSpec.upto fnExactFlattenProfileSpec)

/-- 'laws.FnExactVolumeBetween', WHERE WHAT IT READS IS OF BULK AT MOST 1048576: true; the input reads as it did. -/
def fnExactVolumeBetweenUptoRow : OpenClaim := { program := "ytkgkeohnnpkahaa", sum := "3487ec0ead24c8447631691dcce3ce4f2eba796351cbaaa8b812cae7d0260920", func := "loop.example/g00853/laws.FnExactVolumeBetween", spec := "fnExactVolumeBetween", apart := false, narrowed := true }
def FnExactVolumeBetweenUptoSaid : Prop := fnExactVolumeBetweenUptoRow.holds Try.pinned (OpenSpec.upto fnExactVolumeBetweenSpec)

/-- 'laws.FnExactStorageFor', WHERE WHAT IT READS IS OF BULK AT MOST 1048576: true; the input reads as it did. -/
def fnExactStorageForUptoRow : OpenClaim := { program := "ytkgkeohnnpkahaa", sum := "3487ec0ead24c8447631691dcce3ce4f2eba796351cbaaa8b812cae7d0260920", func := "loop.example/g00853/laws.FnExactStorageFor", spec := "fnExactStorageFor", apart := false, narrowed := true }
def FnExactStorageForUptoSaid : Prop := fnExactStorageForUptoRow.holds Try.pinned (OpenSpec.upto fnExactStorageForSpec)

end Rows
end Go.Proofs.Ytkgkeohnnpkahaa
