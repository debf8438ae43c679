/- A law's argument that is a network, opened to its cells. Conditions: each theorem's own premises. -/
import Derived.Test.YtlkomipjamelkabGoodOne
import Derived.Lib.SmallJoins
import Derived.Deep.Slices
import Derived.Deep.Fields
import Derived.ChangeSame
import Derived.OpenShut
namespace Go.Proofs.Ytlkomipjamelkab.S2
open Go.RowKit Go.ChangeShapes Go.WideShapes Go.Deep Go.Joins P2

section
variable {H : Type} {enc : TypeId × Value → H} {w : World} {spare : Nat → Bool}
theorem intsOne : Try.prog.cellsOf 3 = 1 := by kernel_rfl

theorem add_plus (b off i : Nat) : (⟨b, off, none⟩ : Addr).add i = ⟨b, off + i, none⟩ := by unfold Addr.add; split <;> simp_all


set_option maxRecDepth 100000 in
theorem int_open {r : Reach} {b0 : Nat} {v : Value} {d : DataW H} {p : List MemPlace} (hv : Value.okWide Try.prog w r b0 3 v) (h : DataW.Trod enc Try.prog w 0 (fun _ => true) true 3 v d p) : ∃ n : Int, v = .int .i64 n ∧ -9223372036854775808 ≤ n ∧ n ≤ 9223372036854775807 := by
  obtain ⟨n, hn, _, _, hw⟩ := open_int Try.underlying3 hv h
  refine ⟨n, hn, ?_⟩
  have e1 : IntKind.i64.min = -9223372036854775808 := rfl
  have e2 : IntKind.i64.max = 9223372036854775807 := rfl
  simpa [Lit.wf, e1, e2] using hw
end
end Go.Proofs.Ytlkomipjamelkab.S2
