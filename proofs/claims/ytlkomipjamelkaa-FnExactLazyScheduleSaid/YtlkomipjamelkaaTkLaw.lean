/- The laws' helpers on tanks: copies and comparisons: contracts. Conditions: each theorem's own premises. -/
import Derived.Test.YtlkomipjamelkaaTkRun
import Derived.Deep.DeepCutAuto
namespace Go.Proofs.Ytlkomipjamelkaa.S11
open Go.RowKit P11

theorem totk_any (L a b : Int) (w : World) : Calls Try.prog 37 #[tv L a b] w fun e w' => e = .returned (tv L a b) ∧ Below w.heap.size w w' := by
  go_enter Try.func37, Try.ntmps37
  go_wp2
  refine bodyPost_ret (v := tv L a b) (by simp [results, Try.results37, go_sem]) rfl ⟨rfl, ?_⟩
  exact (((Below.refl _ _).alloc (Nat.le_refl _) _).alloc (by simp) _).alloc (by simp; omega) _
theorem eqtk_same (L a b : Int) (w : World) : Calls Try.prog 40 #[tv L a b, tv L a b] w fun e w' => e = .returned (.bool true) ∧ Below w.heap.size w w' := by
  go_enter Try.func40, Try.ntmps40
  go_wp2
  go_ret
  exact ⟨rfl, two_below w _ _⟩
end Go.Proofs.Ytlkomipjamelkaa.S11
