/- The laws' helpers on tanks: copies and comparisons: contracts. Conditions: each theorem's own premises. -/
import Derived.Test.YtikppgbipdflbaaDoorTkRun
import Derived.Deep.DeepCutAuto
namespace Go.Proofs.YtikppgbipdflbaaDoor.S11
open Go.RowKit P11

theorem totk_any (L a b : Int) (w : World) : Calls Tryd.prog 8 #[tv L a b] w fun e w' => e = .returned (tv L a b) ∧ Below w.heap.size w w' := by
  go_enter Tryd.func8, Tryd.ntmps8
  go_wp2
  refine bodyPost_ret (v := tv L a b) (by simp [results, Tryd.results8, go_sem]) rfl ⟨rfl, ?_⟩
  exact (((Below.refl _ _).alloc (Nat.le_refl _) _).alloc (by simp) _).alloc (by simp; omega) _
end Go.Proofs.YtikppgbipdflbaaDoor.S11
