/- The laws' helper on rules: contracts. Conditions: each theorem's own premises. -/
import Derived.Test.YtjfpimldiokpbaaZnKit
namespace Go.Proofs.Ytjfpimldiokpbaa.S12
open Go.RowKit P12

theorem torl_any (a b : Int) (w : World) : Calls Try.prog 15 #[rv a b] w fun e w' => e = .returned (rv a b) ∧ Below w.heap.size w w' := by
  go_enter Try.func15, Try.ntmps15
  go_wp2
  refine bodyPost_ret (v := rv a b) (by simp [results, Try.results15, go_sem]) rfl ⟨rfl, ?_⟩
  exact (((Below.refl _ _).alloc (Nat.le_refl _) _).alloc (by simp) _).alloc (by simp; omega) _
end Go.Proofs.Ytjfpimldiokpbaa.S12
