/- The law FnExactPipesAt, walked at every network and node. Conditions: the network's pipes lie in memory, no more than a slice may hold. -/
import Derived.Test.YtoinbpfocfohcaaWalkAt
import Derived.Test.YtoinbpfocfohcaaAtTwo
namespace Go.Proofs.Ytoinbpfocfohcaa.S2
open Go.RowKit P2

theorem atL_len (ps : List Pp) (x : Int) : (atL ps x).length ≤ ps.length := by unfold atL; rw [List.length_map]; exact List.length_filter_le _ _
theorem law_at (n : Int) (A : Option Addr) (cap : Nat) (ps : List Pp) (x : Int) (w : World) (h : PAt w A ps) (hm : ps.length ≤ maxLen) :
    Calls Try.prog 6 #[nv n A ps.length cap, .int .i64 x] w fun e w' => e = .returned (.bool true) ∧ Below w.heap.size w w' := by
  by_cases hv : nodeB n ps x = true
  · have hin := nodeB_of hv
    obtain ⟨N, rfl⟩ : ∃ N : Nat, n = N := ⟨n.toNat, by have := hin.1.1; omega⟩
    obtain ⟨X, rfl⟩ : ∃ X : Nat, x = X := ⟨x.toNat, by have := hin.2.1; omega⟩
    exact walkPipesAt N A cap ps X w h hm (atL ps X) true (by have := atL_len ps X; have := hin.1.2.2.1; omega) (fun A cap w h => sat_yes N X A cap ps w h hv) (fun A cap w h => at_yes N X A cap ps w h hv)
  · rw [Bool.not_eq_true] at hv
    exact walkPipesAt n A cap ps x w h hm [] false (by simp) (fun A cap w h => sat_no n A cap ps x w h hm hv) (fun A cap w h => at_no n A cap ps x w h hm hv)
end Go.Proofs.Ytoinbpfocfohcaa.S2
