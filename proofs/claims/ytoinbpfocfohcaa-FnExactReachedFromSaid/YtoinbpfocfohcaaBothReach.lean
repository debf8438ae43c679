/- The law FnExactReachedFrom, walked at every network and node. Conditions: the network's pipes lie in memory, no more than a slice may hold. -/
import Derived.Test.YtoinbpfocfohcaaWalkReach
import Derived.Test.YtoinbpfocfohcaaReachThree
namespace Go.Proofs.Ytoinbpfocfohcaa.S2
open Go.RowKit P2

theorem law_reach (n : Int) (A : Option Addr) (cap : Nat) (ps : List Pp) (x : Int) (w : World) (h : PAt w A ps) (hm : ps.length ≤ maxLen) :
    Calls Try.prog 7 #[nv n A ps.length cap, .int .i64 x] w fun e w' => e = .returned (.bool true) ∧ Below w.heap.size w w' := by
  by_cases hv : nodeB n ps x = true
  · have hin := nodeB_of hv
    obtain ⟨N, rfl⟩ : ∃ N : Nat, n = N := ⟨n.toNat, by have := hin.1.1; omega⟩
    obtain ⟨X, rfl⟩ : ∃ X : Nat, x = X := ⟨x.toNat, by have := hin.2.1; omega⟩
    exact walkReachedFrom N A cap ps X w h hm (conL N ps X) true (by have := conL_len N ps X; have := hin.1.2.1; omega) (fun A cap w h => sreached_yes N X A cap ps w h hv) (fun A cap w h => reach_yes N X A cap ps w h hv)
  · rw [Bool.not_eq_true] at hv
    exact walkReachedFrom n A cap ps x w h hm [] false (by simp) (fun A cap w h => sreached_no n A cap ps x w h hm hv) (fun A cap w h => reach_no n A cap ps x w h hm hv)
end Go.Proofs.Ytoinbpfocfohcaa.S2
