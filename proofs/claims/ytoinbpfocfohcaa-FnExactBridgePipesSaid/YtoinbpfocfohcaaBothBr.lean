/- The law FnExactBridgePipes, walked at every network. Conditions: the network's pipes lie in memory, no more than a slice may hold. -/
import Derived.Test.YtoinbpfocfohcaaWalkBr
import Derived.Test.YtoinbpfocfohcaaBrTwo
namespace Go.Proofs.Ytoinbpfocfohcaa.S2
open Go.RowKit P2

theorem law_br (n : Int) (A : Option Addr) (cap : Nat) (ps : List Pp) (w : World) (h : PAt w A ps) (hm : ps.length ≤ maxLen) :
    Calls Try.prog 9 #[nv n A ps.length cap] w fun e w' => e = .returned (.bool true) ∧ Below w.heap.size w w' := by
  by_cases hv : goodB n ps = true
  · have hin := good_of hv
    obtain ⟨N, rfl⟩ : ∃ N : Nat, n = N := ⟨n.toNat, by have := hin.1; omega⟩
    exact walkBridgePipes N A cap ps w h hm (brTo ps ps.length) true (by have := brTo_len ps ps.length; have := hin.2.2.1; omega) (fun A cap w h hc => (sbr_yes N A cap ps w h hm hv hc).mono fun _ _ h => h.any) (fun A cap w h hc => br_yes N A cap ps w h hm hv hc)
  · rw [Bool.not_eq_true] at hv
    exact walkBridgePipes n A cap ps w h hm [] false (by simp) (fun A cap w h _ => (sbr_no n A cap ps w h hm hv).mono fun _ _ h => h.any) (fun A cap w h _ => br_no n A cap ps w h hm hv)
end Go.Proofs.Ytoinbpfocfohcaa.S2
