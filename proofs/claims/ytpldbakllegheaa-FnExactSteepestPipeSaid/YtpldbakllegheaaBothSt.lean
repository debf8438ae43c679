/- The law FnExactSteepestPipe on its two sides: contracts. Conditions: each theorem's own premises. -/
import Derived.Test.YtpldbakllegheaaWalkSt
import Derived.Test.YtpldbakllegheaaStS
namespace Go.Proofs.Ytpldbakllegheaa.S2
open Go.RowKit P2
theorem law_st (n : Int) (A : Option Addr) (cap : Nat) (ps : List Pp) (AC : Option Addr) (cc : Nat) (cu : List Int) (w : World) (h : PAt w A ps) (hm : ps.length ≤ maxLen) (hc : IAt w AC cu) (hmc : cu.length ≤ maxLen) :
    Calls Try.prog 10 #[nv n A ps.length cap, .slice AC cu.length cc] w fun e w' => e = .returned (.bool true) ∧ Below w.heap.size w w' := by
  by_cases hv : floB n ps cu = true ∧ 0 < cu.length
  · exact walkSteepestPipe n A cap ps AC cc cu w h hm hc hmc _ _ true (fun A c AC cc w h hl _ hc hcl => sst_yes n A c ps AC cc cu w h hm hc hcl hv.1 hv.2) (fun A c AC cc w h hl _ hc hcl => st_yes n A c ps AC cc cu w h hm hc hcl hv.1 hv.2)
  · have hv2 : floB n ps cu = false ∨ cu.length = 0 := by
      cases hf : floB n ps cu with
      | false => exact .inl rfl
      | true => exact .inr (by have : ¬ 0 < cu.length := fun h => hv ⟨hf, h⟩; omega)
    exact walkSteepestPipe n A cap ps AC cc cu w h hm hc hmc 0 0 false (fun A c AC cc w h hl _ hc hcl => sst_no n A c ps AC cc cu w h hm hc hcl hv2) (fun A c AC cc w h hl _ hc hcl => st_no n A c ps AC cc cu w h hm hc hcl hv2)
end Go.Proofs.Ytpldbakllegheaa.S2
