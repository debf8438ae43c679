/- The law FnExactSupplyOf on its two sides: contracts. Conditions: each theorem's own premises. -/
import Derived.Test.YtipnecmgpfmjeaaWalkSup
import Derived.Test.YtipnecmgpfmjeaaSup
namespace Go.Proofs.Ytipnecmgpfmjeaa.S2
open Go.RowKit P2
theorem law_sup (n : Int) (A : Option Addr) (cap : Nat) (ps : List Pp) (AC : Option Addr) (cc : Nat) (cu : List Int) (w : World) (h : PAt w A ps) (hm : ps.length ≤ maxLen) (hc : IAt w AC cu) (hmc : cu.length ≤ maxLen) :
    Calls Try.prog 13 #[nv n A ps.length cap, .slice AC cu.length cc] w fun e w' => e = .returned (.bool true) ∧ Below w.heap.size w w' := by
  cases hv : demB n ps cu with
  | false => exact walkSupplyOf n A cap ps AC cc cu w h hm hc hmc 0 false (fun A c AC cc w h hl _ hc hcl => ssup_no n A c ps AC cc cu w h hm hc hcl hv) (fun A c AC cc w h hl _ hc hcl => sup_no n A c ps AC cc cu w h hm hc hcl hv)
  | true => exact walkSupplyOf n A cap ps AC cc cu w h hm hc hmc (sumL cu) true (fun A c AC cc w h hl _ hc hcl => ssup_yes n A c ps AC cc cu w h hm hc hcl hv) (fun A c AC cc w h hl _ hc hcl => sup_yes n A c ps AC cc cu w h hm hc hcl hv)
end Go.Proofs.Ytipnecmgpfmjeaa.S2
