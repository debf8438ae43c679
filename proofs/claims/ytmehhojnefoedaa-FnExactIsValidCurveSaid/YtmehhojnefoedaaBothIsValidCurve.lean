/- The law FnExactIsValidCurve on its two sides: contracts. Conditions: each theorem's own premises. -/
import Derived.Test.YtmehhojnefoedaaWalkIsValidCurve
import Derived.Test.YtmehhojnefoedaaCvGoodS
namespace Go.Proofs.Ytmehhojnefoedaa.S7
open Go.RowKit P7
theorem law_valid (A : Option Addr) (c : Nat) (l : List Cp) (w : World) (h : CAt w A l) (hm : l.length ≤ maxLen) :
    Calls Try.prog 3 #[.slice A l.length c] w fun e w' => e = .returned (.bool true) ∧ Below w.heap.size w w' :=
  walkIsValidCurve A c l w h hm (gB l) (fun A c w h hm _ _ => svalid_any A c l w h hm) (fun A c w h hm _ _ => valid_any A c l w h hm)
end Go.Proofs.Ytmehhojnefoedaa.S7
