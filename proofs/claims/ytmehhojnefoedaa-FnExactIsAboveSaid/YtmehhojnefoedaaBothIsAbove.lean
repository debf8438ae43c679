/- The law FnExactIsAbove on its two sides: contracts. Conditions: each theorem's own premises. -/
import Derived.Test.YtmehhojnefoedaaWalkIsAbove
import Derived.Test.YtmehhojnefoedaaCvAbvI
import Derived.Test.YtmehhojnefoedaaCvAbvS
namespace Go.Proofs.Ytmehhojnefoedaa.S7
open Go.RowKit P7
theorem law_above (A : Option Addr) (c : Nat) (l : List Cp) (A2 : Option Addr) (c2 : Nat) (l2 : List Cp) (w : World) (h : CAt w A l) (hm : l.length ≤ maxLen) (h2 : CAt w A2 l2) (hm2 : l2.length ≤ maxLen) :
    Calls Try.prog 11 #[.slice A l.length c, .slice A2 l2.length c2] w fun e w' => e = .returned (.bool true) ∧ Below w.heap.size w w' :=
  walkIsAbove A c l A2 c2 l2 w h hm h2 hm2 (abA l l2).1 (abA l l2).2 (fun A c A2 c2 w h hm _ _ h2 hm2 _ _ => sabove_any A A2 c c2 l l2 w h hm h2 hm2) (fun A c A2 c2 w h hm h1 h9 h2 hm2 k1 k9 => above_any A A2 c c2 l l2 w h hm h1 h9 h2 hm2 k1 k9)
end Go.Proofs.Ytmehhojnefoedaa.S7
