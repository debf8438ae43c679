/- The law FnExactFlowAt on its two sides: contracts. Conditions: each theorem's own premises. -/
import Derived.Test.YtmehhojnefoedaaWalkFlowAt
import Derived.Test.YtmehhojnefoedaaCvFlowS
namespace Go.Proofs.Ytmehhojnefoedaa.S7
open Go.RowKit P7
theorem law_flow (A : Option Addr) (c : Nat) (l : List Cp) (f : Int) (w : World) (h : CAt w A l) (hm : l.length ≤ maxLen) :
    Calls Try.prog 5 #[.slice A l.length c, .int .i64 f] w fun e w' => e = .returned (.bool true) ∧ Below w.heap.size w w' :=
  walkFlowAt A c l f w h hm (wA l f 0).1 (wA l f 0).2.1 (wA l f 0).2.2 (fun A c w h hm _ _ => sflow_any A c l f w h hm) (fun A c w h hm h1 h2 => flow_any A c l f w h hm h1 h2)
end Go.Proofs.Ytmehhojnefoedaa.S7
