/- The law FnExactHeadAt on its two sides: contracts. Conditions: each theorem's own premises. -/
import Derived.Test.YtmehhojnefoedaaWalkHeadAt
import Derived.Test.YtmehhojnefoedaaCvHeadS
namespace Go.Proofs.Ytmehhojnefoedaa.S7
open Go.RowKit P7
theorem law_head (A : Option Addr) (c : Nat) (l : List Cp) (f : Int) (w : World) (h : CAt w A l) (hm : l.length ≤ maxLen) :
    Calls Try.prog 4 #[.slice A l.length c, .int .i64 f] w fun e w' => e = .returned (.bool true) ∧ Below w.heap.size w w' :=
  walkHeadAt A c l f w h hm (hA l f).1 (hA l f).2.1 (hA l f).2.2 (fun A c w h hm _ _ => shead_any A c l f w h hm) (fun A c w h hm h1 h2 => head_any A c l f w h hm h1 h2)
end Go.Proofs.Ytmehhojnefoedaa.S7
