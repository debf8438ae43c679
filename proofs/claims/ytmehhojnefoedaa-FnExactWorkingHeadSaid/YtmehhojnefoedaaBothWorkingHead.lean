/- The law FnExactWorkingHead on its two sides: contracts. Conditions: each theorem's own premises. -/
import Derived.Test.YtmehhojnefoedaaWalkWorkingHead
import Derived.Test.YtmehhojnefoedaaCvWH
namespace Go.Proofs.Ytmehhojnefoedaa.S7
open Go.RowKit P7
theorem law_whead (A : Option Addr) (c : Nat) (l : List Cp) (f s : Int) (w : World) (h : CAt w A l) (hm : l.length ≤ maxLen) :
    Calls Try.prog 9 #[.slice A l.length c, .int .i64 f, .int .i64 s] w fun e w' => e = .returned (.bool true) ∧ Below w.heap.size w w' :=
  walkWorkingHead A c l f s w h hm (whA l f s).1 (whA l f s).2.1 (whA l f s).2.2 (fun A c w h hm _ _ => swhead_any A c l f s w h hm) (fun A c w h hm h1 h2 => whead_any A c l f s w h hm h1 h2)
end Go.Proofs.Ytmehhojnefoedaa.S7
