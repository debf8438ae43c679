/- The law FnExactIsRing on its two sides: contracts. Conditions: each theorem's own premises. -/
import Derived.Test.YtgjogjmfpbinfaaWalkIrg
import Derived.Test.YtgjogjmfpbinfaaRgI
namespace Go.Proofs.Ytgjogjmfpbinfaa.S2
open Go.RowKit P2
theorem law_irg (n : Int) (A : Option Addr) (cap : Nat) (ps : List Pp) (w : World) (h : PAt w A ps) (hm : ps.length ≤ maxLen) :
    Calls Try.prog 3 #[nv n A ps.length cap] w fun e w' => e = .returned (.bool true) ∧ Below w.heap.size w w' :=
  walkIsRing n A cap ps w h hm (isRA n ps).1 (isRA n ps).2 (fun A c w h _ _ => sirg_any n A c ps w h (by unfold maxLen; omega)) (fun A c w h _ _ => irg_any n A c ps w h (by unfold maxLen; omega))
end Go.Proofs.Ytgjogjmfpbinfaa.S2
