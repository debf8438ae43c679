/- The law FnExactIsTreeNetwork on its two sides: contracts. Conditions: each theorem's own premises. -/
import Derived.Test.YtipnecmgpfmjeaaWalkItn
import Derived.Test.YtipnecmgpfmjeaaTrS
namespace Go.Proofs.Ytipnecmgpfmjeaa.S2
open Go.RowKit P2
theorem law_itn (n : Int) (A : Option Addr) (cap : Nat) (ps : List Pp) (w : World) (h : PAt w A ps) (hm : ps.length ≤ maxLen) :
    Calls Try.prog 5 #[nv n A ps.length cap] w fun e w' => e = .returned (.bool true) ∧ Below w.heap.size w w' :=
  walkIsTreeNetwork n A cap ps w h hm (isTA n ps).1 (isTA n ps).2 (fun A c w h _ _ => sitn_any n A c ps w h hm) (fun A c w h _ _ => itn_any n A c ps w h hm)
end Go.Proofs.Ytipnecmgpfmjeaa.S2
