/- The law FnExactIsValidValves on its two sides: contracts. Conditions: each theorem's own premises. -/
import Derived.Test.YtmkpgkhfbhdhgaaWalkIsV
import Derived.Test.YtmkpgkhfbhdhgaaValIs
import Derived.Test.YtmkpgkhfbhdhgaaSValIs
namespace Go.Proofs.Ytmkpgkhfbhdhgaa.S2
open Go.RowKit P2 P4
theorem law_isv (n : Int) (A : Option Addr) (cap : Nat) (ps : List Pp) (AV : Option Addr) (capv : Nat) (vs : List Vv) (w : World) (h : PAt w A ps) (hm : ps.length ≤ maxLen) (hv : VAt w AV vs) (hmv : vs.length ≤ maxLen) :
    Calls Try.prog 3 #[nv n A ps.length cap, .slice AV vs.length capv] w fun e w' => e = .returned (.bool true) ∧ Below w.heap.size w w' :=
  walkIsValidValves n A cap ps AV capv vs w h hm hv hmv (goodV n ps vs)
    (fun A cap AV capv w h hv _ _ => svalidv_any n A cap ps AV capv vs w h hm hv hmv)
    (fun A cap AV capv w h hv hc hcm => validv_any n A cap ps AV capv vs w h hm hv hmv hc hcm)
end Go.Proofs.Ytmkpgkhfbhdhgaa.S2
