/- The law FnExactIsValidProfile on its two sides: contracts. Conditions: each theorem's own premises. -/
import Derived.Test.YtkgkeohnnpkahaaWalkIsValidProfile
namespace Go.Proofs.Ytkgkeohnnpkahaa.S6
open Go.RowKit P6
theorem law_vld (A : Option Addr) (c : Nat) (l : List Int) (w : World) (h : IAt w A l) (hm : l.length ≤ maxLen) :
    Calls Try.prog 5 #[dv A l.length c] w fun e w' => e = .returned (.bool true) ∧ Below w.heap.size w w' :=
  walkIsValidProfile A c l w h hm (gdB l) (fun A c w h hm => svalid_any A c l w h hm) (fun A c w h hm => valid_any A c l w h hm)
end Go.Proofs.Ytkgkeohnnpkahaa.S6
