/- The law FnExactParallelFlow on its two sides: contracts. Conditions: each theorem's own premises. -/
import Derived.Test.YtmehhojnefoedaaWalkParallelFlow
import Derived.Test.YtmehhojnefoedaaCvPar
import Derived.Test.YtmehhojnefoedaaCvParS
namespace Go.Proofs.Ytmehhojnefoedaa.S7
open Go.RowKit P7
theorem law_par (A : Option Addr) (c : Nat) (l : List (List Cp)) (f : Int) (w : World) (h : SAt w A l) (hm : l.length ≤ maxLen) (hr : ∀ i, i < l.length → (rw_ l i).length ≤ maxLen) :
    Calls Try.prog 6 #[.slice A l.length c, .int .i64 f] w fun e w' => e = .returned (.bool true) ∧ Below w.heap.size w w' := by
  cases hv : vB f with
  | false => exact walkParallelFlow A c l f w h hm hr 0 0 false (fun A c w _ _ => spar_no A c l f w hv) (fun A c w _ _ => par_no A c l f w hv)
  | true => exact walkParallelFlow A c l f w h hm hr _ _ _ (fun A c w h hm => spar_any A c l f w h hm hv) (fun A c w h hm => par_any A c l f w h hm hv)
end Go.Proofs.Ytmehhojnefoedaa.S7
