/- The law FnExactSeriesHead on its two sides: contracts. Conditions: each theorem's own premises. -/
import Derived.Test.YtmehhojnefoedaaWalkSeriesHead
import Derived.Test.YtmehhojnefoedaaCvSer
import Derived.Test.YtmehhojnefoedaaCvSerS
namespace Go.Proofs.Ytmehhojnefoedaa.S7
open Go.RowKit P7
theorem law_series (A : Option Addr) (c : Nat) (l : List (List Cp)) (f : Int) (w : World) (h : SAt w A l) (hm : l.length ≤ maxLen) (hr : ∀ i, i < l.length → (rw_ l i).length ≤ maxLen) :
    Calls Try.prog 7 #[.slice A l.length c, .int .i64 f] w fun e w' => e = .returned (.bool true) ∧ Below w.heap.size w w' :=
  walkSeriesHead A c l f w h hm hr _ _ _ (fun A c w h hm => sseries_any A c l f w h hm) (fun A c w h hm => series_any A c l f w h hm)
end Go.Proofs.Ytmehhojnefoedaa.S7
