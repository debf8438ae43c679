/- MeanPrice: both sides. Conditions: each theorem's own premises. -/
import Derived.Test.YtidlpoambmeiiaaWalkTam
import Derived.Test.YtidlpoambmeiiaaTaMe
namespace Go.Proofs.Ytidlpoambmeiiaa.S14
open Go.RowKit P14

theorem law_tam (t0 : Ta) (A0 : Option Addr) (c0 : Nat) (x1 : Int) (w : World) (hx0 : CAt w A0 t0.bs) (hm0 : t0.bs.length ≤ maxLen) :
    Calls Try.prog 7 #[tv t0 A0 c0, .int .i64 x1] w fun e w' => e = .returned (.bool true) ∧ Below w.heap.size w w' :=
  walkMeanPrice t0 A0 c0 x1 w hx0 hm0 (meN t0 x1) (meD t0 x1) (meV t0 x1) (fun A0 c0 w h0 => smean_any t0 A0 c0 x1 w h0) (fun A0 c0 w h0 => mean_any t0 A0 c0 x1 w h0)
end Go.Proofs.Ytidlpoambmeiiaa.S14
