/- CostOf: both sides. Conditions: each theorem's own premises. -/
import Derived.Test.YtidlpoambmeiiaaWalkTac
import Derived.Test.YtidlpoambmeiiaaTaSplS
import Derived.Test.YtidlpoambmeiiaaTaSpl
namespace Go.Proofs.Ytidlpoambmeiiaa.S14
open Go.RowKit P14

theorem law_tac (t0 : Ta) (A0 : Option Addr) (c0 : Nat) (x1 : Int) (w : World) (hx0 : CAt w A0 t0.bs) (hm0 : t0.bs.length ≤ maxLen) :
    Calls Try.prog 4 #[tv t0 A0 c0, .int .i64 x1] w fun e w' => e = .returned (.bool true) ∧ Below w.heap.size w w' :=
  walkCostOf t0 A0 c0 x1 w hx0 hm0 (coR t0 x1) (okV t0 x1) (fun A0 c0 w h0 => scostof_any t0 A0 c0 x1 w h0) (fun A0 c0 w h0 => cost_any t0 A0 c0 x1 w h0)
end Go.Proofs.Ytidlpoambmeiiaa.S14
