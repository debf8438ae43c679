/- IsValidTariff: both sides. Conditions: each theorem's own premises. -/
import Derived.Test.YtidlpoambmeiiaaWalkTav
import Derived.Test.YtidlpoambmeiiaaTaGoodS
import Derived.Test.YtidlpoambmeiiaaTaGood
namespace Go.Proofs.Ytidlpoambmeiiaa.S14
open Go.RowKit P14

theorem law_tav (t0 : Ta) (A0 : Option Addr) (c0 : Nat) (w : World) (hx0 : CAt w A0 t0.bs) (hm0 : t0.bs.length ≤ maxLen) :
    Calls Try.prog 3 #[tv t0 A0 c0] w fun e w' => e = .returned (.bool true) ∧ Below w.heap.size w w' :=
  walkIsValidTariff t0 A0 c0 w hx0 hm0 (gB t0) (fun A0 c0 w h0 => svalid_any t0 A0 c0 w h0) (fun A0 c0 w h0 => valid_any t0 A0 c0 w h0)
end Go.Proofs.Ytidlpoambmeiiaa.S14
