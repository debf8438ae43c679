/- IsProgressive: both sides. Conditions: each theorem's own premises. -/
import Derived.Test.YtidlpoambmeiiaaWalkTap
import Derived.Test.YtidlpoambmeiiaaTaPr
namespace Go.Proofs.Ytidlpoambmeiiaa.S14
open Go.RowKit P14

theorem law_tap (t0 : Ta) (A0 : Option Addr) (c0 : Nat) (w : World) (hx0 : CAt w A0 t0.bs) (hm0 : t0.bs.length ≤ maxLen) :
    Calls Try.prog 8 #[tv t0 A0 c0] w fun e w' => e = .returned (.bool true) ∧ Below w.heap.size w w' :=
  walkIsProgressive t0 A0 c0 w hx0 hm0 (pgR t0) (gB t0) (fun A0 c0 w h0 => sprog_any t0 A0 c0 w h0) (fun A0 c0 w h0 => prog_any t0 A0 c0 w h0)
end Go.Proofs.Ytidlpoambmeiiaa.S14
