/- CheaperFrom: both sides. Conditions: each theorem's own premises. -/
import Derived.Test.YtidlpoambmeiiaaWalkTah
import Derived.Test.YtidlpoambmeiiaaTaChS
import Derived.Test.YtidlpoambmeiiaaTaCh
namespace Go.Proofs.Ytidlpoambmeiiaa.S14
open Go.RowKit P14

theorem law_tah (t0 : Ta) (A0 : Option Addr) (c0 : Nat) (t1 : Ta) (A1 : Option Addr) (c1 : Nat) (w : World) (hx0 : CAt w A0 t0.bs) (hm0 : t0.bs.length ≤ maxLen) (hx1 : CAt w A1 t1.bs) (hm1 : t1.bs.length ≤ maxLen) :
    Calls Try.prog 9 #[tv t0 A0 c0, tv t1 A1 c1] w fun e w' => e = .returned (.bool true) ∧ Below w.heap.size w w' :=
  walkCheaperFrom t0 A0 c0 t1 A1 c1 w hx0 hm0 hx1 hm1 (cfR t0 t1) (cfB t0 t1) (fun A0 c0 A1 c1 w h0 h1 => scheap_any t0 t1 A0 c0 A1 c1 w h0 h1) (fun A0 c0 A1 c1 w h0 h1 => cheap_any t0 t1 A0 c0 A1 c1 w h0 h1)
end Go.Proofs.Ytidlpoambmeiiaa.S14
