/- IsValidPumping: both sides. Conditions: each theorem's own premises. -/
import Derived.Test.YtlkomipjamelkaaWalkPuv
import Derived.Test.YtlkomipjamelkaaPuGood
namespace Go.Proofs.Ytlkomipjamelkaa.S13
open Go.RowKit P11 S11 P13

theorem law_puv (p : Pg) (A : Option Addr) (c : Nat) (A2 : Option Addr) (c2 : Nat) (w : World) (hx : IAt w A p.xs) (hy : IAt w A2 p.ys) (hmx : p.xs.length ≤ maxLen) (hmy : p.ys.length ≤ maxLen) :
    Calls Try.prog 3 #[pv p A c A2 c2] w fun e w' => e = .returned (.bool true) ∧ Below w.heap.size w w' :=
  walkIsValidPumping p A c A2 c2 w hx hy hmx hmy (pgB p) (fun A c A2 c2 w h => sivp_any p A c A2 c2 w h) (fun A c A2 c2 w h => ivp_any p A c A2 c2 w h)
end Go.Proofs.Ytlkomipjamelkaa.S13
