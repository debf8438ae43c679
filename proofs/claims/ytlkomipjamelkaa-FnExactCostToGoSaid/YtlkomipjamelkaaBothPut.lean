/- CostToGo: both sides. Conditions: each theorem's own premises. -/
import Derived.Test.YtlkomipjamelkaaWalkPut
import Derived.Test.YtlkomipjamelkaaPuCtgS
namespace Go.Proofs.Ytlkomipjamelkaa.S13
open Go.RowKit P11 S11 P13

theorem law_put (p : Pg) (A : Option Addr) (c : Nat) (A2 : Option Addr) (c2 : Nat) (hr lv : Int) (w : World) (hx : IAt w A p.xs) (hy : IAt w A2 p.ys) (hmx : p.xs.length ≤ maxLen) (hmy : p.ys.length ≤ maxLen) :
    Calls Try.prog 6 #[pv p A c A2 c2, .int .i64 hr, .int .i64 lv] w fun e w' => e = .returned (.bool true) ∧ Below w.heap.size w w' :=
  walkCostToGo p A c A2 c2 hr lv w hx hy hmx hmy (ctg p hr lv).cost (ctg p hr lv).ex (fun A c A2 c2 w h => sctg_any p A c A2 c2 hr lv w h) (fun A c A2 c2 w h => ctgi_any p A c A2 c2 hr lv w h)
end Go.Proofs.Ytlkomipjamelkaa.S13
