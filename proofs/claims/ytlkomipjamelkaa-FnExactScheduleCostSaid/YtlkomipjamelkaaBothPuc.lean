/- ScheduleCost: both sides. Conditions: each theorem's own premises. -/
import Derived.Test.YtlkomipjamelkaaWalkPuc
import Derived.Test.YtlkomipjamelkaaPuSc
namespace Go.Proofs.Ytlkomipjamelkaa.S13
open Go.RowKit P11 S11 P13

theorem law_puc (p : Pg) (A : Option Addr) (c : Nat) (A2 : Option Addr) (c2 : Nat) (AS : Option Addr) (cs : Nat) (vs : List Int) (w : World) (hx : IAt w A p.xs) (hy : IAt w A2 p.ys) (hmx : p.xs.length ≤ maxLen) (hmy : p.ys.length ≤ maxLen) (hv : IAt w AS vs) (hmv : vs.length ≤ maxLen) :
    Calls Try.prog 5 #[pv p A c A2 c2, .slice AS vs.length cs] w fun e w' => e = .returned (.bool true) ∧ Below w.heap.size w w' :=
  walkScheduleCost p A c A2 c2 AS cs vs w hx hy hmx hmy hv hmv (scC p vs) (gsB p vs) (fun A c A2 c2 AS cs w h hv hl => sscost_any p A c A2 c2 AS cs vs w h hv hl) (fun A c A2 c2 AS cs w h hv hl => scost_any p A c A2 c2 AS cs vs w h hv hl)
end Go.Proofs.Ytlkomipjamelkaa.S13
