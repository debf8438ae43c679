/- IsGoodSchedule: both sides. Conditions: each theorem's own premises. -/
import Derived.Test.YtlkomipjamelkaaWalkPug
import Derived.Test.YtlkomipjamelkaaPuIg
namespace Go.Proofs.Ytlkomipjamelkaa.S13
open Go.RowKit P11 S11 P13

theorem law_pug (p : Pg) (A : Option Addr) (c : Nat) (A2 : Option Addr) (c2 : Nat) (AS : Option Addr) (cs : Nat) (vs : List Int) (w : World) (hx : IAt w A p.xs) (hy : IAt w A2 p.ys) (hmx : p.xs.length ≤ maxLen) (hmy : p.ys.length ≤ maxLen) (hv : IAt w AS vs) (hmv : vs.length ≤ maxLen) :
    Calls Try.prog 4 #[pv p A c A2 c2, .slice AS vs.length cs] w fun e w' => e = .returned (.bool true) ∧ Below w.heap.size w w' :=
  walkIsGoodSchedule p A c A2 c2 AS cs vs w hx hy hmx hmy hv hmv (gsB p vs) (fun A c A2 c2 AS cs w h hv hl => sigs_any p A c A2 c2 AS cs vs w h hv hl) (fun A c A2 c2 AS cs w h hv hl => igs_any p A c A2 c2 AS cs vs w h hv hl)
end Go.Proofs.Ytlkomipjamelkaa.S13
