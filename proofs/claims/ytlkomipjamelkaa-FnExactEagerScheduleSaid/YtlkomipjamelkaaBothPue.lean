/- EagerSchedule: both sides. Conditions: each theorem's own premises. -/
import Derived.Test.YtlkomipjamelkaaWalkPue
import Derived.Test.YtlkomipjamelkaaPuEgI
import Derived.Test.YtlkomipjamelkaaPuEgS
namespace Go.Proofs.Ytlkomipjamelkaa.S13
open Go.RowKit P11 S11 P13

theorem egR_short (p : Pg) : (egR p).length ≤ 1000 := by
  cases h : egB p with
  | false => rw [egR_no h]; simp
  | true =>
    rw [egR_yes h, egL_len]
    have := (gs_all (show gsB p (egL p p.xs.length) = true from h)).1.day.n1
    omega
theorem law_pue (p : Pg) (A : Option Addr) (c : Nat) (A2 : Option Addr) (c2 : Nat) (w : World) (hx : IAt w A p.xs) (hy : IAt w A2 p.ys) (hmx : p.xs.length ≤ maxLen) (hmy : p.ys.length ≤ maxLen) :
    Calls Try.prog 8 #[pv p A c A2 c2] w fun e w' => e = .returned (.bool true) ∧ Below w.heap.size w w' :=
  walkEagerSchedule p A c A2 c2 w hx hy hmx hmy (egR p) (egR_short p) (egB p) (fun A c A2 c2 w h => seager_any p A c A2 c2 w h) (fun A c A2 c2 w h => eager_any p A c A2 c2 w h)
end Go.Proofs.Ytlkomipjamelkaa.S13
