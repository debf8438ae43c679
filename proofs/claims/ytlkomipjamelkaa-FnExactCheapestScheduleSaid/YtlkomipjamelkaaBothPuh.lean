/- CheapestSchedule: both sides. Conditions: each theorem's own premises. -/
import Derived.Test.YtlkomipjamelkaaWalkPuh
import Derived.Test.YtlkomipjamelkaaPuChS
namespace Go.Proofs.Ytlkomipjamelkaa.S13
open Go.RowKit P11 S11 P13

theorem chR_short (p : Pg) : (chR p).length ≤ 1000 := by
  cases h : chE p with
  | false => rw [(ch_no h).1]; simp
  | true =>
    rw [(ch_yes h).1, sch_len]
    unfold chE at h
    rw [Bool.and_eq_true] at h
    have := (pgB_iff.1 h.1).day.n1
    omega
theorem law_puh (p : Pg) (A : Option Addr) (c : Nat) (A2 : Option Addr) (c2 : Nat) (w : World) (hx : IAt w A p.xs) (hy : IAt w A2 p.ys) (hmx : p.xs.length ≤ maxLen) (hmy : p.ys.length ≤ maxLen) :
    Calls Try.prog 7 #[pv p A c A2 c2] w fun e w' => e = .returned (.bool true) ∧ Below w.heap.size w w' :=
  walkCheapestSchedule p A c A2 c2 w hx hy hmx hmy (chR p) (chR_short p) (chC p) (chE p) (fun A c A2 c2 w h => scheap_any p A c A2 c2 w h) (fun A c A2 c2 w h => cheap_any p A c A2 c2 w h)
end Go.Proofs.Ytlkomipjamelkaa.S13
