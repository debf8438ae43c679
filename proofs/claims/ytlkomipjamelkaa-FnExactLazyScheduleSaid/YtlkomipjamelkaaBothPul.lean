/- LazySchedule: both sides. Conditions: each theorem's own premises. -/
import Derived.Test.YtlkomipjamelkaaWalkPul
import Derived.Test.YtlkomipjamelkaaPuLzI
namespace Go.Proofs.Ytlkomipjamelkaa.S13
open Go.RowKit P11 S11 P13

theorem lzR_short (p : Pg) : (lzR p).length ≤ 1000 := by
  cases h : chE p with
  | false => rw [lz_no h]; simp
  | true =>
    have h2 := h
    unfold chE at h2
    rw [Bool.and_eq_true] at h2
    exact lz_len p h2.1
theorem law_pul (p : Pg) (A : Option Addr) (c : Nat) (A2 : Option Addr) (c2 : Nat) (w : World) (hx : IAt w A p.xs) (hy : IAt w A2 p.ys) (hmx : p.xs.length ≤ maxLen) (hmy : p.ys.length ≤ maxLen) :
    Calls Try.prog 9 #[pv p A c A2 c2] w fun e w' => e = .returned (.bool true) ∧ Below w.heap.size w w' :=
  walkLazySchedule p A c A2 c2 w hx hy hmx hmy (lzR p) (lzR_short p) (chE p) (fun A c A2 c2 w h => slazy_any p A c A2 c2 w h) (fun A c A2 c2 w h => lazy_any p A c A2 c2 w h)
end Go.Proofs.Ytlkomipjamelkaa.S13
