/- The law FnExactSplitEnergy on its two sides: contracts. Conditions: each theorem's own premises. -/
import Derived.Test.YtgjogjmfpbinfaaWalkSpe
import Derived.Test.YtgjogjmfpbinfaaSfS
namespace Go.Proofs.Ytgjogjmfpbinfaa.S2
open Go.RowKit P2
theorem law_spe (A0 : Option Addr) (c0 : Nat) (ss : List Int) (A1 : Option Addr) (c1 : Nat) (qs : List Int) (w : World) (h0 : IAt w A0 ss) (hm0 : ss.length ≤ maxLen) (h1 : IAt w A1 qs) (hm1 : qs.length ≤ maxLen) :
    Calls Try.prog 9 #[.slice A0 ss.length c0, .slice A1 qs.length c1] w fun e w' => e = .returned (.bool true) ∧ Below w.heap.size w w' := by
  cases hv : prtB ss qs with
  | true =>
    obtain ⟨g1, g2, g3⟩ := prtB_of hv
    exact walkSplitEnergy A0 c0 ss A1 c1 qs w h0 hm0 h1 hm1 (sumL (peL ss qs)) true (fun A0 c0 A1 c1 w h0 _ h1 _ => sse_any A0 c0 ss A1 c1 qs (sumL (peL ss qs), true) w h0 h1 g1 g2 (by rw [if_pos g3])) (fun A0 c0 A1 c1 w h0 _ h1 _ => se_yes A0 c0 ss A1 c1 qs w h0 h1 hv)
  | false =>
    by_cases hx : szsB ss = true ∧ qs.length = ss.length
    · have g3 : ¬ allR 0 60 qs = true := fun h => by
        have : prtB ss qs = true := by simp [prtB, amtB, hx.1, hx.2, h]
        rw [hv] at this; cases this
      exact walkSplitEnergy A0 c0 ss A1 c1 qs w h0 hm0 h1 hm1 0 false (fun A0 c0 A1 c1 w h0 _ h1 _ => sse_any A0 c0 ss A1 c1 qs (0, false) w h0 h1 hx.1 hx.2 (by rw [if_neg g3])) (fun A0 c0 A1 c1 w h0 hl h1 hdl => se_no A0 c0 ss A1 c1 qs w h0 hl h1 hdl hv)
    · have hn : szsB ss = false ∨ qs.length ≠ ss.length := by
        cases h : szsB ss with
        | false => exact .inl rfl
        | true => exact .inr fun e => hx ⟨h, e⟩
      exact walkSplitEnergy A0 c0 ss A1 c1 qs w h0 hm0 h1 hm1 0 false (fun A0 c0 A1 c1 w h0 hl h1 _ => sse_no1 A0 c0 ss A1 c1 qs w h0 hl hn) (fun A0 c0 A1 c1 w h0 hl h1 hdl => se_no A0 c0 ss A1 c1 qs w h0 hl h1 hdl hv)
end Go.Proofs.Ytgjogjmfpbinfaa.S2
