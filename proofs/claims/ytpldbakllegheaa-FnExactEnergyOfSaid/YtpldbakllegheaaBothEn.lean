/- The law FnExactEnergyOf on its two sides: contracts. Conditions: each theorem's own premises. -/
import Derived.Test.YtpldbakllegheaaWalkEn
import Derived.Test.YtpldbakllegheaaEnI
namespace Go.Proofs.Ytpldbakllegheaa.S2
open Go.RowKit P2
theorem law_en (n : Int) (A : Option Addr) (cap : Nat) (ps : List Pp) (AC : Option Addr) (cc : Nat) (cu : List Int) (w : World) (h : PAt w A ps) (hm : ps.length ≤ maxLen) (hc : IAt w AC cu) (hmc : cu.length ≤ maxLen) :
    Calls Try.prog 9 #[nv n A ps.length cap, .slice AC cu.length cc] w fun e w' => e = .returned (.bool true) ∧ Below w.heap.size w w' := by
  cases hv : floB n ps cu with
  | false => exact walkEnergyOf n A cap ps AC cc cu w h hm hc hmc 0 false (fun A c AC cc w h hl _ hc hcl => sen_bad n A c ps AC cc cu w h hm hc hcl hv) (fun A c AC cc w h hl _ hc hcl => en_no n A c ps AC cc cu w h hm hc hcl (.inl hv))
  | true =>
    cases hv2 : allR (-2000) 2000 cu with
    | false => exact walkEnergyOf n A cap ps AC cc cu w h hm hc hmc 0 false (fun A c AC cc w h hl _ hc hcl => sen_ok n A c ps AC cc cu (0, false) w h hm hc hcl hv (by rw [hv2]; rfl)) (fun A c AC cc w h hl _ hc hcl => en_no n A c ps AC cc cu w h hm hc hcl (.inr hv2))
    | true => exact walkEnergyOf n A cap ps AC cc cu w h hm hc hmc (enA ps cu) true (fun A c AC cc w h hl _ hc hcl => sen_ok n A c ps AC cc cu (enA ps cu, true) w h hm hc hcl hv (by rw [hv2]; rfl)) (fun A c AC cc w h hl _ hc hcl => en_yes n A c ps AC cc cu w h hm hc hcl hv hv2)
end Go.Proofs.Ytpldbakllegheaa.S2
