/- The law FnExactLossOf on its two sides: contracts. Conditions: each theorem's own premises. -/
import Derived.Test.YtpldbakllegheaaWalkLo
import Derived.Test.YtpldbakllegheaaLosI
namespace Go.Proofs.Ytpldbakllegheaa.S2
open Go.RowKit P2
theorem law_lo (n : Int) (A : Option Addr) (cap : Nat) (ps : List Pp) (AC : Option Addr) (cc : Nat) (cu : List Int) (x : Int) (w : World) (h : PAt w A ps) (hm : ps.length ≤ maxLen) (hc : IAt w AC cu) (hmc : cu.length ≤ maxLen) :
    Calls Try.prog 3 #[nv n A ps.length cap, .slice AC cu.length cc, .int .i64 x] w fun e w' => e = .returned (.bool true) ∧ Below w.heap.size w w' := by
  cases hv : floB n ps cu with
  | false => exact walkLossOf n A cap ps AC cc cu x w h hm hc hmc 0 false (fun A c AC cc w h hl _ hc hcl => slos_bad n A c ps AC cc cu x w h hl hc hcl (.inl hv)) (fun A c AC cc w h hl _ hc hcl => los_bad n A c ps AC cc cu x w h hm hc hcl hv)
  | true =>
    obtain ⟨hg, hfn, _⟩ := floB_of hv
    obtain ⟨N, rfl⟩ := good_nat hg
    obtain ⟨r, hr⟩ := find_ex ps x
    rcases id hr with ⟨rfl, _⟩ | ⟨i, hi, rfl, _⟩
    · exact walkLossOf N A cap ps AC cc cu x w h hm hc hmc 0 false (fun A c AC cc w h hl _ hc hcl => slos_bad N A c ps AC cc cu x w h hl hc hcl (.inr hr)) (fun A c AC cc w h hl _ hc hcl => los_none N A c ps AC cc cu x w h hm hc hcl hv hr)
    · exact walkLossOf N A cap ps AC cc cu x w h hm hc hmc _ true (fun A c AC cc w h hl _ hc hcl => slos_yes N i A c ps AC cc cu x w h hl hc hcl hv hi hr) (fun A c AC cc w h hl _ hc hcl => los_yes N i A c ps AC cc cu x w h hm hc hcl hv hi hr)
end Go.Proofs.Ytpldbakllegheaa.S2
