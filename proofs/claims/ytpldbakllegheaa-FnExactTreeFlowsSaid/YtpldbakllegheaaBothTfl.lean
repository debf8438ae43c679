/- The law FnExactTreeFlows on its two sides: contracts. Conditions: each theorem's own premises. -/
import Derived.Test.YtpldbakllegheaaWalkTfl
import Derived.Test.YtpldbakllegheaaTflI
import Derived.Test.YtpldbakllegheaaTflT
namespace Go.Proofs.Ytpldbakllegheaa.S2
open Go.RowKit P2
theorem law_tfl (n : Int) (A : Option Addr) (cap : Nat) (ps : List Pp) (x : Int) (AC : Option Addr) (cc : Nat) (cu : List Int) (w : World) (h : PAt w A ps) (hm : ps.length ≤ maxLen) (hc : IAt w AC cu) (hmc : cu.length ≤ maxLen) :
    Calls Try.prog 11 #[nv n A ps.length cap, .int .i64 x, .slice AC cu.length cc] w fun e w' => e = .returned (.bool true) ∧ Below w.heap.size w w' := by
  cases hv1 : nodeB n ps x with
  | false => exact walkTreeFlows n A cap ps x AC cc cu w h hm hc hmc [] (by simp) false (fun A c AC cc w h hl _ hc hcl => stfl_no n A c ps x AC cc cu w h hm hc hcl (.inl hv1)) (fun A c AC cc w h hl _ hc hcl => tfl_no1 n A c ps x AC cc cu w (fun w' hb => tf_node hv1 A c w' (h.kept hb (Nat.le_refl _)) hm))
  | true =>
    obtain ⟨hg, hx1, hx2⟩ := nodeB_of hv1
    obtain ⟨N, rfl⟩ := good_nat hg
    obtain ⟨X, rfl⟩ : ∃ X : Nat, x = X := ⟨x.toNat, by omega⟩
    cases ht : treeB N ps with
    | false => exact walkTreeFlows N A cap ps X AC cc cu w h hm hc hmc [] (by simp) false (fun A c AC cc w h hl _ hc hcl => stfl_no N A c ps X AC cc cu w h hm hc hcl (.inr (.inr ⟨N, rfl, ht⟩))) (fun A c AC cc w h hl _ hc hcl => tfl_no1 N A c ps X AC cc cu w (fun w' hb => tf_tree hv1 ht A c w' (h.kept hb (Nat.le_refl _)) hm))
    | true =>
      cases hv : demB N ps cu with
      | false => exact walkTreeFlows N A cap ps X AC cc cu w h hm hc hmc [] (by simp) false (fun A c AC cc w h hl _ hc hcl => stfl_no N A c ps X AC cc cu w h hm hc hcl (.inr (.inl hv))) (fun A c AC cc w h hl _ hc hcl => tfl_no2 N X A c ps AC cc cu w h hm hc hcl hv (fun w' hb => tf_ok hv1 ht (tree_full hg ht).1 A c w' (h.kept hb (Nat.le_refl _)) hm))
      | true => exact walkTreeFlows N A cap ps X AC cc cu w h hm hc hmc (tfL N ps X cu) (by rw [tfL_len]; have := hg.2.2.1; omega) true (fun A c AC cc w h hl hcap hc hcl => stfl_yes N X A c ps AC cc cu w h hm hcap hc hcl hv1 ht hv) (fun A c AC cc w h hl _ hc hcl => tfl_yes N X A c ps AC cc cu w h hm hc hcl hv1 ht hv)
end Go.Proofs.Ytpldbakllegheaa.S2
