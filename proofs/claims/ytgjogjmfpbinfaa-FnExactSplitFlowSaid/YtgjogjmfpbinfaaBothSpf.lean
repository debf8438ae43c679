/- The laws FnExactSplitFlow and FnExactSplitEnergy on their two sides: contracts. Conditions: each theorem's own premises. -/
import Derived.Test.YtgjogjmfpbinfaaWalkSpf
import Derived.Test.YtgjogjmfpbinfaaSfS2
namespace Go.Proofs.Ytgjogjmfpbinfaa.S2
open Go.RowKit P2
theorem law_spf (AC : Option Addr) (cc : Nat) (cu : List Int) (t : Int) (w : World) (hc : IAt w AC cu) (hmc : cu.length ≤ maxLen) :
    Calls Try.prog 8 #[.slice AC cu.length cc, .int .i64 t] w fun e w' => e = .returned (.bool true) ∧ Below w.heap.size w w' := by
  by_cases hv : szsB cu = true ∧ 0 ≤ t ∧ t ≤ 60
  · obtain ⟨T, rfl⟩ : ∃ T : Nat, t = T := ⟨t.toNat, by omega⟩
    exact walkSplitFlow AC cc cu T w hc hmc (spK cu T) (by rw [spK_len]; have := (szsB_of hv.1).2.1; omega) true (fun AC cc w hc _ => (ssf_yes AC cc cu T w hc hv.1 (by omega)).mono fun _ _ h => h.any) (fun AC cc w hc _ => sf_yes AC cc cu T w hc hv.1 (by omega))
  · have hn : szsB cu = false ∨ t < 0 ∨ 60 < t := by
      cases h : szsB cu with
      | false => exact .inl rfl
      | true =>
        have h2 : ¬ (0 ≤ t ∧ t ≤ 60) := fun x => hv ⟨h, x.1, x.2⟩
        exact .inr (by omega)
    exact walkSplitFlow AC cc cu t w hc hmc [] (by simp) false (fun AC cc w hc hl => (ssf_no AC cc cu t w hc hl hn).mono fun _ _ h => h.any) (fun AC cc w hc hl => sf_no AC cc cu t w hc hl hn)
end Go.Proofs.Ytgjogjmfpbinfaa.S2
