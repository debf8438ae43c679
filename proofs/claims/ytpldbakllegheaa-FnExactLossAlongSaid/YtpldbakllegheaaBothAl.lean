/- The law FnExactLossAlong on its two sides: contracts. Conditions: each theorem's own premises. -/
import Derived.Test.YtpldbakllegheaaWalkAl
import Derived.Test.YtpldbakllegheaaAlS
namespace Go.Proofs.Ytpldbakllegheaa.S2
open Go.RowKit P2
theorem law_al (n : Int) (A : Option Addr) (cap : Nat) (ps : List Pp) (AC : Option Addr) (cc : Nat) (cu : List Int) (x y : Int) (w : World) (h : PAt w A ps) (hm : ps.length ≤ maxLen) (hc : IAt w AC cu) (hmc : cu.length ≤ maxLen) :
    Calls Try.prog 8 #[nv n A ps.length cap, .slice AC cu.length cc, .int .i64 x, .int .i64 y] w fun e w' => e = .returned (.bool true) ∧ Below w.heap.size w w' := by
  cases hv1 : nodeB n ps x with
  | false => exact walkLossAlong n A cap ps AC cc cu x y w h hm hc hmc 0 false (fun A c AC cc w h hl _ hc hcl => sal_no n A c ps AC cc cu x y w h hm hc hcl (.inl hv1)) (fun A c AC cc w h hl _ hc hcl => al_no1 n A c ps AC cc cu x y w (fun w' hb => way_no1 n A c ps x y w' (h.kept hb (Nat.le_refl _)) hm hv1))
  | true =>
    cases hv2 : nodeB n ps y with
    | false => exact walkLossAlong n A cap ps AC cc cu x y w h hm hc hmc 0 false (fun A c AC cc w h hl _ hc hcl => sal_no n A c ps AC cc cu x y w h hm hc hcl (.inr (.inl hv2))) (fun A c AC cc w h hl _ hc hcl => al_no1 n A c ps AC cc cu x y w (fun w' hb => way_no2 n A c ps x y w' (h.kept hb (Nat.le_refl _)) hm hv1 hv2))
    | true =>
      obtain ⟨hg, hx1, hx2⟩ := nodeB_of hv1
      obtain ⟨_, hy1, hy2⟩ := nodeB_of hv2
      obtain ⟨N, rfl⟩ := good_nat hg
      obtain ⟨X, rfl⟩ : ∃ X : Nat, x = X := ⟨x.toNat, by omega⟩
      obtain ⟨T, rfl⟩ : ∃ T : Nat, y = T := ⟨y.toNat, by omega⟩
      by_cases hd : dist ps T X = -1
      · exact walkLossAlong N A cap ps AC cc cu X T w h hm hc hmc 0 false (fun A c AC cc w h hl _ hc hcl => sal_no N A c ps AC cc cu X T w h hm hc hcl (.inr (.inr (.inr ⟨N, X, T, rfl, rfl, rfl, hd⟩)))) (fun A c AC cc w h hl _ hc hcl => al_no1 N A c ps AC cc cu X T w (fun w' hb => way_no3 N X T A c ps w' (h.kept hb (Nat.le_refl _)) hm hv1 hv2 hd))
      · obtain ⟨K, hK⟩ : ∃ K : Nat, dist ps T X = K := by
          have := dist_lo ps T X
          exact ⟨(dist ps T X).toNat, by omega⟩
        cases hv : floB N ps cu with
        | false => exact walkLossAlong N A cap ps AC cc cu X T w h hm hc hmc 0 false (fun A c AC cc w h hl _ hc hcl => sal_no N A c ps AC cc cu X T w h hm hc hcl (.inr (.inr (.inl hv)))) (fun A c AC cc w h hl _ hc hcl => al_no2 N A c ps AC cc cu X T _ w h hm hc hcl hv (fun w' hb => way_yes N X T A c ps w' (h.kept hb (Nat.le_refl _)) hm hv1 hv2 K hK))
        | true => exact walkLossAlong N A cap ps AC cc cu X T w h hm hc hmc _ true (fun A c AC cc w h hl _ hc hcl => sal_yes N X T K A c ps AC cc cu w h hm hc hcl hv hv1 hv2 hK) (fun A c AC cc w h hl _ hc hcl => al_yes N A c ps AC cc cu X T _ w h hm hc hcl hv (way_ok hg (by omega) hK) (fun w' hb => way_yes N X T A c ps w' (h.kept hb (Nat.le_refl _)) hm hv1 hv2 K hK))
end Go.Proofs.Ytpldbakllegheaa.S2
