/- The law FnExactImbalanceAt on its two sides: contracts. Conditions: each theorem's own premises. -/
import Derived.Test.YtipnecmgpfmjeaaWalkImb
import Derived.Test.YtipnecmgpfmjeaaImB
namespace Go.Proofs.Ytipnecmgpfmjeaa.S2
open Go.RowKit P2
theorem nodeB_nat {n : Int} {ps : List Pp} {s : Int} (h : nodeB n ps s = true) : ∃ N S : Nat, n = N ∧ s = S := by
  obtain ⟨hg, h1, h2⟩ := nodeB_of h
  exact ⟨n.toNat, s.toNat, by omega, by omega⟩
theorem law_imb (n : Int) (A : Option Addr) (cap : Nat) (ps : List Pp) (s : Int) (AC : Option Addr) (cc : Nat) (cu : List Int) (AF : Option Addr) (fc : Nat) (fl : List Int) (x : Int) (w : World) (h : PAt w A ps) (hm : ps.length ≤ maxLen) (hc : IAt w AC cu) (hmc : cu.length ≤ maxLen) (hf : IAt w AF fl) (hmf : fl.length ≤ maxLen) :
    Calls Try.prog 6 #[nv n A ps.length cap, .int .i64 s, .slice AC cu.length cc, .slice AF fl.length fc, .int .i64 x] w fun e w' => e = .returned (.bool true) ∧ Below w.heap.size w w' := by
  cases hv : askB n ps s cu fl with
  | false => exact walkImbalanceAt n A cap ps s AC cc cu AF fc fl x w h hm hc hmc hf hmf 0 false (fun A c AC cc AF fc w h hl _ hc hcl hf hfl => simbat_no n A c ps s AC cc cu AF fc fl x w h hm hc hcl hf hfl (by rw [hv]; rfl)) (fun A c AC cc AF fc w h hl _ hc hcl hf hfl => imbat_no n A c ps s AC cc cu AF fc fl x w h hm hc hcl hf hfl hv)
  | true =>
    obtain ⟨N, S, rfl, rfl⟩ := nodeB_nat (askB_of hv).1
    cases hx : nodeB N ps x with
    | false => exact walkImbalanceAt N A cap ps S AC cc cu AF fc fl x w h hm hc hmc hf hmf 0 false (fun A c AC cc AF fc w h hl _ hc hcl hf hfl => simbat_no N A c ps S AC cc cu AF fc fl x w h hm hc hcl hf hfl (by rw [hv, hx]; rfl)) (fun A c AC cc AF fc w h hl _ hc hcl hf hfl => imbat_off N S A c ps AC cc cu AF fc fl x w h hm hc hcl hf hfl hv hx)
    | true =>
      obtain ⟨_, v, _, rfl⟩ := nodeB_nat hx
      exact walkImbalanceAt N A cap ps S AC cc cu AF fc fl v w h hm hc hmc hf hmf (imbA S cu ps fl v) true (fun A c AC cc AF fc w h hl _ hc hcl hf hfl => simbat_yes N S v A c ps AC cc cu AF fc fl w h hm hc hcl hf hfl hv hx) (fun A c AC cc AF fc w h hl _ hc hcl hf hfl => imbat_yes N S v A c ps AC cc cu AF fc fl w h hm hc hcl hf hfl hv hx)
end Go.Proofs.Ytipnecmgpfmjeaa.S2
