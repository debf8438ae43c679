/- The law FnExactCountSegments on its two sides: contracts. Conditions: each theorem's own premises. -/
import Derived.Test.YtmkpgkhfbhdhgaaWalkCountSegments
import Derived.Test.YtmkpgkhfbhdhgaaSCnt
namespace Go.Proofs.Ytmkpgkhfbhdhgaa.S2
open Go.RowKit P2 P4
theorem law_cnt (n : Int) (A : Option Addr) (cap : Nat) (ps : List Pp) (AV : Option Addr) (capv : Nat) (vs : List Vv) (w : World) (h : PAt w A ps) (hm : ps.length ≤ maxLen) (hv : VAt w AV vs) (hmv : vs.length ≤ maxLen) :
    Calls Try.prog 6 #[nv n A ps.length cap, .slice AV vs.length capv] w fun e w' => e = .returned (.bool true) ∧ Below w.heap.size w w' := by
  cases hg : goodV n ps vs with
  | false =>
    exact walkCountSegments n A cap ps AV capv vs w h hm hv hmv 0 false
      (fun A cap AV capv w _ h hv _ _ => scnt_no n A cap ps AV capv vs w h hm hv hmv hg)
      (fun A cap AV capv w _ h hv hc hcm => cnt_no n A cap ps AV capv vs w h hm hv hmv hc hcm hg)
  | true =>
    have hgd := goodV_of hg
    obtain ⟨N, rfl⟩ : ∃ N : Nat, n = (N : Int) := ⟨n.toNat, by have := hgd.1.1; omega⟩
    exact walkCountSegments N A cap ps AV capv vs w h hm hv hmv (cntS N ps vs) true
      (fun A cap AV capv w _ h hv _ _ => scnt_yes N A cap ps AV capv vs w h hv hg)
      (fun A cap AV capv w _ h hv hc hcm => cnt_yes N A cap ps AV capv vs w h hv hc hcm hg)
end Go.Proofs.Ytmkpgkhfbhdhgaa.S2
