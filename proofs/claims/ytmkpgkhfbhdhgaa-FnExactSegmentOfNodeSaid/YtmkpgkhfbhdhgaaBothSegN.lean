/- The law FnExactSegmentOfNode on its two sides: contracts. Conditions: each theorem's own premises. -/
import Derived.Test.YtmkpgkhfbhdhgaaWalkSegmentOfNode
import Derived.Test.YtmkpgkhfbhdhgaaSegFour
import Derived.Test.YtmkpgkhfbhdhgaaSSeg
namespace Go.Proofs.Ytmkpgkhfbhdhgaa.S2
open Go.RowKit P2 P4
theorem law_segn (n : Int) (A : Option Addr) (cap : Nat) (ps : List Pp) (AV : Option Addr) (capv : Nat) (vs : List Vv) (x : Int) (w : World) (h : PAt w A ps) (hm : ps.length ≤ maxLen) (hv : VAt w AV vs) (hmv : vs.length ≤ maxLen) :
    Calls Try.prog 5 #[nv n A ps.length cap, .slice AV vs.length capv, .int .i64 x] w fun e w' => e = .returned (.bool true) ∧ Below w.heap.size w w' := by
  cases hg : goodV n ps vs with
  | false =>
    exact walkSegmentOfNode n A cap ps AV capv vs x w h hm hv hmv [] [] false (by simp) (by simp)
      (fun A cap AV capv w _ h hv _ _ => ssegn_no1 n A cap ps AV capv vs x w h hm hv hmv hg)
      (fun A cap AV capv w _ h hv hc hcm => segofn_no1 n A cap ps AV capv vs x w h hm hv hmv hc hcm hg)
  | true =>
    have hgd := goodV_of hg
    cases hx : nodeB n ps x with
    | true =>
      obtain ⟨N, X, rfl, rfl, _, _, _⟩ := node_of_good hx
      exact walkSegmentOfNode N A cap ps AV capv vs X w h hm hv hmv (nodesL N (coB ps vs (one X)) true) (pipesL ps ps.length (coB ps vs (one X)) true) true
        (Nat.le_trans (nodesL_len _ _ _) (by have := hgd.1.2.1; omega)) (Nat.le_trans (pipesL_len _ _ _ _) (by have := hgd.1.2.2.1; omega))
        (fun A cap AV capv w _ h hv _ _ => ssegn_yes N X A cap ps AV capv vs w h hv hg hx)
        (fun A cap AV capv w _ h hv hc hcm => segofn_yes N X A cap ps AV capv vs w h hv hc hcm hg hx)
    | false =>
      exact walkSegmentOfNode n A cap ps AV capv vs x w h hm hv hmv [] [] false (by simp) (by simp)
        (fun A cap AV capv w _ h hv _ _ => ssegn_no2 n A cap ps AV capv vs x w h hm hv hmv hg hx)
        (fun A cap AV capv w _ h hv hc hcm => segofn_no2 n A cap ps AV capv vs x w h hm hv hmv hc hcm hg hx)
end Go.Proofs.Ytmkpgkhfbhdhgaa.S2
