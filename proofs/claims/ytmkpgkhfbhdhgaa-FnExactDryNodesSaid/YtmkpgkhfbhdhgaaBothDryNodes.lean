/- The law FnExactDryNodes on its two sides: contracts. Conditions: each theorem's own premises. -/
import Derived.Test.YtmkpgkhfbhdhgaaWalkDryNodes
import Derived.Test.YtmkpgkhfbhdhgaaWet
import Derived.Test.YtmkpgkhfbhdhgaaSDry
namespace Go.Proofs.Ytmkpgkhfbhdhgaa.S2
open Go.RowKit P2 P4
theorem law_drynodes (n : Int) (A : Option Addr) (cap : Nat) (ps : List Pp) (AV : Option Addr) (capv : Nat) (vs : List Vv) (x : Int) (w : World) (h : PAt w A ps) (hm : ps.length ≤ maxLen) (hv : VAt w AV vs) (hmv : vs.length ≤ maxLen) :
    Calls Try.prog 9 #[nv n A ps.length cap, .slice AV vs.length capv, .int .i64 x] w fun e w' => e = .returned (.bool true) ∧ Below w.heap.size w w' := by
  cases hg : goodV n ps vs with
  | false =>
    exact walkDryNodes n A cap ps AV capv vs x w h hm hv hmv [] false (by simp)
      (fun A cap AV capv w _ h hv _ _ => sdrynodes_no1 n A cap ps AV capv vs x w h hm hv hmv hg)
      (fun A cap AV capv w _ h hv hc hcm => drynodes_no n A cap ps AV capv vs x w (fun w' hb => wet_no1 n A cap ps AV capv vs x w' (h.kept hb (Nat.le_refl _)) hm (hv.kept hb (Nat.le_refl _)) hmv hc hcm hg))
  | true =>
    have hgd := goodV_of hg
    cases hx : nodeB n ps x with
    | true =>
      obtain ⟨N, X, rfl, rfl, _, _, _⟩ := node_of_good hx
      exact walkDryNodes N A cap ps AV capv vs X w h hm hv hmv (nodesL N (coB ps (bar vs true) (one X)) false) true (Nat.le_trans (nodesL_len _ _ _) (by have := hgd.1.2.1; omega))
        (fun A cap AV capv w _ h hv _ _ => sdrynodes_yes N X A cap ps AV capv vs w h hv hg hx)
        (fun A cap AV capv w _ h hv hc hcm => drynodes_yes N A cap ps AV capv vs X _ w h hgd.1 (fun w' hb => wet_yes N X A cap ps AV capv vs w' (h.kept hb (Nat.le_refl _)) (hv.kept hb (Nat.le_refl _)) hc hcm hg hx))
    | false =>
      exact walkDryNodes n A cap ps AV capv vs x w h hm hv hmv [] false (by simp)
        (fun A cap AV capv w _ h hv _ _ => sdrynodes_no2 n A cap ps AV capv vs x w h hm hv hmv hg hx)
        (fun A cap AV capv w _ h hv hc hcm => drynodes_no n A cap ps AV capv vs x w (fun w' hb => wet_no2 n A cap ps AV capv vs x w' (h.kept hb (Nat.le_refl _)) hm (hv.kept hb (Nat.le_refl _)) hmv hc hcm hg hx))
end Go.Proofs.Ytmkpgkhfbhdhgaa.S2
