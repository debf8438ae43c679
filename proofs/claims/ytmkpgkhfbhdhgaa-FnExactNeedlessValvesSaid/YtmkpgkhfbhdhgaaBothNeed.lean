/- The law FnExactNeedlessValves on its two sides: contracts. Conditions: each theorem's own premises. -/
import Derived.Test.YtmkpgkhfbhdhgaaWalkNeedlessValves
import Derived.Test.YtmkpgkhfbhdhgaaSNeed
namespace Go.Proofs.Ytmkpgkhfbhdhgaa.S2
open Go.RowKit P2 P4
theorem law_need (n : Int) (A : Option Addr) (cap : Nat) (ps : List Pp) (AV : Option Addr) (capv : Nat) (vs : List Vv) (w : World) (h : PAt w A ps) (hm : ps.length ≤ maxLen) (hv : VAt w AV vs) (hmv : vs.length ≤ maxLen) :
    Calls Try.prog 11 #[nv n A ps.length cap, .slice AV vs.length capv] w fun e w' => e = .returned (.bool true) ∧ Below w.heap.size w w' := by
  cases hg : goodV n ps vs with
  | false =>
    exact walkNeedlessValves n A cap ps AV capv vs w h hm hv hmv [] false (by simp)
      (fun A cap AV capv w _ h hv _ _ => sneed_no n A cap ps AV capv vs w h hm hv hmv hg)
      (fun A cap AV capv w _ h hv hc hcm => need_no n A cap ps AV capv vs w h hm hv hmv hc hcm hg)
  | true =>
    have hgd := goodV_of hg
    obtain ⟨N, rfl⟩ : ∃ N : Nat, n = (N : Int) := ⟨n.toNat, by have := hgd.1.1; omega⟩
    exact walkNeedlessValves N A cap ps AV capv vs w h hm hv hmv (needL ps vs) true (Nat.le_trans (sel_len _ _) (by have := hgd.2.1; omega))
      (fun A cap AV capv w _ h hv _ _ => sneed_yes N A cap ps AV capv vs w h hv hg)
      (fun A cap AV capv w _ h hv hc hcm => need_yes N A cap ps AV capv vs w h hv hc hcm hg)
end Go.Proofs.Ytmkpgkhfbhdhgaa.S2
