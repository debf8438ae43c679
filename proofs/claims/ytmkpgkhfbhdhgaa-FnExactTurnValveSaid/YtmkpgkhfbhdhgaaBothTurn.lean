/- The law FnExactTurnValve on its two sides: contracts. Conditions: each theorem's own premises. -/
import Derived.Test.YtmkpgkhfbhdhgaaWalkTurnValve
import Derived.Test.YtmkpgkhfbhdhgaaTurn
import Derived.Test.YtmkpgkhfbhdhgaaSTurn
namespace Go.Proofs.Ytmkpgkhfbhdhgaa.S2
open Go.RowKit P2 P4
theorem law_turn (n : Int) (A : Option Addr) (cap : Nat) (ps : List Pp) (AV : Option Addr) (capv : Nat) (vs : List Vv) (x : Int) (sh : Bool) (w : World) (h : PAt w A ps) (hm : ps.length ≤ maxLen) (hv : VAt w AV vs) (hmv : vs.length ≤ maxLen) :
    Calls Try.prog 8 #[nv n A ps.length cap, .slice AV vs.length capv, .int .i64 x, .bool sh] w fun e w' => e = .returned (.bool true) ∧ Below w.heap.size w w' := by
  cases hg : goodV n ps vs with
  | false =>
    exact walkTurnValve n A cap ps AV capv vs x sh w h hm hv hmv [] false (by simp)
      (fun A cap AV capv w _ h hv _ _ => sturn_bad n A cap ps AV capv vs x sh w h hm hv hmv hg)
      (fun A cap AV capv w _ h hv hc hcm => turn_bad n A cap ps AV capv vs x sh w h hm hv hmv hc hcm hg)
  | true =>
    obtain ⟨r, hf⟩ := first_ex vs (qi x)
    have hr : r = -1 ∨ ∃ i : Nat, i < vs.length ∧ r = (i : Int) := by
      rcases hf with ⟨h, _⟩ | ⟨i, hi, h, _⟩
      · exact .inl h
      · exact .inr ⟨i, hi, h⟩
    rcases hr with rfl | ⟨i, hi, rfl⟩
    · exact walkTurnValve n A cap ps AV capv vs x sh w h hm hv hmv [] false (by simp)
        (fun A cap AV capv w _ h hv _ _ => sturn_none n A cap ps AV capv vs x sh w h hm hv hmv hg hf)
        (fun A cap AV capv w _ h hv hc hcm => turn_none n A cap ps AV capv vs x sh w h hm hv hmv hc hcm hg hf)
    · by_cases hs : (vAt vs i).sh = sh
      · exact walkTurnValve n A cap ps AV capv vs x sh w h hm hv hmv [] false (by simp)
          (fun A cap AV capv w _ h hv _ _ => sturn_same i n A cap ps AV capv vs x sh w h hm hv hmv hg hi hf hs)
          (fun A cap AV capv w _ h hv hc hcm => turn_same i n A cap ps AV capv vs x sh w h hm hv hmv hc hcm hg hi hf hs)
      · have hs2 : (vAt vs i).sh = !sh := by
          cases h1 : (vAt vs i).sh <;> cases h2 : sh <;> simp_all
        exact walkTurnValve n A cap ps AV capv vs x sh w h hm hv hmv (turnL vs i sh) true (by rw [turnL_len]; have := (goodV_of hg).2.1; omega)
          (fun A cap AV capv w _ h hv _ _ => sturn_yes i n A cap ps AV capv vs x sh w h hm hv hmv hg hi hf hs2)
          (fun A cap AV capv w _ h hv hc hcm => turn_yes i n A cap ps AV capv vs x sh w h hm hv hmv hc hcm hg hi hf hs2)
end Go.Proofs.Ytmkpgkhfbhdhgaa.S2
