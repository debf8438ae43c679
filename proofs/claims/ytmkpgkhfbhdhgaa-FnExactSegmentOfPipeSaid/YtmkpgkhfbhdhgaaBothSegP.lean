/- The laws FnExactSegmentOfPipe and FnExactSegmentOfNode on their two sides: contracts. Conditions: each theorem's own premises. -/
import Derived.Test.YtmkpgkhfbhdhgaaWalkSegmentOfPipe
import Derived.Test.YtmkpgkhfbhdhgaaSegFour
import Derived.Test.YtmkpgkhfbhdhgaaSSeg
namespace Go.Proofs.Ytmkpgkhfbhdhgaa.S2
open Go.RowKit P2 P4
theorem good_nat {n : Int} {ps : List Pp} {vs : List Vv} (h : goodV n ps vs = true) : ∃ N : Nat, n = (N : Int) := ⟨n.toNat, by have := (goodV_of h).1.1; omega⟩
theorem law_segp (n : Int) (A : Option Addr) (cap : Nat) (ps : List Pp) (AV : Option Addr) (capv : Nat) (vs : List Vv) (x : Int) (w : World) (h : PAt w A ps) (hm : ps.length ≤ maxLen) (hv : VAt w AV vs) (hmv : vs.length ≤ maxLen) :
    Calls Try.prog 4 #[nv n A ps.length cap, .slice AV vs.length capv, .int .i64 x] w fun e w' => e = .returned (.bool true) ∧ Below w.heap.size w w' := by
  cases hg : goodV n ps vs with
  | false =>
    exact walkSegmentOfPipe n A cap ps AV capv vs x w h hm hv hmv [] [] false (by simp) (by simp)
      (fun A cap AV capv w hl h hv _ _ => ssegp_no1 n A cap ps AV capv vs x w h hl hv hmv hg)
      (fun A cap AV capv w _ h hv hc hcm => segofp_no n A cap ps AV capv vs x w (fun w' hb => segp_no1 n A cap ps AV capv vs x w' (h.kept hb (Nat.le_refl _)) hm (hv.kept hb (Nat.le_refl _)) hmv hc hcm hg))
  | true =>
    obtain ⟨N, rfl⟩ := good_nat hg
    have hgd := goodV_of hg
    by_cases hx : ∃ i, At ps x i
    · obtain ⟨i, hi⟩ := hx
      exact walkSegmentOfPipe N A cap ps AV capv vs x w h hm hv hmv (nodesL N (coB ps vs (one (9 + i))) true) (pipesL ps ps.length (coB ps vs (one (9 + i))) true) true
        (Nat.le_trans (nodesL_len _ _ _) (by have := hgd.1.2.1; omega)) (Nat.le_trans (pipesL_len _ _ _ _) (by have := hgd.1.2.2.1; omega))
        (fun A cap AV capv w _ h hv _ _ => ssegp_yes N A cap ps AV capv vs x w h hv hg i hi)
        (fun A cap AV capv w _ h hv hc hcm => segofp_yes N A cap ps AV capv vs x _ w h hgd.1 (fun w' hb => segp_yes N A cap ps AV capv vs x w' (h.kept hb (Nat.le_refl _)) hm (hv.kept hb (Nat.le_refl _)) hmv hc hcm hg i hi))
    · have hno : ∀ i, i < ps.length → (pAt ps i).id ≠ x := fun i hi he => hx ⟨i, hi, he⟩
      exact walkSegmentOfPipe N A cap ps AV capv vs x w h hm hv hmv [] [] false (by simp) (by simp)
        (fun A cap AV capv w hl h hv _ _ => ssegp_no2 N A cap ps AV capv vs x w h hl hv hmv hg hno)
        (fun A cap AV capv w _ h hv hc hcm => segofp_no N A cap ps AV capv vs x w (fun w' hb => segp_no2 N A cap ps AV capv vs x w' (h.kept hb (Nat.le_refl _)) hm (hv.kept hb (Nat.le_refl _)) hmv hc hcm hg hno))
end Go.Proofs.Ytmkpgkhfbhdhgaa.S2
