/- The law FnExactReversedPipe on its two sides: contracts. Conditions: each theorem's own premises. -/
import Derived.Test.YtipnecmgpfmjeaaRvS
import Derived.Test.YtipnecmgpfmjeaaWalkRev
import Derived.Test.YtipnecmgpfmjeaaWalkRevN
namespace Go.Proofs.Ytipnecmgpfmjeaa.S2
open Go.RowKit P2
theorem find_ex (ps : List Pp) (x : Int) : ∃ r, FindIs ps x r := by
  by_cases h : ∃ i, i < ps.length ∧ (pAt ps i).id = x
  · obtain ⟨i, hi, hx, hn⟩ : ∃ i, i < ps.length ∧ (pAt ps i).id = x ∧ ∀ j, j < i → (pAt ps j).id ≠ x := by
      obtain ⟨i, hi, hx⟩ := h
      induction i using Nat.strongRecOn with
      | ind i ih =>
        by_cases hc : ∃ j, j < i ∧ (pAt ps j).id = x
        · obtain ⟨j, hj, hxj⟩ := hc
          exact ih j hj (by omega) hxj
        · exact ⟨i, hi, hx, fun j hj he => hc ⟨j, hj, he⟩⟩
    exact ⟨(i : Int), .inr ⟨i, hi, rfl, hx, hn⟩⟩
  · exact ⟨-1, .inl ⟨rfl, fun i hi he => h ⟨i, hi, he⟩⟩⟩
theorem law_rev (n : Int) (A : Option Addr) (cap : Nat) (ps : List Pp) (AC : Option Addr) (cc : Nat) (cu : List Int) (x : Int) (w : World) (h : PAt w A ps) (hm : ps.length ≤ maxLen) (hc : IAt w AC cu) (hmc : cu.length ≤ maxLen) :
    Calls Try.prog 11 #[nv n A ps.length cap, .slice AC cu.length cc, .int .i64 x] w fun e w' => e = .returned (.bool true) ∧ Below w.heap.size w w' := by
  cases hv : floB n ps cu with
  | false => exact walkReversedPipen n A cap ps AC cc cu x w h hm hc hmc 0 [] (by simp) false (fun A c AC cc w h hl _ hc hcl => srev_bad n A c ps AC cc cu x w h hl hc hcl (.inl hv)) (fun A c AC cc w h hl _ hc hcl => irev_bad n A c ps AC cc cu x w h hm hc hcl hv)
  | true =>
    obtain ⟨hg, hfn, _⟩ := floB_of hv
    obtain ⟨N, rfl⟩ := good_nat hg
    obtain ⟨r, hr⟩ := find_ex ps x
    rcases id hr with ⟨rfl, _⟩ | ⟨i, hi, rfl, _⟩
    · exact walkReversedPipen N A cap ps AC cc cu x w h hm hc hmc 0 [] (by simp) false (fun A c AC cc w h hl _ hc hcl => srev_bad N A c ps AC cc cu x w h hl hc hcl (.inr hr)) (fun A c AC cc w h hl _ hc hcl => irev_none N A c ps AC cc cu x w h hm hc hcl hv hr)
    · have hl10 := hg.2.2.1
      exact walkReversedPipe N A cap ps AC cc cu x w h hm hc hmc N (rvL ps i) (by rw [rvL_len]; omega) (ngL cu i) (by rw [ngL_len]; omega) true (fun A c AC cc w h hl hcap hc hcl => srev_yes N i A c ps AC cc cu x w h hl hc hcl hv hi hcap hr) (fun A c AC cc w h hl _ hc hcl => irev_yes N i A c ps AC cc cu x w h hm hc hcl hv hi hr)
end Go.Proofs.Ytipnecmgpfmjeaa.S2
