/- The law FnExactRemovePipe on its two sides: contracts. Conditions: each theorem's own premises. -/
import Derived.Test.YtmehhojnefoedabWalkRem
import Derived.Test.YtmehhojnefoedabWalkRemN
namespace Go.Proofs.Ytmehhojnefoedab.S2
open Go.RowKit P2
theorem find_ex (ps : List Pp) (x : Int) : ∃ r, FindIs ps x r := by
  by_cases h : ∃ i, i < ps.length ∧ (pAt ps i).id = x
  · obtain ⟨i, hi, hx, hn⟩ : ∃ i, i < ps.length ∧ (pAt ps i).id = x ∧ ∀ j, j < i → (pAt ps j).id ≠ x := by
      obtain ⟨i, hi, hx⟩ := h
      induction i using Nat.strongRecOn with
      | ind i ih =>
        by_cases hc : ∃ j, j < i ∧ (pAt ps j).id = x
        · obtain ⟨j, hj, hxj⟩ := hc
          exact ih j hj (by omega) hxj
        · exact ⟨i, hi, hx, fun j hj he => hc ⟨j, hj, he⟩⟩
    exact ⟨(i : Int), .inr ⟨i, hi, rfl, hx, hn⟩⟩
  · exact ⟨-1, .inl ⟨rfl, fun i hi he => h ⟨i, hi, he⟩⟩⟩
theorem law_rem (n : Int) (A : Option Addr) (cap : Nat) (ps : List Pp) (x : Int) (w : World) (h : PAt w A ps) (hm : ps.length ≤ maxLen) :
    Calls Try.prog 3 #[nv n A ps.length cap, .int .i64 x] w fun e w' => e = .returned (.bool true) ∧ Below w.heap.size w w' := by
  cases hb : goodB n ps with
  | false => exact walkRemovePipen n A cap ps x w h hm 0 false (fun A c w h hm _ => srem_bad n A c ps x w h hm hb) (fun A c w h hm _ => irem_bad n A c ps x w h hm hb)
  | true =>
    have hg := good_of hb
    obtain ⟨N, rfl⟩ : ∃ N : Nat, n = (N : Int) := ⟨n.toNat, by have := hg.1; omega⟩
    obtain ⟨r, hr⟩ := find_ex ps x
    rcases id hr with ⟨rfl, _⟩ | ⟨i, hi, rfl, _⟩
    · exact walkRemovePipen N A cap ps x w h hm 0 false (fun A c w h hm _ => srem_none N A c ps x w h hm hb hr) (fun A c w h hm _ => irem_none N A c ps x w h hm hb hr)
    · by_cases h2 : 2 ≤ ps.length
      · have hl := wo_len ps i hi
        exact walkRemovePipe N A cap ps x w h hm N (wo ps i) (by have := hg.2.2.1; omega) true (fun A c w h hm hc => srem_yes N i A c ps x w h hm hb hc hi hr)
          (fun A c w h hm hc => (irem_many N i A c ps x w h hm hb hc hi h2 hr).mono fun e w' ⟨g, c, B, he, hg, _, ho, hbb⟩ => ⟨g, c, B, by rw [hl]; exact he, hg, by rw [hl]; exact ho, hbb⟩)
      · have h1 : ps.length = 1 := by omega
        have hw : wo ps i = [] := List.length_eq_zero_iff.1 (by rw [wo_len ps i hi]; omega)
        exact walkRemovePipen N A cap ps x w h hm N true (fun A c w h hm hc => by have := srem_yes N i A c ps x w h hm hb hc hi hr; rwa [hw] at this)
          (fun A c w h hm hc => irem_one N i A c ps x w h hb hc hi h1 hr)
end Go.Proofs.Ytmehhojnefoedab.S2
