/- The law FnExactShortestWay, walked at every network and two nodes. Conditions: the network's pipes lie in memory, no more than a slice may hold. -/
import Derived.Test.YtoinbpfocfohcaaWalkWay
import Derived.Test.YtoinbpfocfohcaaWayFour
namespace Go.Proofs.Ytoinbpfocfohcaa.S2
open Go.RowKit P2

theorem law_way (n : Int) (A : Option Addr) (cap : Nat) (ps : List Pp) (x y : Int) (w : World) (h : PAt w A ps) (hm : ps.length ≤ maxLen) :
    Calls Try.prog 12 #[nv n A ps.length cap, .int .i64 x, .int .i64 y] w fun e w' => e = .returned (.bool true) ∧ Below w.heap.size w w' := by
  by_cases hv : nodeB n ps x = true
  · by_cases hv2 : nodeB n ps y = true
    · have hin := nodeB_of hv
      have hin2 := nodeB_of hv2
      obtain ⟨N, rfl⟩ : ∃ N : Nat, n = N := ⟨n.toNat, by have := hin.1.1; omega⟩
      obtain ⟨X, rfl⟩ : ∃ X : Nat, x = X := ⟨x.toNat, by have := hin.2.1; omega⟩
      obtain ⟨T, rfl⟩ : ∃ T : Nat, y = T := ⟨y.toNat, by have := hin2.2.1; omega⟩
      by_cases hd : dist ps T X = -1
      · exact walkShortestWay N A cap ps X T w h hm [] false (by simp) (fun A cap w h => sway_no3 N X T A cap ps w h hm hv hv2 hd) (fun A cap w h => way_no3 N X T A cap ps w h hm hv hv2 hd)
      · have hlo := dist_lo ps T X
        obtain ⟨K, hK⟩ : ∃ K : Nat, dist ps T X = K := ⟨(dist ps T X).toNat, by omega⟩
        have hle := dist_le (t := T) hin.1 X (by have := hin.2.2; omega)
        exact walkShortestWay N A cap ps X T w h hm (wayL ps T K X) true (by have := wayL_len ps T K X; have := hin.1.2.1; omega) (fun A cap w h => sway_yes N X T A cap ps w h hm hv hv2 K hK) (fun A cap w h => way_yes N X T A cap ps w h hm hv hv2 K hK)
    · rw [Bool.not_eq_true] at hv2
      exact walkShortestWay n A cap ps x y w h hm [] false (by simp) (fun A cap w h => sway_no2 n A cap ps x y w h hm hv hv2) (fun A cap w h => way_no2 n A cap ps x y w h hm hv hv2)
  · rw [Bool.not_eq_true] at hv
    exact walkShortestWay n A cap ps x y w h hm [] false (by simp) (fun A cap w h => sway_no1 n A cap ps x y w h hm hv) (fun A cap w h => way_no1 n A cap ps x y w h hm hv)
end Go.Proofs.Ytoinbpfocfohcaa.S2
