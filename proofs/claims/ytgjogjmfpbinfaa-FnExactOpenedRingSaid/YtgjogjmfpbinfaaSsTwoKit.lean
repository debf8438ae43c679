/- Marks in a slice of numbers, with all that stays: contracts. Conditions: each theorem's own premises. -/
import Derived.Test.YtgjogjmfpbinfaaMarkNet
namespace Go.Proofs.Ytgjogjmfpbinfaa.S2
open Go.RowKit P2

set_option maxHeartbeats 1000000 in
theorem markints_far (B g cap m : Nat) (l : List Int) (w : World) (h : IOwn w B (.slice (some ⟨g, 0, none⟩) l.length cap) l) (hn : l.length ≤ 1048576) (hm : m ≤ 104857600) :
    Calls Try.prog 28 #[.slice (some ⟨g, 0, none⟩) l.length cap, .int .i64 (m : Int)] w fun e w' => e = .returned (.int .i64 ((m + l.length : Nat) : Int)) ∧ IOwn w' B (.slice (some ⟨g, 0, none⟩) l.length cap) (marksI m l.length) ∧ w.grownBy w' (some g) := by
  have hB := (World.ownsRow.lt h g rfl).1
  unfold IOwn at h ⊢
  rw [marksI_len]
  have hx : (l.map iv).length = l.length := by simp
  have HF := Lib.hid (show mkI m (l.map iv) l.length = (marksI m l.length).map iv by have := mkI_full m (l.map iv); rwa [hx] at this)
  have HX := Lib.hid hx
  clear hx
  generalize l.length = n at *
  generalize l.map iv = xs at *
  go_enter Try.func28, Try.ntmps28
  go_wp2
  go_loopw [1, 5] (fun k i wr => ∃ j : Nat, j ≤ n ∧ k = .int .i64 ((m + j : Nat) : Int) ∧ i = .int .i64 j ∧ wr.ownsRow B 3 1 (.slice (some ⟨g, 0, none⟩) n cap) n (mkI m xs j) ∧ w.grownBy wr (some g)) (fun _ i _ => n - (intOf i).toNat)
  case atStart => exact ⟨0, Nat.zero_le _, rfl, rfl, by rw [mkI_zero]; exact h, World.grownBy.refl _ _⟩
  case round =>
    obtain ⟨j, hj, rfl, rfl, hown, hb⟩ := hrel
    clear h
    by_cases hlt : j < n
    · have hset := Lib.hid (mkI_set m xs j (by rw [HX.out]; exact hlt))
      obtain ⟨u, hu⟩ := mkI_has m xs j (by rw [HX.out]; exact hlt)
      have hcell := (hown.cellAt j (by omega)).trans hu
      have hfz := hown.frozenAt j
      have HO := Lib.hid hown
      have hjn : m + j + 1 = m + (j + 1) := by omega
      clear hown hu
      go_wp2
      have hst := HO.out.stored j (iv ((m + j : Nat) : Int))
      rw [hset.out] at hst
      go_roundw
      case rel => exact ⟨j + 1, by omega, by go_num, by go_num, hst.1, grown_set hb _ _⟩
      case measure => simp [intOf]; omega
    · have hjn : j = n := by omega
      subst hjn
      go_wp2
      go_ret
      exact ⟨rfl, by rw [← HF.out]; exact hown, hb⟩

end Go.Proofs.Ytgjogjmfpbinfaa.S2
