/- Marks in a slice of valves, written and found again: contracts. Conditions: each theorem's own premises. -/
import Derived.Test.YtmkpgkhfbhdhgaaLawKit
import Derived.Test.YtmkpgkhfbhdhgaaVcs
namespace Go.Proofs.Ytmkpgkhfbhdhgaa.S2
open Go.RowKit P2 P4

/-- The mark m in a cell of valves. -/
def mv (m j : Nat) : Value := if j % 4 = 3 then .bool (decide ((m + j) % 3 = 0)) else iv ((m + j : Nat) : Int)
def marksV (m n : Nat) : List Value := (List.range n).map fun j => mv m j
theorem marksV_len (m n : Nat) : (marksV m n).length = n := by simp [marksV]
def mkV (m : Nat) (xs : List Value) (j : Nat) : List Value := marksV m j ++ xs.drop j
theorem mkV_zero (m : Nat) (xs : List Value) : mkV m xs 0 = xs := by simp [mkV, marksV]
theorem mkV_set (m : Nat) (xs : List Value) (j : Nat) (h : j < xs.length) : (mkV m xs j).set j (mv m j) = mkV m xs (j + 1) := by
  unfold mkV marksV
  rw [List.set_append_right _ _ (by simp), List.range_succ, List.map_append, List.append_assoc]
  congr 1
  simp only [List.length_map, List.length_range, Nat.sub_self]
  rw [List.drop_eq_getElem_cons h]
  rfl
theorem mkV_full (m : Nat) (xs : List Value) : mkV m xs xs.length = marksV m xs.length := by simp [mkV]
theorem mkV_len (m : Nat) (xs : List Value) (j : Nat) (h : j ≤ xs.length) : (mkV m xs j).length = xs.length := by simp [mkV, marksV]; omega
theorem mv0 (m j : Nat) : mv m (j * 4) = iv ((m : Int) + (j : Int) * 4) := by
  unfold mv; rw [if_neg (by omega)]; congr 1
theorem mv1 (m j : Nat) : mv m (j * 4 + 1) = iv ((m : Int) + (j : Int) * 4 + 1) := by
  unfold mv; rw [if_neg (by omega)]; congr 1
theorem mv2 (m j : Nat) : mv m (j * 4 + 2) = iv ((m : Int) + (j : Int) * 4 + 1 + 1) := by
  unfold mv; rw [if_neg (by omega)]; congr 1
theorem mv3 (m j : Nat) : mv m (j * 4 + 3) = .bool (((m : Int) + (j : Int) * 4 + 1 + 1 + 1) % 3 == 0) := by
  unfold mv
  rw [if_pos (by omega)]
  congr 1
  rw [Bool.eq_iff_iff]
  simp
  omega
theorem set4V (m j : Nat) (xs : List Value) (h : j * 4 + 3 < xs.length) :
    ((((mkV m xs (j * 4)).set (j * 4) (mv m (j * 4))).set (j * 4 + 1) (mv m (j * 4 + 1))).set (j * 4 + 2) (mv m (j * 4 + 2))).set (j * 4 + 3) (mv m (j * 4 + 3)) = mkV m xs ((j + 1) * 4) := by
  rw [mkV_set m xs (j * 4) (by omega), mkV_set m xs (j * 4 + 1) (by omega), mkV_set m xs (j * 4 + 2) (by omega), mkV_set m xs (j * 4 + 3) (by omega), show (j + 1) * 4 = j * 4 + 3 + 1 by omega]
set_option maxHeartbeats 2000000 in
theorem markvx_any (B g cap m n : Nat) (xs : List Value) (hx : xs.length = n * 4) (w : World) (h : w.ownsRow B 59 4 (.slice (some ⟨g, 0, none⟩) n cap) n xs) (hn : n ≤ 1048576) (hm : m ≤ 104857600) :
    Calls Try.prog 26 #[.slice (some ⟨g, 0, none⟩) n cap, .int .i64 (m : Int)] w fun e w' => e = .returned (.int .i64 ((m + n * 4 : Nat) : Int)) ∧ w'.ownsRow B 59 4 (.slice (some ⟨g, 0, none⟩) n cap) n (marksV m (n * 4)) ∧ w.grownBy w' (some g) := by
  have HF := Lib.hid (show mkV m xs (n * 4) = marksV m (n * 4) by have := mkV_full m xs; rwa [hx] at this)
  have HX := Lib.hid hx
  clear hx
  go_enter Try.func26, Try.ntmps26
  go_wp2
  go_loopw [1, 5] (fun k i wr => ∃ j : Nat, j ≤ n ∧ k = .int .i64 ((m + j * 4 : Nat) : Int) ∧ i = .int .i64 j ∧ Hid (wr.ownsRow B 59 4 (.slice (some ⟨g, 0, none⟩) n cap) n (mkV m xs (j * 4))) ∧ w.grownBy wr (some g)) (fun _ i _ => n - (intOf i).toNat)
  case atStart => exact ⟨0, Nat.zero_le _, rfl, rfl, Lib.hid (by rw [Nat.zero_mul, mkV_zero]; exact h), World.grownBy.refl _ _⟩
  case round =>
    obtain ⟨j, hj, rfl, rfl, hown, hb⟩ := hrel
    clear h
    by_cases hlt : j < n
    · have hset := Lib.hid (set4V m j xs (by rw [HX.out]; omega))
      have hL : (mkV m xs (j * 4)).length = n * 4 := (mkV_len m xs (j * 4) (by rw [HX.out]; omega)).trans HX.out
      have c0 := (hown.out.cellAt (j * 4) (by omega)).trans (List.getElem?_eq_getElem (by omega))
      have c1 := (hown.out.cellAt (j * 4 + 1) (by omega)).trans (List.getElem?_eq_getElem (by omega))
      have c2 := (hown.out.cellAt (j * 4 + 2) (by omega)).trans (List.getElem?_eq_getElem (by omega))
      have c3 := (hown.out.cellAt (j * 4 + 3) (by omega)).trans (List.getElem?_eq_getElem (by omega))
      generalize (mkV m xs (j * 4))[j * 4]'(by omega) = u0 at c0
      generalize (mkV m xs (j * 4))[j * 4 + 1]'(by omega) = u1 at c1
      generalize (mkV m xs (j * 4))[j * 4 + 2]'(by omega) = u2 at c2
      generalize (mkV m xs (j * 4))[j * 4 + 3]'(by omega) = u3 at c3
      have hfz := fun o => hown.out.frozenAt o
      clear hL
      rw [mv0, mv1, mv2, mv3] at hset
      go_wp2
      have s3 := (((((hown.out.stored (j * 4) (iv ((m : Int) + (j : Int) * 4))).1.stored (j * 4 + 1) (iv ((m : Int) + (j : Int) * 4 + 1))).1.stored (j * 4 + 2) (iv ((m : Int) + (j : Int) * 4 + 1 + 1))).1.stored (j * 4 + 3) (.bool (((m : Int) + (j : Int) * 4 + 1 + 1 + 1) % 3 == 0)))).1
      rw [hset.out] at s3
      go_roundw
      case rel => exact ⟨j + 1, by omega, by congr 1; omega, by go_num, Lib.hid s3, grown_set (grown_set (grown_set (grown_set hb _ _) _ _) _ _) _ _⟩
      case measure => simp [intOf]; omega
    · have hjn : j = n := by omega
      subst hjn
      go_wp2
      go_ret
      exact ⟨rfl, by rw [← HF.out]; exact hown.out, hb⟩
/-- Marks lie there. -/
def MAt (w : World) (g m n : Nat) : Prop := (n = 0 ∨ g < w.heap.size) ∧ ∀ j, j < n * 4 → w.cell? ⟨g, j, none⟩ = some (mv m j)
theorem own_marks {w : World} {B g cap m n : Nat} (h : w.ownsRow B 59 4 (.slice (some ⟨g, 0, none⟩) n cap) n (marksV m (n * 4))) : MAt w g m n :=
  ⟨.inr (h.lt g rfl).2, fun j hj => by
    rw [h.cellAt j (by omega)]
    simp [marksV, hj]⟩
theorem MAt.kept {w w' : World} {g m n : Nat} (h : MAt w g m n) (hb : Below w.heap.size w w') : MAt w' g m n := by
  rcases h with ⟨h0, h⟩
  refine ⟨h0.imp id (fun h => Nat.lt_of_lt_of_le h hb.size), fun j hj => ?_⟩
  rcases h0 with h0 | h0
  · omega
  · exact (hb.cell (p := ⟨g, j, none⟩) h0).trans (h j hj)
set_option maxHeartbeats 2000000 in
theorem heldvx_any (g cap m n : Nat) (w : World) (h : MAt w g m n) (hn : n ≤ 1048576) (hm : m ≤ 104857600) :
    Calls Try.prog 37 #[.slice (some ⟨g, 0, none⟩) n cap, .int .i64 (m : Int)] w fun e w' => e = .returned (.int .i64 ((m + n * 4 : Nat) : Int)) ∧ Below w.heap.size w w' := by
  have HA := Lib.hid h.2
  clear h
  go_enter Try.func37, Try.ntmps37
  go_wp2
  go_loop [1, 5] (fun k i => ∃ j : Nat, j ≤ n ∧ k = .int .i64 ((m + j * 4 : Nat) : Int) ∧ i = .int .i64 j) (fun _ i => n - (intOf i).toNat)
  case atStart => exact ⟨0, Nat.zero_le _, rfl, rfl⟩
  case round =>
    obtain ⟨j, hj, rfl, rfl⟩ := hrel
    by_cases hlt : j < n
    · have c0 := HA.out (j * 4) (by omega)
      have c1 := HA.out (j * 4 + 1) (by omega)
      have c2 := HA.out (j * 4 + 2) (by omega)
      have c3 := HA.out (j * 4 + 3) (by omega)
      rw [mv0] at c0
      rw [mv1] at c1
      rw [mv2] at c2
      rw [mv3] at c3
      go_wp2
      go_round
      case rel => exact ⟨j + 1, by omega, by congr 1; omega, by go_num⟩
      case measure => simp [intOf]; omega
    · have hjn : j = n := by omega
      subst hjn
      go_wp2
      go_ret
      exact ⟨rfl, Below.refl _ _⟩
end Go.Proofs.Ytmkpgkhfbhdhgaa.S2
