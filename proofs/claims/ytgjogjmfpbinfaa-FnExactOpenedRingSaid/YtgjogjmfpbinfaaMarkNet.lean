/- The laws' marks in a network's pipes: written, and found again: contracts. Conditions: each theorem's own premises. -/
import Derived.Test.YtgjogjmfpbinfaaIntsOne
namespace Go.Proofs.Ytgjogjmfpbinfaa.S2
open Go.RowKit P2

theorem set4 (m j : Nat) (xs : List Value) (h : j * 4 + 3 < xs.length) :
    ((((mkI m xs (j * 4)).set (j * 4) (iv ((m + j * 4 : Nat) : Int))).set (j * 4 + 1) (iv ((m + (j * 4 + 1) : Nat) : Int))).set (j * 4 + 2) (iv ((m + (j * 4 + 2) : Nat) : Int))).set (j * 4 + 3) (iv ((m + (j * 4 + 3) : Nat) : Int)) = mkI m xs ((j + 1) * 4) := by
  rw [mkI_set m xs (j * 4) (by omega), mkI_set m xs (j * 4 + 1) (by omega), mkI_set m xs (j * 4 + 2) (by omega), mkI_set m xs (j * 4 + 3) (by omega), show (j + 1) * 4 = j * 4 + 3 + 1 by omega]
theorem grown_set {w w' : World} {g : Nat} (h : w.grownBy w' (some g)) (o : Nat) (u : Value) : w.grownBy (w'.setCell ⟨g, o, none⟩ u) (some g) :=
  ⟨h.os, h.tape, h.output, by have := h.size; simpa using this, fun k hk hne => by
    rw [Below.heap_setCell _ _ _ _ (by intro e; exact hne (by rw [e]))]
    exact h.block k hk hne⟩
theorem grown_refl (w : World) (r : Option Nat) : w.grownBy w r := ⟨rfl, rfl, rfl, Nat.le_refl _, fun _ _ _ => rfl⟩

set_option maxHeartbeats 2000000 in
theorem markpipes_any (B g cap m n : Nat) (xs : List Value) (hx : xs.length = n * 4) (w : World) (h : w.ownsRow B 75 4 (.slice (some ⟨g, 0, none⟩) n cap) n xs) (hn : n ≤ 1048576) (hm : m ≤ 1048576) :
    Calls Try.prog 120 #[.slice (some ⟨g, 0, none⟩) n cap, .int .i64 (m : Int)] w fun e w' => e = .returned (.int .i64 ((m + n * 4 : Nat) : Int)) ∧ w'.ownsRow B 75 4 (.slice (some ⟨g, 0, none⟩) n cap) n ((marksI m (n * 4)).map iv) ∧ w.grownBy w' (some g) := by
  have HF := Lib.hid (show mkI m xs (n * 4) = (marksI m (n * 4)).map iv by have := mkI_full m xs; rwa [hx] at this)
  have HX := Lib.hid hx
  clear hx
  go_enter Try.func120, Try.ntmps120
  go_wp2
  go_loopw [1, 5] (fun k i wr => ∃ j : Nat, j ≤ n ∧ k = .int .i64 ((m + j * 4 : Nat) : Int) ∧ i = .int .i64 j ∧ wr.ownsRow B 75 4 (.slice (some ⟨g, 0, none⟩) n cap) n (mkI m xs (j * 4)) ∧ w.grownBy wr (some g)) (fun _ i _ => n - (intOf i).toNat)
  case atStart => exact ⟨0, Nat.zero_le _, rfl, rfl, by rw [Nat.zero_mul, mkI_zero]; exact h, grown_refl _ _⟩
  case round =>
    obtain ⟨j, hj, rfl, rfl, hown, hb⟩ := hrel
    clear h
    by_cases hlt : j < n
    · have hset := Lib.hid (set4 m j xs (by rw [HX.out]; omega))
      have hlen := mkI_len m xs (j * 4) (by rw [HX.out]; omega)
      have hL := hlen.trans HX.out
      have c0 := (hown.cellAt (j * 4) (by omega)).trans (List.getElem?_eq_getElem (by omega))
      have c1 := (hown.cellAt (j * 4 + 1) (by omega)).trans (List.getElem?_eq_getElem (by omega))
      have c2 := (hown.cellAt (j * 4 + 2) (by omega)).trans (List.getElem?_eq_getElem (by omega))
      have c3 := (hown.cellAt (j * 4 + 3) (by omega)).trans (List.getElem?_eq_getElem (by omega))
      generalize (mkI m xs (j * 4))[j * 4]'(by omega) = u0 at c0
      generalize (mkI m xs (j * 4))[j * 4 + 1]'(by omega) = u1 at c1
      generalize (mkI m xs (j * 4))[j * 4 + 2]'(by omega) = u2 at c2
      generalize (mkI m xs (j * 4))[j * 4 + 3]'(by omega) = u3 at c3
      have hfz := fun o => hown.frozenAt o
      have HO := Lib.hid hown
      clear hown hlen hL
      have el : ((((mkI m xs (j * 4)).set (j * 4) (iv ((m : Int) + (j : Int) * 4))).set (j * 4 + 1) (iv ((m : Int) + (j : Int) * 4 + 1))).set (j * 4 + 2) (iv ((m : Int) + (j : Int) * 4 + 1 + 1))).set (j * 4 + 3) (iv ((m : Int) + (j : Int) * 4 + 1 + 1 + 1)) = mkI m xs ((j + 1) * 4) := by
        rw [show (m : Int) + (j : Int) * 4 + 1 + 1 + 1 = ((m + (j * 4 + 3) : Nat) : Int) by omega, show (m : Int) + (j : Int) * 4 + 1 + 1 = ((m + (j * 4 + 2) : Nat) : Int) by omega, show (m : Int) + (j : Int) * 4 + 1 = ((m + (j * 4 + 1) : Nat) : Int) by omega, show (m : Int) + (j : Int) * 4 = ((m + j * 4 : Nat) : Int) by omega]
        exact hset.out
      have EL := Lib.hid el
      clear el
      go_wp2
      have s3 := (((((HO.out.stored (j * 4) (iv ((m : Int) + (j : Int) * 4))).1.stored (j * 4 + 1) (iv ((m : Int) + (j : Int) * 4 + 1))).1.stored (j * 4 + 2) (iv ((m : Int) + (j : Int) * 4 + 1 + 1))).1.stored (j * 4 + 3) (iv ((m : Int) + (j : Int) * 4 + 1 + 1 + 1)))).1
      rw [EL.out] at s3
      go_roundw
      case rel => exact ⟨j + 1, by omega, by congr 1; omega, by go_num, s3, grown_set (grown_set (grown_set (grown_set hb _ _) _ _) _ _) _ _⟩
      case measure => simp [intOf]; omega
    · have hjn : j = n := by omega
      subst hjn
      go_wp2
      go_ret
      exact ⟨rfl, by rw [← HF.out]; exact hown, hb⟩

/-- A network's pipes, marked. -/
theorem row_own {w : World} {g n : Nat} {f : Nat → Value} (h : w.rowIs g 75 (n * 4) f) (hn : n ≤ 1048576) : ∃ xs : List Value, xs.length = n * 4 ∧ w.ownsRow g 75 4 (.slice (some ⟨g, 0, none⟩) n n) n xs := by
  obtain ⟨c, hb, hs, _⟩ := h
  refine ⟨c.toList, by simpa using hs, by simpa using hs, .inr ⟨g, n, c, rfl, Nat.le_refl _, hb, Nat.le_refl _, by simp only [maxLen]; omega, hs, ?_⟩⟩
  rw [List.take_of_length_le (by simp; omega)]

theorem marknet_any (x : Int) (g m : Nat) (ps : List Pp) (w : World) (h : PRow w g ps) (hn : ps.length ≤ 1048576) (hm : m ≤ 1048576) :
    Calls Try.prog 27 #[nv x (some ⟨g, 0, none⟩) ps.length ps.length, .int .i64 (m : Int)] w fun e w' => e = .returned (.int .i64 ((m + ps.length * 4 : Nat) : Int)) ∧ ∃ wm, Below w.heap.size w wm ∧ wm.grownBy w' (some g) := by
  have hg := h.lt
  have H := Lib.hid (fun w' (hb : Below w.heap.size w w') => row_own (rowIs_below h hb hg) hn)
  have HM := Lib.hid (fun xs hx w' ho => markpipes_any g g ps.length m ps.length xs hx w' ho hn hm)
  clear h
  go_enter Try.func27, Try.ntmps27
  go_wp2_with (go_at_call 120; obtain ⟨xs, hx, ho⟩ := H.out _ ((Below.refl _ _).alloc (Nat.le_refl _) (.cells #[.int .i64 x, .slice (some ⟨g, 0, none⟩) ps.length ps.length] 30)); refine (HM.out xs hx _ ho).mono ?_; rintro e w1 ⟨rfl, _, hg1⟩)
  go_ret
  exact ⟨rfl, _, (Below.refl _ _).alloc (Nat.le_refl _) _, hg1⟩
end Go.Proofs.Ytgjogjmfpbinfaa.S2
