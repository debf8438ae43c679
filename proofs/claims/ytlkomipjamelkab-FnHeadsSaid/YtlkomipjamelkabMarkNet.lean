/- The laws' marks in a network's pipes: written, and found again: contracts. Conditions: each theorem's own premises. -/
import Derived.Test.YtlkomipjamelkabIntsOne
namespace Go.Proofs.Ytlkomipjamelkab.S2
open Go.RowKit P2

theorem set4 (m j : Nat) (xs : List Value) (h : j * 4 + 3 < xs.length) :
    ((((mkI m xs (j * 4)).set (j * 4) (iv ((m + j * 4 : Nat) : Int))).set (j * 4 + 1) (iv ((m + (j * 4 + 1) : Nat) : Int))).set (j * 4 + 2) (iv ((m + (j * 4 + 2) : Nat) : Int))).set (j * 4 + 3) (iv ((m + (j * 4 + 3) : Nat) : Int)) = mkI m xs ((j + 1) * 4) := by
  rw [mkI_set m xs (j * 4) (by omega), mkI_set m xs (j * 4 + 1) (by omega), mkI_set m xs (j * 4 + 2) (by omega), mkI_set m xs (j * 4 + 3) (by omega), show (j + 1) * 4 = j * 4 + 3 + 1 by omega]
theorem grown_set {w w' : World} {g : Nat} (h : w.grownBy w' (some g)) (o : Nat) (u : Value) : w.grownBy (w'.setCell ⟨g, o, none⟩ u) (some g) :=
  ⟨h.os, h.tape, h.output, by have := h.size; simpa using this, fun k hk hne => by
    rw [Below.heap_setCell _ _ _ _ (by intro e; exact hne (by rw [e]))]
    exact h.block k hk hne⟩
theorem grown_refl (w : World) (r : Option Nat) : w.grownBy w r := ⟨rfl, rfl, rfl, Nat.le_refl _, fun _ _ _ => rfl⟩


/-- A network's pipes, marked. -/
theorem row_own {w : World} {g n : Nat} {f : Nat → Value} (h : w.rowIs g 40 (n * 4) f) (hn : n ≤ 1048576) : ∃ xs : List Value, xs.length = n * 4 ∧ w.ownsRow g 40 4 (.slice (some ⟨g, 0, none⟩) n n) n xs := by
  obtain ⟨c, hb, hs, _⟩ := h
  refine ⟨c.toList, by simpa using hs, by simpa using hs, .inr ⟨g, n, c, rfl, Nat.le_refl _, hb, Nat.le_refl _, by simp only [maxLen]; omega, hs, ?_⟩⟩
  rw [List.take_of_length_le (by simp; omega)]

end Go.Proofs.Ytlkomipjamelkab.S2
