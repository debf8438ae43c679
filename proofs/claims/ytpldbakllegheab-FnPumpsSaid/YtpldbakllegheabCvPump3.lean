/- The words of FnPumps' comparisons. Conditions: each theorem's own premises. -/
import Derived.Test.YtpldbakllegheabCvPump2
import Derived.Test.YtpldbakllegheabCvPack
namespace Go.Proofs.Ytpldbakllegheab.S7
open Go.RowKit P7

theorem wp_mul {cs : List Cp} {l s x1 y1 x2 y2 : Int} (h : wA cs l s = (x1, y1, true)) (h2 : whA cs l s = (x2, y2, true)) : ∃ V p1 p2 p : Int, IntKind.i64.wrap (x2 * y1) = V ∧ IntKind.i64.wrap (l * y1) = p1 ∧ IntKind.i64.wrap (s * x1) = p2 ∧ IntKind.i64.wrap (p1 + p2) = p ∧ IntKind.i64.wrap (y2 * p) = V := by
  obtain ⟨a, b, H, D, rfl, rfl, e, he, ⟨hb0, hb9, hab⟩, hl, hs, hH, hD⟩ := wp_yes h
  rw [h2] at e
  simp only [Prod.mk.injEq, and_true] at e
  obtain ⟨rfl, rfl⟩ := e
  have m1 : l * (b : Int) ≤ 1000 * 1002000 := Int.mul_le_mul hl.2 (by omega) (by omega) (by omega)
  have m2 : s * (a : Int) ≤ 1000 * 1002000000 := Int.mul_le_mul hs.2 (by omega) (by omega) (by omega)
  have n1 := Int.mul_nonneg hl.1 (show (0 : Int) ≤ b by omega)
  have n2 := Int.mul_nonneg hs.1 (show (0 : Int) ≤ a by omega)
  have m3 : (D : Int) * (l * (b : Int) + s * (a : Int)) ≤ 1002000 * 1003002000000 := Int.mul_le_mul (by omega) (by omega) (by omega) (by omega)
  have n3 := Int.mul_nonneg (show (0 : Int) ≤ D by omega) (show 0 ≤ l * (b : Int) + s * (a : Int) by omega)
  exact ⟨(D : Int) * (l * (b : Int) + s * (a : Int)), _, _, l * (b : Int) + s * (a : Int), by rw [he]; exact w64 _ (by omega), w64 _ (by omega), w64 _ (by omega), w64 _ (by omega), w64 _ (by omega)⟩
theorem two_mul {n d e f : Nat} (h : e * d = 2 * n * f) (h1 : n ≤ 1000000) (h2 : d ≤ 1000) (h3 : e ≤ 2000000000) (_ : f ≤ 1000000) : ∃ V p : Int, IntKind.i64.wrap ((e : Int) * (d : Int)) = V ∧ IntKind.i64.wrap (2 * (n : Int)) = p ∧ IntKind.i64.wrap (p * (f : Int)) = V := by
  have m : e * d ≤ 2000000000 * 1000 := Nat.mul_le_mul h3 h2
  have e1 : (e : Int) * (d : Int) = ((e * d : Nat) : Int) := (Int.natCast_mul _ _).symm
  have e2 : 2 * (n : Int) * (f : Int) = ((2 * n * f : Nat) : Int) := by rw [Int.natCast_mul, Int.natCast_mul]; rfl
  refine ⟨((e * d : Nat) : Int), 2 * (n : Int), by rw [e1]; exact w64 _ (by omega), w64 _ (by omega), ?_⟩
  rw [e2, ← h]; exact w64 _ (by omega)
end Go.Proofs.Ytpldbakllegheab.S7
