/- The parts of a cost as a list: plain facts. Conditions: each theorem's own premises. -/
import Derived.Test.YtidlpoambmeiiaaTaPlain
namespace Go.Proofs.Ytidlpoambmeiiaa.P14

/-- A volume of a valid tariff. -/
noncomputable def okV (t : Ta) (v : Int) : Bool := gB t && decide (0 ≤ v ∧ v ≤ 100000)
theorem okV_of {t : Ta} {v : Int} (h : okV t v = true) : Good t ∧ 0 ≤ v ∧ v ≤ 100000 := by
  unfold okV at h
  simp only [Bool.and_eq_true, decide_eq_true_eq] at h
  exact ⟨gB_of h.1, h.2⟩
theorem okV_bad {t : Ta} {v : Int} (h : gB t = false) : okV t v = false := by unfold okV; rw [h]; rfl
theorem okV_low {t : Ta} {v : Int} (h : ¬ (0 ≤ v ∧ v ≤ 100000)) : okV t v = false := by unfold okV; simp; intro _; omega
theorem okV_mk {t : Ta} {v : Int} (g : gB t = true) (h : 0 ≤ v ∧ v ≤ 100000) : okV t v = true := by unfold okV; simp [g, h]
/-- The fee and the costs in the first k blocks. -/
def spL (t : Ta) (v : Int) (k : Nat) : List Int := t.fee :: (List.range k).map (prt t v)
theorem spL_len (t : Ta) (v : Int) (k : Nat) : (spL t v k).length = k + 1 := by simp [spL]
theorem spL_zero (t : Ta) (v : Int) : spL t v 0 = [t.fee] := rfl
theorem spL_succ (t : Ta) (v : Int) (k : Nat) : spL t v (k + 1) = spL t v k ++ [prt t v k] := by
  simp [spL, List.range_succ]
noncomputable def spR (t : Ta) (v : Int) : List Int := if okV t v = true then spL t v t.bs.length else []
theorem spR_yes {t : Ta} {v : Int} (h : okV t v = true) : spR t v = spL t v t.bs.length := by unfold spR; rw [if_pos h]
theorem spR_no {t : Ta} {v : Int} (h : okV t v = false) : spR t v = [] := by unfold spR; rw [h]; simp
theorem spR_len (t : Ta) (v : Int) : (spR t v).length ≤ 6 := by
  cases h : okV t v with
  | false => rw [spR_no h]; simp
  | true =>
    rw [spR_yes h, spL_len]
    have := (okV_of h).1.2.1
    omega
/-- The sum of the first k numbers of a list. -/
def psum (l : List Int) : Nat → Int
  | 0 => 0
  | k + 1 => psum l k + l.getD k 0
theorem spL_get0 (t : Ta) (v : Int) (k : Nat) : (spL t v k).getD 0 0 = t.fee := rfl
theorem spL_get (t : Ta) (v : Int) (k i : Nat) (h : i < k) : (spL t v k).getD (i + 1) 0 = prt t v i := by
  simp [spL, List.getD, h]
theorem psum_spL (t : Ta) (v : Int) (n : Nat) : ∀ k, k ≤ n → psum (spL t v n) (k + 1) = sumTo t v k
  | 0, _ => by show 0 + (spL t v n).getD 0 0 = t.fee; rw [spL_get0]; omega
  | k + 1, h => by
    show psum (spL t v n) (k + 1) + (spL t v n).getD (k + 1) 0 = sumTo t v k + prt t v k
    rw [psum_spL t v n k (by omega), spL_get t v n k (by omega)]
noncomputable def coR (t : Ta) (v : Int) : Int := if okV t v = true then cost t v else 0
theorem coR_yes {t : Ta} {v : Int} (h : okV t v = true) : coR t v = cost t v := by unfold coR; rw [if_pos h]
theorem coR_no {t : Ta} {v : Int} (h : okV t v = false) : coR t v = 0 := by unfold coR; rw [h]; simp
theorem coR_sum (t : Ta) (v : Int) : psum (spR t v) (spR t v).length = coR t v := by
  cases h : okV t v with
  | false => rw [spR_no h, coR_no h]; rfl
  | true => rw [spR_yes h, coR_yes h, spL_len, psum_spL t v _ _ (Nat.le_refl _)]; rfl
theorem spR_low (t : Ta) (v : Int) (i : Nat) : 0 ≤ (spR t v).getD i 0 ∧ (spR t v).getD i 0 ≤ 100000000 := by
  cases h : okV t v with
  | false => rw [spR_no h]; simp [List.getD]
  | true =>
    rw [spR_yes h]
    obtain ⟨g, _⟩ := okV_of h
    cases i with
    | zero => rw [spL_get0]; have := g.1; omega
    | succ i =>
      by_cases hi : i < t.bs.length
      · rw [spL_get t v _ i hi]; exact prt_le g hi
      · rw [show (spL t v t.bs.length).getD (i + 1) 0 = 0 by simp [spL, List.getD]; rw [List.getElem?_eq_none (by simp; omega)]; rfl]
        omega
theorem psum_low (t : Ta) (v : Int) : ∀ k, 0 ≤ psum (spR t v) k ∧ psum (spR t v) k ≤ 100000000 * (k : Int)
  | 0 => by show (0 : Int) ≤ 0 ∧ (0 : Int) ≤ _; omega
  | k + 1 => by
    have h1 := psum_low t v k
    have h2 := spR_low t v k
    show 0 ≤ psum (spR t v) k + _ ∧ psum (spR t v) k + _ ≤ _
    omega
end Go.Proofs.Ytidlpoambmeiiaa.P14
