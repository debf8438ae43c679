/- Splits of a flow (chapter 10): plain facts, no program in them. Conditions: each theorem's own premises. -/
import Derived.Test.YtgjogjmfpbinfaaMinMax
import Derived.Test.YtgjogjmfpbinfaaAmB
namespace Go.Proofs.Ytgjogjmfpbinfaa.S2
open Go.RowKit P2

/-- The energy of a part, and what one unit more of it costs. -/
def peI (s q : Int) : Int := s * q * q * q
def pcI (s q : Int) : Int := peI s (q + 1) - peI s q
theorem peI_in {s q : Int} (hs : 1 ≤ s ∧ s ≤ 9) (hq : 0 ≤ q ∧ q ≤ 61) : (0 ≤ s * q ∧ s * q ≤ 549) ∧ (0 ≤ s * q * q ∧ s * q * q ≤ 33489) ∧ 0 ≤ peI s q ∧ peI s q ≤ 2042829 := by
  have a0 : 0 ≤ s * q := Int.mul_nonneg (by omega) hq.1
  have a1 : s * q ≤ 9 * 61 := Int.mul_le_mul hs.2 hq.2 hq.1 (by omega)
  have b0 : 0 ≤ s * q * q := Int.mul_nonneg a0 hq.1
  have b1 : s * q * q ≤ 549 * 61 := Int.mul_le_mul (by omega) hq.2 hq.1 (by omega)
  have c0 : 0 ≤ s * q * q * q := Int.mul_nonneg b0 hq.1
  have c1 : s * q * q * q ≤ 33489 * 61 := Int.mul_le_mul (by omega) hq.2 hq.1 (by omega)
  unfold peI
  exact ⟨⟨a0, by omega⟩, ⟨b0, by omega⟩, c0, by omega⟩
def pcL (ss qs : List Int) : List Int := (List.range ss.length).map fun i => pcI (lA ss i) (lA qs i)
theorem pcL_len (ss qs : List Int) : (pcL ss qs).length = ss.length := by simp [pcL]
theorem pcL_at {ss qs : List Int} {i : Nat} (h : i < ss.length) : lA (pcL ss qs) i = pcI (lA ss i) (lA qs i) := by simp [pcL, lA, List.getD, h]
def peL (ss qs : List Int) : List Int := (List.range ss.length).map fun i => peI (lA ss i) (lA qs i)
theorem peL_len (ss qs : List Int) : (peL ss qs).length = ss.length := by simp [peL]
theorem peL_at {ss qs : List Int} {i : Nat} (h : i < ss.length) : lA (peL ss qs) i = peI (lA ss i) (lA qs i) := by simp [peL, lA, List.getD, h]

/-- Where one unit more is cheapest, the first of several. -/
def nxT (ss qs : List Int) (k : Nat) : Nat := fstG (fun i => -pcI (lA ss i) (lA qs i)) k
def nxS (ss qs : List Int) : Nat := nxT ss qs ss.length
theorem nxT_lt (ss qs : List Int) {k : Nat} (h : 0 < k) : nxT ss qs k < k := fstG_lt _ k h
theorem nxT_one (ss qs : List Int) : nxT ss qs 1 = 0 := fstG_one _
theorem nxT_step (ss qs : List Int) (k : Nat) : nxT ss qs (k + 1) = if pcI (lA ss k) (lA qs k) < pcI (lA ss (nxT ss qs k)) (lA qs (nxT ss qs k)) then k else nxT ss qs k := by
  unfold nxT
  rw [fstG]
  by_cases h : pcI (lA ss k) (lA qs k) < pcI (lA ss (fstG (fun i => -pcI (lA ss i) (lA qs i)) k)) (lA qs (fstG (fun i => -pcI (lA ss i) (lA qs i)) k))
  · rw [if_pos h, if_pos (by omega)]
  · rw [if_neg h, if_neg (by omega)]
theorem loK_fst (l : List Int) : ∀ k, 0 < k → loK l k = lA l (fstG (fun i => -lA l i) k)
  | 0, h => absurd h (by omega)
  | 1, _ => by rw [loK_one, fstG_one]
  | k + 2, _ => by
    have h1 := loK_fst l (k + 1) (by omega)
    have h2 : -lA l (fstG (fun i => -lA l i) (k + 2)) = max (-lA l (fstG (fun i => -lA l i) (k + 1))) (-lA l (k + 1)) := fstG_val (fun i => -lA l i) (k + 1)
    rw [loK, h1]
    omega
theorem fstG_congr {f g : Nat → Int} : ∀ k, (∀ i, i < k → f i = g i) → fstG f k = fstG g k
  | 0, _ => rfl
  | k + 1, h => by
    have h1 := fstG_congr k fun i hi => h i (by omega)
    rw [fstG, fstG, h1]
    by_cases hk : k = 0
    · subst hk; simp [fstG]
    · rw [h k (by omega), h (fstG g k) (by have := fstG_lt g k (by omega); omega)]
/-- The least of the costs, and where it stands first. -/
theorem cost_least {ss qs : List Int} (h : 0 < ss.length) : nxS ss qs < ss.length ∧ lA (pcL ss qs) (nxS ss qs) = loK (pcL ss qs) (pcL ss qs).length ∧ ∀ j, j < nxS ss qs → lA (pcL ss qs) j ≠ loK (pcL ss qs) (pcL ss qs).length := by
  have e : nxS ss qs = fstG (fun i => -lA (pcL ss qs) i) ss.length := by
    unfold nxS nxT
    exact fstG_congr _ fun i hi => by rw [pcL_at hi]
  have h1 := loK_fst (pcL ss qs) ss.length h
  rw [pcL_len, h1, e]
  refine ⟨fstG_lt _ _ h, rfl, fun j hj he => ?_⟩
  have : -lA (pcL ss qs) j < -lA (pcL ss qs) (fstG (fun i => -lA (pcL ss qs) i) ss.length) := fstG_first (fun i => -lA (pcL ss qs) i) ss.length j hj
  omega

/-- The parts after k units. -/
def spK (ss : List Int) : Nat → List Int
  | 0 => List.replicate ss.length 0
  | k + 1 => (spK ss k).set (nxS ss (spK ss k)) (lA (spK ss k) (nxS ss (spK ss k)) + 1)
theorem spK_len (ss : List Int) : ∀ k, (spK ss k).length = ss.length
  | 0 => by simp [spK]
  | k + 1 => by simp [spK, spK_len ss k]
theorem lA_set_same {l : List Int} {i : Nat} {x : Int} (h : i < l.length) : lA (l.set i x) i = x := by simp [lA, List.getD, h]
theorem lA_set_ne {l : List Int} {i j : Nat} {x : Int} (h : i ≠ j) : lA (l.set i x) j = lA l j := by
  unfold lA List.getD
  rw [List.getElem?_set_ne h]
theorem spK_in (ss : List Int) : ∀ (k i : Nat), 0 ≤ lA (spK ss k) i ∧ lA (spK ss k) i ≤ k
  | 0, i => by
    by_cases h : i < ss.length
    · simp [spK, lA, List.getD, h]
    · simp [spK, lA, List.getD, h]
  | k + 1, i => by
    by_cases h : nxS ss (spK ss k) = i
    · have := spK_in ss k i
      by_cases hl : i < (spK ss k).length
      · rw [spK, h, lA_set_same hl]
        omega
      · rw [spK, h]
        have e : ((spK ss k).set i (lA (spK ss k) i + 1)) = spK ss k := List.set_eq_of_length_le (by omega)
        rw [e]
        omega
    · have := spK_in ss k i
      rw [spK, lA_set_ne h]
      omega
/-- Sizes of parallel pipes. -/
def szsB (ss : List Int) : Bool := decide (1 ≤ ss.length) && decide (ss.length ≤ 5) && allR 1 9 ss
theorem szsB_of {ss : List Int} (h : szsB ss = true) : 1 ≤ ss.length ∧ ss.length ≤ 5 ∧ allR 1 9 ss = true := by
  simpa [szsB, Bool.and_eq_true, and_assoc] using h
theorem szs_at {ss : List Int} (h : szsB ss = true) {i : Nat} (hi : i < ss.length) : 1 ≤ lA ss i ∧ lA ss i ≤ 9 := allR_at (szsB_of h).2.2 hi
end Go.Proofs.Ytgjogjmfpbinfaa.S2
