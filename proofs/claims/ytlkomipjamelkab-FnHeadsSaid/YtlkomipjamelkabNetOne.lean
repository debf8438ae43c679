/- Plain facts on networks (chapter 2): valid networks, what is reached, distances; no program in them. No conditions. -/
import Derived.Lib.Hide
namespace Go.Proofs.Ytlkomipjamelkab.P2

/-- A pipe. -/
structure Pp where
  id : Int
  fr : Int
  to : Int
  sz : Int
deriving DecidableEq, Inhabited

def PpOk (n : Int) (p : Pp) : Prop := 1 ≤ p.id ∧ p.id ≤ 99 ∧ 1 ≤ p.fr ∧ p.fr ≤ n ∧ 1 ≤ p.to ∧ p.to ≤ n ∧ p.fr ≠ p.to ∧ 1 ≤ p.sz ∧ p.sz ≤ 9
instance (n : Int) (p : Pp) : Decidable (PpOk n p) := by unfold PpOk; infer_instance

/-- The first k pipes are fine, in strictly ascending order. -/
def OkTo (n : Int) (ps : List Pp) (k : Nat) : Prop := ∀ i, i < k → ∀ p, ps[i]? = some p → PpOk n p ∧ ∀ q, 0 < i → ps[i - 1]? = some q → q.id < p.id

theorem OkTo.zero (n : Int) (ps : List Pp) : OkTo n ps 0 := fun i h => absurd h (by omega)

def Good (n : Int) (ps : List Pp) : Prop := 1 ≤ n ∧ n ≤ 8 ∧ ps.length ≤ 10 ∧ OkTo n ps ps.length
open Classical in
noncomputable def goodB (n : Int) (ps : List Pp) : Bool := decide (Good n ps)
theorem good_of {n : Int} {ps : List Pp} (h : goodB n ps = true) : Good n ps := by simpa [goodB] using h
theorem good_mk {n : Int} {ps : List Pp} (h : Good n ps) : goodB n ps = true := by simpa [goodB] using h
theorem good_no {n : Int} {ps : List Pp} (h : ¬ Good n ps) : goodB n ps = false := by simpa [goodB] using h

def pAt (ps : List Pp) (i : Nat) : Pp := ps.getD i ⟨0, 0, 0, 0⟩
theorem pAt_get (ps : List Pp) (i : Nat) (h : i < ps.length) : ps[i]? = some (pAt ps i) := by
  unfold pAt; simp [List.getD, h]

theorem OkTo.next {n : Int} {ps : List Pp} {k : Nat} (h : OkTo n ps k) (hk : k < ps.length) (hp : PpOk n (pAt ps k)) (hq : 0 < k → (pAt ps (k - 1)).id < (pAt ps k).id) : OkTo n ps (k + 1) := by
  intro i hi p hip
  by_cases e : i = k
  · subst e
    rw [pAt_get ps i hk] at hip
    injection hip with hip
    subst hip
    refine ⟨hp, fun q h0 hq' => ?_⟩
    rw [pAt_get ps (i - 1) (by omega)] at hq'
    injection hq' with hq'
    subst hq'
    exact hq h0
  · exact h i (by omega) p hip
theorem OkTo.bad {n : Int} {ps : List Pp} {k : Nat} (hk : k < ps.length) (hb : ¬ PpOk n (pAt ps k) ∨ (0 < k ∧ (pAt ps k).id ≤ (pAt ps (k - 1)).id)) : ¬ Good n ps := by
  rintro ⟨_, _, _, h⟩
  obtain ⟨h1, h2⟩ := h k hk _ (pAt_get ps k hk)
  rcases hb with hb | ⟨h0, hb⟩
  · exact hb h1
  · have := h2 _ h0 (pAt_get ps (k - 1) (by omega))
    omega
end Go.Proofs.Ytlkomipjamelkab.P2
