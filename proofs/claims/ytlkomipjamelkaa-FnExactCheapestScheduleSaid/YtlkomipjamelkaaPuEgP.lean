/- The eager schedule: plain facts. Conditions: each theorem's own premises. -/
import Derived.Test.YtlkomipjamelkaaPuIg
namespace Go.Proofs.Ytlkomipjamelkaa.S13
open Go.RowKit P11 S11 P13

/-- The volume that can be pumped at a level; the level before hour k of the eager schedule. -/
def vB (p : Pg) (L : Int) : Int := min p.pm (p.b - L)
def lvE (p : Pg) : Nat → Int
  | 0 => p.L
  | k + 1 => nx p k (lvE p k) (vB p (lvE p k))
def vE (p : Pg) (k : Nat) : Int := vB p (lvE p k)
def egL (p : Pg) (k : Nat) : List Int := (List.range k).map (vE p)
theorem egL_len (p : Pg) (k : Nat) : (egL p k).length = k := by simp [egL]
theorem egL_snoc (p : Pg) (k : Nat) : egL p (k + 1) = egL p k ++ [vE p k] := by simp [egL, List.range_succ]
theorem egL_at (p : Pg) {k i : Nat} (h : i < k) : (egL p k).getD i 0 = vE p i := by simp [egL, List.getD, h]
theorem egL_lv (p : Pg) (n : Nat) : ∀ {k : Nat}, k ≤ n → lvS p (egL p n) k = lvE p k
  | 0, _ => rfl
  | k + 1, hk => by rw [lvS_succ, egL_lv p n (k := k) (by omega), egL_at p (by omega)]; rfl
theorem vB_in {p : Pg} (hg : P13.Good p) {L : Int} (h : tkB L p.a p.b = true) : 0 ≤ vB p L ∧ vB p L ≤ p.pm := by
  have := tkB_iff.1 h
  have := hg.m0
  unfold vB
  omega
theorem lvE_tk {p : Pg} (hg : P13.Good p) : ∀ {k : Nat}, k ≤ p.xs.length → tkB (lvE p k) p.a p.b = true
  | 0, _ => hg.day.tk
  | k + 1, hk => by
    have ih := lvE_tk hg (k := k) (by omega)
    have hv := vB_in hg ih
    exact hg.nx (by omega) ih hv.1 hv.2
theorem vE_in {p : Pg} (hg : P13.Good p) {k : Nat} (hk : k ≤ p.xs.length) : 0 ≤ vE p k ∧ vE p k ≤ p.pm := vB_in hg (lvE_tk hg hk)
theorem eg_hr {p : Pg} (hg : P13.Good p) {k : Nat} (hk : k < p.xs.length) : hrB p (egL p p.xs.length) k = okS p k (lvE p k) (vE p k) := by
  unfold hrB
  rw [egL_lv p _ (by omega), egL_at p hk]
  have := vE_in hg (k := k) (by omega)
  simp [inR, this]
def egB (p : Pg) : Bool := gsB p (egL p p.xs.length)
theorem eg_no {p : Pg} (hg : P13.Good p) {k : Nat} (hk : k < p.xs.length) (h : okS p k (lvE p k) (vE p k) = false) : egB p = false := by
  cases e : egB p with
  | false => rfl
  | true =>
    have := (gs_all e).2.2.1 k (by rw [egL_len]; exact hk)
    rw [eg_hr hg hk, h] at this
    cases this
theorem eg_end {p : Pg} (hg : P13.Good p) (h : ∀ k, k < p.xs.length → okS p k (lvE p k) (vE p k) = true) : egB p = decide (p.L ≤ lvE p p.xs.length) := by
  rw [Bool.eq_iff_iff]
  unfold egB
  rw [gs_iff, egL_len, egL_lv p _ (Nat.le_refl _), decide_eq_true_eq]
  constructor
  · rintro ⟨_, _, _, h4⟩; exact h4
  · intro h4
    exact ⟨hg, rfl, fun j hj => by rw [eg_hr hg hj]; exact h j hj, h4⟩
theorem eg_bad {p : Pg} (h : pgB p = false) : egB p = false := by unfold egB gsB; rw [h]; rfl
/-- The eager schedule, if it is good. -/
def egR (p : Pg) : List Int := if egB p then egL p p.xs.length else []
theorem egR_len {p : Pg} : (egR p).length ≤ p.xs.length := by unfold egR; split <;> simp [egL_len]
end Go.Proofs.Ytlkomipjamelkaa.S13
