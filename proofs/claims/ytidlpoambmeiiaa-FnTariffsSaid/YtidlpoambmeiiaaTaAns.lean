/- What NextPrice, VolumeFor, MeanPrice and CheaperFrom answer: plain facts. Conditions: each theorem's own premises. -/
import Derived.Test.YtidlpoambmeiiaaTaSum
namespace Go.Proofs.Ytidlpoambmeiiaa.P14

noncomputable def nxV (t : Ta) (v : Int) : Bool := gB t && decide (0 ≤ v ∧ v < 100000)
theorem nxV_of {t : Ta} {v : Int} (h : nxV t v = true) : gB t = true ∧ 0 ≤ v ∧ v < 100000 := by
  unfold nxV at h
  simpa only [Bool.and_eq_true, decide_eq_true_eq] using h
theorem nxV_mk {t : Ta} {v : Int} (g : gB t = true) (h : 0 ≤ v ∧ v < 100000) : nxV t v = true := by unfold nxV; simp [g, h]
theorem nxV_bad {t : Ta} {v : Int} (h : gB t = false) : nxV t v = false := by unfold nxV; rw [h]; rfl
theorem nxV_low {t : Ta} {v : Int} (h : ¬ (0 ≤ v ∧ v < 100000)) : nxV t v = false := by unfold nxV; simp; intro _; omega
open Classical in
noncomputable def nxR (t : Ta) (v : Int) : Int := if h : gB t = true ∧ ∃ i, NX t v i then (cAt t.bs (Classical.choose h.2)).pr else 0
theorem nxR_yes {t : Ta} {v : Int} {i : Nat} (g : gB t = true) (h : NX t v i) : nxR t v = (cAt t.bs i).pr := by
  have he : gB t = true ∧ ∃ i, NX t v i := ⟨g, i, h⟩
  unfold nxR
  rw [dif_pos he, NX.uniq (gB_of g) (Classical.choose_spec he.2) h]
theorem nxR_no {t : Ta} {v : Int} (h : nxV t v = false) : nxR t v = 0 := by
  unfold nxR
  rw [dif_neg]
  rintro ⟨g, i, hi⟩
  have h1 := (gB_of g).at_ hi.1
  have := hi.2
  rw [nxV_mk g (by omega)] at h
  cases h
/-- The first block that ends above v. -/
theorem nx_first {t : Ta} (g : Good t) {v : Int} (h0 : 0 ≤ v) (h9 : v < 100000) {m : Nat} (hm : m ≤ t.bs.length) (hlow : ∀ j, j < m → decide (v < (cAt t.bs j).up) = false) (hhigh : ∀ j, m ≤ j → j < t.bs.length → decide (v < (cAt t.bs j).up) = true) : NX t v m := by
  have hl : m < t.bs.length := by
    by_cases e : m < t.bs.length
    · exact e
    · have hl := g.2.1
      have h1 := hlow (t.bs.length - 1) (by omega)
      have h2 := g.2.2.2
      rw [show t.bs.length = (t.bs.length - 1) + 1 by omega] at h2
      have h3 : (cAt t.bs (t.bs.length - 1)).up = 100000 := h2
      rw [h3] at h1
      simp at h1
      omega
  refine ⟨hl, by simpa using hhigh m (Nat.le_refl _) hl, ?_⟩
  cases m with
  | zero => exact h0
  | succ m =>
    have := hlow m (by omega)
    simp at this
    exact this
theorem up_mono {t : Ta} (g : Good t) {a b : Nat} (h : a ≤ b) (hb : b < t.bs.length) : (cAt t.bs a).up ≤ (cAt t.bs b).up := g.mono (i := a + 1) (j := b + 1) (by omega) (by omega)

noncomputable def vfV (t : Ta) (c : Int) : Bool := gB t && decide (t.fee ≤ c ∧ c ≤ 1000000000)
theorem vfV_of {t : Ta} {c : Int} (h : vfV t c = true) : gB t = true ∧ t.fee ≤ c ∧ c ≤ 1000000000 := by
  unfold vfV at h
  simpa only [Bool.and_eq_true, decide_eq_true_eq] using h
theorem vfV_mk {t : Ta} {c : Int} (g : gB t = true) (h : t.fee ≤ c ∧ c ≤ 1000000000) : vfV t c = true := by unfold vfV; simp [g, h]
theorem vfV_bad {t : Ta} {c : Int} (h : gB t = false) : vfV t c = false := by unfold vfV; rw [h]; rfl
theorem vfV_low {t : Ta} {c : Int} (h : ¬ (t.fee ≤ c ∧ c ≤ 1000000000)) : vfV t c = false := by unfold vfV; simp; intro _; omega
open Classical in
noncomputable def vfR (t : Ta) (c : Int) : Int := if h : vfV t c = true ∧ ∃ v, VF t c v then Classical.choose h.2 else 0
theorem vfR_yes {t : Ta} {c v : Int} (g : vfV t c = true) (h : VF t c v) : vfR t c = v := by
  have he : vfV t c = true ∧ ∃ v, VF t c v := ⟨g, v, h⟩
  unfold vfR
  rw [dif_pos he]
  exact VF.uniq (gB_of (vfV_of g).1) (Classical.choose_spec he.2) h
theorem vfR_no {t : Ta} {c : Int} (h : vfV t c = false) : vfR t c = 0 := by
  unfold vfR
  rw [dif_neg]
  rintro ⟨g, _⟩
  rw [h] at g; cases g
theorem vfR_in {t : Ta} {c : Int} (h : vfV t c = true) : VF t c (vfR t c) := by
  obtain ⟨v, hv⟩ := vf_ex (gB_of (vfV_of h).1) (vfV_of h).2.1
  rw [vfR_yes h hv]; exact hv

noncomputable def meV (t : Ta) (v : Int) : Bool := okV t v && decide (v ≠ 0)
theorem meV_of {t : Ta} {v : Int} (h : meV t v = true) : okV t v = true ∧ v ≠ 0 := by
  unfold meV at h
  simpa only [Bool.and_eq_true, decide_eq_true_eq] using h
theorem meV_bad {t : Ta} {v : Int} (h : okV t v = false) : meV t v = false := by unfold meV; rw [h]; rfl
theorem meV_zero {t : Ta} : meV t 0 = false := by unfold meV; simp
theorem meV_mk {t : Ta} {v : Int} (h : okV t v = true) (h0 : v ≠ 0) : meV t v = true := by unfold meV; simp [h, h0]
noncomputable def meN (t : Ta) (v : Int) : Int := if meV t v = true then (((cost t v).toNat / Nat.gcd (cost t v).toNat v.toNat : Nat) : Int) else 0
noncomputable def meD (t : Ta) (v : Int) : Int := if meV t v = true then ((v.toNat / Nat.gcd (cost t v).toNat v.toNat : Nat) : Int) else 0
theorem meN_no {t : Ta} {v : Int} (h : meV t v = false) : meN t v = 0 := by unfold meN; rw [h]; simp
theorem meD_no {t : Ta} {v : Int} (h : meV t v = false) : meD t v = 0 := by unfold meD; rw [h]; simp

noncomputable def cfV (a b : Ta) : Bool := gB a && gB b
open Classical in
noncomputable def cfB (a b : Ta) : Bool := gB a && gB b && decide (∃ n, CF a b n)
open Classical in
noncomputable def cfR (a b : Ta) : Int := if h : cfB a b = true ∧ ∃ n, CF a b n then ((Classical.choose h.2 : Nat) : Int) else 0
theorem cfB_of {a b : Ta} (h : cfB a b = true) : gB a = true ∧ gB b = true ∧ ∃ n, CF a b n := by
  unfold cfB at h
  simp only [Bool.and_eq_true, decide_eq_true_eq] at h
  exact ⟨h.1.1, h.1.2, h.2⟩
theorem cfB_mk {a b : Ta} {n : Nat} (ga : gB a = true) (gb : gB b = true) (h : CF a b n) : cfB a b = true := by
  unfold cfB
  simp only [Bool.and_eq_true, decide_eq_true_eq]
  exact ⟨⟨ga, gb⟩, n, h⟩
theorem cfB_no {a b : Ta} (h : ∀ n, ¬ CF a b n) : cfB a b = false := by
  unfold cfB
  have : ¬ ∃ n, CF a b n := fun ⟨n, hn⟩ => h n hn
  simp [this]
theorem cfB_bad {a b : Ta} (h : gB a = false ∨ gB b = false) : cfB a b = false := by
  unfold cfB
  rcases h with h | h <;> simp [h]
theorem cfR_yes {a b : Ta} {n : Nat} (ga : gB a = true) (gb : gB b = true) (h : CF a b n) : cfR a b = (n : Int) := by
  have he : cfB a b = true ∧ ∃ n, CF a b n := ⟨cfB_mk ga gb h, n, h⟩
  unfold cfR
  rw [dif_pos he, CF.uniq (Classical.choose_spec he.2) h]
theorem cfR_no {a b : Ta} (h : cfB a b = false) : cfR a b = 0 := by
  unfold cfR
  rw [dif_neg]
  rintro ⟨g, _⟩
  rw [h] at g; cases g
end Go.Proofs.Ytidlpoambmeiiaa.P14
