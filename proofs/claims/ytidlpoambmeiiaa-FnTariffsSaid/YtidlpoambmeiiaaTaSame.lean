/- A simpler tariff is valid and costs the same; the next cubic meter; a mean price in lowest terms: plain facts. Conditions: each theorem's own premises. -/
import Derived.Test.YtidlpoambmeiiaaTaOut
import Derived.Test.YtidlpoambmeiiaaTaAns
import Derived.Test.YtidlpoambmeiiaaTaMe
namespace Go.Proofs.Ytidlpoambmeiiaa.S14
open P14

theorem cAt_app_lt (L : List Bl) (x : Bl) {i : Nat} (h : i < L.length) : cAt (L ++ [x]) i = cAt L i := by
  unfold cAt; simp [List.getD, h, List.getElem?_append_left]
theorem cAt_app_at (L : List Bl) (x : Bl) : cAt (L ++ [x]) L.length = x := by
  unfold cAt; simp [List.getD]
theorem pre_app (L : List Bl) (x : Bl) : ∀ {i : Nat}, i ≤ L.length → pre (L ++ [x]) i = pre L i
  | 0, _ => rfl
  | i + 1, h => by show (cAt (L ++ [x]) i).up = (cAt L i).up; rw [cAt_app_lt L x (by omega)]
theorem len_app (L : List Bl) (x : Bl) : (L ++ [x]).length = L.length + 1 := by simp
theorem prt_app (f : Int) (L : List Bl) (x : Bl) (v : Int) {i : Nat} (h : i < L.length) : prt ⟨f, L ++ [x]⟩ v i = prt ⟨f, L⟩ v i := by
  show (cAt (L ++ [x]) i).pr * max 0 (min v (cAt (L ++ [x]) i).up - pre (L ++ [x]) i) = (cAt L i).pr * max 0 (min v (cAt L i).up - pre L i)
  rw [cAt_app_lt L x h, pre_app L x (by omega)]
theorem sumTo_app (f : Int) (L : List Bl) (x : Bl) (v : Int) : ∀ {k : Nat}, k ≤ L.length → sumTo ⟨f, L ++ [x]⟩ v k = sumTo ⟨f, L⟩ v k
  | 0, _ => rfl
  | k + 1, h => by
    show sumTo ⟨f, L ++ [x]⟩ v k + prt ⟨f, L ++ [x]⟩ v k = sumTo ⟨f, L⟩ v k + prt ⟨f, L⟩ v k
    rw [sumTo_app f L x v (by omega), prt_app f L x v (by omega)]
theorem sumTo_snoc (f : Int) (L : List Bl) (x : Bl) (v : Int) : sumTo ⟨f, L ++ [x]⟩ v (L ++ [x]).length = sumTo ⟨f, L⟩ v L.length + x.pr * max 0 (min v x.up - pre L L.length) := by
  rw [len_app]
  show sumTo ⟨f, L ++ [x]⟩ v L.length + (cAt (L ++ [x]) L.length).pr * max 0 (min v (cAt (L ++ [x]) L.length).up - pre (L ++ [x]) L.length) = _
  rw [sumTo_app f L x v (Nat.le_refl _), cAt_app_at, pre_app L x (Nat.le_refl _)]
theorem to_app (L : List Bl) (x : Bl) (h : To L L.length) (h1 : pre L L.length < x.up) (h2 : 0 ≤ x.pr ∧ x.pr ≤ 1000) : To (L ++ [x]) (L ++ [x]).length := by
  intro i hi
  rw [len_app] at hi
  by_cases e : i = L.length
  · subst e
    unfold Ok
    rw [cAt_app_at, pre_app L x (Nat.le_refl _)]
    exact ⟨h1, h2⟩
  · have := h i (by omega)
    unfold Ok at this ⊢
    rw [cAt_app_lt L x (by omega), pre_app L x (by omega)]
    exact this
theorem pre_snoc (L : List Bl) (x : Bl) : pre (L ++ [x]) (L ++ [x]).length = x.up := by
  rw [len_app]
  show (cAt (L ++ [x]) L.length).up = _
  rw [cAt_app_at]
/-- What is kept of the first k blocks. -/
structure SI (t : Ta) (v : Int) (k : Nat) : Prop where
  tb : To (smL t.bs k) (smL t.bs k).length
  le : pre (smL t.bs k) (smL t.bs k).length ≤ pre t.bs k
  fin : k = t.bs.length → pre (smL t.bs k) (smL t.bs k).length = pre t.bs k
  sum : sumTo ⟨t.fee, smL t.bs k⟩ v (smL t.bs k).length + (cAt t.bs k).pr * max 0 (min v (pre t.bs k) - pre (smL t.bs k) (smL t.bs k).length) = sumTo t v k
theorem SI.zero (t : Ta) (v : Int) : SI t v 0 := by
  refine ⟨To.zero _, Int.le_refl _, fun _ => rfl, ?_⟩
  show t.fee + (cAt t.bs 0).pr * max 0 (min v 0 - 0) = t.fee
  have e : max 0 (min v 0 - 0) = 0 := by omega
  rw [e, Int.mul_zero, Int.add_zero]
theorem SI.next {t : Ta} (g : P14.Good t) {v : Int} {k : Nat} (hk : k < t.bs.length) (h : SI t v k) : SI t v (k + 1) := by
  obtain ⟨⟨a0, a1, a2⟩, a3, a4⟩ := g.at_ hk
  obtain ⟨h1, h2, _, h4⟩ := h
  have hp : sumTo t v (k + 1) = sumTo t v k + (cAt t.bs k).pr * max 0 (min v (cAt t.bs k).up - pre t.bs k) := rfl
  have hu : pre t.bs (k + 1) = (cAt t.bs k).up := rfl
  have hc : (cAt t.bs k).pr * max 0 (min v (pre t.bs k) - pre (smL t.bs k) (smL t.bs k).length) + (cAt t.bs k).pr * max 0 (min v (cAt t.bs k).up - pre t.bs k) = (cAt t.bs k).pr * max 0 (min v (cAt t.bs k).up - pre (smL t.bs k) (smL t.bs k).length) := by
    rw [← Int.mul_add]
    congr 1
    omega
  by_cases hs : stays t.bs k
  · refine ⟨?_, ?_, fun _ => ?_, ?_⟩
    · rw [smL_yes hs]; exact to_app _ _ h1 (by omega) ⟨a3, a4⟩
    · rw [smL_yes hs, pre_snoc]; exact Int.le_refl _
    · rw [smL_yes hs, pre_snoc]; rfl
    · rw [smL_yes hs, sumTo_snoc, pre_snoc, hp, hu, ← h4]
      have e : max 0 (min v (cAt t.bs k).up - (cAt t.bs k).up) = 0 := by omega
      rw [e, Int.mul_zero]
      omega
  · have hs' := hs
    unfold stays at hs'
    have e1 : k + 1 ≠ t.bs.length := fun e => hs' (.inl e)
    have e2 : (cAt t.bs (k + 1)).pr = (cAt t.bs k).pr := Classical.byContradiction fun e => hs' (.inr e)
    refine ⟨?_, ?_, fun e => absurd e e1, ?_⟩
    · rw [smL_no hs]; exact h1
    · rw [smL_no hs, hu]; omega
    · rw [smL_no hs, hp, hu, ← h4, e2]
      omega
theorem SI.all {t : Ta} (g : P14.Good t) (v : Int) : ∀ {k : Nat}, k ≤ t.bs.length → SI t v k
  | 0, _ => SI.zero t v
  | k + 1, h => (SI.all g v (k := k) (by omega)).next g (by omega)
theorem smT_good {t : Ta} (g : P14.Good t) : P14.Good (smT t) := by
  obtain ⟨h1, _, h3, _⟩ := SI.all g 0 (Nat.le_refl _)
  have h5 := smL_pos (bs := t.bs) (by have := g.2.1; omega)
  have h6 := smL_len t.bs t.bs.length
  have h7 := g.2.1
  exact ⟨g.1, ⟨h5, by show (smL t.bs t.bs.length).length ≤ 5; omega⟩, h1, by rw [← g.2.2.2]; exact h3 rfl⟩
theorem smT_cost {t : Ta} (g : P14.Good t) (v : Int) : cost (smT t) v = cost t v := by
  obtain ⟨_, _, h3, h4⟩ := SI.all g v (Nat.le_refl _)
  rw [h3 rfl] at h4
  have e : max 0 (min v (pre t.bs t.bs.length) - pre t.bs t.bs.length) = 0 := by omega
  rw [e, Int.mul_zero, Int.add_zero] at h4
  exact h4
theorem nx_cost {t : Ta} {v : Int} (h : nxV t v = true) : okV t v = true ∧ okV t (v + 1) = true ∧ cost t (v + 1) - cost t v = nxR t v := by
  obtain ⟨g, h0, h9⟩ := nxV_of h
  obtain ⟨i, hi⟩ := nx_ex (gB_of g) h0 h9
  refine ⟨okV_mk g ⟨h0, by omega⟩, okV_mk g ⟨by omega, by omega⟩, ?_⟩
  rw [nxR_yes g hi, cost_next (gB_of g) hi]
  omega
theorem div_cross (a b : Nat) : (a / Nat.gcd a b) * b = a * (b / Nat.gcd a b) := by
  obtain ⟨x, hx⟩ := Nat.gcd_dvd_left a b
  obtain ⟨y, hy⟩ := Nat.gcd_dvd_right a b
  by_cases h0 : Nat.gcd a b = 0
  · rw [h0] at hx hy; rw [hx, hy]; simp
  · have hp : 0 < Nat.gcd a b := Nat.pos_of_ne_zero h0
    generalize Nat.gcd a b = g at *
    subst hx hy
    rw [Nat.mul_div_cancel_left _ hp, Nat.mul_div_cancel_left _ hp, ← Nat.mul_assoc, Nat.mul_comm x g]
theorem me_mul {t : Ta} {v : Int} (h : meV t v = true) : meN t v * v = cost t v * meD t v ∧ okV t v = true ∧ (0 ≤ meN t v ∧ meN t v ≤ 1000000000) ∧ (0 ≤ meD t v ∧ meD t v ≤ 100000) ∧ (0 ≤ cost t v ∧ cost t v ≤ 1000000000) ∧ (0 ≤ v ∧ v ≤ 100000) := by
  obtain ⟨h1, _⟩ := meV_of h
  obtain ⟨g, h3, h4⟩ := okV_of h1
  have hc := cost_le g v
  have hf := g.1
  obtain ⟨a, b, ha, hb, _, _, _, hN, hD⟩ := me_yes h
  have k1 : meN t v = ((a / Nat.gcd a b : Nat) : Int) := hN
  have k2 : meD t v = ((b / Nat.gcd a b : Nat) : Int) := hD
  have q1 := Nat.div_le_self a (Nat.gcd a b)
  have q2 := Nat.div_le_self b (Nat.gcd a b)
  have q3 := div_cross a b
  clear hN hD
  rw [k1, k2]
  generalize a / Nat.gcd a b = q at *
  generalize b / Nat.gcd a b = r at *
  refine ⟨?_, h1, ⟨by omega, by omega⟩, ⟨by omega, by omega⟩, ⟨by omega, by omega⟩, h3, h4⟩
  rw [← ha, ← hb]
  exact_mod_cast q3
end Go.Proofs.Ytidlpoambmeiiaa.S14
