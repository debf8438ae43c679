/- Plain facts on day profiles: what shifting and flattening keep, means. No conditions. -/
import Derived.Test.YtkgkeohnnpkahaaPfPlain
namespace Go.Proofs.Ytkgkeohnnpkahaa.P6

def S (f : Nat → Int) : Nat → Int
  | 0 => 0
  | k + 1 => S f k + f k
theorem sm_S (l : List Int) (k : Nat) : sm l k = S (at0 l) k := by
  induction k with
  | zero => rfl
  | succ k ih => simp only [sm, S]; rw [ih]
theorem S_congr {f g : Nat → Int} {k : Nat} (h : ∀ i, i < k → f i = g i) : S f k = S g k := by
  induction k with
  | zero => rfl
  | succ k ih => simp only [S]; rw [ih fun i hi => h i (by omega), h k (by omega)]
theorem S_ge {f : Nat → Int} {m : Int} {k : Nat} (h : ∀ i, i < k → m ≤ f i) : m * (k : Int) ≤ S f k := by
  induction k with
  | zero => simp [S]
  | succ k ih =>
    have h1 := ih fun i hi => h i (by omega)
    have h2 := h k (by omega)
    simp only [S]
    rw [Int.natCast_succ, Int.mul_add, Int.mul_one]
    omega
theorem S_le {f : Nat → Int} {m : Int} {k : Nat} (h : ∀ i, i < k → f i ≤ m) : S f k ≤ m * (k : Int) := by
  induction k with
  | zero => simp [S]
  | succ k ih =>
    have h1 := ih fun i hi => h i (by omega)
    have h2 := h k (by omega)
    simp only [S]
    rw [Int.natCast_succ, Int.mul_add, Int.mul_one]
    omega
theorem S_add (f g : Nat → Int) (k : Nat) : S (fun i => f i + g i) k = S f k + S g k := by
  induction k with
  | zero => rfl
  | succ k ih => simp only [S]; rw [ih]; omega
theorem S_mul (f : Nat → Int) (c : Int) (k : Nat) : S (fun i => f i * c) k = S f k * c := by
  induction k with
  | zero => simp [S]
  | succ k ih => simp only [S]; rw [ih, Int.add_mul]
theorem rot_one (f : Nat → Int) : S (fun i => f ((i + 23) % 24)) 24 = S f 24 := by
  simp [S]; omega
theorem rot (f : Nat → Int) (h : Nat) (hh : h ≤ 24) : S (fun i => f ((i + 24 - h) % 24)) 24 = S f 24 := by
  induction h with
  | zero => exact S_congr fun i hi => by rw [show (i + 24 - 0) % 24 = i by omega]
  | succ h ih =>
    rw [← ih (by omega)]
    rw [← rot_one (fun i => f ((i + 24 - h) % 24))]
    refine S_congr fun i hi => ?_
    show f ((i + 24 - (h + 1)) % 24) = f (((i + 23) % 24 + 24 - h) % 24)
    congr 1
    omega
theorem gd_S {l : List Int} (g : Gd l) : S (at0 l) 24 = 2400 := by rw [← sm_S]; exact g.2.2
theorem shL_gd {l : List Int} (g : Gd l) (h : Nat) (hh : h < 24) : Gd (shL l h) := by
  refine ⟨shL_len _ _, fun i hi => ?_, ?_⟩
  · rw [shL_at l h i hi]; exact g.2.1 _ (Nat.mod_lt _ (by omega))
  · rw [sm_S, S_congr (g := fun i => at0 l ((i + 24 - h) % 24)) (fun i hi => shL_at l h i hi), rot _ _ (by omega)]
    exact gd_S g
theorem shL_back {l : List Int} (g : Gd l) (h : Nat) (hh : h < 24) : shL (shL l h) ((24 - h) % 24) = l := by
  refine ext_at (by rw [shL_len, g.1]) fun i hi => ?_
  rw [shL_len] at hi
  rw [shL_at _ _ i hi, shL_at l h _ (Nat.mod_lt _ (by omega))]
  congr 1
  omega
theorem shL_peak {l : List Int} (h : Nat) (hh : h < 24) : at0 (shL l h) (pk (shL l h) 24) = at0 l (pk l 24) := by
  have h1 := pk_lt l 24 (by omega)
  have h2 := pk_lt (shL l h) 24 (by omega)
  have a := (pk_most l 24 ((pk (shL l h) 24 + 24 - h) % 24) (Nat.mod_lt _ (by omega))).1
  rw [← shL_at l h _ h2] at a
  have b := (pk_most (shL l h) 24 ((pk l 24 + h) % 24) (Nat.mod_lt _ (by omega))).1
  rw [shL_at l h _ (Nat.mod_lt _ (by omega)), show ((pk l 24 + h) % 24 + 24 - h) % 24 = pk l 24 by omega] at b
  omega
theorem flL_gd {l : List Int} {m : Int} (g : Gd l) (hm : 100 ≤ m) : Gd (flL l m) ∧ ¬ m < at0 (flL l m) (pk (flL l m) 24) := by
  obtain ⟨h1, h2⟩ := flN_spec g hm
  exact ⟨mvs_gd g hm h2 _ (Nat.le_refl _), h1⟩
theorem pk_hundred {l : List Int} (g : Gd l) : 100 ≤ at0 l (pk l 24) := by
  refine Classical.byContradiction fun hc => ?_
  have h := S_le (f := at0 l) (m := 99) (k := 24) fun i hi => by have := (pk_most l 24 i hi).1; omega
  rw [gd_S g] at h
  omega
theorem qh_least (l : List Int) (y k : Nat) : ∀ j, j < k → pf l (qh l y k) y ≤ pf l j y := by
  induction k with
  | zero => intro j h; omega
  | succ k ih =>
    intro j hj
    simp only [qh]
    split
    · by_cases e : j = k
      · subst e; omega
      · have := ih j (by omega); omega
    · by_cases e : j = k
      · subst e; omega
      · exact ih j (by omega)
theorem pf_all {l : List Int} (g : Gd l) (y : Nat) (hy : y ≤ 24) : S (fun f => pf l f y) 24 = 2400 * (y : Int) := by
  induction y with
  | zero => simp [S, pf]
  | succ y ih =>
    have e : (fun f => pf l f (y + 1)) = fun f => pf l f y + at0 l ((f + y) % 24) := rfl
    rw [e, S_add, ih (by omega), S_congr (g := fun i => at0 l ((i + 24 - (24 - y)) % 24)) (fun i hi => by rw [show i + 24 - (24 - y) = i + y by omega]), rot _ _ (by omega), gd_S g]
    omega
theorem qh_mean {l : List Int} (g : Gd l) (y : Nat) (hy : y ≤ 24) : pf l (qh l y 24) y ≤ 100 * (y : Int) := by
  have h1 := S_ge (f := fun f => pf l f y) (m := pf l (qh l y 24) y) (k := 24) fun i hi => qh_least l y 24 i hi
  rw [pf_all g y hy] at h1
  omega
theorem flat_at (i : Nat) (hi : i < 24) : at0 (List.replicate 24 100) i = 100 := by
  unfold at0
  rw [List.getD_eq_getElem?_getD, List.getElem?_replicate, if_pos hi]
  rfl
theorem flat_gd : Gd (List.replicate 24 100) := by
  refine ⟨List.length_replicate, fun i hi => ?_, ?_⟩
  · rw [flat_at i hi]; omega
  · rw [sm_S, S_congr (g := fun _ => 100) (fun i hi => flat_at i hi)]
    simp [S]
end Go.Proofs.Ytkgkeohnnpkahaa.P6
