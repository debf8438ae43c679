/- Plain facts on day profiles (chapter 6): sums, greatest and smallest numbers, flattening; no program in them. No conditions. -/
import Derived.Lib.Hide
namespace Go.Proofs.Ytkgkeohnnpkahaa.P6

/-- The number at place i. -/
abbrev at0 (l : List Int) (i : Nat) : Int := l.getD i 0
theorem at_lt {l : List Int} {i : Nat} (h : i < l.length) : at0 l i = l[i] := by simp [at0, List.getD, h]
theorem at_set (l : List Int) (i j : Nat) (x : Int) (h : i < l.length) : at0 (l.set i x) j = if j = i then x else at0 l j := by
  unfold at0
  by_cases e : j = i
  · subst e; simp [List.getD, h]
  · rw [if_neg e]; simp [List.getD, Ne.symm e]
theorem ext_at {a b : List Int} (h : a.length = b.length) (h2 : ∀ i, i < a.length → at0 a i = at0 b i) : a = b := by
  apply List.ext_getElem h
  intro i h1 h3
  have := h2 i h1
  rwa [at_lt h1, at_lt h3] at this

/-- The sum of the first k numbers. -/
def sm (l : List Int) : Nat → Int
  | 0 => 0
  | k + 1 => sm l k + at0 l k
/-- Each of the first k numbers is in 0..1000. -/
def In (l : List Int) (k : Nat) : Prop := ∀ i, i < k → 0 ≤ at0 l i ∧ at0 l i ≤ 1000
theorem In.zero (l : List Int) : In l 0 := fun _ h => absurd h (by omega)
theorem In.next {l : List Int} {k : Nat} (h : In l k) (h0 : 0 ≤ at0 l k) (h1 : at0 l k ≤ 1000) : In l (k + 1) := fun i hi => by
  by_cases e : i = k
  · subst e; exact ⟨h0, h1⟩
  · exact h i (by omega)
theorem sm_bound {l : List Int} {k : Nat} (h : In l k) : 0 ≤ sm l k ∧ sm l k ≤ 1000 * (k : Int) := by
  induction k with
  | zero => simp [sm]
  | succ k ih =>
    have h1 := ih fun i hi => h i (by omega)
    have h2 := h k (by omega)
    simp only [sm]
    omega

def Gd (l : List Int) : Prop := l.length = 24 ∧ In l 24 ∧ sm l 24 = 2400
open Classical in
noncomputable def gdB (l : List Int) : Bool := decide (Gd l)
theorem gd_of {l : List Int} (h : gdB l = true) : Gd l := by simpa [gdB] using h
theorem gd_mk {l : List Int} (h : Gd l) : gdB l = true := by simpa [gdB] using h
theorem gd_no {l : List Int} (h : ¬ Gd l) : gdB l = false := by simpa [gdB] using h
theorem gd_end {l : List Int} (hl : l.length = 24) (h : In l 24) : gdB l = decide (sm l 24 = 2400) := by
  by_cases e : sm l 24 = 2400
  · rw [gd_mk ⟨hl, h, e⟩]; simp [e]
  · rw [gd_no fun g => e g.2.2]; simp [e]
theorem gd_bad {l : List Int} {k : Nat} (hk : k < l.length) (h : at0 l k < 0 ∨ 1000 < at0 l k) : gdB l = false := by
  refine gd_no fun g => ?_
  have h1 := g.1
  have := g.2.1 k (by omega)
  omega
theorem gd_len {l : List Int} (h : l.length ≠ 24) : gdB l = false := gd_no fun g => h g.1

/-- The first place of the greatest one among the first k numbers. -/
def pk (l : List Int) : Nat → Nat
  | 0 => 0
  | k + 1 => if at0 l (pk l k) < at0 l k then k else pk l k
/-- The first place of the smallest one. -/
def lo (l : List Int) : Nat → Nat
  | 0 => 0
  | k + 1 => if at0 l k < at0 l (lo l k) then k else lo l k
theorem pk_one (l : List Int) : pk l 1 = 0 := by simp [pk]
theorem lo_one (l : List Int) : lo l 1 = 0 := by simp [lo]
theorem pk_lt (l : List Int) (k : Nat) (h : 0 < k) : pk l k < k := by
  induction k with
  | zero => omega
  | succ k ih =>
    simp only [pk]
    split
    · omega
    · by_cases e : k = 0
      · subst e; simp [pk]
      · have := ih (by omega); omega
theorem lo_lt (l : List Int) (k : Nat) (h : 0 < k) : lo l k < k := by
  induction k with
  | zero => omega
  | succ k ih =>
    simp only [lo]
    split
    · omega
    · by_cases e : k = 0
      · subst e; simp [lo]
      · have := ih (by omega); omega
theorem pk_most (l : List Int) (k : Nat) : ∀ j, j < k → at0 l j ≤ at0 l (pk l k) ∧ (j < pk l k → at0 l j < at0 l (pk l k)) := by
  induction k with
  | zero => intro j h; omega
  | succ k ih =>
    intro j hj
    simp only [pk]
    split
    · rename_i h
      by_cases e : j = k
      · subst e; exact ⟨Int.le_refl _, fun h => absurd h (by omega)⟩
      · have := (ih j (by omega)).1
        exact ⟨by omega, fun _ => by omega⟩
    · rename_i h
      by_cases e : j = k
      · subst e
        refine ⟨by omega, fun h2 => ?_⟩
        by_cases e0 : j = 0
        · subst e0; simp [pk] at h2
        · have := pk_lt l j (by omega); omega
      · exact ih j (by omega)
theorem lo_least (l : List Int) (k : Nat) : ∀ j, j < k → at0 l (lo l k) ≤ at0 l j ∧ (j < lo l k → at0 l (lo l k) < at0 l j) := by
  induction k with
  | zero => intro j h; omega
  | succ k ih =>
    intro j hj
    simp only [lo]
    split
    · rename_i h
      by_cases e : j = k
      · subst e; exact ⟨Int.le_refl _, fun h => absurd h (by omega)⟩
      · have := (ih j (by omega)).1
        exact ⟨by omega, fun _ => by omega⟩
    · rename_i h
      by_cases e : j = k
      · subst e
        refine ⟨by omega, fun h2 => ?_⟩
        by_cases e0 : j = 0
        · subst e0; simp [lo] at h2
        · have := lo_lt l j (by omega); omega
      · exact ih j (by omega)
theorem pk_val (l : List Int) (k : Nat) : at0 l (pk l (k + 1)) = if at0 l (pk l k) < at0 l k then at0 l k else at0 l (pk l k) := by
  simp only [pk]; split <;> rfl
theorem lo_val (l : List Int) (k : Nat) : at0 l (lo l (k + 1)) = if at0 l k < at0 l (lo l k) then at0 l k else at0 l (lo l k) := by
  simp only [lo]; split <;> rfl
theorem pk_first (l : List Int) (n i : Nat) (hi : i < n) (h : at0 l i = at0 l (pk l n)) (hf : ∀ j, j < i → at0 l j ≠ at0 l (pk l n)) : i = pk l n := by
  have h1 := pk_lt l n (by omega)
  rcases Nat.lt_trichotomy i (pk l n) with h2 | h2 | h2
  · have := (pk_most l n i hi).2 h2; omega
  · exact h2
  · exact absurd rfl (hf _ h2)
theorem lo_first (l : List Int) (n i : Nat) (hi : i < n) (h : at0 l i = at0 l (lo l n)) (hf : ∀ j, j < i → at0 l j ≠ at0 l (lo l n)) : i = lo l n := by
  have h1 := lo_lt l n (by omega)
  rcases Nat.lt_trichotomy i (lo l n) with h2 | h2 | h2
  · have := (lo_least l n i hi).2 h2; omega
  · exact h2
  · exact absurd rfl (hf _ h2)
theorem pk_uniq (l : List Int) (n i : Nat) (hi : i < n) (h : at0 l i = at0 l (pk l n)) (hn : ∀ j, j < i → at0 l j ≠ at0 l (pk l n)) : pk l n = i := (pk_first l n i hi h hn).symm

/-- The sum of h successive hours from hour f. -/
def pf (l : List Int) (f : Nat) : Nat → Int
  | 0 => 0
  | h + 1 => pf l f h + at0 l ((f + h) % 24)
theorem pf_bound {l : List Int} (g : Gd l) (f h : Nat) : 0 ≤ pf l f h ∧ pf l f h ≤ 1000 * (h : Int) := by
  induction h with
  | zero => simp [pf]
  | succ h ih =>
    have := g.2.1 ((f + h) % 24) (Nat.mod_lt _ (by omega))
    simp only [pf]; omega
/-- The first hour, of the first k, whose h successive hours have the smallest sum. -/
def qh (l : List Int) (h : Nat) : Nat → Nat
  | 0 => 0
  | k + 1 => if pf l k h < pf l (qh l h k) h then k else qh l h k
theorem qh_one (l : List Int) (h : Nat) : qh l h 1 = 0 := by simp [qh]
theorem qh_lt (l : List Int) (h k : Nat) (hk : 0 < k) : qh l h k < k := by
  induction k with
  | zero => omega
  | succ k ih =>
    simp only [qh]
    split
    · omega
    · by_cases e : k = 0
      · subst e; simp [qh]
      · have := ih (by omega); omega

/-- Everything happens h hours later. -/
def shL (l : List Int) (h : Nat) : List Int := (List.range 24).map fun i => at0 l ((i + 24 - h) % 24)
theorem shL_len (l : List Int) (h : Nat) : (shL l h).length = 24 := by simp [shL]
theorem shL_at (l : List Int) (h i : Nat) (hi : i < 24) : at0 (shL l h) i = at0 l ((i + 24 - h) % 24) := by simp [shL, at0, List.getD, hi]
/-- The same after k hours have been moved. -/
def shP (l : List Int) (h k : Nat) : List Int := (List.range 24).map fun i => if (i + 24 - h) % 24 < k then at0 l ((i + 24 - h) % 24) else 0
theorem shP_len (l : List Int) (h k : Nat) : (shP l h k).length = 24 := by simp [shP]
theorem shP_zero (l : List Int) (h : Nat) : shP l h 0 = List.replicate 24 0 := by simp [shP]; rfl
theorem shP_all (l : List Int) (h : Nat) : shP l h 24 = shL l h := by
  unfold shP shL
  apply List.map_congr_left
  intro i _
  rw [if_pos (Nat.mod_lt _ (by omega))]
theorem shP_next (l : List Int) (h k : Nat) (hh : h < 24) (hk : k < 24) : (shP l h k).set ((k + h) % 24) (at0 l k) = shP l h (k + 1) := by
  have hm : (k + h) % 24 < 24 := Nat.mod_lt _ (by omega)
  refine ext_at (by simp [shP]) fun i hi => ?_
  have hi24 : i < 24 := by simpa [shP] using hi
  rw [at_set _ _ _ _ (by rw [shP_len]; exact hm)]
  have e1 : at0 (shP l h k) i = if (i + 24 - h) % 24 < k then at0 l ((i + 24 - h) % 24) else 0 := by simp [shP, at0, List.getD, hi24]
  have e2 : at0 (shP l h (k + 1)) i = if (i + 24 - h) % 24 < k + 1 then at0 l ((i + 24 - h) % 24) else 0 := by simp [shP, at0, List.getD, hi24]
  rw [e1, e2]
  by_cases e : i = (k + h) % 24
  · have h3 : (i + 24 - h) % 24 = k := by omega
    rw [if_pos e, h3, if_pos (by omega)]
  · rw [if_neg e]
    have h3 : (i + 24 - h) % 24 ≠ k := by omega
    by_cases h4 : (i + 24 - h) % 24 < k
    · rw [if_pos h4, if_pos (by omega)]
    · rw [if_neg h4, if_neg (by omega)]

/-- The first k numbers of a mixed profile. -/
def mxL (a b : List Int) (s : Int) (k : Nat) : List Int := (List.range k).map fun i => at0 a i * s + at0 b i * (100 - s)
theorem mxL_len (a b : List Int) (s : Int) (k : Nat) : (mxL a b s k).length = k := by simp [mxL]
theorem mxL_next (a b : List Int) (s : Int) (k : Nat) : mxL a b s (k + 1) = mxL a b s k ++ [at0 a k * s + at0 b k * (100 - s)] := by
  unfold mxL; rw [List.range_succ, List.map_append]; rfl
theorem mxL_at (a b : List Int) (s : Int) (k i : Nat) (h : i < k) : at0 (mxL a b s k) i = at0 a i * s + at0 b i * (100 - s) := by simp [mxL, at0, List.getD, h]

/-- What has flowed in beyond the use after k hours, in hundredths of the base. -/
def st (l : List Int) (k : Nat) : Int := 100 * (k : Int) - sm l k
def gM (l : List Int) : Nat → Int
  | 0 => 0
  | k + 1 => max (gM l k) (st l (k + 1))
def gL (l : List Int) : Nat → Int
  | 0 => 0
  | k + 1 => min (gL l k) (st l (k + 1))
def sM (l : List Int) : Nat → Int
  | 0 => -24000
  | k + 1 => max (sM l k) (st l (k + 1))
def sL (l : List Int) : Nat → Int
  | 0 => 2400
  | k + 1 => min (sL l k) (st l (k + 1))
theorem sM_g (l : List Int) (k : Nat) : max (sM l k) 0 = gM l k := by
  induction k with
  | zero => simp only [sM, gM]; omega
  | succ k ih => simp only [sM, gM]; rw [← ih]; omega
theorem sL_g (l : List Int) (k : Nat) (h : In l k) (hk : k ≤ 24) : min (sL l k) 0 = gL l k := by
  induction k with
  | zero => simp only [sL, gL]; omega
  | succ k ih => simp only [sL, gL]; rw [← ih (fun i hi => h i (by omega)) (by omega)]; omega
theorem store_same {l : List Int} (g : Gd l) : sM l 24 - sL l 24 = gM l 24 - gL l 24 := by
  have h0 : st l 24 = 0 := by unfold st; rw [g.2.2]; omega
  have h1 : st l 24 ≤ sM l 24 := by show st l 24 ≤ max (sM l 23) (st l 24); omega
  have h2 : sL l 24 ≤ st l 24 := by show min (sL l 23) (st l 24) ≤ st l 24; omega
  rw [← sM_g, ← sL_g l 24 g.2.1 (by omega)]
  omega
theorem st_bound {l : List Int} {k : Nat} (h : In l k) (hk : k ≤ 24) : -24000 ≤ st l k ∧ st l k ≤ 2400 := by
  have := sm_bound h
  unfold st; omega
theorem gM_bound {l : List Int} {k : Nat} (h : In l k) (hk : k ≤ 24) : 0 ≤ gM l k ∧ gM l k ≤ 2400 := by
  induction k with
  | zero => simp [gM]
  | succ k ih =>
    have h1 := ih (fun i hi => h i (by omega)) (by omega)
    have h2 := st_bound h hk
    simp only [gM]; omega
theorem gL_bound {l : List Int} {k : Nat} (h : In l k) (hk : k ≤ 24) : -24000 ≤ gL l k ∧ gL l k ≤ 0 := by
  induction k with
  | zero => simp [gL]
  | succ k ih =>
    have h1 := ih (fun i hi => h i (by omega)) (by omega)
    have h2 := st_bound h hk
    simp only [gL]; omega
theorem sM_bound {l : List Int} {k : Nat} (h : In l k) (hk : k ≤ 24) : -24000 ≤ sM l k ∧ sM l k ≤ 2400 := by
  induction k with
  | zero => simp [sM]
  | succ k ih =>
    have h1 := ih (fun i hi => h i (by omega)) (by omega)
    have h2 := st_bound h hk
    simp only [sM]; omega
theorem sL_bound {l : List Int} {k : Nat} (h : In l k) (hk : k ≤ 24) : -24000 ≤ sL l k ∧ sL l k ≤ 2400 := by
  induction k with
  | zero => simp [sL]
  | succ k ih =>
    have h1 := ih (fun i hi => h i (by omega)) (by omega)
    have h2 := st_bound h hk
    simp only [sL]; omega
theorem gML {l : List Int} {k : Nat} : gL l k ≤ gM l k := by
  induction k with
  | zero => simp [gM, gL]
  | succ k ih => simp only [gM, gL]; omega

/-- One percent is moved from the peak to the lowest hour. -/
def mv (l : List Int) : List Int :=
  let k := pk l 24
  let j := lo l 24
  (l.set k (at0 l k - 1)).set j (at0 (l.set k (at0 l k - 1)) j + 1)
def mvs (l : List Int) : Nat → List Int
  | 0 => l
  | n + 1 => mv (mvs l n)
theorem mv_len (l : List Int) : (mv l).length = l.length := by simp [mv]

theorem sm_set (l : List Int) (i : Nat) (x : Int) (h : i < l.length) (k : Nat) : sm (l.set i x) k = sm l k + (if i < k then x - at0 l i else 0) := by
  induction k with
  | zero => simp [sm]
  | succ k ih =>
    simp only [sm]
    rw [ih, at_set _ _ _ _ h]
    by_cases e : k = i
    · subst e; simp; omega
    · rw [if_neg e]
      by_cases h2 : i < k
      · rw [if_pos h2, if_pos (by omega)]; omega
      · rw [if_neg h2, if_neg (by omega)]; omega
theorem sm_le {l : List Int} {m : Int} {k : Nat} (h : ∀ i, i < k → m ≤ at0 l i) : m * (k : Int) ≤ sm l k := by
  induction k with
  | zero => simp [sm]
  | succ k ih =>
    have h1 := ih fun i hi => h i (by omega)
    have h2 := h k (by omega)
    simp only [sm]
    rw [Int.natCast_succ, Int.mul_add, Int.mul_one]
    omega
/-- If one hour is above 100, another one is below. -/
theorem low_below {l : List Int} (g : Gd l) (h : 100 < at0 l (pk l 24)) : at0 l (lo l 24) < 100 := by
  refine Classical.byContradiction fun hc => ?_
  have hp := pk_lt l 24 (by omega)
  have h1 : ∀ i, i < 24 → 100 ≤ at0 (l.set (pk l 24) 100) i := fun i hi => by
    rw [at_set _ _ _ _ (by rw [g.1]; exact hp)]
    split
    · omega
    · have := (lo_least l 24 i hi).1; omega
  have h2 := sm_le h1
  rw [sm_set _ _ _ (by rw [g.1]; exact hp), if_pos hp, g.2.2] at h2
  omega
theorem mv_at {l : List Int} (g : Gd l) (h : 100 < at0 l (pk l 24)) (i : Nat) : at0 (mv l) i = if i = lo l 24 then at0 l i + 1 else if i = pk l 24 then at0 l i - 1 else at0 l i := by
  have hp := pk_lt l 24 (by omega)
  have hq := lo_lt l 24 (by omega)
  have hb := low_below g h
  have hne : lo l 24 ≠ pk l 24 := fun e => by rw [e] at hb; omega
  unfold mv
  simp only
  rw [at_set _ _ _ _ (by simp; rw [g.1]; exact hq), at_set _ _ _ _ (by rw [g.1]; exact hp), at_set _ _ _ _ (by rw [g.1]; exact hp), if_neg hne]
  by_cases e : i = lo l 24
  · rw [if_pos e, if_pos e, e]
  · rw [if_neg e, if_neg e]
    by_cases e2 : i = pk l 24
    · rw [if_pos e2, if_pos e2, e2]
    · rw [if_neg e2, if_neg e2]
theorem mv_gd {l : List Int} (g : Gd l) (h : 100 < at0 l (pk l 24)) : Gd (mv l) := by
  have hp := pk_lt l 24 (by omega)
  have hq := lo_lt l 24 (by omega)
  refine ⟨by rw [mv_len]; exact g.1, fun i hi => ?_, ?_⟩
  · have h1 := g.2.1 i hi
    rw [mv_at g h]
    split
    · rename_i e
      have := low_below g h
      rw [← e] at this
      omega
    · split
      · rename_i e; rw [← e] at h; omega
      · exact h1
  · have hb := low_below g h
    have hne : lo l 24 ≠ pk l 24 := fun e => by rw [e] at hb; omega
    unfold mv
    simp only
    rw [sm_set _ _ _ (by simp; rw [g.1]; exact hq), if_pos hq, sm_set _ _ _ (by rw [g.1]; exact hp), if_pos hp, g.2.2]
    omega
/-- What is above most. -/
def ex (l : List Int) (m : Int) : Nat → Nat
  | 0 => 0
  | k + 1 => ex l m k + (at0 l k - m).toNat
theorem ex_le {l l' : List Int} {m : Int} {k : Nat} (h : ∀ i, i < k → (at0 l' i - m).toNat ≤ (at0 l i - m).toNat) : ex l' m k ≤ ex l m k := by
  induction k with
  | zero => simp [ex]
  | succ k ih =>
    have h1 := ih fun i hi => h i (by omega)
    have h2 := h k (by omega)
    simp only [ex]; omega
theorem ex_lt {l l' : List Int} {m : Int} {k j : Nat} (hj : j < k) (h : ∀ i, i < k → (at0 l' i - m).toNat ≤ (at0 l i - m).toNat) (h2 : (at0 l' j - m).toNat < (at0 l j - m).toNat) : ex l' m k < ex l m k := by
  induction k with
  | zero => omega
  | succ k ih =>
    simp only [ex]
    have h3 := h k (by omega)
    by_cases e : j = k
    · subst e
      have := ex_le (l := l) (l' := l') (m := m) (k := j) fun i hi => h i (by omega)
      omega
    · have := ih (by omega) fun i hi => h i (by omega)
      omega
theorem mv_ex {l : List Int} {m : Int} (g : Gd l) (hm : 100 ≤ m) (h : m < at0 l (pk l 24)) : ex (mv l) m 24 < ex l m 24 := by
  have hp := pk_lt l 24 (by omega)
  have hb := low_below g (by omega)
  refine ex_lt hp (fun i hi => ?_) ?_
  · rw [mv_at g (by omega)]
    split
    · rename_i e; rw [← e] at hb; omega
    · split <;> omega
  · rw [mv_at g (by omega)]
    have hne : pk l 24 ≠ lo l 24 := fun e => by rw [e] at h; omega
    rw [if_neg hne, if_pos rfl]; omega
theorem mv_stops (m : Int) (hm : 100 ≤ m) : ∀ (n : Nat) (l : List Int), Gd l → ex l m 24 ≤ n → ∃ N, ¬ m < at0 (mvs l N) (pk (mvs l N) 24) := by
  intro n
  induction n with
  | zero =>
    intro l g h
    refine ⟨0, fun h1 => ?_⟩
    have := mv_ex g hm h1
    omega
  | succ n ih =>
    intro l g h
    by_cases h1 : m < at0 l (pk l 24)
    · have h2 := mv_ex g hm h1
      obtain ⟨N, hN⟩ := ih (mv l) (mv_gd g (by omega)) (by omega)
      have e : ∀ k, mvs (mv l) k = mvs l (k + 1) := by
        intro k
        induction k with
        | zero => rfl
        | succ k ih => show mv (mvs (mv l) k) = mv (mvs l (k + 1)); rw [ih]
      exact ⟨N + 1, by rw [← e]; exact hN⟩
    · exact ⟨0, h1⟩
/-- How many moves there are. -/
theorem flat_ex {l : List Int} {m : Int} (g : Gd l) (hm : 100 ≤ m) : ∃ N, ¬ m < at0 (mvs l N) (pk (mvs l N) 24) ∧ ∀ n, n < N → m < at0 (mvs l n) (pk (mvs l n) 24) := by
  obtain ⟨N, hN⟩ := mv_stops m hm _ l g (Nat.le_refl _)
  have : ∀ N, ¬ m < at0 (mvs l N) (pk (mvs l N) 24) → ∃ N, ¬ m < at0 (mvs l N) (pk (mvs l N) 24) ∧ ∀ n, n < N → m < at0 (mvs l n) (pk (mvs l n) 24) := by
    intro N
    induction N using Nat.strongRecOn with
    | ind N ih =>
      intro hN
      by_cases h : ∃ n, n < N ∧ ¬ m < at0 (mvs l n) (pk (mvs l n) 24)
      · obtain ⟨n, hn, h1⟩ := h
        exact ih n hn h1
      · exact ⟨N, hN, fun n hn => Classical.byContradiction fun h1 => h ⟨n, hn, h1⟩⟩
  exact this N hN
theorem mvs_gd {l : List Int} {m : Int} {N : Nat} (g : Gd l) (hm : 100 ≤ m) (h : ∀ n, n < N → m < at0 (mvs l n) (pk (mvs l n) 24)) : ∀ n, n ≤ N → Gd (mvs l n) := by
  intro n
  induction n with
  | zero => intro _; exact g
  | succ n ih =>
    intro hn
    have := h n (by omega)
    exact mv_gd (ih (by omega)) (by omega)
theorem mvs_len (l : List Int) (n : Nat) : (mvs l n).length = l.length := by
  induction n with
  | zero => rfl
  | succ n ih => show (mv (mvs l n)).length = _; rw [mv_len, ih]
open Classical in
/-- The flattened profile. -/
noncomputable def flN (l : List Int) (m : Int) : Nat := if h : ∃ N, ¬ m < at0 (mvs l N) (pk (mvs l N) 24) ∧ ∀ n, n < N → m < at0 (mvs l n) (pk (mvs l n) 24) then h.choose else 0
noncomputable def flL (l : List Int) (m : Int) : List Int := mvs l (flN l m)
theorem flN_spec {l : List Int} {m : Int} (g : Gd l) (hm : 100 ≤ m) : ¬ m < at0 (mvs l (flN l m)) (pk (mvs l (flN l m)) 24) ∧ ∀ n, n < flN l m → m < at0 (mvs l n) (pk (mvs l n) 24) := by
  have h := flat_ex g hm
  unfold flN
  rw [dif_pos h]
  exact h.choose_spec
theorem flL_len (l : List Int) (m : Int) : (flL l m).length = l.length := mvs_len _ _
end Go.Proofs.Ytkgkeohnnpkahaa.P6
