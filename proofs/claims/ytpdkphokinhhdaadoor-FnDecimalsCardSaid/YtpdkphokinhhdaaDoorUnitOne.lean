/- Plain facts on units, fractions in lowest terms and decimals (chapter 3), with no program in them. No conditions. -/
import Derived.Test.YtpdkphokinhhdaaDoorPlainOne
namespace Go.Proofs.YtpdkphokinhhdaaDoor.P3
open Go.Lib P1

/-! ### Units -/
/-- The liters a day of a unit. -/
def dayOf (u : Int) : Int := if u = 1 then 1440 else if u = 2 then 86400 else if u = 3 then 24000 else if u = 4 then 1000 else 0
/-- The 36ths of a liter a minute of a unit. -/
def facOf (u : Int) : Int := if u = 1 then 36 else if u = 2 then 2160 else if u = 3 then 600 else if u = 4 then 25 else 0
theorem day_fac (u : Int) : dayOf u = 40 * facOf u := by
  unfold dayOf facOf
  repeat' split
  all_goals omega
theorem fac_pos {u : Int} (h1 : 1 ≤ u) (h4 : u ≤ 4) : 25 ≤ facOf u ∧ facOf u ≤ 2160 := by
  unfold facOf
  repeat' split
  all_goals omega
theorem day_pos {u : Int} (h1 : 1 ≤ u) (h4 : u ≤ 4) : 1000 ≤ dayOf u ∧ dayOf u ≤ 86400 := by
  unfold dayOf
  repeat' split
  all_goals omega
def okA (v u : Int) : Bool := decide (0 ≤ v) && decide (v ≤ 1000000) && (decide (1 ≤ u) && decide (u ≤ 4))
theorem okA_iff {v u : Int} : okA v u = true ↔ (0 ≤ v ∧ v ≤ 1000000) ∧ 1 ≤ u ∧ u ≤ 4 := by unfold okA; simp
theorem okA_no {v u : Int} (h : okA v u = false) : v < 0 ∨ 1000000 < v ∨ u < 1 ∨ 4 < u := by
  refine Decidable.byContradiction fun hc => ?_
  have := okA_iff (v := v) (u := u) |>.2 ⟨⟨by omega, by omega⟩, by omega, by omega⟩
  rw [h] at this; cases this

/-! ### Lowest terms -/
def lowN (a b : Nat) : Int := ((a / Nat.gcd a b : Nat) : Int)
def lowD (a b : Nat) : Int := ((b / Nat.gcd a b : Nat) : Int)
theorem lowN_mul (k a b : Nat) (hk : 0 < k) : lowN (k * a) (k * b) = lowN a b := by
  unfold lowN; rw [Nat.gcd_mul_left, Nat.mul_div_mul_left _ _ hk]
theorem lowD_mul (k a b : Nat) (hk : 0 < k) : lowD (k * a) (k * b) = lowD a b := by
  unfold lowD; rw [Nat.gcd_mul_left, Nat.mul_div_mul_left _ _ hk]
theorem low_cross (a b : Nat) : lowN a b * (b : Int) = lowD a b * (a : Int) := by
  unfold lowN lowD
  obtain ⟨x, hx⟩ := Nat.gcd_dvd_left a b
  obtain ⟨y, hy⟩ := Nat.gcd_dvd_right a b
  by_cases h0 : Nat.gcd a b = 0
  · rw [Nat.gcd_eq_zero_iff] at h0; rw [h0.1, h0.2]
  · have hp : 0 < Nat.gcd a b := Nat.pos_of_ne_zero h0
    have ea : a / Nat.gcd a b = x := by conv => { lhs; lhs; rw [hx] }; exact Nat.mul_div_cancel_left _ hp
    have eb : b / Nat.gcd a b = y := by conv => { lhs; lhs; rw [hy] }; exact Nat.mul_div_cancel_left _ hp
    rw [ea, eb]
    have : x * b = y * a := by
      conv => { lhs; rw [hy] }
      conv => { rhs; rw [hx] }
      rw [Nat.mul_left_comm, Nat.mul_left_comm y, Nat.mul_comm x y]
    exact_mod_cast this
theorem lowN_le (a b : Nat) : lowN a b ≤ (a : Int) := by unfold lowN; exact_mod_cast Nat.div_le_self _ _
theorem lowD_le (a b : Nat) : lowD a b ≤ (b : Int) := by unfold lowD; exact_mod_cast Nat.div_le_self _ _
theorem lowN_nn (a b : Nat) : 0 ≤ lowN a b := by unfold lowN; exact Int.natCast_nonneg _
theorem lowD_nn (a b : Nat) : 0 ≤ lowD a b := by unfold lowD; exact Int.natCast_nonneg _
theorem lowD_pos (a b : Nat) (hb : 0 < b) : 0 < lowD a b := by
  unfold lowD
  have hp : 0 < Nat.gcd a b := Nat.gcd_pos_of_pos_right _ hb
  exact_mod_cast Nat.div_pos (Nat.gcd_le_right _ hb) hp
/-- A round of Euclid's algorithm. -/
theorem gcd_round (d r : Nat) : Nat.gcd r (d % r) = Nat.gcd d r := by
  rw [Nat.gcd_comm d r, Nat.gcd_rec r d, Nat.gcd_comm]
theorem tmod_nat (d r : Nat) : (d : Int).tmod (r : Int) = ((d % r : Nat) : Int) := by
  rw [Int.tmod_eq_emod_of_nonneg (by omega)]; rfl
theorem tdiv_nat (d r : Nat) : (d : Int).tdiv (r : Int) = ((d / r : Nat) : Int) := by
  rw [Int.tdiv_eq_ediv_of_nonneg (by omega)]; rfl

/-! ### Decimals -/
/-- The last k digits. -/
def lowDig (n : Nat) : Nat → List UInt8
  | 0 => []
  | k + 1 => lowDig (n / 10) k ++ [UInt8.ofNat (48 + n % 10)]
theorem lowDig_len (k : Nat) : ∀ n, (lowDig n k).length = k := by
  induction k with
  | zero => intro n; rfl
  | succ k ih => intro n; simp [lowDig, ih]
theorem lowDig_add (a : Nat) (b : Nat) : ∀ n, lowDig n (a + b) = lowDig (n / 10 ^ b) a ++ lowDig n b := by
  induction b with
  | zero => intro n; simp [lowDig]
  | succ b ih =>
    intro n
    rw [← Nat.add_assoc]
    show lowDig (n / 10) (a + b) ++ _ = _ ++ (lowDig (n / 10) b ++ _)
    rw [ih, List.append_assoc, Nat.div_div_eq_div_mul, Nat.pow_succ, Nat.mul_comm 10]
theorem lowDig_cons (n k : Nat) : lowDig n (k + 1) = UInt8.ofNat (48 + n / 10 ^ k % 10) :: lowDig n k := by
  rw [Nat.add_comm, lowDig_add]; rfl
theorem lowDig_dec (j : Nat) : ∀ m, m < 10 ^ (j + 1) → (j = 0 ∨ 10 ^ j ≤ m) → decDigits m = lowDig m (j + 1) := by
  induction j with
  | zero => intro m h _; rw [dec_small (by simpa using h)]; simp [lowDig, Nat.mod_eq_of_lt (show m < 10 by simpa using h)]
  | succ j ih =>
    intro m h hj
    have h10 : 10 ^ (j + 1) ≤ m := by rcases hj with h | h; omega; exact h
    have e1 : 10 ^ (j + 1) = 10 * 10 ^ j := by rw [Nat.pow_succ, Nat.mul_comm]
    have e2 : 10 ^ (j + 1 + 1) = 10 * 10 ^ (j + 1) := by rw [Nat.pow_succ, Nat.mul_comm]
    have hp : 0 < 10 ^ j := Nat.pos_of_ne_zero (by simp)
    rw [dec_big (by omega)]
    rw [ih (m / 10) (by omega) (.inr (by omega))]
    rfl
theorem dec_one (p : Nat) : ∀ r, r < 10 ^ p → decDigits (10 ^ p + r) = 49 :: lowDig r p := by
  induction p with
  | zero => intro r h; have : r = 0 := by simpa using h
            subst this; rw [dec_small (by simp)]; rfl
  | succ p ih =>
    intro r h
    have e1 : 10 ^ (p + 1) = 10 * 10 ^ p := by rw [Nat.pow_succ, Nat.mul_comm]
    have hp : 0 < 10 ^ p := Nat.pos_of_ne_zero (by simp)
    rw [dec_big (by omega), show (10 ^ (p + 1) + r) / 10 = 10 ^ p + r / 10 by omega, ih (r / 10) (by omega), show (10 ^ (p + 1) + r) % 10 = r % 10 by omega]
    rfl
theorem lowDig_mod (p : Nat) : ∀ n, lowDig (n % 10 ^ p) p = lowDig n p := by
  induction p with
  | zero => intro n; rfl
  | succ p ih =>
    intro n
    have e1 : 10 ^ (p + 1) = 10 * 10 ^ p := by rw [Nat.pow_succ, Nat.mul_comm]
    show lowDig (n % 10 ^ (p + 1) / 10) p ++ [UInt8.ofNat (48 + n % 10 ^ (p + 1) % 10)] = _
    rw [e1, Nat.mod_mul_right_div_self, Nat.mod_mul_right_mod, ih]
    rfl

/-- How many digits the model writes. -/
def digN (n : Nat) (least : Nat) : Nat := if n < 10 ^ least then least else nDigits n
/-- Where the model's loop ends. -/
theorem dig_stop {n least j : Nat} (hl : 1 ≤ least) (hj : least ≤ j) (h0 : n < 10 ^ j) (h1 : j = least ∨ 10 ^ (j - 1) ≤ n) (p : Nat) (hp : least = p + 1) :
    (lowDig n j).take (j - p) = decDigits (n / 10 ^ p) ∧ (lowDig n j).drop (j - p) = lowDig n p := by
  have e : lowDig n j = lowDig (n / 10 ^ p) (j - p) ++ lowDig n p := by
    rw [← lowDig_add]; congr 1; omega
  have hl2 : (lowDig (n / 10 ^ p) (j - p)).length = j - p := lowDig_len _ _
  constructor
  · rw [e, List.take_left' hl2]
    obtain ⟨i, hi⟩ : ∃ i, j = p + (i + 1) := ⟨j - p - 1, by omega⟩
    subst hi
    have hpp : 0 < 10 ^ p := Nat.pos_of_ne_zero (by simp)
    rw [show p + (i + 1) - p = i + 1 by omega]
    refine (lowDig_dec i _ ?_ ?_).symm
    · rw [Nat.div_lt_iff_lt_mul hpp, ← Nat.pow_add, show i + 1 + p = p + (i + 1) by omega]; exact h0
    · rcases h1 with h1 | h1
      · left; omega
      · right
        rw [Nat.le_div_iff_mul_le hpp, ← Nat.pow_add, show i + p = p + (i + 1) - 1 by omega]; exact h1
  · rw [e, List.drop_left' hl2]

/-- The text of a decimal: the number n of the last places, p places. -/
def decL (n p : Nat) : List UInt8 := if p = 0 then decDigits n else decDigits (n / 10 ^ p) ++ 46 :: lowDig n p
end Go.Proofs.YtpdkphokinhhdaaDoor.P3
