/- Sums of fractions in lowest terms, what each curve of a list gives: facts; the model's addition: a contract. Conditions: each theorem's own premises. -/
import Derived.Test.YtpldbakllegheabCvWH
import Derived.Test.YtpldbakllegheabCvFlowS
import Derived.Test.YtpldbakllegheabCvHeadS
import Derived.Test.YtpldbakllegheabCvSs
namespace Go.Proofs.Ytpldbakllegheab.S7
open Go.RowKit P7

abbrev Tri := Int × Int × Bool
/-- What a curve gives: nothing, or a fraction of bounded size. -/
def Frac (t : Tri) : Prop := t = (0, 0, false) ∨ ∃ a b : Nat, t = ((a : Int), (b : Int), true) ∧ 0 < b ∧ b ≤ 1000 ∧ a ≤ 1000 * b
theorem hA_frac (cs : List Cp) (f : Int) : Frac (hA cs f) := by
  by_cases h : ∃ k, HK cs f k
  · obtain ⟨k, hk⟩ := h
    obtain ⟨d1, d2, d3, n1, n2⟩ := hk.fit
    obtain ⟨a, b, ha, hb, hb0, hb9, _, he⟩ := low_le (hNum cs f k) (hDen cs k) d2
    refine .inr ⟨a, b, ?_, hb0, by omega, low_ratio d2 he n2⟩
    rw [hA_yes hk, ha, hb]
  · exact .inl (hA_no fun k hk => h ⟨k, hk⟩)
theorem wA_frac (cs : List Cp) (l : Int) : Frac (wA cs l 0) := by
  by_cases h : ∃ k, WK cs l 0 k
  · obtain ⟨k, hk⟩ := h
    obtain ⟨d1, d2, d3, n1, n2⟩ := hk.fit
    have hd : wDen cs l 0 k ≤ 1000 := by
      have a := (hk.1.at_ (i := k - 1) (by have := hk.2.2.2.2.2.1; omega)).2
      have b := (hk.1.at_ (i := k) hk.2.2.2.2.2.1).2
      unfold ovr at d1
      simp only [Int.zero_mul] at d1
      omega
    obtain ⟨a, b, ha, hb, hb0, hb9, _, he⟩ := low_le (wNum cs l 0 k) (wDen cs l 0 k) d2
    refine .inr ⟨a, b, ?_, hb0, by omega, low_ratio d2 he n2⟩
    rw [wA_yes hk, ha, hb]
  · exact .inl (wA_no fun k hk => h ⟨k, hk⟩)

/-- A head within what the curve gives. -/
def clamp (cs : List Cp) (h : Int) : Int := min (max h (cAt cs (cs.length - 1)).hd) (cAt cs 0).hd
noncomputable def pF (cs : List Cp) (h : Int) : Tri := if gB cs = true then wA cs (clamp cs h) 0 else (0, 0, false)
theorem pF_frac (cs : List Cp) (h : Int) : Frac (pF cs h) := by
  unfold pF
  split
  · exact wA_frac _ _
  · exact .inl rfl
theorem low_zero (d : Nat) (hd : 0 < d) : lowN 0 d = 0 ∧ lowD 0 d = 1 := by
  unfold lowN lowD
  rw [Nat.gcd_zero_left, Nat.zero_div, Nat.div_self hd]
  exact ⟨rfl, rfl⟩
theorem low_mul (x d : Nat) (hd : 0 < d) : lowN (x * d) d = (x : Int) ∧ lowD (x * d) d = 1 := by
  unfold lowN lowD
  rw [Nat.gcd_mul_left_left, Nat.mul_div_cancel _ hd, Nat.div_self hd]
  exact ⟨rfl, rfl⟩
theorem pF_high {cs : List Cp} {h : Int} (g : P7.Good cs) (hh : (cAt cs 0).hd < h) : pF cs h = (0, 1, true) := by
  have hl := g.1
  have hm := (g.mono (i := 0) (j := cs.length - 1) (by omega) (by omega)).2
  have hc : clamp cs h = (cAt cs 0).hd := by unfold clamp; omega
  have hs := g.step (i := 0) (by omega)
  simp only [Nat.zero_add] at hs
  have h0 := g.at_ (i := 0) (by omega)
  have hk : WK cs (cAt cs 0).hd 0 1 := ⟨g, h0.2, by omega, Int.le_refl _, by omega, by omega, by simp only [Int.zero_mul]; omega, fun j a b => by omega⟩
  have ⟨_, d2, _⟩ := hk.fit
  have hn : wNum cs (cAt cs 0).hd 0 1 = 0 := by
    unfold wNum
    have e : ovr cs (cAt cs 0).hd 0 0 = 0 := by unfold ovr; omega
    rw [show (1 : Nat) - 1 = 0 from rfl, e, g.first]
    simp
  unfold pF
  rw [if_pos (gB_mk g), hc, wA_yes hk, hn]
  obtain ⟨e1, e2⟩ := low_zero (wDen cs (cAt cs 0).hd 0 1) d2
  rw [e1, e2]
theorem pF_low {cs : List Cp} {h : Int} (g : P7.Good cs) (hh : h < (cAt cs (cs.length - 1)).hd) : pF cs h = ((cAt cs (cs.length - 1)).fl, 1, true) := by
  have hl := g.1
  have hm := (g.mono (i := 0) (j := cs.length - 1) (by omega) (by omega)).2
  have hc : clamp cs h = (cAt cs (cs.length - 1)).hd := by unfold clamp; omega
  have h0 := g.at_ (i := cs.length - 1) (by omega)
  have hst := g.step (i := cs.length - 2) (by omega)
  rw [show cs.length - 2 + 1 = cs.length - 1 by omega] at hst
  have hk : WK cs (cAt cs (cs.length - 1)).hd 0 (cs.length - 1) := ⟨g, h0.2, by omega, hm, by omega, by omega, by simp only [Int.zero_mul]; omega, fun j a b => by
    simp only [Int.zero_mul]
    have := (g.mono (i := j) (j := cs.length - 2) (by omega) (by omega)).2
    omega⟩
  have ⟨d1, d2, _, n1, _⟩ := hk.fit
  have e : ovr cs (cAt cs (cs.length - 1)).hd 0 (cs.length - 1) = 0 := by unfold ovr; omega
  rw [e] at n1 d1
  obtain ⟨x, hx⟩ := nat_of h0.1.1
  have hn : wNum cs (cAt cs (cs.length - 1)).hd 0 (cs.length - 1) = x * wDen cs (cAt cs (cs.length - 1)).hd 0 (cs.length - 1) := by
    have hd1 : ((wDen cs (cAt cs (cs.length - 1)).hd 0 (cs.length - 1) : Nat) : Int) = ovr cs (cAt cs (cs.length - 1)).hd 0 (cs.length - 1 - 1) := by rw [d1]; omega
    rw [← hd1, hx] at n1
    have : ((wNum cs (cAt cs (cs.length - 1)).hd 0 (cs.length - 1) : Nat) : Int) = ((x * wDen cs (cAt cs (cs.length - 1)).hd 0 (cs.length - 1) : Nat) : Int) := by
      rw [n1, Int.natCast_mul]; simp
    exact Int.ofNat.inj this
  unfold pF
  rw [if_pos (gB_mk g), hc, wA_yes hk, hn]
  obtain ⟨e1, e2⟩ := low_mul x (wDen cs (cAt cs (cs.length - 1)).hd 0 (cs.length - 1)) d2
  rw [e1, e2, hx]
theorem pF_mid {cs : List Cp} {h : Int} (g : P7.Good cs) (h0 : h ≤ (cAt cs 0).hd) (h1 : (cAt cs (cs.length - 1)).hd ≤ h) : pF cs h = wA cs h 0 := by
  have hc : clamp cs h = h := by unfold clamp; omega
  unfold pF
  rw [if_pos (gB_mk g), hc]

/-! ### Sums -/
def sN (n d a b : Nat) : Nat := (n * b + a * d) / Nat.gcd (n * b + a * d) (d * b)
def sD (n d a b : Nat) : Nat := (d * b) / Nat.gcd (n * b + a * d) (d * b)
/-- The sum of the first k. -/
def sumK (F : Nat → Tri) : Nat → Nat × Nat
  | 0 => (0, 1)
  | k + 1 => (sN (sumK F k).1 (sumK F k).2 (F k).1.toNat (F k).2.1.toNat, sD (sumK F k).1 (sumK F k).2 (F k).1.toNat (F k).2.1.toNat)
def AllK (F : Nat → Tri) (k : Nat) : Prop := ∀ i, i < k → (F i).2.2 = true
theorem AllK.zero (F : Nat → Tri) : AllK F 0 := fun i h => absurd h (by omega)
theorem AllK.next {F : Nat → Tri} {k : Nat} (h : AllK F k) (hk : (F k).2.2 = true) : AllK F (k + 1) := by
  intro i hi
  by_cases e : i = k
  · subst e; exact hk
  · exact h i (by omega)
theorem sum_fit {F : Nat → Tri} (hF : ∀ i, Frac (F i)) : ∀ {k : Nat}, AllK F k → 0 < (sumK F k).2 ∧ (sumK F k).2 ≤ 1000 ^ k ∧ (sumK F k).1 ≤ 1000 * k * (sumK F k).2 := by
  intro k
  induction k with
  | zero => intro _; exact ⟨by simp [sumK], by simp [sumK], by simp [sumK]⟩
  | succ k ih =>
    intro h
    obtain ⟨h1, h2, h3⟩ := ih (fun i hi => h i (by omega))
    have hk := h k (by omega)
    rcases hF k with e | ⟨a, b, e, hb0, hb9, ha⟩
    · rw [e] at hk; cases hk
    · have ea : (F k).1.toNat = a := by rw [e]; simp
      have eb : (F k).2.1.toNat = b := by rw [e]; simp
      show 0 < sD _ _ _ _ ∧ sD _ _ _ _ ≤ _ ∧ sN _ _ _ _ ≤ 1000 * (k + 1) * sD _ _ _ _
      rw [ea, eb]
      generalize (sumK F k).1 = n at *
      generalize (sumK F k).2 = d at *
      have hd : 0 < d * b := Nat.mul_pos h1 hb0
      obtain ⟨x, y, hx, hy, hy0, hy9, _, he⟩ := low_le (n * b + a * d) (d * b) hd
      have hx' : sN n d a b = x := Int.ofNat.inj hx
      have hy' : sD n d a b = y := Int.ofNat.inj hy
      rw [hx', hy']
      refine ⟨hy0, Nat.le_trans hy9 ?_, low_ratio hd he ?_⟩
      · rw [Nat.pow_succ]; exact Nat.mul_le_mul h2 hb9
      · have p1 : n * b ≤ 1000 * k * (d * b) := by
          calc n * b ≤ 1000 * k * d * b := Nat.mul_le_mul_right _ h3
            _ = 1000 * k * (d * b) := Nat.mul_assoc _ _ _
        have p2 : a * d ≤ 1000 * (d * b) := by
          calc a * d ≤ 1000 * b * d := Nat.mul_le_mul_right _ ha
            _ = 1000 * (d * b) := by rw [Nat.mul_assoc, Nat.mul_comm b d]
        rw [Nat.mul_add, Nat.add_mul, Nat.mul_one]
        omega
/-- One more curve: the sizes of what is added up. -/
theorem sum_step {F : Nat → Tri} (hF : ∀ i, Frac (F i)) {k : Nat} (hk3 : k ≤ 3) (h : AllK F k) {a b : Nat} (e : F k = ((a : Int), (b : Int), true)) :
    ∃ n d : Nat, sumK F k = (n, d) ∧ sumK F (k + 1) = (sN n d a b, sD n d a b) ∧ 0 < d ∧ d ≤ 1000000000 ∧ n ≤ 3000000000000 ∧ 0 < b ∧ b ≤ 1000 ∧ a ≤ 1000000 ∧ n * b ≤ 3000000000000000 ∧ a * d ≤ 1000000000000000 ∧ d * b ≤ 1000000000000 ∧ 0 < d * b := by
  obtain ⟨h1, h2, h3⟩ := sum_fit hF h
  have hd9 : (sumK F k).2 ≤ 1000000000 := Nat.le_trans h2 (by
    calc 1000 ^ k ≤ 1000 ^ 3 := Nat.pow_le_pow_right (by omega) hk3
      _ = 1000000000 := by decide)
  have hn9 : (sumK F k).1 ≤ 3000 * 1000000000 := Nat.le_trans h3 (Nat.mul_le_mul (by omega) hd9)
  rcases hF k with e2 | ⟨a2, b2, e2, hb0, hb9, ha⟩
  · rw [e] at e2; cases e2
  · rw [e] at e2
    simp only [Prod.mk.injEq, and_true] at e2
    obtain ⟨ea, eb⟩ := e2
    have ea : a = a2 := by omega
    have eb : b = b2 := by omega
    subst ea eb
    have e1 : (F k).1.toNat = a := by rw [e]; simp
    have e3 : (F k).2.1.toNat = b := by rw [e]; simp
    refine ⟨(sumK F k).1, (sumK F k).2, rfl, ?_, h1, hd9, by omega, hb0, hb9, by omega, ?_, ?_, ?_, Nat.mul_pos h1 hb0⟩
    · show (sN _ _ _ _, sD _ _ _ _) = _
      rw [e1, e3]
    · calc (sumK F k).1 * b ≤ 3000000000000 * 1000 := Nat.mul_le_mul (by omega) hb9
        _ ≤ 3000000000000000 := by omega
    · calc a * (sumK F k).2 ≤ 1000000 * 1000000000 := Nat.mul_le_mul (by omega) hd9
        _ ≤ 1000000000000000 := by omega
    · calc (sumK F k).2 * b ≤ 1000000000 * 1000 := Nat.mul_le_mul hd9 hb9
        _ ≤ 1000000000000 := by omega
open Classical in
/-- What the sum over a list of n curves tells. -/
noncomputable def sumA (F : Nat → Tri) (n : Nat) : Tri := if (1 ≤ n ∧ n ≤ 4) ∧ AllK F n then (((sumK F n).1 : Int), ((sumK F n).2 : Int), true) else (0, 0, false)
theorem sumA_yes {F : Nat → Tri} {n : Nat} (h0 : 1 ≤ n) (h9 : n ≤ 4) (h : AllK F n) : sumA F n = (((sumK F n).1 : Int), ((sumK F n).2 : Int), true) := by
  unfold sumA; rw [if_pos ⟨⟨h0, h9⟩, h⟩]
theorem sumA_len {F : Nat → Tri} {n : Nat} (h : ¬ (1 ≤ n ∧ n ≤ 4)) : sumA F n = (0, 0, false) := by
  unfold sumA; rw [if_neg (fun x => h x.1)]
theorem sumA_bad {F : Nat → Tri} {n k : Nat} (hk : k < n) (h : (F k).2.2 = false) : sumA F n = (0, 0, false) := by
  unfold sumA; rw [if_neg (fun x => by have := x.2 k hk; rw [h] at this; cases this)]
abbrev SPost (F : Nat → Tri) (n : Nat) (w : World) : Ending → World → Prop := Gives3 (sumA F n).1 (sumA F n).2.1 (sumA F n).2.2 w
theorem spost_of {F : Nat → Tri} {n : Nat} {w w' : World} {a b : Int} {v : Bool} (h : sumA F n = (a, b, v)) (hb : Below w.heap.size w w') : SPost F n w (.returned (ret3 a b v)) w' := by
  unfold SPost; rw [h]; exact ⟨rfl, hb⟩

theorem add_any (n d a b : Nat) (w : World) (hb : 0 < d * b) (h1 : n * b ≤ 3000000000000000) (h2 : a * d ≤ 1000000000000000) (h3 : d * b ≤ 1000000000000) :
    Calls Try.prog 55 #[.int .i64 (n : Int), .int .i64 (d : Int), .int .i64 (a : Int), .int .i64 (b : Int)] w fun e w' => e = .returned (.tuple #[.int .i64 (sN n d a b : Int), .int .i64 (sD n d a b : Int)]) ∧ Below w.heap.size w w' := by
  have HL := Lib.hid (fun w => reduce_any (n * b + a * d) (d * b) w hb (by omega) (by omega))
  unfold lowV at HL
  rw [show lowN (n * b + a * d) (d * b) = (sN n d a b : Int) from rfl, show lowD (n * b + a * d) (d * b) = (sD n d a b : Int) from rfl] at HL
  have e1 : ((n * b + a * d : Nat) : Int) = (n : Int) * (b : Int) + (a : Int) * (d : Int) := by rw [Int.natCast_add, Int.natCast_mul, Int.natCast_mul]
  have e2 : ((d * b : Nat) : Int) = (d : Int) * (b : Int) := Int.natCast_mul _ _
  have e3 : ((n * b : Nat) : Int) = (n : Int) * (b : Int) := Int.natCast_mul _ _
  have e4 : ((a * d : Nat) : Int) = (a : Int) * (d : Int) := Int.natCast_mul _ _
  rw [e1, e2] at HL
  generalize sN n d a b = u at *
  generalize sD n d a b = v at *
  have w1 : IntKind.i64.wrap ((n : Int) * (b : Int)) = (n : Int) * (b : Int) := w64 _ (by omega)
  have w2 : IntKind.i64.wrap ((a : Int) * (d : Int)) = (a : Int) * (d : Int) := w64 _ (by omega)
  have w3 : IntKind.i64.wrap ((n : Int) * (b : Int) + (a : Int) * (d : Int)) = (n : Int) * (b : Int) + (a : Int) * (d : Int) := w64 _ (by omega)
  have w4 : IntKind.i64.wrap ((d : Int) * (b : Int)) = (d : Int) * (b : Int) := w64 _ (by omega)
  clear e1 e2 e3 e4
  go_enter Try.func55, Try.ntmps55
  go_wp2_with (go_at_call 47; refine (HL.out _).mono ?_; rintro e w' ⟨rfl, hb'⟩)
  go_ret2
  exact ⟨rfl, hb'⟩
end Go.Proofs.Ytpldbakllegheab.S7
