/- Facts about pumps: the head at a working point, a whole working point read off the curve, and two equal pumps. Conditions: each theorem's own premises. -/
import Derived.Test.YtpldbakllegheabCvWH
import Derived.Test.YtpldbakllegheabCvSum
import Derived.Test.YtpldbakllegheabCvFacts
namespace Go.Proofs.Ytpldbakllegheab.S7
open Go.RowKit P7

theorem wp_no {cs : List Cp} {l s x y : Int} (h : wA cs l s = (x, y, false)) : whA cs l s = (0, 0, false) := by
  unfold whA; rw [h]; simp
theorem wp_yes {cs : List Cp} {l s num den : Int} (h : wA cs l s = (num, den, true)) : ∃ a b H D : Nat, num = (a : Int) ∧ den = (b : Int) ∧ whA cs l s = ((H : Int), (D : Int), true) ∧ H * den = D * (l * den + s * num) ∧ (0 < b ∧ b ≤ 1002000 ∧ a ≤ 1000 * b) ∧ (0 ≤ l ∧ l ≤ 1000) ∧ (0 ≤ s ∧ s ≤ 1000) ∧ (H : Int) ≤ l * den + s * num ∧ D ≤ b := by
  rcases wA_like cs l s with e | ⟨a, b, e, hb0, hb9, hab, hl, hs⟩
  · rw [e] at h; simp at h
  · rw [e] at h
    simp only [Prod.mk.injEq, and_true] at h
    obtain ⟨rfl, rfl⟩ := h
    have hp : 0 ≤ l * (b : Int) + s * (a : Int) := by
      have := Int.mul_nonneg hl.1 (show (0 : Int) ≤ b by omega)
      have := Int.mul_nonneg hs.1 (show (0 : Int) ≤ a by omega)
      omega
    obtain ⟨X, hX⟩ : ∃ X : Nat, l * (b : Int) + s * (a : Int) = (X : Int) := ⟨_, (Int.toNat_of_nonneg hp).symm⟩
    obtain ⟨H, D, e1, e2, hD0, hD9, hH9, he⟩ := low_le X b hb0
    refine ⟨a, b, H, D, rfl, rfl, ?_, ?_, ⟨hb0, hb9, hab⟩, hl, hs, by omega, hD9⟩
    · unfold whA
      rw [e]
      simp only [if_true, Int.toNat_natCast]
      rw [hX, Int.toNat_natCast, e1, e2]
    · rw [hX]
      have : ((H * b : Nat) : Int) = ((D * X : Nat) : Int) := by rw [he, Nat.mul_comm]
      simpa [Int.natCast_mul] using this
theorem point_head {cs : List Cp} {l s x : Int} (hw : wA cs l s = (x, 1, true)) : hA cs x = ((whA cs l s).1, (whA cs l s).2.1, true) := by
  by_cases hx : ∃ k, WK cs l s k
  · obtain ⟨k, hk⟩ := hx
    have hw0 := hw
    obtain ⟨d1, d2, _, n1, _⟩ := hk.fit
    obtain ⟨a, b, ha, hb, hb0, _, _, he⟩ := low_le (wNum cs l s k) (wDen cs l s k) d2
    rw [wA_yes hk, ha, hb] at hw
    simp only [Prod.mk.injEq, and_true] at hw
    obtain ⟨rfl, hb1⟩ := hw
    have hb2 : b = 1 := by omega
    subst hb2
    rw [Nat.mul_one] at he
    have he2 : (a : Int) * (wDen cs l s k : Int) = (wNum cs l s k : Int) := by rw [← he, Int.natCast_mul]
    rw [d1, n1] at he2
    have ho := hk.over
    obtain ⟨g, hl, hs, hl0, h0, h1, _, h4⟩ := id hk
    have hst := g.step (i := k - 1) (by omega)
    rw [show k - 1 + 1 = k by omega] at hst
    have hov : 0 < k - 1 → 0 < ovr cs l s (k - 1) := fun hp => by have := h4 (k - 1) hp (by omega); unfold ovr; omega
    have hy0 : (cAt cs (k - 1)).hd = ovr cs l s (k - 1) + l + s * (cAt cs (k - 1)).fl := by unfold ovr; omega
    have hy1 : (cAt cs k).hd = ovr cs l s k + l + s * (cAt cs k).fl := by unfold ovr; omega
    have key : (a : Int) ≤ (cAt cs k).fl ∧ (0 < ovr cs l s (k - 1) → (cAt cs (k - 1)).fl < (a : Int)) ∧ (cAt cs (k - 1)).hd * ((cAt cs k).fl - (a : Int)) + (cAt cs k).hd * ((a : Int) - (cAt cs (k - 1)).fl) = (l + s * (a : Int)) * ((cAt cs k).fl - (cAt cs (k - 1)).fl) := by
      have hDn : (0 : Int) < ovr cs l s (k - 1) + -(ovr cs l s k) := by rw [← d1]; omega
      clear hl0 h4 hov d1 n1 he hw0
      rw [hy0, hy1]
      replace hst := hst.1
      clear hy0 hy1
      generalize (cAt cs (k - 1)).fl = x0 at *
      generalize ovr cs l s (k - 1) = o0 at *
      generalize (cAt cs k).fl = x1 at *
      generalize ovr cs l s k = o1 at *
      generalize (a : Int) = X at *
      have q1 : (X - x0) * (o0 + -o1) = (x1 - x0) * o0 := by
        rw [Int.sub_mul, he2]; simp only [Int.sub_mul, Int.mul_neg, Int.mul_add]; omega
      have q2 : (x1 - X) * (o0 + -o1) = (x1 - x0) * -o1 := by
        rw [Int.sub_mul, he2]; simp only [Int.sub_mul, Int.mul_neg, Int.mul_add]; omega
      refine ⟨?_, ?_, ?_⟩
      · apply Classical.byContradiction
        intro hc
        have := Int.mul_neg_of_neg_of_pos (show x1 - X < 0 by omega) hDn
        have := Int.mul_nonneg (show 0 ≤ x1 - x0 by omega) ho.2
        omega
      · intro hlt
        apply Classical.byContradiction
        intro hc
        have m1 : (X - x0) * (o0 + -o1) ≤ 0 := Int.mul_nonpos_of_nonpos_of_nonneg (by omega) (by omega)
        have := Int.mul_pos (show 0 < x1 - x0 by omega) hlt
        omega
      · have e1 : X * o0 - X * o1 = x1 * o0 - x0 * o1 := by
          simp only [Int.mul_add, Int.mul_neg] at he2; omega
        have c1 := Int.mul_comm x1 o0
        have c2 := Int.mul_comm x0 o1
        have c3 := Int.mul_comm X o0
        have c4 := Int.mul_comm X o1
        have c5 : s * x0 * x1 = s * x1 * x0 := by rw [Int.mul_assoc, Int.mul_comm x0 x1, ← Int.mul_assoc]
        have c6 : s * x0 * X = s * X * x0 := by rw [Int.mul_assoc, Int.mul_comm x0 X, ← Int.mul_assoc]
        have c7 : s * x1 * X = s * X * x1 := by rw [Int.mul_assoc, Int.mul_comm x1 X, ← Int.mul_assoc]
        simp only [Int.mul_sub, Int.add_mul]
        omega
    obtain ⟨k1, k2, k3⟩ := key
    have hk2 : HK cs (a : Int) k := ⟨g, h0, h1, by omega, k1, fun j p q => by
      have m1 := (g.mono (i := j) (j := k - 1) (by omega) (by omega)).1
      have m2 := k2 (hov (by omega))
      omega⟩
    obtain ⟨c1, c2, _, m1, _⟩ := hk2.fit
    obtain ⟨a', b', H, D, ea, eb, ew, eh, _, _, _, hH, _⟩ := wp_yes hw0
    have ea' : a' = a := by omega
    have eb' : b' = 1 := by omega
    subst ea' eb'
    simp only [Int.mul_one] at eh hH
    have hp : 0 ≤ l + s * (a' : Int) := by omega
    obtain ⟨Y, hY⟩ : ∃ Y : Nat, l + s * (a' : Int) = (Y : Int) := ⟨_, (Int.toNat_of_nonneg hp).symm⟩
    have hn : hNum cs (a' : Int) k = Y * hDen cs k := by
      have : ((hNum cs (a' : Int) k : Nat) : Int) = ((Y * hDen cs k : Nat) : Int) := by rw [m1, k3, hY, Int.natCast_mul, c1]
      exact Int.ofNat.inj this
    obtain ⟨e1, e2⟩ := low_mul Y (hDen cs k) c2
    obtain ⟨f1, f2⟩ := low_mul Y 1 (by omega)
    have hwh : whA cs l s = (lowN (Y * 1) 1, lowD (Y * 1) 1, true) := by
      unfold whA
      rw [hw0]
      simp only [if_true, Int.mul_one, hY, Int.toNat_natCast, Nat.mul_one]
      rfl
    rw [hA_yes hk2, hn, hwh, e1, e2, f1, f2]
  · rw [wA_no fun k hk => hx ⟨k, hk⟩] at hw
    exact absurd (congrArg (fun t : Int × Int × Bool => t.2.2) hw) (by simp)
/-- Two equal pumps. -/
theorem pump_two {F G : Nat → Tri} {a b : Nat} (hF : F 0 = ((a : Int), (b : Int), true)) (h0 : G 0 = ((a : Int), (b : Int), true)) (h1 : G 1 = ((a : Int), (b : Int), true)) (hb : 0 < b) (hb9 : b ≤ 1000) (ha : a ≤ 1000 * b) :
    ∃ n d e f : Nat, sumA F 1 = ((n : Int), (d : Int), true) ∧ sumA G 2 = ((e : Int), (f : Int), true) ∧ e * d = 2 * n * f ∧ e * b = 2 * a * f ∧ n ≤ 1000000 ∧ d ≤ 1000 ∧ e ≤ 2000000000 ∧ f ≤ 1000000 := by
  have AF : AllK F 1 := fun i hi => by rw [show i = 0 by omega, hF]
  have AG : AllK G 2 := fun i hi => by rcases (show i = 0 ∨ i = 1 by omega) with e | e <;> rw [e] <;> first | rw [h0] | rw [h1]
  have kF : sumK F 1 = (sN 0 1 a b, sD 0 1 a b) := by simp [sumK, hF]
  have kG : sumK G 2 = (sN (sN 0 1 a b) (sD 0 1 a b) a b, sD (sN 0 1 a b) (sD 0 1 a b) a b) := by simp [sumK, h0, h1]
  have q1 : sN 0 1 a b * b = a * sD 0 1 a b ∧ 0 < sD 0 1 a b ∧ sN 0 1 a b ≤ a ∧ sD 0 1 a b ≤ b := by
    obtain ⟨x, y, e1, e2, hy0, hy9, hx9, he⟩ := low_le a b hb
    have f1 : sN 0 1 a b = x := by have : ((sN 0 1 a b : Nat) : Int) = (x : Int) := by rw [← e1]; unfold sN lowN; simp
                                   exact Int.ofNat.inj this
    have f2 : sD 0 1 a b = y := by have : ((sD 0 1 a b : Nat) : Int) = (y : Int) := by rw [← e2]; unfold sD lowD; simp
                                   exact Int.ofNat.inj this
    rw [f1, f2]; exact ⟨he, hy0, hx9, hy9⟩
  generalize sN 0 1 a b = n at *
  generalize sD 0 1 a b = d at *
  obtain ⟨q1, hd0, hn9, hd9⟩ := q1
  have hdb : 0 < d * b := Nat.mul_pos hd0 hb
  obtain ⟨x, y, e1, e2, hy0, hy9, hx9, he⟩ := low_le (n * b + a * d) (d * b) hdb
  have f1 : sN n d a b = x := by have : ((sN n d a b : Nat) : Int) = (x : Int) := by rw [← e1]; rfl
                                 exact Int.ofNat.inj this
  have f2 : sD n d a b = y := by have : ((sD n d a b : Nat) : Int) = (y : Int) := by rw [← e2]; rfl
                                 exact Int.ofNat.inj this
  refine ⟨n, d, x, y, by rw [sumA_yes (by omega) (by omega) AF, kF], by rw [sumA_yes (by omega) (by omega) AG, kG, f1, f2], ?_, ?_, by omega, by omega, ?_, ?_⟩
  · have : x * d * b = 2 * n * y * b := by
      rw [Nat.mul_assoc, he, ← q1, ← Nat.two_mul, Nat.mul_assoc, Nat.mul_assoc, Nat.mul_assoc, Nat.mul_assoc, Nat.mul_comm b y]
    exact Nat.eq_of_mul_eq_mul_right hb this
  · have : x * b * d = 2 * a * y * d := by
      rw [Nat.mul_assoc, Nat.mul_comm b d, he, q1, ← Nat.two_mul, Nat.mul_assoc, Nat.mul_assoc, Nat.mul_assoc, Nat.mul_assoc, Nat.mul_comm d y]
    exact Nat.eq_of_mul_eq_mul_right hd0 this
  · have := Nat.mul_le_mul (show n ≤ 1000000 by omega) hb9
    have := Nat.mul_le_mul (show a ≤ 1000000 by omega) (show d ≤ 1000 by omega)
    omega
  · have := Nat.mul_le_mul (show d ≤ 1000 by omega) hb9
    omega
end Go.Proofs.Ytpldbakllegheab.S7
