/- Plain facts on day profiles: volumes of a day and of mixed profiles. No conditions. -/
import Derived.Test.YtkgkeohnnpkahaaPfMath
import Derived.Test.YtkgkeohnnpkahaaPfVol
import Derived.Test.YtkgkeohnnpkahaaPfSto
namespace Go.Proofs.Ytkgkeohnnpkahaa.S6
open P6

theorem pf_split (l : List Int) (x y : Nat) : ∀ k, pf l x (y + k) = pf l x y + pf l ((x + y) % 24) k := by
  intro k
  induction k with
  | zero => simp [pf]
  | succ k ih =>
    show pf l x (y + k) + at0 l ((x + (y + k)) % 24) = pf l x y + (pf l ((x + y) % 24) k + at0 l (((x + y) % 24 + k) % 24))
    rw [ih, show ((x + y) % 24 + k) % 24 = (x + (y + k)) % 24 by omega]
    omega
theorem pf_S (l : List Int) (x h : Nat) : pf l x h = S (fun i => at0 l ((x + i) % 24)) h := by
  induction h with
  | zero => rfl
  | succ h ih => simp only [pf, S]; rw [ih]
theorem pf_day {l : List Int} (g : Gd l) (x : Nat) (hx : x < 24) : pf l x 24 = 2400 := by
  rw [pf_S, S_congr (g := fun i => at0 l ((i + 24 - (24 - x)) % 24)) (fun i hi => by rw [show i + 24 - (24 - x) = x + i by omega]), rot _ _ (by omega)]
  exact gd_S g
theorem low_cross (a b : Nat) : lowN a b * (b : Int) = lowD a b * (a : Int) := by
  unfold lowN lowD
  have h1 := Nat.div_mul_cancel (Nat.gcd_dvd_left a b)
  have h2 := Nat.div_mul_cancel (Nat.gcd_dvd_right a b)
  rw [← Int.natCast_mul, ← Int.natCast_mul]
  congr 1
  generalize a / a.gcd b = p at *
  generalize b / a.gcd b = q at *
  generalize a.gcd b = d at *
  rw [← h1, ← h2, ← Nat.mul_assoc, ← Nat.mul_assoc, Nat.mul_comm p q]
theorem lowD_pos (a b : Nat) (hb : 0 < b) : 0 < lowD a b := by
  unfold lowD
  have := Nat.div_pos (Nat.le_of_dvd hb (Nat.gcd_dvd_right a b)) (Nat.gcd_pos_of_pos_right a hb)
  omega
theorem low_le (a b : Nat) : 0 ≤ lowN a b ∧ lowN a b ≤ (a : Int) ∧ lowD a b ≤ (b : Int) :=
  ⟨Int.natCast_nonneg _, Int.ofNat_le.2 (Nat.div_le_self _ _), Int.ofNat_le.2 (Nat.div_le_self _ _)⟩
/-- The volume of a day. -/
theorem vol_day {l : List Int} (g : Gd l) (b x : Nat) (hx : x < 24) : volN l b x 24 = 144000 * b := by
  unfold volN
  rw [pf_day g x hx]
  show b * 60 * 2400 = _
  omega
theorem low_day (b : Nat) : lowN (144000 * b) 100 = 1440 * (b : Int) ∧ lowD (144000 * b) 100 = 1 := by
  have h : Nat.gcd (144000 * b) 100 = 100 := Nat.gcd_eq_right ⟨1440 * b, by omega⟩
  unfold lowN lowD
  rw [h]
  constructor
  · rw [show 144000 * b / 100 = 1440 * b by omega]; omega
  · rfl
theorem vol_two {l : List Int} (g : Gd l) (b x y : Nat) (hx : x < 24) (hy : y ≤ 24) : volN l b x y + volN l b ((x + y) % 24) (24 - y) = 144000 * b := by
  have h := pf_split l x y (24 - y)
  rw [show y + (24 - y) = 24 by omega, pf_day g x hx] at h
  have h1 := (pf_bound g x y).1
  have h2 := (pf_bound g ((x + y) % 24) (24 - y)).1
  obtain ⟨p, hp⟩ := nat_of h1
  obtain ⟨q, hq⟩ := nat_of h2
  unfold volN
  rw [hp, hq] at h ⊢
  have e : p + q = 2400 := by omega
  rw [Int.toNat_natCast, Int.toNat_natCast, ← Nat.mul_add, e]
  omega
theorem vol_parts {l : List Int} (g : Gd l) (b x y : Nat) (hx : x < 24) (hy : y ≤ 24) :
    lowN (volN l b x y) 100 * lowD (volN l b ((x + y) % 24) (24 - y)) 100 + lowN (volN l b ((x + y) % 24) (24 - y)) 100 * lowD (volN l b x y) 100 = 1440 * (b : Int) * lowD (volN l b x y) 100 * lowD (volN l b ((x + y) % 24) (24 - y)) 100 := by
  have h := vol_two g b x y hx hy
  have c1 := low_cross (volN l b x y) 100
  have c2 := low_cross (volN l b ((x + y) % 24) (24 - y)) 100
  generalize volN l b x y = u at *
  generalize volN l b ((x + y) % 24) (24 - y) = v at *
  generalize lowN u 100 = N1 at *
  generalize lowD u 100 = D1 at *
  generalize lowN v 100 = N2 at *
  generalize lowD v 100 = D2 at *
  have hu : ((u : Int) + (v : Int)) = 144000 * (b : Int) := by omega
  have e1 : (N1 * D2 + N2 * D1) * 100 = 1440 * (b : Int) * D1 * D2 * 100 := by
    calc (N1 * D2 + N2 * D1) * 100 = (N1 * ((100 : Nat) : Int)) * D2 + (N2 * ((100 : Nat) : Int)) * D1 := by
          rw [Int.add_mul]; congr 1
          · rw [Int.mul_right_comm]; rfl
          · rw [Int.mul_right_comm]; rfl
      _ = D1 * (u : Int) * D2 + D2 * (v : Int) * D1 := by rw [c1, c2]
      _ = D1 * D2 * ((u : Int) + (v : Int)) := by
          rw [Int.mul_add, Int.mul_right_comm D1 (u : Int) D2, Int.mul_right_comm D2 (v : Int) D1, Int.mul_comm D2 D1]
      _ = D1 * D2 * (144000 * (b : Int)) := by rw [hu]
      _ = 1440 * (b : Int) * D1 * D2 * 100 := by
          rw [show (144000 : Int) * (b : Int) = (1440 * (b : Int)) * 100 by omega, ← Int.mul_assoc, Int.mul_comm (D1 * D2) (1440 * (b : Int)), ← Int.mul_assoc]
  omega
theorem sto_flat (b : Nat) : stoN (List.replicate 24 100) b = 0 := by
  have h : ∀ k, k ≤ 24 → st (List.replicate 24 100) k = 0 ∧ gM (List.replicate 24 100) k = 0 ∧ gL (List.replicate 24 100) k = 0 := by
    intro k
    induction k with
    | zero => intro _; exact ⟨by simp [st, sm], rfl, rfl⟩
    | succ k ih =>
      intro hk
      obtain ⟨h1, h2, h3⟩ := ih (by omega)
      have e := flat_at k (by omega)
      have hs : st (List.replicate 24 100) (k + 1) = 0 := by rw [(st_next _ _).1, h1, e]; rfl
      simp only [gM, gL]
      rw [hs, h2, h3]
      exact ⟨rfl, by omega, by omega⟩
  have := h 24 (Nat.le_refl _)
  unfold stoN
  rw [this.2.1, this.2.2]
  simp
theorem low_zero : lowN 0 100 = 0 := by unfold lowN; simp
theorem mx_sum {a b : List Int} (ga : Gd a) (gb : Gd b) (s : Int) : sm (mxL a b s 24) 24 = 240000 := by
  rw [sm_S, S_congr (g := fun i => at0 a i * s + at0 b i * (100 - s)) (fun i hi => mxL_at a b s 24 i hi), S_add, S_mul, S_mul, gd_S ga, gd_S gb]
  omega
end Go.Proofs.Ytkgkeohnnpkahaa.S6
