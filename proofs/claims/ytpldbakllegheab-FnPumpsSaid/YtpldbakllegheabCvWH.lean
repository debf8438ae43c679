/- The head at the working point, the program's and the model's: contracts. Conditions: each theorem's own premises. -/
import Derived.Test.YtpldbakllegheabCvWork2
import Derived.Test.YtpldbakllegheabCvWorkS
namespace Go.Proofs.Ytpldbakllegheab.S7
open Go.RowKit P7

theorem low_le (n d : Nat) (hd : 0 < d) : ∃ a b : Nat, lowN n d = (a : Int) ∧ lowD n d = (b : Int) ∧ 0 < b ∧ b ≤ d ∧ a ≤ n ∧ a * d = n * b := by
  have hg : 0 < Nat.gcd n d := Nat.gcd_pos_of_pos_right _ hd
  have h1 := Nat.div_mul_cancel (Nat.gcd_dvd_left n d)
  have h2 := Nat.div_mul_cancel (Nat.gcd_dvd_right n d)
  refine ⟨n / Nat.gcd n d, d / Nat.gcd n d, rfl, rfl, Nat.div_pos (Nat.le_of_dvd hd (Nat.gcd_dvd_right n d)) hg, Nat.div_le_self _ _, Nat.div_le_self _ _, ?_⟩
  generalize Nat.gcd n d = g at *
  generalize n / g = a at *
  generalize d / g = b at *
  subst h1 h2
  simp only [Nat.mul_comm, Nat.mul_left_comm]
/-- The ratio of a fraction in lowest terms is no greater than it was. -/
theorem low_ratio {n d a b m : Nat} (hd : 0 < d) (h : a * d = n * b) (hn : n ≤ m * d) : a ≤ m * b := by
  have h1 : a * d ≤ m * b * d := by
    rw [h]
    calc n * b ≤ m * d * b := Nat.mul_le_mul_right _ hn
      _ = m * b * d := by simp only [Nat.mul_comm, Nat.mul_left_comm]
  exact Nat.le_of_mul_le_mul_right h1 hd
/-- What WorkingHead tells. -/
noncomputable def whA (cs : List Cp) (l s : Int) : Int × Int × Bool :=
  if (wA cs l s).2.2 = true then (lowN (l * (wA cs l s).2.1 + s * (wA cs l s).1).toNat (wA cs l s).2.1.toNat, lowD (l * (wA cs l s).2.1 + s * (wA cs l s).1).toNat (wA cs l s).2.1.toNat, true) else (0, 0, false)
/-- What a working point is like. -/
theorem wA_like (cs : List Cp) (l s : Int) : wA cs l s = (0, 0, false) ∨ ∃ a b : Nat, wA cs l s = ((a : Int), (b : Int), true) ∧ 0 < b ∧ b ≤ 1002000 ∧ a ≤ 1000 * b ∧ (0 ≤ l ∧ l ≤ 1000) ∧ (0 ≤ s ∧ s ≤ 1000) := by
  by_cases h : ∃ k, WK cs l s k
  · obtain ⟨k, hk⟩ := h
    obtain ⟨d1, d2, d3, n1, n2⟩ := hk.fit
    obtain ⟨a, b, ha, hb, hb0, hb9, _, he⟩ := low_le (wNum cs l s k) (wDen cs l s k) d2
    refine .inr ⟨a, b, ?_, hb0, by omega, low_ratio d2 he n2, hk.2.1, hk.2.2.1⟩
    rw [wA_yes hk, ha, hb]
  · exact .inl (wA_no fun k hk => h ⟨k, hk⟩)
theorem wh_no {cs : List Cp} {l s : Int} (h : wA cs l s = (0, 0, false)) : whA cs l s = (0, 0, false) := by
  unfold whA; rw [h]; simp
theorem wh_yes {cs : List Cp} {l s : Int} {a b : Nat} (h : wA cs l s = ((a : Int), (b : Int), true)) (L S : Nat) (hl : l = (L : Int)) (hs : s = (S : Int)) : whA cs l s = (lowN (L * b + S * a) b, lowD (L * b + S * a) b, true) := by
  unfold whA
  rw [h]
  have e : (l * (b : Int) + s * (a : Int)).toNat = L * b + S * a := by
    rw [hl, hs, ← Int.natCast_mul, ← Int.natCast_mul, ← Int.natCast_add, Int.toNat_natCast]
  simp only [if_true, e, Int.toNat_natCast]
abbrev WHPost (cs : List Cp) (l s : Int) (w : World) : Ending → World → Prop := Gives3 (whA cs l s).1 (whA cs l s).2.1 (whA cs l s).2.2 w

set_option maxHeartbeats 4000000 in
theorem whead_cap (A : Option Addr) (cap : Nat) (cs : List Cp) (l s : Int) (w : World) (h : CAt w A cs) (hm : cs.length ≤ 1048576) (hc1 : cs.length ≤ cap) (hc2 : cap ≤ maxLen) :
    Calls Try.prog 12 #[.slice A cs.length cap, .int .i64 l, .int .i64 s] w (WHPost cs l s w) := by
  have H := Lib.hid (work_cap A cap cs l s w h hm hc1 hc2)
  clear h
  unfold WPost at H
  unfold WHPost
  rcases wA_like cs l s with hw | ⟨a, b, hw, hb0, hb9, ha9, hl, hs⟩
  · rw [wh_no hw]
    rw [hw] at H
    unfold Gives3 ret3 at *
    dsimp only at *
    clear hw
    go_enter Try.func12, Try.ntmps12
    go_wp2_with (go_at_call 10; refine H.out.mono ?_; rintro e w1 ⟨rfl, hb1⟩)
    go_ret3
    exact ⟨rfl, hb1⟩
  · obtain ⟨L, rfl⟩ := nat_of hl.1
    obtain ⟨S, rfl⟩ := nat_of hs.1
    rw [wh_yes hw L S rfl rfl]
    rw [hw] at H
    have m1 : L * b ≤ 1000 * 1002000 := Nat.mul_le_mul (by omega) hb9
    have m2 : S * a ≤ 1000 * 1002000000 := Nat.mul_le_mul (by omega) (by omega)
    have HL := Lib.hid (fun w => low_any (L * b + S * a) b w hb0 (by omega) (by omega))
    unfold lowV at HL
    unfold Gives3 ret3 at *
    dsimp only at *
    have e1 : ((L * b + S * a : Nat) : Int) = (L : Int) * (b : Int) + (S : Int) * (a : Int) := by rw [Int.natCast_add, Int.natCast_mul, Int.natCast_mul]
    have e2 : ((L * b : Nat) : Int) = (L : Int) * (b : Int) := Int.natCast_mul _ _
    have e3 : ((S * a : Nat) : Int) = (S : Int) * (a : Int) := Int.natCast_mul _ _
    rw [e1] at HL
    generalize lowN (L * b + S * a) b = u at *
    generalize lowD (L * b + S * a) b = v at *
    have wP : IntKind.i64.wrap ((L : Int) * (b : Int)) = (L : Int) * (b : Int) := w64 _ (by omega)
    have wQ : IntKind.i64.wrap ((S : Int) * (a : Int)) = (S : Int) * (a : Int) := w64 _ (by omega)
    have wS : IntKind.i64.wrap ((L : Int) * (b : Int) + (S : Int) * (a : Int)) = (L : Int) * (b : Int) + (S : Int) * (a : Int) := w64 _ (by omega)
    clear hw m1 m2 e1 e2 e3
    go_enter Try.func12, Try.ntmps12
    go_wp2_with (first
      | (go_at_call 10; refine H.out.mono ?_; rintro e w1 ⟨rfl, hb1⟩)
      | (go_at_call 45; refine (HL.out _).mono ?_; rintro e w2 ⟨rfl, hb2⟩))
    go_ret3
    exact ⟨rfl, hb1.trans (hb2.mono hb1.size)⟩

theorem whead_any (A : Option Addr) (cap : Nat) (cs : List Cp) (l s : Int) (w : World) (h : CAt w A cs) (hm : cs.length ≤ 1048576) (hc1 : cs.length ≤ cap) (hc2 : cap ≤ 1048576) :
    Calls Try.prog 12 #[.slice A cs.length cap, .int .i64 l, .int .i64 s] w (WHPost cs l s w) :=
  whead_cap A cap cs l s w h hm hc1 (cap_ok hc2)

set_option maxHeartbeats 4000000 in
theorem swhead_any (A : Option Addr) (cap : Nat) (cs : List Cp) (l s : Int) (w : World) (h : CAt w A cs) (hm : cs.length ≤ 1048576) :
    Calls Try.prog 13 #[.slice A cs.length cap, .int .i64 l, .int .i64 s] w (WHPost cs l s w) := by
  have H := Lib.hid (swork_any A cap cs l s w h hm)
  clear h
  unfold WPost at H
  unfold WHPost
  rcases wA_like cs l s with hw | ⟨a, b, hw, hb0, hb9, ha9, hl, hs⟩
  · rw [wh_no hw]
    rw [hw] at H
    unfold Gives3 ret3 at *
    dsimp only at *
    clear hw
    go_enter Try.func13, Try.ntmps13
    go_wp2_with (go_at_call 11; refine H.out.mono ?_; rintro e w1 ⟨rfl, hb1⟩)
    go_ret3
    exact ⟨rfl, hb1⟩
  · obtain ⟨L, rfl⟩ := nat_of hl.1
    obtain ⟨S, rfl⟩ := nat_of hs.1
    rw [wh_yes hw L S rfl rfl]
    rw [hw] at H
    have m1 : L * b ≤ 1000 * 1002000 := Nat.mul_le_mul (by omega) hb9
    have m2 : S * a ≤ 1000 * 1002000000 := Nat.mul_le_mul (by omega) (by omega)
    have HL := Lib.hid (fun w => reduce_any (L * b + S * a) b w hb0 (by omega) (by omega))
    unfold lowV at HL
    unfold Gives3 ret3 at *
    dsimp only at *
    have e1 : ((L * b + S * a : Nat) : Int) = (L : Int) * (b : Int) + (S : Int) * (a : Int) := by rw [Int.natCast_add, Int.natCast_mul, Int.natCast_mul]
    have e2 : ((L * b : Nat) : Int) = (L : Int) * (b : Int) := Int.natCast_mul _ _
    have e3 : ((S * a : Nat) : Int) = (S : Int) * (a : Int) := Int.natCast_mul _ _
    rw [e1] at HL
    generalize lowN (L * b + S * a) b = u at *
    generalize lowD (L * b + S * a) b = v at *
    have wP : IntKind.i64.wrap ((L : Int) * (b : Int)) = (L : Int) * (b : Int) := w64 _ (by omega)
    have wQ : IntKind.i64.wrap ((S : Int) * (a : Int)) = (S : Int) * (a : Int) := w64 _ (by omega)
    have wS : IntKind.i64.wrap ((L : Int) * (b : Int) + (S : Int) * (a : Int)) = (L : Int) * (b : Int) + (S : Int) * (a : Int) := w64 _ (by omega)
    clear hw m1 m2 e1 e2 e3
    go_enter Try.func13, Try.ntmps13
    go_wp2_with (first
      | (go_at_call 11; refine H.out.mono ?_; rintro e w1 ⟨rfl, hb1⟩)
      | (go_at_call 47; refine (HL.out _).mono ?_; rintro e w2 ⟨rfl, hb2⟩))
    go_ret3
    exact ⟨rfl, hb1.trans (hb2.mono hb1.size)⟩
end Go.Proofs.Ytpldbakllegheab.S7
