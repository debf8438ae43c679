/- The liters of successive hours, the program's and the model's: contracts. Conditions: each theorem's own premises. -/
import Derived.Test.YtkgkeohnnpkahaaPfUse
namespace Go.Proofs.Ytkgkeohnnpkahaa.S6
open Go.RowKit P6

def hsB (x : Int) : Bool := decide (0 ≤ x ∧ x ≤ 24)
set_option maxHeartbeats 4000000 in
theorem vol_no (A : Option Addr) (cap : Nat) (l : List Int) (b x y : Int) (w : World) (h : IAt w A l) (hm : l.length ≤ 1048576) (hn : (gdB l && baB b && hoB x && hsB y) = false) :
    Calls Try.prog 32 #[dv A l.length cap, .int .i64 b, .int .i64 x, .int .i64 y] w (Gives3 0 0 false w) := by
  obtain ⟨v, hv⟩ : ∃ v, gdB l = v := ⟨_, rfl⟩
  have HV := Lib.hid (fun w' (hb : Below w.heap.size w w') => valid_v hv A cap w' (h.kept hb (Nat.le_refl _)) hm)
  have HB := Lib.hid (fun w => base_any b w)
  have HH := Lib.hid (fun w => hour_any x w)
  rw [hv] at hn
  clear h hv
  generalize baB b = vb at *
  generalize hoB x = vx at *
  have hy : v = false ∨ vb = false ∨ vx = false ∨ ¬ (0 ≤ y ∧ y ≤ 24) := by
    revert hn; unfold hsB; cases v <;> cases vb <;> cases vx <;> simp
  clear hn
  go_enter Try.func32, Try.ntmps32
  cases v <;> cases vb <;> cases vx
  case true.true.true =>
    have hy2 : ¬ (0 ≤ y ∧ y ≤ 24) := by simpa using hy
    clear hy
    by_cases hy0 : y < 0
    · clear hy2
      go_wp2_with (first
        | (go_at_call 21; refine (HV.out _ ((Below.refl _ _).alloc (Nat.le_refl _) _)).mono ?_; rintro e w1 ⟨rfl, hb1⟩)
        | (go_at_call 73; refine (HB.out _).mono ?_; rintro e w1x ⟨rfl, hw⟩; replace hw := hw.symm; subst hw)
        | (go_at_call 56; refine (HH.out _).mono ?_; rintro e w1y ⟨rfl, hw⟩; replace hw := hw.symm; subst hw))
      go_ret3
      exact ⟨rfl, ((Below.refl _ _).alloc (Nat.le_refl _) _).trans (hb1.mono (by simp))⟩
    · have hy9 : 24 < y := by omega
      clear hy2
      go_wp2_with (first
        | (go_at_call 21; refine (HV.out _ ((Below.refl _ _).alloc (Nat.le_refl _) _)).mono ?_; rintro e w1 ⟨rfl, hb1⟩)
        | (go_at_call 73; refine (HB.out _).mono ?_; rintro e w1x ⟨rfl, hw⟩; replace hw := hw.symm; subst hw)
        | (go_at_call 56; refine (HH.out _).mono ?_; rintro e w1y ⟨rfl, hw⟩; replace hw := hw.symm; subst hw))
      go_ret3
      exact ⟨rfl, ((Below.refl _ _).alloc (Nat.le_refl _) _).trans (hb1.mono (by simp))⟩
  all_goals
    clear hy
    go_wp2_with (first
      | (go_at_call 21; refine (HV.out _ ((Below.refl _ _).alloc (Nat.le_refl _) _)).mono ?_; rintro e w1 ⟨rfl, hb1⟩)
      | (go_at_call 73; refine (HB.out _).mono ?_; rintro e w1x ⟨rfl, hw⟩; replace hw := hw.symm; subst hw)
      | (go_at_call 56; refine (HH.out _).mono ?_; rintro e w1y ⟨rfl, hw⟩; replace hw := hw.symm; subst hw))
    go_ret3
    exact ⟨rfl, ((Below.refl _ _).alloc (Nat.le_refl _) _).trans (hb1.mono (by simp))⟩
set_option maxHeartbeats 4000000 in
theorem svol_no (A : Option Addr) (cap : Nat) (l : List Int) (b x y : Int) (w : World) (h : IAt w A l) (hm : l.length ≤ 1048576) (hn : (gdB l && baB b && hoB x && hsB y) = false) :
    Calls Try.prog 33 #[dv A l.length cap, .int .i64 b, .int .i64 x, .int .i64 y] w (Gives3 0 0 false w) := by
  obtain ⟨v, hv⟩ : ∃ v, gdB l = v := ⟨_, rfl⟩
  have HV := Lib.hid (fun w' (hb : Below w.heap.size w w') => sgood_v hv A cap w' (h.kept hb (Nat.le_refl _)) hm)
  have HB := Lib.hid (fun w => sbase_any b w)
  have HH := Lib.hid (fun w => shour_any x w)
  have HI := Lib.hid (fun w => in_any y 0 24 w)
  rw [hv] at hn
  clear h hv
  unfold hsB at hn
  generalize baB b = vb at *
  generalize hoB x = vx at *
  generalize decide (0 ≤ y ∧ y ≤ 24) = vy at *
  go_enter Try.func33, Try.ntmps33
  cases v <;> cases vb <;> cases vx <;> cases vy <;> first | (exact absurd hn (by decide)) | skip
  all_goals
    clear hn
    go_wp2_with (first
      | (go_at_call 57; refine (HV.out _ ((Below.refl _ _).alloc (Nat.le_refl _) _)).mono ?_; rintro e w1 ⟨rfl, hb1⟩)
      | (go_at_call 75; refine (HB.out _).mono ?_; rintro e w1x ⟨rfl, hw⟩; replace hw := hw.symm; subst hw)
      | (go_at_call 58; refine (HH.out _).mono ?_; rintro e w1y ⟨rfl, hw⟩; replace hw := hw.symm; subst hw)
      | (go_at_call 65; refine (HI.out _).mono ?_; rintro e w1z ⟨rfl, hw⟩; replace hw := hw.symm; subst hw))
    go_ret3
    exact ⟨rfl, ((Below.refl _ _).alloc (Nat.le_refl _) _).trans (hb1.mono (by simp))⟩

/-- Sixty times the base times the percentages. -/
def volN (l : List Int) (b x y : Nat) : Nat := b * 60 * (pf l x y).toNat
theorem vol_fit {l : List Int} {b : Nat} (g : Gd l) (x y : Nat) (hb : b ≤ 100000) (hy : y ≤ 24) : volN l b x y ≤ 600000000000 ∧ (60 * (b : Int)) * pf l x y = (volN l b x y : Int) ∧ ∃ p : Nat, p ≤ 24000 ∧ pf l x y = (p : Int) ∧ volN l b x y = b * 60 * p := by
  have h1 := pf_bound g x y
  unfold volN
  obtain ⟨n, hn⟩ := nat_of h1.1
  rw [hn]
  refine ⟨?_, ?_, n, by omega, rfl, by simp⟩
  · calc b * 60 * ((n : Int)).toNat ≤ (100000 * 60) * 24000 := Nat.mul_le_mul (by omega) (by omega)
      _ ≤ 600000000000 := by omega
  · rw [Int.toNat_natCast, Int.natCast_mul, Int.natCast_mul, Int.mul_comm 60 (b : Int)]; rfl
set_option maxHeartbeats 4000000 in
theorem vol_yes (A : Option Addr) (cap : Nat) (l : List Int) (b x y : Nat) (w : World) (h : IAt w A l) (g : Gd l) (hb0 : b ≤ 100000) (hx : x < 24) (hy : y ≤ 24) :
    Calls Try.prog 32 #[dv A l.length cap, .int .i64 (b : Int), .int .i64 (x : Int), .int .i64 (y : Int)] w (Gives3 (lowN (volN l b x y) 100) (lowD (volN l b x y) 100) true w) := by
  have hl := g.1
  have HV := Lib.hid (fun w' (hb : Below w.heap.size w w') => valid_v (gd_mk g) A cap w' (h.kept hb (Nat.le_refl _)) (by omega))
  rw [hl] at HV ⊢
  have HB := Lib.hid (fun w => base_any (b : Int) w)
  have HH := Lib.hid (fun w => hour_any (x : Int) w)
  rw [show baB (b : Int) = true by simp [baB]; omega] at HB
  rw [show hoB (x : Int) = true by simp [hoB]; omega] at HH
  obtain ⟨hu, he, p, hp, hpe, hv⟩ := vol_fit (b := b) g x y hb0 hy
  have HP := Lib.hid (fun w' (hb : Below w.heap.size w w') => pf_any A cap l w' (h.kept hb (Nat.le_refl _)) g x y hx hy)
  have H := Lib.hid (fun w => liters_any b p w hb0 (by omega))
  rw [← hv] at H
  rw [hpe] at HP
  unfold lowV at H
  generalize lowN (volN l b x y) 100 = u at *
  generalize lowD (volN l b x y) 100 = v at *
  clear h he g hl hu hpe hv
  go_enter Try.func32, Try.ntmps32
  go_wp2_with (first
    | (go_at_call 21; refine (HV.out _ ((Below.refl _ _).alloc (Nat.le_refl _) _)).mono ?_; rintro e w1 ⟨rfl, hb1⟩; have hB := (show Below (w.heap.size + 1) (w.alloc (.cells #[.slice A 24 cap] 26)) w1 by simpa using hb1); have hbx := box1 hB)
    | (go_at_call 73; refine (HB.out _).mono ?_; rintro e w1x ⟨rfl, hw⟩; replace hw := hw.symm; subst hw)
    | (go_at_call 56; refine (HH.out _).mono ?_; rintro e w1y ⟨rfl, hw⟩; replace hw := hw.symm; subst hw)
    | (go_at_call 68; refine (HP.out _ (below_box hB)).mono ?_; rintro e w2 ⟨rfl, hb2⟩; have hB2 := on_call hB hb2)
    | (go_at_call 74; refine (H.out _).mono ?_; rintro e w3 ⟨rfl, hb3⟩))
  go_ret3
  exact ⟨rfl, below_box (on_call hB2 hb3)⟩
set_option maxHeartbeats 4000000 in
theorem svol_yes (A : Option Addr) (cap : Nat) (l : List Int) (b x y : Nat) (w : World) (h : IAt w A l) (g : Gd l) (hb0 : b ≤ 100000) (hx : x < 24) (hy : y ≤ 24) :
    Calls Try.prog 33 #[dv A l.length cap, .int .i64 (b : Int), .int .i64 (x : Int), .int .i64 (y : Int)] w (Gives3 (lowN (volN l b x y) 100) (lowD (volN l b x y) 100) true w) := by
  have hl := g.1
  have HV := Lib.hid (fun w' (hb : Below w.heap.size w w') => sgood_v (gd_mk g) A cap w' (h.kept hb (Nat.le_refl _)) (by omega))
  rw [hl] at HV ⊢
  have HB := Lib.hid (fun w => sbase_any (b : Int) w)
  have HH := Lib.hid (fun w => shour_any (x : Int) w)
  have HI := Lib.hid (fun w => in_eq (y : Int) 0 24 true (by simp; omega) w)
  rw [show baB (b : Int) = true by simp [baB]; omega] at HB
  rw [show hoB (x : Int) = true by simp [hoB]; omega] at HH
  obtain ⟨hu, he, p, hp, hpe, hv⟩ := vol_fit (b := b) g x y hb0 hy
  have HP := Lib.hid (fun w' (hb : Below w.heap.size w w') => spf_any A cap l w' (h.kept hb (Nat.le_refl _)) g x y hx hy)
  have H := Lib.hid (fun w => reduce_any (volN l b x y) 100 w (by omega) (by omega) (by omega))
  have hw1 : IntKind.i64.wrap (60 * (b : Int)) = 60 * (b : Int) := IntWalk.i64_in _ (by omega)
  have hw : IntKind.i64.wrap (60 * (b : Int) * pf l x y) = (volN l b x y : Int) := by rw [he]; exact IntWalk.i64_in _ (by omega)
  unfold lowV at H
  generalize lowN (volN l b x y) 100 = u at *
  generalize lowD (volN l b x y) 100 = v at *
  generalize volN l b x y = z at *
  generalize pf l x y = q at *
  clear h he g hl hpe hv
  go_enter Try.func33, Try.ntmps33
  go_wp2_with (first
    | (go_at_call 57; refine (HV.out _ ((Below.refl _ _).alloc (Nat.le_refl _) _)).mono ?_; rintro e w1 ⟨rfl, hb1⟩; have hB := (show Below (w.heap.size + 1) (w.alloc (.cells #[.slice A 24 cap] 26)) w1 by simpa using hb1); have hbx := box1 hB)
    | (go_at_call 75; refine (HB.out _).mono ?_; rintro e w1x ⟨rfl, hw⟩; replace hw := hw.symm; subst hw)
    | (go_at_call 58; refine (HH.out _).mono ?_; rintro e w1y ⟨rfl, hw⟩; replace hw := hw.symm; subst hw)
    | (go_at_call 65; refine (HI.out _).mono ?_; rintro e w1z ⟨rfl, hw⟩; replace hw := hw.symm; subst hw)
    | (go_at_call 69; refine (HP.out _ (below_box hB)).mono ?_; rintro e w2 ⟨rfl, hb2⟩; have hB2 := on_call hB hb2)
    | (go_at_call 76; refine (H.out _).mono ?_; rintro e w3 ⟨rfl, hb3⟩))
  go_ret3
  exact ⟨rfl, below_box (on_call hB2 hb3)⟩
end Go.Proofs.Ytkgkeohnnpkahaa.S6
