/- What the verifier's model of chapter 1 returns, function by function: contracts. Conditions: each theorem's own premises. -/
import Derived.Test.YtpdkphokinhhdaaDoorChecked
import Derived.Test.YtpdkphokinhhdaaDoorSumOne
import Derived.WalkKit
import Derived.ProofKit
import Derived.LoopTactic
import Derived.IntWalk
import Derived.Lib.Hide
import Derived.Outline
import Derived.Deep.QuietTactic
import Derived.BigQuiet
import Derived.WalkSpells
import Derived.WalkLawsBesides
namespace Go.Proofs.YtpdkphokinhhdaaDoor.S1
open Go.RowKit Go.Lib P1

/-- l1In: between two bounds. -/
theorem in_yes (x a b : Int) (w : World) (h0 : a ≤ x) (h1 : x ≤ b) :
    Calls Tryd.prog 36 #[.int .i64 x, .int .i64 a, .int .i64 b] w fun e w' => e = .returned (.bool true) ∧ w' = w := by
  go_enter Tryd.func36, Tryd.ntmps36
  go_wp2
  go_ret
  exact ⟨rfl, rfl⟩
theorem in_low (x a b : Int) (w : World) (h0 : x < a) :
    Calls Tryd.prog 36 #[.int .i64 x, .int .i64 a, .int .i64 b] w fun e w' => e = .returned (.bool false) ∧ w' = w := by
  go_enter Tryd.func36, Tryd.ntmps36
  go_wp2
  go_ret
  exact ⟨rfl, rfl⟩
theorem in_high (x a b : Int) (w : World) (h0 : a ≤ x) (h1 : b < x) :
    Calls Tryd.prog 36 #[.int .i64 x, .int .i64 a, .int .i64 b] w fun e w' => e = .returned (.bool false) ∧ w' = w := by
  have hd : decide (x ≤ b) = false := by simp; omega
  go_enter Tryd.func36, Tryd.ntmps36
  go_wp2
  go_ret
  exact ⟨rfl, rfl⟩

theorem ret_str {a b : List UInt8} (h : a = b) : Ending.returned (.string ⟨a.toArray⟩) = .returned (.string ⟨b.toArray⟩) := by rw [h]

theorem digit_fin : ∀ i : Fin 10, (ByteArray.mk #[48, 49, 50, 51, 52, 53, 54, 55, 56, 57]).extract i.val (i.val + 1) = ⟨[UInt8.ofNat (48 + i.val)].toArray⟩ := by decide +kernel
theorem digit_piece (i : Nat) (h : i < 10) : (ByteArray.mk #[48, 49, 50, 51, 52, 53, 54, 55, 56, 57]).extract i (i + 1) = ⟨(decDigits i).toArray⟩ := by
  rw [dec_small h]; exact digit_fin ⟨i, h⟩

/-- l1Num at a number that is not negative. -/
theorem num_small (n : Int) (w : World) (h0 : 0 ≤ n) (h : n < 10) :
    Calls Tryd.prog 57 #[.int .i64 n] w fun e w' => e = .returned (.string ⟨(decDigits n.toNat).toArray⟩) ∧ w' = w := by
  obtain ⟨u, rfl⟩ : ∃ u : Nat, n = (u : Int) := ⟨n.toNat, by omega⟩
  have hp := Lib.hid (digit_piece u (by omega))
  go_enter Tryd.func57, Tryd.ntmps57
  go_wp2_with fail
  go_ret
  exact ⟨congrArg (fun b => Ending.returned (.string b)) hp.out, rfl⟩

theorem digit_slice (r : Nat) (h : r < 10) (w : World) : (Instr.slice 9 (.string ⟨#[48, 49, 50, 51, 52, 53, 54, 55, 56, 57]⟩) (some (.int .i64 (r : Int))) (some (.int .i64 ((r : Int) + 1))) none).run Tryd.prog w = .ok (.string ⟨(decDigits r).toArray⟩) w := by
  have e10 : ((ByteArray.mk #[48, 49, 50, 51, 52, 53, 54, 55, 56, 57]).size : Int) = 10 := rfl
  rw [run_slice_string_if w 9 _ _ _ _ _ Tryd.underlying9, e10, if_pos (by omega), if_pos (by omega)]
  rw [show ((r : Int) + 1).toNat = r + 1 by omega, Int.toNat_natCast, digit_piece r h]

theorem num_nonneg (k : Nat) : ∀ (n : Int) (w : World), n ≤ k → 0 ≤ n → n ≤ 999999 →
    Calls Tryd.prog 57 #[.int .i64 n] w fun e w' => e = .returned (.string ⟨(decDigits n.toNat).toArray⟩) ∧ ∃ d, w' = w.drewN d := by
  induction k with
  | zero => intro n w hk h0 h1; exact (num_small n w h0 (by omega)).mono fun e w' ⟨h, hw⟩ => ⟨h, 0, hw⟩
  | succ k ih =>
    intro n w hk h0 h1
    by_cases hs : n < 10
    · exact (num_small n w h0 hs).mono fun e w' ⟨h, hw⟩ => ⟨h, 0, hw⟩
    · obtain ⟨u, rfl⟩ : ∃ u : Nat, n = (u : Int) := ⟨n.toNat, by omega⟩
      obtain ⟨q, hqn⟩ : ∃ q, q = u / 10 := ⟨_, rfl⟩
      obtain ⟨r, hrn⟩ : ∃ r, r = u % 10 := ⟨_, rfl⟩
      have hr10 : r < 10 := by omega
      have hq : (u : Int) / 10 = (q : Int) := by omega
      have hr : (u : Int).tmod 10 = (r : Int) := by rw [Int.tmod_eq_emod_of_nonneg (by omega)]; omega
      have hq' : IntKind.i64.wrap (q : Int) = (q : Int) := IntWalk.i64_in _ (by omega)
      have hr' : IntKind.i64.wrap (r : Int) = (r : Int) := IntWalk.i64_in _ (by omega)
      have hr1 : IntKind.i64.wrap ((r : Int) + 1) = (r : Int) + 1 := IntWalk.i64_in _ (by omega)
      have hfin := Lib.hid (show decDigits u = decDigits q ++ decDigits r by rw [hqn, hrn, dec_big (by omega), dec_small (u := u % 10) (by omega)])
      have hsl := digit_slice r hr10
      have hlq := dec_len_six q (by omega)
      have hlr := dec_len_six r (by omega)
      have hadd : ∀ wx : World, (Op.stringOp .add ⟨(decDigits q).toArray⟩ ⟨(decDigits r).toArray⟩).run Tryd.prog wx = .ok (.string ⟨(decDigits q ++ decDigits r).toArray⟩) wx :=
        fun wx => run_string_add_lists wx _ _ (by omega) (by omega)
      have IH := Lib.hid (fun w => ih (q : Int) w (by omega) (by omega) (by omega))
      clear ih hqn hrn
      go_enter Tryd.func57, Tryd.ntmps57
      go_wp2_with fail
      go_quiet ((go_at_call 57; exact Calls.quiet_of (IH.out _)))
      go_wp2
      go_ret
      exact ⟨ret_str hfin.out.symm, nq, rfl⟩

/-- l1Num. -/
theorem num_any (n : Int) (w : World) (h0 : -999999 ≤ n) (h1 : n ≤ 999999) :
    Calls Tryd.prog 57 #[.int .i64 n] w fun e w' => e = .returned (.string ⟨(itoa n).toArray⟩) ∧ ∃ d, w' = w.drewN d := by
  by_cases hn : n < 0
  · obtain ⟨u, hu⟩ : ∃ u : Nat, u = n.natAbs := ⟨_, rfl⟩
    have hneg : -n = (u : Int) := by omega
    have hneg' : IntKind.i64.wrap (-n) = (u : Int) := by rw [hneg]; exact IntWalk.i64_in _ (by omega)
    have IH := Lib.hid (fun w => num_nonneg u (u : Int) w (by omega) (by omega) (by omega))
    have hlu := dec_len_six u (by omega)
    have hadd : ∀ wx : World, (Op.stringOp .add ⟨#[45]⟩ ⟨(decDigits u).toArray⟩).run Tryd.prog wx = .ok (.string ⟨(45 :: decDigits u).toArray⟩) wx :=
      fun wx => run_string_add_lists wx [45] _ (by simp) (by omega)
    have hfin := Lib.hid (show itoa n = 45 :: decDigits u by unfold itoa; rw [if_pos hn, hu])
    clear hu
    go_enter Tryd.func57, Tryd.ntmps57
    go_wp2_with (go_at_call 57; refine (IH.out _).mono ?_; rintro e w' ⟨rfl, d, rfl⟩)
    go_ret
    exact ⟨ret_str hfin.out.symm, d, rfl⟩
  · have e : itoa n = decDigits n.toNat := by unfold itoa; rw [if_neg hn]
    rw [e]
    exact num_nonneg n.toNat n w (by omega) (by omega) h1
end Go.Proofs.YtpdkphokinhhdaaDoor.S1
