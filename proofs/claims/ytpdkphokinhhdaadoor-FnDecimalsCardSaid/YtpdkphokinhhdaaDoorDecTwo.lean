/- DecimalText of the program and of the model: contracts. Conditions: each theorem's own premises. -/
import Derived.Test.YtpdkphokinhhdaaDoorDecOne
import Derived.Test.YtpdkphokinhhdaaDoorTabOne
import Derived.Test.YtpdkphokinhhdaaDoorQuietOne
import Derived.Laws.Strings3
namespace Go.Proofs.YtpdkphokinhhdaaDoor.S3
open Go.RowKit Go.Sort P1 P3 S1 S2
open Go.Lib hiding intOf

theorem dec_len_le (k : Nat) : ∀ u, u < 10 ^ (k + 1) → (decDigits u).length ≤ k + 1 := by
  induction k with
  | zero => intro u h; rw [dec_small (by simpa using h)]; simp
  | succ k ih =>
    intro u h
    by_cases h10 : u < 10
    · rw [dec_small h10]; simp
    · rw [dec_big h10, List.length_append]
      have e2 : 10 ^ (k + 1 + 1) = 10 * 10 ^ (k + 1) := by rw [Nat.pow_succ, Nat.mul_comm]
      have := ih (u / 10) (by omega)
      simp
      omega
/-- The number of the last places. -/
def decN (a b p : Nat) : Nat := (2 * a * 10 ^ p + b) / (2 * b)
theorem pow4 {p : Nat} (h : p ≤ 4) : 10 ^ p ≤ 10000 ∧ 0 < 10 ^ p := ⟨Nat.pow_le_pow_right (n := 10) (by omega) h, Nat.pos_of_ne_zero (by simp)⟩
theorem dec_facts {a b p : Nat} (ha : a ≤ 1000000000000) (hb : 1 ≤ b) (hb2 : b ≤ 1000000) (hp : p ≤ 4) : ∃ T M N R Wn : Nat, T = 10 ^ p ∧ T ≤ 10000 ∧ 0 < T ∧ (2 * (a : Int)) * (T : Int) = (M : Int) ∧ M ≤ 20000000000000000 ∧
    ((M : Int) + (b : Int)) / (2 * (b : Int)) = (N : Int) ∧ N ≤ 30000000000000000 ∧ N = decN a b p ∧ (N : Int) / (T : Int) = (Wn : Int) ∧ Wn ≤ N ∧ Wn = N / 10 ^ p ∧ (N : Int).tmod (T : Int) = (R : Int) ∧ R < T ∧ R = N % 10 ^ p := by
  obtain ⟨h4, h0⟩ := pow4 hp
  have hM : 2 * a * 10 ^ p ≤ 20000000000000000 := by
    have := Nat.mul_le_mul (show 2 * a ≤ 2000000000000 by omega) h4
    omega
  have hN : decN a b p ≤ 30000000000000000 := by
    unfold decN
    have := Nat.div_le_self (2 * a * 10 ^ p + b) (2 * b)
    omega
  refine ⟨10 ^ p, 2 * a * 10 ^ p, decN a b p, decN a b p % 10 ^ p, decN a b p / 10 ^ p, rfl, h4, h0, by push_cast; rfl, hM, ?_, hN, rfl, rfl, Nat.div_le_self _ _, rfl, tmod_nat _ _, Nat.mod_lt _ h0, rfl⟩
  unfold decN
  push_cast
  rfl
theorem pow_step {i p : Nat} (hi : i < p) (hp : p ≤ 4) : ∃ A B : Nat, A = 10 ^ i ∧ B = 10 ^ (i + 1) ∧ A ≤ 10000 ∧ B ≤ 10000 ∧ (A : Int) * 10 = (B : Int) ∧ 10 * (A : Int) = (B : Int) := by
  obtain ⟨h4, _⟩ := pow4 (show i ≤ 4 by omega)
  obtain ⟨h5, _⟩ := pow4 (show i + 1 ≤ 4 by omega)
  refine ⟨_, _, rfl, rfl, h4, h5, ?_, ?_⟩
  · rw [Nat.pow_succ]; push_cast; rfl
  · rw [Nat.pow_succ]; push_cast; rw [Int.mul_comm]

theorem ext_take (l : List UInt8) (i : Nat) : (ByteArray.mk l.toArray).extract 0 i = ⟨(l.take i).toArray⟩ := by
  apply ByteArray.ext
  simp
theorem ext_drop (l : List UInt8) (i n : Nat) (hn : l.length = n) : (ByteArray.mk l.toArray).extract i n = ⟨(l.drop i).toArray⟩ := by
  apply ByteArray.ext
  subst hn
  simp [List.take_of_length_le]
theorem slice_from (l : List UInt8) (i : Nat) (h : i ≤ l.length) (wx : World) : (Instr.slice 9 (.string ⟨l.toArray⟩) (some (.int .i64 (i : Int))) none none).run Tryd.prog wx = .ok (.string ⟨(l.drop i).toArray⟩) wx := by
  have hs : (ByteArray.mk l.toArray).size = l.length := by simp [ByteArray.size]
  rw [run_slice_string_from_if _ _ _ _ _ Tryd.underlying9, hs, if_pos (by omega), Int.toNat_natCast, ext_drop l i _ rfl]
theorem slice_to (l : List UInt8) (i : Nat) (h : i ≤ l.length) (wx : World) : (Instr.slice 9 (.string ⟨l.toArray⟩) none (some (.int .i64 (i : Int))) none).run Tryd.prog wx = .ok (.string ⟨(l.take i).toArray⟩) wx := by
  have hs : (ByteArray.mk l.toArray).size = l.length := by simp [ByteArray.size]
  rw [run_slice_string_to_if _ _ _ _ _ Tryd.underlying9, hs, if_pos (by omega), Int.toNat_natCast, ext_take]
theorem itoa_at (n : Nat) (w : World) (hn : n ≤ 9000000000000000000) (h : Tab w) :
    Calls Tryd.prog 35 #[.int .i64 (n : Int)] w fun e w' => e = .returned (.string ⟨(decDigits n).toArray⟩) ∧ Below w.heap.size w w' := by
  refine (Tryd.strconv_Itoa (n : Int) (by omega) (by omega) w h).mono ?_
  rintro e w' ⟨rfl, k, os, rfl⟩
  exact ⟨by rw [itoa_nonneg'], below_grow w k os⟩
theorem dec_text (N p T R Wn : Nat) (hT : T = 10 ^ p) (hR : R = N % 10 ^ p) (hW : Wn = N / 10 ^ p) (hRT : R < T) : (decDigits (T + R)).drop 1 = lowDig N p ∧ (p ≠ 0 → decDigits Wn ++ [46] ++ lowDig N p = decL N p) ∧ (p = 0 → decDigits Wn = decL N p) := by
  refine ⟨?_, ?_, ?_⟩
  · rw [hT, dec_one p R (by rw [← hT]; exact hRT), List.drop_one, List.tail_cons, hR, lowDig_mod]
  · intro hp; unfold decL; rw [if_neg hp, hW]; simp
  · intro hp; unfold decL; rw [if_pos hp, hW, hp]; simp

set_option maxHeartbeats 4000000 in
set_option maxRecDepth 100000 in
theorem dtext_yes (a b p : Nat) (w : World) (ht : Tab w) (ha : a ≤ 1000000000000) (hb : 1 ≤ b) (hb2 : b ≤ 1000000) (hp : p ≤ 4) :
    Calls Tryd.prog 13 #[.int .i64 (a : Int), .int .i64 (b : Int), .int .i64 (p : Int)] w fun e w' => e = .returned (.tuple #[.string ⟨(decL (decN a b p) p).toArray⟩, .bool true]) ∧ Below w.heap.size w w' := by
  obtain ⟨T, M, N, R, Wn, hT, hT4, hT0, hM, hMb, hN, hNb, hNd, hWn, hWb, hWd, hR, hRT, hRd⟩ := dec_facts ha hb hb2 hp
  obtain ⟨t1, t2, t3⟩ := dec_text N p T R Wn hT hRd hWd hRT
  rw [← hNd]
  have HT := Lib.hid ht
  have HS := Lib.hid (fun (i : Nat) (h : i < p) => pow_step h hp)
  have HT1 := Lib.hid hT
  have hl1 : 1 ≤ (decDigits (T + R)).length := dec_len_pos _
  have hext := ext_drop (decDigits (T + R)) 1 _ rfl
  rw [t1] at hext
  have hlw : (decDigits Wn).length ≤ 18 := dec_len_le 17 Wn (by omega)
  have hll := lowDig_len p N
  have hadd1 := fun wx => add_one (decDigits Wn) [46] (by omega) (by simp) wx
  have hadd2 := fun wx => add_one (decDigits Wn ++ [46]) (lowDig N p) (by simp; omega) (by omega) wx
  generalize decDigits Wn ++ [46] ++ lowDig N p = LL at *
  generalize decDigits Wn ++ [46] = L12 at *
  have HI1 := Lib.hid (fun w h => itoa_at Wn w (by omega) h)
  have HI2 := Lib.hid (fun w h => itoa_at (T + R) w (by omega) h)
  rw [show ((T + R : Nat) : Int) = (T : Int) + (R : Int) by omega] at HI2
  have HF1 := Lib.hid t2
  have HF2 := Lib.hid t3
  have hb0 : ¬ (2 * (b : Int) = 0) := by omega
  have hT00 : ¬ ((T : Int) = 0) := by omega
  clear ht hT hNd hWd hRd t1 t2 t3
  generalize decDigits (T + R) = L2 at *
  generalize decL N p = L at *
  generalize lowDig N p = L3 at *
  generalize decDigits Wn = L1 at *
  go_enter Tryd.func13, Tryd.ntmps13
  go_wp2
  go_loop [8, 35] (fun s k => ∃ i A : Nat, i ≤ p ∧ k = .int .i64 (i : Int) ∧ Hid (A = 10 ^ i) ∧ s = .int .i64 (A : Int)) (fun _ k => p - (intOf k).toNat)
  case atStart => exact ⟨0, 1, Nat.zero_le _, rfl, Lib.hid rfl, rfl⟩
  case round =>
    obtain ⟨i, A0, hi, rfl, hA0, rfl⟩ := hrel
    by_cases hip : i < p
    · obtain ⟨A, B, hA, hB, hA4, hB4, e1, e2⟩ := HS.out i hip
      have hAA : A0 = A := hA0.out.trans hA.symm
      have HB := Lib.hid hB
      clear hA hB e2
      subst hAA
      go_wp2
      go_round
      case rel => exact ⟨i + 1, B, by omega, by go_num, HB, by first | rfl | rw [e1]⟩
      case measure => simp [intOf]; omega
    · have hAT : A0 = T := by rw [hA0.out, HT1.out, show i = p by omega]
      subst hAT
      clear hA0
      by_cases hp0 : p = 0
      · have hL := Lib.hid (HF2.out hp0)
        have hp1 : ((p : Int) == 0) = true := by simp; omega
        clear hp0
        go_wp2_with (go_at_call_of 35 (Value.int IntKind.i64 (Wn : Int)); refine (HI1.out _ HT.out).mono ?_; rintro e w1 ⟨rfl, hb1⟩; have ht1 := Lib.hid (HT.out.later hb1))
        go_ret2
        exact ⟨congrArg (fun l : List UInt8 => Ending.returned (.tuple #[.string ⟨l.toArray⟩, .bool true])) hL.out, hb1⟩
      · have hL := Lib.hid (HF1.out hp0)
        have hp1 : ((p : Int) == 0) = false := by simp; omega
        clear hp0
        go_wp2_with (first | (go_at_call_of 35 (Value.int IntKind.i64 (Wn : Int)); refine (HI1.out _ HT.out).mono ?_; rintro e w1 ⟨rfl, hb1⟩; have ht1 := Lib.hid (HT.out.later hb1)) | (go_at_call 35; refine (HI2.out _ ht1.out).mono ?_; rintro e w2 ⟨rfl, hb2⟩))
        go_ret2
        exact ⟨congrArg (fun l : List UInt8 => Ending.returned (.tuple #[.string ⟨l.toArray⟩, .bool true])) hL.out, hb1.trans (hb2.mono hb1.size)⟩
end Go.Proofs.YtpdkphokinhhdaaDoor.S3
