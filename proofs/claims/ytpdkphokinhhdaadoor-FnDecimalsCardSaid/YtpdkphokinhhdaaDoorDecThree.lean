/- DecimalText at arguments out of the bounds, and of the model: contracts. Conditions: each theorem's own premises. -/
import Derived.Test.YtpdkphokinhhdaaDoorDecTwo
namespace Go.Proofs.YtpdkphokinhhdaaDoor.S3
open Go.RowKit Go.Sort P1 P3 S1 S2
open Go.Lib hiding intOf

def GivesT (l : List UInt8) (ok : Bool) (w : World) (e : Ending) (w' : World) : Prop := e = .returned (.tuple #[.string ⟨l.toArray⟩, .bool ok]) ∧ Below w.heap.size w w'
theorem dtext_no (a b p : Int) (w : World) (h : a < 0 ∨ 1000000000000 < a ∨ b < 1 ∨ 1000000 < b ∨ p < 0 ∨ 4 < p) :
    Calls Tryd.prog 13 #[.int .i64 a, .int .i64 b, .int .i64 p] w (GivesT [] false w) := by
  by_cases h0 : a < 0
  · clear h
    go_enter Tryd.func13, Tryd.ntmps13
    go_wp2_with fail
    go_ret2
    exact ⟨rfl, Below.refl _ _⟩
  · by_cases h1 : 1000000000000 < a
    · clear h
      go_enter Tryd.func13, Tryd.ntmps13
      go_wp2_with fail
      go_ret2
      exact ⟨rfl, Below.refl _ _⟩
    · by_cases h2 : b < 1
      · clear h
        go_enter Tryd.func13, Tryd.ntmps13
        go_wp2_with fail
        go_ret2
        exact ⟨rfl, Below.refl _ _⟩
      · by_cases h3 : 1000000 < b
        · clear h
          go_enter Tryd.func13, Tryd.ntmps13
          go_wp2_with fail
          go_ret2
          exact ⟨rfl, Below.refl _ _⟩
        · by_cases h4 : p < 0
          · clear h
            go_enter Tryd.func13, Tryd.ntmps13
            go_wp2_with fail
            go_ret2
            exact ⟨rfl, Below.refl _ _⟩
          · have h5 : 4 < p := by omega
            clear h
            go_enter Tryd.func13, Tryd.ntmps13
            go_wp2_with fail
            go_ret2
            exact ⟨rfl, Below.refl _ _⟩

theorem sdtext_no (a b p : Int) (w : World) (h : a < 0 ∨ 1000000000000 < a ∨ b < 1 ∨ 1000000 < b ∨ p < 0 ∨ 4 < p) :
    Calls Tryd.prog 14 #[.int .i64 a, .int .i64 b, .int .i64 p] w (GivesT [] false w) := by
  have H1 := Lib.hid (fun w => in_any a 0 1000000000000 w)
  have H2 := Lib.hid (fun w => in_any b 1 1000000 w)
  have H3 := Lib.hid (fun w => in_any p 0 4 w)
  by_cases h1 : 0 ≤ a ∧ a ≤ 1000000000000
  · rw [show decide ((0 : Int) ≤ a ∧ a ≤ 1000000000000) = true by simpa using h1] at H1
    by_cases h2 : 1 ≤ b ∧ b ≤ 1000000
    · rw [show decide ((1 : Int) ≤ b ∧ b ≤ 1000000) = true by simpa using h2] at H2
      rw [show decide ((0 : Int) ≤ p ∧ p ≤ 4) = false by simp; omega] at H3
      clear h h1 h2
      go_enter Tryd.func14, Tryd.ntmps14
      go_wp2_with (first | (go_at_call_of 36 (Value.int IntKind.i64 a); refine (H1.out _).mono ?_; rintro e w' ⟨rfl, rfl⟩) | (go_at_call_of 36 (Value.int IntKind.i64 b); refine (H2.out _).mono ?_; rintro e w' ⟨rfl, rfl⟩) | (go_at_call_of 36 (Value.int IntKind.i64 p); refine (H3.out _).mono ?_; rintro e w' ⟨rfl, rfl⟩))
      go_ret2
      exact ⟨rfl, Below.refl _ _⟩
    · rw [show decide ((1 : Int) ≤ b ∧ b ≤ 1000000) = false by simpa using h2] at H2
      clear h h1 h2
      go_enter Tryd.func14, Tryd.ntmps14
      go_wp2_with (first | (go_at_call_of 36 (Value.int IntKind.i64 a); refine (H1.out _).mono ?_; rintro e w' ⟨rfl, rfl⟩) | (go_at_call_of 36 (Value.int IntKind.i64 b); refine (H2.out _).mono ?_; rintro e w' ⟨rfl, rfl⟩) | (go_at_call_of 36 (Value.int IntKind.i64 p); refine (H3.out _).mono ?_; rintro e w' ⟨rfl, rfl⟩))
      go_ret2
      exact ⟨rfl, Below.refl _ _⟩
  · rw [show decide ((0 : Int) ≤ a ∧ a ≤ 1000000000000) = false by simpa using h1] at H1
    clear h h1
    go_enter Tryd.func14, Tryd.ntmps14
    go_wp2_with (first | (go_at_call_of 36 (Value.int IntKind.i64 a); refine (H1.out _).mono ?_; rintro e w' ⟨rfl, rfl⟩) | (go_at_call_of 36 (Value.int IntKind.i64 b); refine (H2.out _).mono ?_; rintro e w' ⟨rfl, rfl⟩) | (go_at_call_of 36 (Value.int IntKind.i64 p); refine (H3.out _).mono ?_; rintro e w' ⟨rfl, rfl⟩))
    go_ret2
    exact ⟨rfl, Below.refl _ _⟩

set_option maxHeartbeats 4000000 in
set_option maxRecDepth 100000 in
theorem sdtext_yes (a b p : Nat) (w : World) (ha : a ≤ 1000000000000) (hb : 1 ≤ b) (hb2 : b ≤ 1000000) (hp : p ≤ 4) :
    Calls Tryd.prog 14 #[.int .i64 (a : Int), .int .i64 (b : Int), .int .i64 (p : Int)] w (GivesT (decL (decN a b p) p) true w) := by
  obtain ⟨T, M, N, R, Wn, hT, hT4, hT0, hM, hMb, hN, hNb, hNd, hWn, hWb, hWd, hR, hRT, hRd⟩ := dec_facts ha hb hb2 hp
  obtain ⟨_, t2, t3⟩ := dec_text N p T R Wn hT hRd hWd hRT
  rw [← hNd]
  have HS := Lib.hid (fun (i : Nat) (h : i < p) => pow_step h hp)
  have HT1 := Lib.hid hT
  have HD := Lib.hid (fun w => digits_any N (p + 1) w (by omega) (by omega) (by omega))
  rw [show ((p + 1 : Nat) : Int) = (p : Int) + 1 by omega] at HD
  have HF1 := Lib.hid t2
  have HF2 := Lib.hid t3
  have HW := Lib.hid hWd
  have hb0 : ¬ (2 * (b : Int) = 0) := by omega
  have HWN := Lib.hid (dec_len_le 17 Wn (by omega))
  have H1 := Lib.hid (fun w => in_any a 0 1000000000000 w)
  have H2 := Lib.hid (fun w => in_any b 1 1000000 w)
  have H3 := Lib.hid (fun w => in_any p 0 4 w)
  rw [show decide ((0 : Int) ≤ (a : Int) ∧ (a : Int) ≤ 1000000000000) = true by simp; omega] at H1
  rw [show decide ((1 : Int) ≤ (b : Int) ∧ (b : Int) ≤ 1000000) = true by simp; omega] at H2
  rw [show decide ((0 : Int) ≤ (p : Int) ∧ (p : Int) ≤ 4) = true by simp; omega] at H3
  clear hT hNd hWd hRd t2 t3 hWn hR
  generalize decL N p = L at *
  go_enter Tryd.func14, Tryd.ntmps14
  go_wp2_with (first | (go_at_call_of 36 (Value.int IntKind.i64 (a : Int)); refine (H1.out _).mono ?_; rintro e w' ⟨rfl, rfl⟩) | (go_at_call_of 36 (Value.int IntKind.i64 (b : Int)); refine (H2.out _).mono ?_; rintro e w' ⟨rfl, rfl⟩) | (go_at_call_of 36 (Value.int IntKind.i64 (p : Int)); refine (H3.out _).mono ?_; rintro e w' ⟨rfl, rfl⟩))
  clear H1 H2 H3
  go_loop [8, 9] (fun s k => ∃ i A : Nat, i ≤ p ∧ k = .int .i64 (i : Int) ∧ Hid (A = 10 ^ i) ∧ s = .int .i64 (A : Int)) (fun _ k => p - (intOf k).toNat)
  case atStart => exact ⟨0, 1, Nat.zero_le _, rfl, Lib.hid rfl, rfl⟩
  case round =>
    obtain ⟨i, A0, hi, rfl, hA0, rfl⟩ := hrel
    by_cases hip : i < p
    · obtain ⟨A, B, hA, hB, hA4, hB4, e1, e2⟩ := HS.out i hip
      have hAA : A0 = A := hA0.out.trans hA.symm
      have HB := Lib.hid hB
      clear hA hB e1
      subst hAA
      go_wp2
      go_round
      case rel => exact ⟨i + 1, B, by omega, by go_num, HB, by first | rfl | rw [e2]⟩
      case measure => simp [intOf]; omega
    · have hAT : A0 = T := by rw [hA0.out, HT1.out, show i = p by omega]
      subst hAT
      clear hA0
      go_wp2_with (go_at_call 37; refine (HD.out _).mono ?_; rintro e w1 ⟨⟨J, hJ1, hJ2, hJ3, hJ4, rfl⟩, hb1⟩; refine Hid.out ?_)
      obtain ⟨g1, g2⟩ := dig_stop (n := N) (least := p + 1) (j := J) (by omega) hJ1 hJ3 hJ4 p rfl
      rw [← HW.out] at g1
      have hlen := lowDig_len J N
      by_cases hp0 : p = 0
      · have hL := HF2.out hp0
        rw [← g1, hp0, Nat.sub_zero, List.take_of_length_le (by omega)] at hL
        have HL := Lib.hid hL
        have hp1 : ((p : Int) == 0) = true := by simp; omega
        clear hp0 hL g1 g2 hJ3 hJ4
        refine Lib.hid ?_
        go_wp2_with fail
        go_ret2
        exact ⟨congrArg (fun l : List UInt8 => Ending.returned (.tuple #[.string ⟨l.toArray⟩, .bool true])) HL.out, hb1⟩
      · have HL := Lib.hid (HF1.out hp0)
        have hp1 : ((p : Int) == 0) = false := by simp; omega
        have hsz : (ByteArray.mk (lowDig N J).toArray).size = J := by simp [ByteArray.size, hlen]
        have hJp : (J : Int) - (p : Int) = ((J - p : Nat) : Int) := by omega
        have hs1 := fun wx => slice_to (lowDig N J) (J - p) (by omega) wx
        have hs2 := fun wx => slice_from (lowDig N J) (J - p) (by omega) wx
        rw [g1] at hs1
        rw [g2] at hs2
        have hlp := lowDig_len p N
        have hlw := HWN.out
        have hadd1 := fun wx => add_one (decDigits Wn) [46] (by omega) (by simp) wx
        have hadd2 := fun wx => add_one (decDigits Wn ++ [46]) (lowDig N p) (by simp; omega) (by omega) wx
        generalize decDigits Wn ++ [46] ++ lowDig N p = LL at *
        generalize decDigits Wn ++ [46] = L12 at *
        generalize hK : J - p = K at *
        clear hp0 g1 g2 hJ3 hJ4 hK hlp hlw hlen HF1 HF2 HWN HW
        generalize lowDig N J = LJ at *
        generalize lowDig N p = LP at *
        generalize decDigits Wn = LW at *
        refine Lib.hid ?_
        go_wp2_with fail
        go_quiet (fail)
        go_wp2
        go_ret2
        exact ⟨congrArg (fun l : List UInt8 => Ending.returned (.tuple #[.string ⟨l.toArray⟩, .bool true])) HL.out, below_drewN hb1 _⟩

/-- Both texts are one. -/
theorem dtext_both (a b p : Int) : ∃ l ok, (∀ w, Tab w → Calls Tryd.prog 13 #[.int .i64 a, .int .i64 b, .int .i64 p] w (GivesT l ok w)) ∧ (∀ w, Calls Tryd.prog 14 #[.int .i64 a, .int .i64 b, .int .i64 p] w (GivesT l ok w)) ∧ (ok = true → ∃ N : Nat, 0 ≤ p ∧ p ≤ 4 ∧ N ≤ 30000000000000000 ∧ l = decL N p.toNat) := by
  by_cases h : a < 0 ∨ 1000000000000 < a ∨ b < 1 ∨ 1000000 < b ∨ p < 0 ∨ 4 < p
  · exact ⟨_, _, fun w _ => dtext_no a b p w h, fun w => sdtext_no a b p w h, fun h => by cases h⟩
  · obtain ⟨a', rfl⟩ : ∃ k : Nat, a = (k : Int) := ⟨a.toNat, by omega⟩
    obtain ⟨b', rfl⟩ : ∃ k : Nat, b = (k : Int) := ⟨b.toNat, by omega⟩
    obtain ⟨p', rfl⟩ : ∃ k : Nat, p = (k : Int) := ⟨p.toNat, by omega⟩
    obtain ⟨T, M, N, R, Wn, hT, hT4, hT0, hM, hMb, hN, hNb, hNd, _⟩ := dec_facts (a := a') (b := b') (p := p') (by omega) (by omega) (by omega) (by omega)
    exact ⟨_, _, fun w ht => dtext_yes a' b' p' w ht (by omega) (by omega) (by omega) (by omega), fun w => sdtext_yes a' b' p' w (by omega) (by omega) (by omega) (by omega), fun _ => ⟨decN a' b' p', by omega, by omega, by rw [← hNd]; exact hNb, rfl⟩⟩
theorem walkExactDecimalText (a b p : Int) (w : World) (ht : Tab w) :
    Calls Tryd.prog 10 #[.int .i64 a, .int .i64 b, .int .i64 p] w fun e w' => e = .returned (.bool true) ∧ Below w.heap.size w w' := by
  obtain ⟨l, ok, hi0, hs0, -⟩ := dtext_both a b p
  have hi := Lib.hid hi0
  have hs := Lib.hid hs0
  have HT := Lib.hid ht
  clear hi0 hs0 ht
  go_enter Tryd.func10, Tryd.ntmps10
  go_wp2_with (first
    | (go_at_call 14; refine (hs.out _).mono ?_; rintro e w1 ⟨rfl, hb1⟩)
    | (go_at_call 13; refine (hi.out _ (HT.out.later hb1)).mono ?_; rintro e w2 ⟨rfl, hb2⟩))
  go_ret
  exact ⟨rfl, hb1.trans (hb2.mono hb1.size)⟩
end Go.Proofs.YtpdkphokinhhdaaDoor.S3
