/- The search by halves at the closures of chapter 14: contracts. Conditions: each theorem's own premises. -/
import Derived.Test.YtidlpoambmeiiaaTaLaw
namespace Go.Proofs.Ytidlpoambmeiiaa.S14
open Go.RowKit P14

/-- What a search by halves gives: the first place at which p holds. -/
def SrIs (p : Nat → Bool) (n : Nat) (w : World) (e : Ending) (w' : World) : Prop :=
  (∃ m : Nat, e = .returned (.int .i64 (m : Int)) ∧ m ≤ n ∧ (∀ t, t < m → p t = false) ∧ (∀ t, m ≤ t → t < n → p t = true)) ∧ Below w.heap.size w w'
set_option maxHeartbeats 2000000 in
set_option maxRecDepth 100000 in
theorem search_n (b1 b2 n : Nat) (p : Nat → Bool) (w : World) (hn : n ≤ 1000000)
    (hf : ∀ w', Below w.heap.size w w' → ∀ i : Nat, i < n → Calls Try.prog 59 #[.int .i64 (i : Int), .pointer (some ⟨b1, 0, none⟩), .pointer (some ⟨b2, 0, none⟩)] w' fun e w'' => e = .returned (.bool (p i)) ∧ Below w'.heap.size w' w'')
    (hmono : ∀ a b, a ≤ b → b < n → p a = true → p b = true) :
    Calls Try.prog 58 #[.int .i64 (n : Int), .func (.func 59) #[] #[.pointer (some ⟨b1, 0, none⟩), .pointer (some ⟨b2, 0, none⟩)]] w (SrIs p n w) := by
  have HF := Lib.hid hf
  have HM := Lib.hid hmono
  clear hf hmono
  go_enter Try.func58, Try.ntmps58
  go_wp2
  go_loopw [5, 6, 7] (fun i j _ wr => ∃ I J : Nat, I ≤ J ∧ J ≤ n ∧ i = .int .i64 (I : Int) ∧ j = .int .i64 (J : Int) ∧ Hid (∀ t, t < I → p t = false) ∧ Hid (∀ t, J ≤ t → t < n → p t = true) ∧ Hid (Below w.heap.size w wr)) (fun i j _ _ => (intOf j - intOf i).toNat)
  case atStart => exact ⟨0, n, Nat.zero_le _, Nat.le_refl _, rfl, rfl, Lib.hid (fun t h => absurd h (by omega)), Lib.hid (fun t h1 h2 => absurd h2 (by omega)), Lib.hid (Below.refl _ _)⟩
  case round =>
    obtain ⟨I, J, hIJ, hJ, rfl, rfl, hlow, hhigh, hb⟩ := hrel
    by_cases hlt : I < J
    · obtain ⟨M, hM⟩ : ∃ M, M = (I + J) / 2 := ⟨_, rfl⟩
      have hM1 : I ≤ M := by omega
      have hM2 : M < J := by omega
      have hMi : ((I : Int) + (J : Int)) / 2 = (M : Int) := by omega
      have hu : IntKind.u64.wrap ((I : Int) + (J : Int)) = (I : Int) + (J : Int) := by rw [IntKind.wrap_u64]; omega
      have huM : IntKind.u64.wrap (M : Int) = (M : Int) := by rw [IntKind.wrap_u64]; omega
      have HC := Lib.hid (HF.out _ hb.out M (by omega))
      clear hM
      cases hp : p M with
      | false =>
        rw [hp] at HC
        have hlow2 := Lib.hid (show ∀ t, t < M + 1 → p t = false from fun t ht => by
          cases h : p t with
          | false => rfl
          | true => have := HM.out t M (by omega) (by omega) h; rw [hp] at this; cases this)
        clear hp
        go_wp2_with (go_at_call 59; refine HC.out.mono ?_; rintro e w1 ⟨rfl, hb1⟩)
        go_roundw
        case rel => exact ⟨M + 1, J, by omega, hJ, by go_num, rfl, hlow2, hhigh, Lib.hid (hb.out.trans (hb1.mono hb.out.size))⟩
        case measure => simp [intOf]; omega
      | true =>
        rw [hp] at HC
        have hhigh2 := Lib.hid (show ∀ t, M ≤ t → t < n → p t = true from fun t h1 h2 => HM.out M t h1 h2 hp)
        clear hp
        go_wp2_with (go_at_call 59; refine HC.out.mono ?_; rintro e w1 ⟨rfl, hb1⟩)
        go_roundw
        case rel => exact ⟨I, M, hM1, by omega, rfl, rfl, hlow, hhigh2, Lib.hid (hb.out.trans (hb1.mono hb.out.size))⟩
        case measure => simp [intOf]; omega
    · have e : J = I := by omega
      subst e
      go_wp2
      go_ret
      exact ⟨⟨J, rfl, hJ, hlow.out, hhigh.out⟩, hb.out⟩
set_option maxHeartbeats 2000000 in
set_option maxRecDepth 100000 in
theorem search_f (b1 b2 n : Nat) (p : Nat → Bool) (w : World) (hn : n ≤ 1000000)
    (hf : ∀ w', Below w.heap.size w w' → ∀ i : Nat, i < n → Calls Try.prog 61 #[.int .i64 (i : Int), .pointer (some ⟨b1, 0, none⟩), .pointer (some ⟨b2, 0, none⟩)] w' fun e w'' => e = .returned (.bool (p i)) ∧ Below w'.heap.size w' w'')
    (hmono : ∀ a b, a ≤ b → b < n → p a = true → p b = true) :
    Calls Try.prog 58 #[.int .i64 (n : Int), .func (.func 61) #[] #[.pointer (some ⟨b1, 0, none⟩), .pointer (some ⟨b2, 0, none⟩)]] w (SrIs p n w) := by
  have HF := Lib.hid hf
  have HM := Lib.hid hmono
  clear hf hmono
  go_enter Try.func58, Try.ntmps58
  go_wp2
  go_loopw [5, 6, 7] (fun i j _ wr => ∃ I J : Nat, I ≤ J ∧ J ≤ n ∧ i = .int .i64 (I : Int) ∧ j = .int .i64 (J : Int) ∧ Hid (∀ t, t < I → p t = false) ∧ Hid (∀ t, J ≤ t → t < n → p t = true) ∧ Hid (Below w.heap.size w wr)) (fun i j _ _ => (intOf j - intOf i).toNat)
  case atStart => exact ⟨0, n, Nat.zero_le _, Nat.le_refl _, rfl, rfl, Lib.hid (fun t h => absurd h (by omega)), Lib.hid (fun t h1 h2 => absurd h2 (by omega)), Lib.hid (Below.refl _ _)⟩
  case round =>
    obtain ⟨I, J, hIJ, hJ, rfl, rfl, hlow, hhigh, hb⟩ := hrel
    by_cases hlt : I < J
    · obtain ⟨M, hM⟩ : ∃ M, M = (I + J) / 2 := ⟨_, rfl⟩
      have hM1 : I ≤ M := by omega
      have hM2 : M < J := by omega
      have hMi : ((I : Int) + (J : Int)) / 2 = (M : Int) := by omega
      have hu : IntKind.u64.wrap ((I : Int) + (J : Int)) = (I : Int) + (J : Int) := by rw [IntKind.wrap_u64]; omega
      have huM : IntKind.u64.wrap (M : Int) = (M : Int) := by rw [IntKind.wrap_u64]; omega
      have HC := Lib.hid (HF.out _ hb.out M (by omega))
      clear hM
      cases hp : p M with
      | false =>
        rw [hp] at HC
        have hlow2 := Lib.hid (show ∀ t, t < M + 1 → p t = false from fun t ht => by
          cases h : p t with
          | false => rfl
          | true => have := HM.out t M (by omega) (by omega) h; rw [hp] at this; cases this)
        clear hp
        go_wp2_with (go_at_call 61; refine HC.out.mono ?_; rintro e w1 ⟨rfl, hb1⟩)
        go_roundw
        case rel => exact ⟨M + 1, J, by omega, hJ, by go_num, rfl, hlow2, hhigh, Lib.hid (hb.out.trans (hb1.mono hb.out.size))⟩
        case measure => simp [intOf]; omega
      | true =>
        rw [hp] at HC
        have hhigh2 := Lib.hid (show ∀ t, M ≤ t → t < n → p t = true from fun t h1 h2 => HM.out M t h1 h2 hp)
        clear hp
        go_wp2_with (go_at_call 61; refine HC.out.mono ?_; rintro e w1 ⟨rfl, hb1⟩)
        go_roundw
        case rel => exact ⟨I, M, hM1, by omega, rfl, rfl, hlow, hhigh2, Lib.hid (hb.out.trans (hb1.mono hb.out.size))⟩
        case measure => simp [intOf]; omega
    · have e : J = I := by omega
      subst e
      go_wp2
      go_ret
      exact ⟨⟨J, rfl, hJ, hlow.out, hhigh.out⟩, hb.out⟩
set_option maxHeartbeats 2000000 in
set_option maxRecDepth 100000 in
theorem search_h (b1 b2 n : Nat) (p : Nat → Bool) (w : World) (hn : n ≤ 1000000)
    (hf : ∀ w', Below w.heap.size w w' → ∀ i : Nat, i < n → Calls Try.prog 67 #[.int .i64 (i : Int), .pointer (some ⟨b1, 0, none⟩), .pointer (some ⟨b2, 0, none⟩)] w' fun e w'' => e = .returned (.bool (p i)) ∧ Below w'.heap.size w' w'')
    (hmono : ∀ a b, a ≤ b → b < n → p a = true → p b = true) :
    Calls Try.prog 58 #[.int .i64 (n : Int), .func (.func 67) #[] #[.pointer (some ⟨b1, 0, none⟩), .pointer (some ⟨b2, 0, none⟩)]] w (SrIs p n w) := by
  have HF := Lib.hid hf
  have HM := Lib.hid hmono
  clear hf hmono
  go_enter Try.func58, Try.ntmps58
  go_wp2
  go_loopw [5, 6, 7] (fun i j _ wr => ∃ I J : Nat, I ≤ J ∧ J ≤ n ∧ i = .int .i64 (I : Int) ∧ j = .int .i64 (J : Int) ∧ Hid (∀ t, t < I → p t = false) ∧ Hid (∀ t, J ≤ t → t < n → p t = true) ∧ Hid (Below w.heap.size w wr)) (fun i j _ _ => (intOf j - intOf i).toNat)
  case atStart => exact ⟨0, n, Nat.zero_le _, Nat.le_refl _, rfl, rfl, Lib.hid (fun t h => absurd h (by omega)), Lib.hid (fun t h1 h2 => absurd h2 (by omega)), Lib.hid (Below.refl _ _)⟩
  case round =>
    obtain ⟨I, J, hIJ, hJ, rfl, rfl, hlow, hhigh, hb⟩ := hrel
    by_cases hlt : I < J
    · obtain ⟨M, hM⟩ : ∃ M, M = (I + J) / 2 := ⟨_, rfl⟩
      have hM1 : I ≤ M := by omega
      have hM2 : M < J := by omega
      have hMi : ((I : Int) + (J : Int)) / 2 = (M : Int) := by omega
      have hu : IntKind.u64.wrap ((I : Int) + (J : Int)) = (I : Int) + (J : Int) := by rw [IntKind.wrap_u64]; omega
      have huM : IntKind.u64.wrap (M : Int) = (M : Int) := by rw [IntKind.wrap_u64]; omega
      have HC := Lib.hid (HF.out _ hb.out M (by omega))
      clear hM
      cases hp : p M with
      | false =>
        rw [hp] at HC
        have hlow2 := Lib.hid (show ∀ t, t < M + 1 → p t = false from fun t ht => by
          cases h : p t with
          | false => rfl
          | true => have := HM.out t M (by omega) (by omega) h; rw [hp] at this; cases this)
        clear hp
        go_wp2_with (go_at_call 67; refine HC.out.mono ?_; rintro e w1 ⟨rfl, hb1⟩)
        go_roundw
        case rel => exact ⟨M + 1, J, by omega, hJ, by go_num, rfl, hlow2, hhigh, Lib.hid (hb.out.trans (hb1.mono hb.out.size))⟩
        case measure => simp [intOf]; omega
      | true =>
        rw [hp] at HC
        have hhigh2 := Lib.hid (show ∀ t, M ≤ t → t < n → p t = true from fun t h1 h2 => HM.out M t h1 h2 hp)
        clear hp
        go_wp2_with (go_at_call 67; refine HC.out.mono ?_; rintro e w1 ⟨rfl, hb1⟩)
        go_roundw
        case rel => exact ⟨I, M, hM1, by omega, rfl, rfl, hlow, hhigh2, Lib.hid (hb.out.trans (hb1.mono hb.out.size))⟩
        case measure => simp [intOf]; omega
    · have e : J = I := by omega
      subst e
      go_wp2
      go_ret
      exact ⟨⟨J, rfl, hJ, hlow.out, hhigh.out⟩, hb.out⟩
end Go.Proofs.Ytidlpoambmeiiaa.S14
