/- The law FnSplitJoin's walk. Conditions: each theorem's own premises. -/
import Derived.Test.YtcheogmnhooffaaSJoinOne
namespace Go.Proofs.Ytcheogmnhooffaa.S1
open Go.RowKit P1

theorem lesses (x y : ByteArray) : ∃ r q : Bool, (r = true → q = false) ∧ (∀ w, Calls Try.prog 15 #[.string x, .string y] w fun e w' => e = .returned (.bool r) ∧ w' = w) ∧
    (∀ w, Calls Try.prog 16 #[.string x, .string y] w fun e w' => e = .returned (.bool r) ∧ w' = w) ∧ (∀ w, Calls Try.prog 15 #[.string y, .string x] w fun e w' => e = .returned (.bool q) ∧ w' = w) :=
  ⟨_, _, less_flip _ _, less_impl x y, less_spec x y, less_impl y x⟩

set_option maxHeartbeats 8000000 in
theorem sj_walk (a : Option Addr) (n cap : Nat) (w : World) (hc : Cd w.heap.size a n w) (hn : n ≤ 65536) :
    Calls Try.prog 3 #[.slice a n cap] w fun e w' => e = .returned (.bool true) ∧ Below w.heap.size w w' := by
  have HC := Lib.hid hc
  clear hc
  go_enter Try.func3, Try.ntmps3
  go_wp2_with (first | (go_at_call 8; refine (vbig_no a n cap _ hn).mono ?_; rintro e w1 ⟨rfl, rfl⟩) | (go_at_call 9; refine (dsplit_any a n cap _ HC.out hn).mono ?_; rintro e w1 ⟨⟨s, t, rfl, hs, ht⟩, hb1⟩; refine Hid.out ?_))
  have C1 := Lib.hid (HC.out.later hb1 (Nat.le_refl _))
  have B1 := Lib.hid hb1
  clear hb1 HC
  by_cases ht1 : t.size = 1
  · obtain ⟨b, rfl⟩ : ∃ b, t = ⟨#[b]⟩ := by
      obtain ⟨⟨l⟩⟩ := t
      match l, ht1 with
      | [c], _ => exact ⟨c, rfl⟩
    clear ht1 ht
    have h1 : (ByteArray.mk #[b]).size = 1 := rfl
    have hs4 : s.size ≤ 4000 := by omega
    refine Lib.hid ?_
    have HSP := Lib.hid (fun w => split_yes s b w hs4)
    go_wp2_with (go_at_call 10; refine (HSP.out _).mono ?_; rintro e w2 ⟨g0, c0, rfl, ho2, hb2⟩; refine Hid.out ?_)
    have A2 := Lib.hid (at_own ho2)
    have C2 := Lib.hid (C1.out.later hb2 (Nat.le_refl _))
    have B2 := Lib.hid (B1.out.trans (hb2.mono B1.out.size))
    clear ho2 hb2 C1 B1
    refine Lib.hid ?_
    go_wp2_with (go_at_call 11; refine (djoin_any a n cap _ C2.out hn).mono ?_; rintro e w3 ⟨kk, gk, ck, m, rfl, ho3, hk5, hm1, hkz, hb3⟩; refine Hid.out ?_)
    have K3 := Lib.hid (at_own ho3)
    have A3 := Lib.hid (A2.out.later hb3)
    have C3 := Lib.hid (C2.out.later hb3 (Nat.le_refl _))
    have B3 := Lib.hid (B2.out.trans (hb3.mono B2.out.size))
    obtain ⟨o, f, hj1, hj2⟩ := joins kk m (by omega) hkz
    have J1 := Lib.hid hj1
    have J2 := Lib.hid hj2
    clear ho3 hb3 hkz hj1 hj2 A2 B2 C2
    refine Lib.hid ?_
    go_wp2_with (go_at_call 12; refine (J1.out gk _ _ K3.out).mono ?_; rintro e w4 ⟨rfl, hb4⟩; refine Hid.out ?_)
    have K4 := Lib.hid (K3.out.later hb4)
    have A4 := Lib.hid (A3.out.later hb4)
    have C4 := Lib.hid (C3.out.later hb4 (Nat.le_refl _))
    have B4 := Lib.hid (B3.out.trans (hb4.mono B3.out.size))
    clear hb4 A3 B3 C3 K3
    refine Lib.hid ?_
    go_wp2_with (go_at_call 13; refine (J2.out gk _ _ K4.out).mono ?_; rintro e w5 ⟨rfl, hb5⟩; refine Hid.out ?_)
    have A5 := Lib.hid (A4.out.later hb5)
    have C5 := Lib.hid (C4.out.later hb5 (Nat.le_refl _))
    have B5 := Lib.hid (B4.out.trans (hb5.mono B4.out.size))
    clear hb5 A4 B4 C4 K4
    refine Lib.hid ?_
    go_wp2_with (go_at_call 14; refine (dless_any a n cap _ C5.out hn).mono ?_; rintro e w6 ⟨⟨x, y, rfl⟩, hb6⟩; refine Hid.out ?_)
    have A6 := Lib.hid (A5.out.later hb6)
    have B6 := Lib.hid (B5.out.trans (hb6.mono B5.out.size))
    obtain ⟨r, q, hrq, l1, l2, l3⟩ := lesses x y
    have L1 := Lib.hid l1
    have L2 := Lib.hid l2
    have L3 := Lib.hid l3
    have hff : (f == f) = true := beq_self_eq_true f
    have hrr : (r == r) = true := beq_self_eq_true r
    clear hb6 A5 B5 C5 l1 l2 l3
    refine Lib.hid ?_
    have JP := Lib.hid (fun c w h => join_pieces s b g0 c w hs4 h)
    cases r
    · go_wp2_with (first | (go_at_call 15; refine (L1.out _).mono ?_; rintro e w7 ⟨rfl, rfl⟩) | (go_at_call 16; refine (L2.out _).mono ?_; rintro e w7 ⟨rfl, rfl⟩) | (go_at_call 12; refine (JP.out _ _ A6.out).mono ?_; rintro e w8 ⟨rfl, hb8⟩))
      go_ret
      exact ⟨rfl, B6.out.trans (hb8.mono B6.out.size)⟩
    · obtain rfl : q = false := hrq rfl
      go_wp2_with (first | (go_at_call 15; refine (L1.out _).mono ?_; rintro e w7 ⟨rfl, rfl⟩) | (go_at_call 15; refine (L3.out _).mono ?_; rintro e w7 ⟨rfl, rfl⟩) | (go_at_call 16; refine (L2.out _).mono ?_; rintro e w7 ⟨rfl, rfl⟩) | (go_at_call 12; refine (JP.out _ _ A6.out).mono ?_; rintro e w8 ⟨rfl, hb8⟩))
      go_ret
      exact ⟨rfl, B6.out.trans (hb8.mono B6.out.size)⟩
  · have hd : ((t.size : Int) == 1) = false := by rw [beq_eq_false_iff_ne]; omega
    refine Lib.hid ?_
    have HSP := Lib.hid (fun w => split_no_impl s t w (.inr ht1))
    go_wp2_with (go_at_call 10; refine (HSP.out _).mono ?_; rintro e w2 ⟨g0, c0, rfl, ho2, hb2⟩; refine Hid.out ?_)
    have A2 := Lib.hid (at_own ho2)
    have C2 := Lib.hid (C1.out.later hb2 (Nat.le_refl _))
    have B2 := Lib.hid (B1.out.trans (hb2.mono B1.out.size))
    clear ho2 hb2 C1 B1
    refine Lib.hid ?_
    go_wp2_with (go_at_call 11; refine (djoin_any a n cap _ C2.out hn).mono ?_; rintro e w3 ⟨kk, gk, ck, m, rfl, ho3, hk5, hm1, hkz, hb3⟩; refine Hid.out ?_)
    have K3 := Lib.hid (at_own ho3)
    have A3 := Lib.hid (A2.out.later hb3)
    have C3 := Lib.hid (C2.out.later hb3 (Nat.le_refl _))
    have B3 := Lib.hid (B2.out.trans (hb3.mono B2.out.size))
    obtain ⟨o, f, hj1, hj2⟩ := joins kk m (by omega) hkz
    have J1 := Lib.hid hj1
    have J2 := Lib.hid hj2
    clear ho3 hb3 hkz hj1 hj2 A2 B2 C2
    refine Lib.hid ?_
    go_wp2_with (go_at_call 12; refine (J1.out gk _ _ K3.out).mono ?_; rintro e w4 ⟨rfl, hb4⟩; refine Hid.out ?_)
    have K4 := Lib.hid (K3.out.later hb4)
    have A4 := Lib.hid (A3.out.later hb4)
    have C4 := Lib.hid (C3.out.later hb4 (Nat.le_refl _))
    have B4 := Lib.hid (B3.out.trans (hb4.mono B3.out.size))
    clear hb4 A3 B3 C3 K3
    refine Lib.hid ?_
    go_wp2_with (go_at_call 13; refine (J2.out gk _ _ K4.out).mono ?_; rintro e w5 ⟨rfl, hb5⟩; refine Hid.out ?_)
    have A5 := Lib.hid (A4.out.later hb5)
    have C5 := Lib.hid (C4.out.later hb5 (Nat.le_refl _))
    have B5 := Lib.hid (B4.out.trans (hb5.mono B4.out.size))
    clear hb5 A4 B4 C4 K4
    refine Lib.hid ?_
    go_wp2_with (go_at_call 14; refine (dless_any a n cap _ C5.out hn).mono ?_; rintro e w6 ⟨⟨x, y, rfl⟩, hb6⟩; refine Hid.out ?_)
    have A6 := Lib.hid (A5.out.later hb6)
    have B6 := Lib.hid (B5.out.trans (hb6.mono B5.out.size))
    obtain ⟨r, q, hrq, l1, l2, l3⟩ := lesses x y
    have L1 := Lib.hid l1
    have L2 := Lib.hid l2
    have L3 := Lib.hid l3
    have hff : (f == f) = true := beq_self_eq_true f
    have hrr : (r == r) = true := beq_self_eq_true r
    clear hb6 A5 B5 C5 l1 l2 l3
    refine Lib.hid ?_
    cases r
    · go_wp2_with (first | (go_at_call 15; refine (L1.out _).mono ?_; rintro e w7 ⟨rfl, rfl⟩) | (go_at_call 16; refine (L2.out _).mono ?_; rintro e w7 ⟨rfl, rfl⟩))
      go_ret
      exact ⟨rfl, B6.out⟩
    · obtain rfl : q = false := hrq rfl
      go_wp2_with (first | (go_at_call 15; refine (L1.out _).mono ?_; rintro e w7 ⟨rfl, rfl⟩) | (go_at_call 15; refine (L3.out _).mono ?_; rintro e w7 ⟨rfl, rfl⟩) | (go_at_call 16; refine (L2.out _).mono ?_; rintro e w7 ⟨rfl, rfl⟩))
      go_ret
      exact ⟨rfl, B6.out⟩

theorem sj_big (a : Option Addr) (n cap : Nat) (w : World) (hn : 65536 < n) :
    Calls Try.prog 3 #[.slice a n cap] w fun e w' => e = .returned (.bool true) ∧ Below w.heap.size w w' := by
  go_enter Try.func3, Try.ntmps3
  go_wp2_with (go_at_call 8; refine (vbig_yes a n cap _ hn).mono ?_; rintro e w1 ⟨rfl, rfl⟩)
  go_ret
  exact ⟨rfl, Below.refl _ _⟩
end Go.Proofs.Ytcheogmnhooffaa.S1
