/- The walk of the law FnExactIsAbove: contracts. Conditions: each theorem's own premises. -/
import Derived.Test.YtmehhojnefoedaaCvKit
import Derived.Deep.DeepCutAuto
namespace Go.Proofs.Ytmehhojnefoedaa.S7
open Go.RowKit P7

set_option maxHeartbeats 16000000 in
set_option maxRecDepth 100000 in
theorem walkIsAbove (A0 : Option Addr) (c0 : Nat) (l0 : List Cp) (A1 : Option Addr) (c1 : Nat) (l1 : List Cp) (w : World) (h0 : CAt w A0 l0) (hm0 : l0.length ≤ maxLen) (h1 : CAt w A1 l1) (hm1 : l1.length ≤ maxLen) (v0 : Bool) (v1 : Bool)
    (hs : ∀ (A0 : Option Addr) (c0 : Nat) (A1 : Option Addr) (c1 : Nat) (w : World), CAt w A0 l0 → l0.length ≤ 1048576 → l0.length ≤ c0 → c0 ≤ 1048576 → CAt w A1 l1 → l1.length ≤ 1048576 → l1.length ≤ c1 → c1 ≤ 1048576 → Calls Try.prog 38 #[.slice A0 l0.length c0, .slice A1 l1.length c1] w fun e w' => e = .returned (.tuple #[.bool v0, .bool v1]) ∧ Below w.heap.size w w')
    (hi : ∀ (A0 : Option Addr) (c0 : Nat) (A1 : Option Addr) (c1 : Nat) (w : World), CAt w A0 l0 → l0.length ≤ 1048576 → l0.length ≤ c0 → c0 ≤ 1048576 → CAt w A1 l1 → l1.length ≤ 1048576 → l1.length ≤ c1 → c1 ≤ 1048576 → Calls Try.prog 39 #[.slice A0 l0.length c0, .slice A1 l1.length c1] w fun e w' => e = .returned (.tuple #[.bool v0, .bool v1]) ∧ Below w.heap.size w w') :
    Calls Try.prog 11 #[.slice A0 l0.length c0, .slice A1 l1.length c1] w fun e w' => e = .returned (.bool true) ∧ Below w.heap.size w w' := by
  have HS := Lib.hid hs
  have HI := Lib.hid hi
  have HA0 := Lib.hid h0
  have HM0 := Lib.hid hm0
  have HA1 := Lib.hid h1
  have HM1 := Lib.hid hm1
  clear hs hi h0 hm0 h1 hm1
  have hB0 := Below.refl w.heap.size w
  go_enter Try.func11, Try.ntmps11
  refine Hid.out ?_
  refine Lib.hid ?_
  go_wp2_with (first | (go_at_call 14; refine (szcps_any A0 l0.length c0 1048576 _ HM0.out (by omega) (by omega)).mono ?_; rintro e w1 ⟨⟨q0, rfl, hq0⟩, hb1⟩; refine Hid.out ?_) | fail)
  have hz1 := hb1.size
  have hB1 := on_base hB0 (Nat.le_refl _) hb1
  clear hb1
  by_cases hq00 : q0 < 0
  · refine Lib.hid ?_
    go_wp2
    go_ret
    exact ⟨rfl, hB1⟩
  have hlen0 : l0.length ≤ 1048576 := by rcases hq0 with h | h; exact absurd h hq00; exact h.2.2
  have hq09 : q0 ≤ 1048576 := by rcases hq0 with h | h; exact absurd h hq00; exact Int.le_trans h.2.1 (by omega)
  clear hq0
  refine Lib.hid ?_
  go_wp2_with (first | (go_at_call 14; refine (szcps_any A1 l1.length c1 q0 _ HM1.out (by omega) (by omega)).mono ?_; rintro e w2 ⟨⟨q1, rfl, hq1⟩, hb2⟩; refine Hid.out ?_) | fail)
  have hz2 := hb2.size
  have hB2 := on_base hB1 (Nat.le_refl _) hb2
  clear hB1 hb2
  by_cases hq10 : q1 < 0
  · refine Lib.hid ?_
    go_wp2
    go_ret
    exact ⟨rfl, hB2⟩
  have hlen1 : l1.length ≤ 1048576 := by rcases hq1 with h | h; exact absurd h hq10; exact h.2.2
  have hq19 : q1 ≤ 1048576 := by rcases hq1 with h | h; exact absurd h hq10; exact Int.le_trans h.2.1 (by omega)
  clear hq1
  refine Lib.hid ?_
  go_wp2_with (first | (go_at_call 16; refine (tocps_any A0 c0 l0 _ (HA0.out.kept hB2 (Nat.le_refl _)) hlen0).mono ?_; rintro e w3 ⟨⟨ga0, rfl, hga0, hOa0⟩, hb3⟩; refine Hid.out ?_) | fail)
  have hz3 := hb3.size
  have hB3 := on_base hB2 (Nat.le_refl _) hb3
  clear hB2 hb3
  have Ta0_3 := Lib.hid hOa0.at_
  clear hOa0 hga0
  refine Lib.hid ?_
  go_wp2_with (first | (go_at_call 16; refine (tocps_any A1 c1 l1 _ (HA1.out.kept hB3 (Nat.le_refl _)) hlen1).mono ?_; rintro e w4 ⟨⟨ga1, rfl, hga1, hOa1⟩, hb4⟩; refine Hid.out ?_) | fail)
  have hz4 := hb4.size
  have hB4 := on_base hB3 (Nat.le_refl _) hb4
  have Ta0_4 := Lib.hid (Ta0_3.out.kept hb4 (Nat.le_refl _))
  clear hB3 Ta0_3 hb4
  have Ta1_4 := Lib.hid hOa1.at_
  clear hOa1 hga1
  refine Lib.hid ?_
  go_wp2_with (first | (go_at_call 38; refine (HS.out _ _ _ _ _ Ta0_4.out hlen0 (Nat.le_refl _) hlen0 Ta1_4.out hlen1 (Nat.le_refl _) hlen1).mono ?_; rintro e w5 ⟨rfl, hb5⟩; refine Hid.out ?_) | fail)
  have hz5 := hb5.size
  have hB5 := on_base hB4 (Nat.le_refl _) hb5
  have Ta0_5 := Lib.hid (Ta0_4.out.kept hb5 (Nat.le_refl _))
  have Ta1_5 := Lib.hid (Ta1_4.out.kept hb5 (Nat.le_refl _))
  clear hB4 Ta0_4 Ta1_4 hb5
  clear Ta0_5
  clear Ta1_5
  refine Lib.hid ?_
  go_wp2_with (first | (go_at_call 16; refine (tocps_any A0 c0 l0 _ (HA0.out.kept hB5 (Nat.le_refl _)) hlen0).mono ?_; rintro e w6 ⟨⟨gx0, rfl, hgx0, hOx0⟩, hb6⟩; refine Hid.out ?_) | fail)
  have hz6 := hb6.size
  have hB6 := on_base hB5 (Nat.le_refl _) hb6
  clear hB5 hb6
  have Tx0_6 := Lib.hid hOx0.at_
  clear hOx0 hgx0
  refine Lib.hid ?_
  go_wp2_with (first | (go_at_call 16; refine (tocps_any A1 c1 l1 _ (HA1.out.kept hB6 (Nat.le_refl _)) hlen1).mono ?_; rintro e w7 ⟨⟨gx1, rfl, hgx1, hOx1⟩, hb7⟩; refine Hid.out ?_) | fail)
  have hz7 := hb7.size
  have hB7 := on_base hB6 (Nat.le_refl _) hb7
  have Tx0_7 := Lib.hid (Tx0_6.out.kept hb7 (Nat.le_refl _))
  clear hB6 Tx0_6 hb7
  have Tx1_7 := Lib.hid hOx1.at_
  clear hOx1 hgx1
  refine Lib.hid ?_
  go_wp2_with (first | (go_at_call 39; refine (HI.out _ _ _ _ _ Tx0_7.out hlen0 (Nat.le_refl _) hlen0 Tx1_7.out hlen1 (Nat.le_refl _) hlen1).mono ?_; rintro e w8 ⟨rfl, hb8⟩; refine Hid.out ?_) | fail)
  have hz8 := hb8.size
  have hB8 := on_base hB7 (Nat.le_refl _) hb8
  have Tx0_8 := Lib.hid (Tx0_7.out.kept hb8 (Nat.le_refl _))
  have Tx1_8 := Lib.hid (Tx1_7.out.kept hb8 (Nat.le_refl _))
  clear hB7 Tx0_7 Tx1_7 hb8
  refine Lib.hid ?_
  go_wp2_with (first | (go_at_call 16; refine (tocps_any A0 c0 l0 _ (HA0.out.kept hB8 (Nat.le_refl _)) hlen0).mono ?_; rintro e w9 ⟨⟨gy0, rfl, hgy0, hOy0⟩, hb9⟩; refine Hid.out ?_) | fail)
  have hz9 := hb9.size
  have hB9 := on_base hB8 (Nat.le_refl _) hb9
  have Tx0_9 := Lib.hid (Tx0_8.out.kept hb9 (Nat.le_refl _))
  have Tx1_9 := Lib.hid (Tx1_8.out.kept hb9 (Nat.le_refl _))
  clear hB8 Tx0_8 Tx1_8 hb9
  have Ty0_9 := Lib.hid hOy0.at_
  clear hOy0 hgy0
  refine Lib.hid ?_
  go_wp2_with (first | (go_at_call 18; refine (eqcps_same _ _ _ _ l0 _ Tx0_9.out Ty0_9.out hlen0).mono ?_; rintro e w10 ⟨rfl, hb10⟩; refine Hid.out ?_) | fail)
  have hz10 := hb10.size
  have hB10 := on_base hB9 (Nat.le_refl _) hb10
  have Tx0_10 := Lib.hid (Tx0_9.out.kept hb10 (Nat.le_refl _))
  have Tx1_10 := Lib.hid (Tx1_9.out.kept hb10 (Nat.le_refl _))
  have Ty0_10 := Lib.hid (Ty0_9.out.kept hb10 (Nat.le_refl _))
  clear hB9 Tx0_9 Tx1_9 Ty0_9 hb10
  clear Ty0_10
  refine Lib.hid ?_
  go_wp2_with (first | (go_at_call 16; refine (tocps_any A1 c1 l1 _ (HA1.out.kept hB10 (Nat.le_refl _)) hlen1).mono ?_; rintro e w11 ⟨⟨gy1, rfl, hgy1, hOy1⟩, hb11⟩; refine Hid.out ?_) | fail)
  have hz11 := hb11.size
  have hB11 := on_base hB10 (Nat.le_refl _) hb11
  have Tx0_11 := Lib.hid (Tx0_10.out.kept hb11 (Nat.le_refl _))
  have Tx1_11 := Lib.hid (Tx1_10.out.kept hb11 (Nat.le_refl _))
  clear hB10 Tx0_10 Tx1_10 hb11
  have Ty1_11 := Lib.hid hOy1.at_
  clear hOy1 hgy1
  refine Lib.hid ?_
  go_wp2_with (first | (go_at_call 18; refine (eqcps_same _ _ _ _ l1 _ Tx1_11.out Ty1_11.out hlen1).mono ?_; rintro e w12 ⟨rfl, hb12⟩; refine Hid.out ?_) | fail)
  have hz12 := hb12.size
  have hB12 := on_base hB11 (Nat.le_refl _) hb12
  have Tx0_12 := Lib.hid (Tx0_11.out.kept hb12 (Nat.le_refl _))
  have Tx1_12 := Lib.hid (Tx1_11.out.kept hb12 (Nat.le_refl _))
  have Ty1_12 := Lib.hid (Ty1_11.out.kept hb12 (Nat.le_refl _))
  clear hB11 Tx0_11 Tx1_11 Ty1_11 hb12
  clear Ty1_12
  refine Lib.hid ?_
  go_wp2_with fail
  go_ret
  exact ⟨rfl, hB12⟩
end Go.Proofs.Ytmehhojnefoedaa.S7
