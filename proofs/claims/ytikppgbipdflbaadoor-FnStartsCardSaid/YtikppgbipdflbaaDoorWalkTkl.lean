/- The walk of the law FnExactLeastStart: contracts. Conditions: each theorem's own premises. -/
import Derived.Test.YtikppgbipdflbaaDoorTkLaw
import Derived.Deep.DeepCutAuto
namespace Go.Proofs.YtikppgbipdflbaaDoor.S11
open Go.RowKit P11

set_option maxHeartbeats 16000000 in
set_option maxRecDepth 100000 in
theorem walkLeastStart (L a b : Int) (AC1 : Option Addr) (cc1 : Nat) (cu1 : List Int) (AC2 : Option Addr) (cc2 : Nat) (cu2 : List Int) (w : World) (hc1 : IAt w AC1 cu1) (hmc1 : cu1.length ≤ maxLen) (hc2 : IAt w AC2 cu2) (hmc2 : cu2.length ≤ maxLen) (sv0 : Int) (sv1 : Bool)
    (hs : ∀ (AC1 : Option Addr) (cc1 : Nat) (AC2 : Option Addr) (cc2 : Nat) (w : World), IAt w AC1 cu1 → cu1.length ≤ 1048576 → IAt w AC2 cu2 → cu2.length ≤ 1048576 → Calls Tryd.prog 7 #[tv L a b, .slice AC1 cu1.length cc1, .slice AC2 cu2.length cc2] w (fun e w' => e = .returned (.tuple #[.int .i64 sv0, .bool sv1]) ∧ Below w.heap.size w w'))
    (hi : ∀ (AC1 : Option Addr) (cc1 : Nat) (AC2 : Option Addr) (cc2 : Nat) (w' : World), Below w.heap.size w w' → IAt w' AC1 cu1 → cu1.length ≤ 1048576 → IAt w' AC2 cu2 → cu2.length ≤ 1048576 → Calls Tryd.prog 10 #[tv L a b, .slice AC1 cu1.length cc1, .slice AC2 cu2.length cc2] w' (fun e w'' => e = .returned (.tuple #[.int .i64 sv0, .bool sv1]) ∧ Below w'.heap.size w' w'')) :
    Calls Tryd.prog 3 #[tv L a b, .slice AC1 cu1.length cc1, .slice AC2 cu2.length cc2] w fun e w' => e = .returned (.bool true) ∧ Below w.heap.size w w' := by
  have HS := Lib.hid hs
  have HI := Lib.hid hi
  have HC1 := Lib.hid hc1
  have HMC1 := Lib.hid hmc1
  have HC2 := Lib.hid hc2
  have HMC2 := Lib.hid hmc2
  clear hs hi hc1 hmc1 hc2 hmc2
  by_cases hci1 : 1048576 < cu1.length
  · have hlm1 : cu1.length ≤ 9223372036854775807 := by have := HMC1.out; unfold maxLen at this; omega
    go_enter Tryd.func3, Tryd.ntmps3
    go_wp2
    go_ret
    exact ⟨rfl, alloc_below w _⟩
  have hcl1 : cu1.length ≤ 1048576 := by omega
  clear hci1
  by_cases hci2 : 1048576 < cu2.length
  · have hlm2 : cu2.length ≤ 9223372036854775807 := by have := HMC2.out; unfold maxLen at this; omega
    go_enter Tryd.func3, Tryd.ntmps3
    go_wp2
    go_ret
    exact ⟨rfl, alloc_below w _⟩
  have hcl2 : cu2.length ≤ 1048576 := by omega
  clear hci2
  go_enter Tryd.func3, Tryd.ntmps3
  refine Hid.out ?_
  have hB1 := alloc_below w (tb 23 L a b)
  have hz1 := hB1.size
  have hw0 := new_lt w (tb 23 L a b)
  have Qa_1 := Lib.hid (BT.new w 23 L a b)
  obtain ⟨_, ba0, ba1, ba2⟩ := Qa_1.out
  refine Lib.hid ?_
  go_wp2_with (first | (go_at_call 8; refine (totk_any L a b _).mono ?_; rintro e w2 ⟨rfl, hb2⟩; refine Hid.out ?_) | fail)
  clear ba0 ba1 ba2
  have hz2 := hb2.size
  have hB2 := hB1.trans (hb2.mono hB1.size)
  have Qa_2 := Lib.hid (Qa_1.out.kept hb2)
  clear hB1 Qa_1 hb2
  obtain ⟨_, ba0, ba1, ba2⟩ := Qa_2.out
  refine Lib.hid ?_
  go_wp2_with (first | (go_at_call 9; refine (toints_any AC1 cc1 cu1 _ (HC1.out.kept hB2 (Nat.le_refl _)) hcl1).mono ?_; rintro e w3 ⟨⟨ge1, rfl, hge1, hOe1⟩, hb3⟩; refine Hid.out ?_) | fail)
  clear ba0 ba1 ba2
  have hz3 := hb3.size
  have hB3 := hB2.trans (hb3.mono hB2.size)
  have Qa_3 := Lib.hid (Qa_2.out.kept hb3)
  clear hB2 Qa_2 hb3
  have hle1 := iown_lt' hOe1
  have Ie1_3 := Lib.hid hOe1
  clear hOe1
  obtain ⟨_, ba0, ba1, ba2⟩ := Qa_3.out
  refine Lib.hid ?_
  go_wp2_with (first | (go_at_call 9; refine (toints_any AC2 cc2 cu2 _ (HC2.out.kept hB3 (Nat.le_refl _)) hcl2).mono ?_; rintro e w4 ⟨⟨ge2, rfl, hge2, hOe2⟩, hb4⟩; refine Hid.out ?_) | fail)
  clear ba0 ba1 ba2
  have hz4 := hb4.size
  have hB4 := hB3.trans (hb4.mono hB3.size)
  have Qa_4 := Lib.hid (Qa_3.out.kept hb4)
  have Ie1_4 := Lib.hid (Ie1_3.out.on hb4)
  clear hB3 Qa_3 Ie1_3 hb4
  have hle2 := iown_lt' hOe2
  have Ie2_4 := Lib.hid hOe2
  clear hOe2
  obtain ⟨_, ba0, ba1, ba2⟩ := Qa_4.out
  refine Lib.hid ?_
  go_wp2_with (first | (go_at_call 7; refine (HS.out _ _ _ _ _ Ie1_4.out.iat hcl1 Ie2_4.out.iat hcl2).mono ?_; rintro e w5 ⟨rfl, hb5⟩; refine Hid.out ?_) | fail)
  clear ba0 ba1 ba2
  have hz5 := hb5.size
  have hB5 := hB4.trans (hb5.mono hB4.size)
  have Qa_5 := Lib.hid (Qa_4.out.kept hb5)
  have Ie1_5 := Lib.hid (Ie1_4.out.on hb5)
  have Ie2_5 := Lib.hid (Ie2_4.out.on hb5)
  clear hB4 Qa_4 Ie1_4 Ie2_4 hb5
  clear Ie1_5
  clear Ie2_5
  obtain ⟨_, ba0, ba1, ba2⟩ := Qa_5.out
  refine Lib.hid ?_
  go_wp2_with (first | (go_at_call 9; refine (toints_any AC1 cc1 cu1 _ (HC1.out.kept hB5 (Nat.le_refl _)) hcl1).mono ?_; rintro e w6 ⟨⟨gz1, rfl, hgz1, hOz1⟩, hb6⟩; refine Hid.out ?_) | fail)
  clear ba0 ba1 ba2
  have hz6 := hb6.size
  have hB6 := hB5.trans (hb6.mono hB5.size)
  have Qa_6 := Lib.hid (Qa_5.out.kept hb6)
  clear hB5 Qa_5 hb6
  have hlz1 := iown_lt' hOz1
  have Iz1_6 := Lib.hid hOz1
  clear hOz1
  obtain ⟨_, ba0, ba1, ba2⟩ := Qa_6.out
  refine Lib.hid ?_
  go_wp2_with (first | (go_at_call 9; refine (toints_any AC2 cc2 cu2 _ (HC2.out.kept hB6 (Nat.le_refl _)) hcl2).mono ?_; rintro e w7 ⟨⟨gz2, rfl, hgz2, hOz2⟩, hb7⟩; refine Hid.out ?_) | fail)
  clear ba0 ba1 ba2
  have hz7 := hb7.size
  have hB7 := hB6.trans (hb7.mono hB6.size)
  have Qa_7 := Lib.hid (Qa_6.out.kept hb7)
  have Iz1_7 := Lib.hid (Iz1_6.out.on hb7)
  clear hB6 Qa_6 Iz1_6 hb7
  have hlz2 := iown_lt' hOz2
  have Iz2_7 := Lib.hid hOz2
  clear hOz2
  obtain ⟨_, ba0, ba1, ba2⟩ := Qa_7.out
  refine Lib.hid ?_
  go_wp2_with (first | (go_at_call 8; refine (totk_any L a b _).mono ?_; rintro e w8 ⟨rfl, hb8⟩; refine Hid.out ?_) | fail)
  clear ba0 ba1 ba2
  have hz8 := hb8.size
  have hB8 := hB7.trans (hb8.mono hB7.size)
  have Qa_8 := Lib.hid (Qa_7.out.kept hb8)
  have Iz1_8 := Lib.hid (Iz1_7.out.on hb8)
  have Iz2_8 := Lib.hid (Iz2_7.out.on hb8)
  clear hB7 Qa_7 Iz1_7 Iz2_7 hb8
  obtain ⟨_, ba0, ba1, ba2⟩ := Qa_8.out
  refine Lib.hid ?_
  go_wp2_with (first | (go_at_call 10; refine (HI.out _ _ _ _ _ hB8 Iz1_8.out.iat hcl1 Iz2_8.out.iat hcl2).mono ?_; rintro e w9 ⟨rfl, hb9⟩; refine Hid.out ?_) | fail)
  clear ba0 ba1 ba2
  have hz9 := hb9.size
  have hB9 := hB8.trans (hb9.mono hB8.size)
  have Qa_9 := Lib.hid (Qa_8.out.kept hb9)
  have Iz1_9 := Lib.hid (Iz1_8.out.on hb9)
  have Iz2_9 := Lib.hid (Iz2_8.out.on hb9)
  clear hB8 Qa_8 Iz1_8 Iz2_8 hb9
  obtain ⟨_, ba0, ba1, ba2⟩ := Qa_9.out
  refine Lib.hid ?_
  go_wp2_with (first | (go_at_call 9; refine (toints_any AC1 cc1 cu1 _ (HC1.out.kept hB9 (Nat.le_refl _)) hcl1).mono ?_; rintro e w10 ⟨⟨gu1, rfl, hgu1, hOu1⟩, hb10⟩; refine Hid.out ?_) | fail)
  clear ba0 ba1 ba2
  have hz10 := hb10.size
  have hB10 := hB9.trans (hb10.mono hB9.size)
  have Qa_10 := Lib.hid (Qa_9.out.kept hb10)
  have Iz1_10 := Lib.hid (Iz1_9.out.on hb10)
  have Iz2_10 := Lib.hid (Iz2_9.out.on hb10)
  clear hB9 Qa_9 Iz1_9 Iz2_9 hb10
  have hlu1 := iown_lt' hOu1
  have Iu1_10 := Lib.hid hOu1
  clear hOu1
  obtain ⟨_, ba0, ba1, ba2⟩ := Qa_10.out
  refine Lib.hid ?_
  go_wp2_with (first | (go_at_call 11; refine (eqints_same _ _ _ _ cu1 _ Iz1_10.out.iat Iu1_10.out.iat hcl1).mono ?_; rintro e w11 ⟨rfl, hb11⟩; refine Hid.out ?_) | fail)
  clear ba0 ba1 ba2
  have hz11 := hb11.size
  have hB11 := hB10.trans (hb11.mono hB10.size)
  have Qa_11 := Lib.hid (Qa_10.out.kept hb11)
  have Iz1_11 := Lib.hid (Iz1_10.out.on hb11)
  have Iz2_11 := Lib.hid (Iz2_10.out.on hb11)
  have Iu1_11 := Lib.hid (Iu1_10.out.on hb11)
  clear hB10 Qa_10 Iz1_10 Iz2_10 Iu1_10 hb11
  clear Iu1_11
  obtain ⟨_, ba0, ba1, ba2⟩ := Qa_11.out
  refine Lib.hid ?_
  go_wp2_with (first | (go_at_call 9; refine (toints_any AC2 cc2 cu2 _ (HC2.out.kept hB11 (Nat.le_refl _)) hcl2).mono ?_; rintro e w12 ⟨⟨gu2, rfl, hgu2, hOu2⟩, hb12⟩; refine Hid.out ?_) | fail)
  clear ba0 ba1 ba2
  have hz12 := hb12.size
  have hB12 := hB11.trans (hb12.mono hB11.size)
  have Qa_12 := Lib.hid (Qa_11.out.kept hb12)
  have Iz1_12 := Lib.hid (Iz1_11.out.on hb12)
  have Iz2_12 := Lib.hid (Iz2_11.out.on hb12)
  clear hB11 Qa_11 Iz1_11 Iz2_11 hb12
  have hlu2 := iown_lt' hOu2
  have Iu2_12 := Lib.hid hOu2
  clear hOu2
  obtain ⟨_, ba0, ba1, ba2⟩ := Qa_12.out
  refine Lib.hid ?_
  go_wp2_with (first | (go_at_call 11; refine (eqints_same _ _ _ _ cu2 _ Iz2_12.out.iat Iu2_12.out.iat hcl2).mono ?_; rintro e w13 ⟨rfl, hb13⟩; refine Hid.out ?_) | fail)
  clear ba0 ba1 ba2
  have hz13 := hb13.size
  have hB13 := hB12.trans (hb13.mono hB12.size)
  have Qa_13 := Lib.hid (Qa_12.out.kept hb13)
  have Iz1_13 := Lib.hid (Iz1_12.out.on hb13)
  have Iz2_13 := Lib.hid (Iz2_12.out.on hb13)
  have Iu2_13 := Lib.hid (Iu2_12.out.on hb13)
  clear hB12 Qa_12 Iz1_12 Iz2_12 Iu2_12 hb13
  clear Iu2_13
  refine Lib.hid ?_
  go_wp2_with fail
  go_ret
  exact ⟨rfl, hB13⟩
end Go.Proofs.YtikppgbipdflbaaDoor.S11
