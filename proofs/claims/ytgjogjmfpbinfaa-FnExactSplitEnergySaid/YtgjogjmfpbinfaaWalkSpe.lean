/- The walk of the law FnExactSplitEnergy: contracts. Conditions: each theorem's own premises. -/
import Derived.Test.YtgjogjmfpbinfaaNetKit
import Derived.Deep.DeepCutAuto
namespace Go.Proofs.Ytgjogjmfpbinfaa.S2
open Go.RowKit P2

set_option maxHeartbeats 16000000 in
set_option maxRecDepth 100000 in
theorem walkSplitEnergy (AC0 : Option Addr) (cc0 : Nat) (cu0 : List Int) (AC1 : Option Addr) (cc1 : Nat) (cu1 : List Int) (w : World) (hc0 : IAt w AC0 cu0) (hmc0 : cu0.length ≤ maxLen) (hc1 : IAt w AC1 cu1) (hmc1 : cu1.length ≤ maxLen) (sv0 : Int) (sv1 : Bool)
    (hs : ∀ (AC0 : Option Addr) (cc0 : Nat) (AC1 : Option Addr) (cc1 : Nat) (w : World), IAt w AC0 cu0 → cu0.length ≤ 1048576 → IAt w AC1 cu1 → cu1.length ≤ 1048576 → Calls Try.prog 39 #[.slice AC0 cu0.length cc0, .slice AC1 cu1.length cc1] w (fun e w' => e = .returned (.tuple #[.int .i64 sv0, .bool sv1]) ∧ Below w.heap.size w w'))
    (hi : ∀ (AC0 : Option Addr) (cc0 : Nat) (AC1 : Option Addr) (cc1 : Nat) (w : World), IAt w AC0 cu0 → cu0.length ≤ 1048576 → IAt w AC1 cu1 → cu1.length ≤ 1048576 → Calls Try.prog 40 #[.slice AC0 cu0.length cc0, .slice AC1 cu1.length cc1] w (fun e w' => e = .returned (.tuple #[.int .i64 sv0, .bool sv1]) ∧ Below w.heap.size w w')) :
    Calls Try.prog 9 #[.slice AC0 cu0.length cc0, .slice AC1 cu1.length cc1] w fun e w' => e = .returned (.bool true) ∧ Below w.heap.size w w' := by
  have HS := Lib.hid hs
  have HI := Lib.hid hi
  have HC0 := Lib.hid hc0
  have HMC0 := Lib.hid hmc0
  have HC1 := Lib.hid hc1
  have HMC1 := Lib.hid hmc1
  clear hs hi hc0 hmc0 hc1 hmc1
  by_cases hci0 : 1048576 < cu0.length
  · have hlm0 : cu0.length ≤ 9223372036854775807 := by have := HMC0.out; unfold maxLen at this; omega
    go_enter Try.func9, Try.ntmps9
    go_wp2
    go_ret
    exact ⟨rfl, Below.refl w.heap.size w⟩
  have hcl0 : cu0.length ≤ 1048576 := by omega
  clear hci0
  by_cases hci1 : 1048576 < cu1.length
  · have hlm1 : cu1.length ≤ 9223372036854775807 := by have := HMC1.out; unfold maxLen at this; omega
    go_enter Try.func9, Try.ntmps9
    go_wp2
    go_ret
    exact ⟨rfl, Below.refl w.heap.size w⟩
  have hcl1 : cu1.length ≤ 1048576 := by omega
  clear hci1
  go_enter Try.func9, Try.ntmps9
  refine Hid.out ?_
  have hB1 := Below.refl w.heap.size w
  have hz1 : w.heap.size ≤ w.heap.size := Nat.le_refl _
  refine Lib.hid ?_
  go_wp2_with (first | (go_at_call 31; refine (toints_any AC0 cc0 cu0 _ (HC0.out.kept hB1 (Nat.le_refl _)) hcl0).mono ?_; rintro e w2 ⟨⟨ge0, rfl, hge0, hOe0⟩, hb2⟩; refine Hid.out ?_) | fail)
  have hz2 := hb2.size
  have hB2 := hB1.trans (hb2.mono hB1.size)
  clear hB1 hb2
  have hle0 := iown_lt' hOe0
  have Ie0_2 := Lib.hid hOe0
  clear hOe0
  refine Lib.hid ?_
  go_wp2_with (first | (go_at_call 31; refine (toints_any AC1 cc1 cu1 _ (HC1.out.kept hB2 (Nat.le_refl _)) hcl1).mono ?_; rintro e w3 ⟨⟨ge1, rfl, hge1, hOe1⟩, hb3⟩; refine Hid.out ?_) | fail)
  have hz3 := hb3.size
  have hB3 := hB2.trans (hb3.mono hB2.size)
  have Ie0_3 := Lib.hid (Ie0_2.out.on hb3)
  clear hB2 Ie0_2 hb3
  have hle1 := iown_lt' hOe1
  have Ie1_3 := Lib.hid hOe1
  clear hOe1
  refine Lib.hid ?_
  go_wp2_with (first | (go_at_call 39; refine (HS.out _ _ _ _ _ Ie0_3.out.iat hcl0 Ie1_3.out.iat hcl1).mono ?_; rintro e w4 ⟨rfl, hb4⟩; refine Hid.out ?_) | fail)
  have hz4 := hb4.size
  have hB4 := hB3.trans (hb4.mono hB3.size)
  have Ie0_4 := Lib.hid (Ie0_3.out.on hb4)
  have Ie1_4 := Lib.hid (Ie1_3.out.on hb4)
  clear hB3 Ie0_3 Ie1_3 hb4
  clear Ie0_4
  clear Ie1_4
  refine Lib.hid ?_
  go_wp2_with (first | (go_at_call 31; refine (toints_any AC0 cc0 cu0 _ (HC0.out.kept hB4 (Nat.le_refl _)) hcl0).mono ?_; rintro e w5 ⟨⟨gz0, rfl, hgz0, hOz0⟩, hb5⟩; refine Hid.out ?_) | fail)
  have hz5 := hb5.size
  have hB5 := hB4.trans (hb5.mono hB4.size)
  clear hB4 hb5
  have hlz0 := iown_lt' hOz0
  have Iz0_5 := Lib.hid hOz0
  clear hOz0
  refine Lib.hid ?_
  go_wp2_with (first | (go_at_call 31; refine (toints_any AC1 cc1 cu1 _ (HC1.out.kept hB5 (Nat.le_refl _)) hcl1).mono ?_; rintro e w6 ⟨⟨gz1, rfl, hgz1, hOz1⟩, hb6⟩; refine Hid.out ?_) | fail)
  have hz6 := hb6.size
  have hB6 := hB5.trans (hb6.mono hB5.size)
  have Iz0_6 := Lib.hid (Iz0_5.out.on hb6)
  clear hB5 Iz0_5 hb6
  have hlz1 := iown_lt' hOz1
  have Iz1_6 := Lib.hid hOz1
  clear hOz1
  refine Lib.hid ?_
  go_wp2_with (first | (go_at_call 40; refine (HI.out _ _ _ _ _ Iz0_6.out.iat hcl0 Iz1_6.out.iat hcl1).mono ?_; rintro e w7 ⟨rfl, hb7⟩; refine Hid.out ?_) | fail)
  have hz7 := hb7.size
  have hB7 := hB6.trans (hb7.mono hB6.size)
  have Iz0_7 := Lib.hid (Iz0_6.out.on hb7)
  have Iz1_7 := Lib.hid (Iz1_6.out.on hb7)
  clear hB6 Iz0_6 Iz1_6 hb7
  refine Lib.hid ?_
  go_wp2_with (first | (go_at_call 31; refine (toints_any AC0 cc0 cu0 _ (HC0.out.kept hB7 (Nat.le_refl _)) hcl0).mono ?_; rintro e w8 ⟨⟨gu0, rfl, hgu0, hOu0⟩, hb8⟩; refine Hid.out ?_) | fail)
  have hz8 := hb8.size
  have hB8 := hB7.trans (hb8.mono hB7.size)
  have Iz0_8 := Lib.hid (Iz0_7.out.on hb8)
  have Iz1_8 := Lib.hid (Iz1_7.out.on hb8)
  clear hB7 Iz0_7 Iz1_7 hb8
  have hlu0 := iown_lt' hOu0
  have Iu0_8 := Lib.hid hOu0
  clear hOu0
  refine Lib.hid ?_
  go_wp2_with (first | (go_at_call 26; refine (eqints_same _ _ _ _ cu0 _ Iz0_8.out.iat Iu0_8.out.iat hcl0).mono ?_; rintro e w9 ⟨rfl, hb9⟩; refine Hid.out ?_) | fail)
  have hz9 := hb9.size
  have hB9 := hB8.trans (hb9.mono hB8.size)
  have Iz0_9 := Lib.hid (Iz0_8.out.on hb9)
  have Iz1_9 := Lib.hid (Iz1_8.out.on hb9)
  have Iu0_9 := Lib.hid (Iu0_8.out.on hb9)
  clear hB8 Iz0_8 Iz1_8 Iu0_8 hb9
  clear Iu0_9
  refine Lib.hid ?_
  go_wp2_with (first | (go_at_call 31; refine (toints_any AC1 cc1 cu1 _ (HC1.out.kept hB9 (Nat.le_refl _)) hcl1).mono ?_; rintro e w10 ⟨⟨gu1, rfl, hgu1, hOu1⟩, hb10⟩; refine Hid.out ?_) | fail)
  have hz10 := hb10.size
  have hB10 := hB9.trans (hb10.mono hB9.size)
  have Iz0_10 := Lib.hid (Iz0_9.out.on hb10)
  have Iz1_10 := Lib.hid (Iz1_9.out.on hb10)
  clear hB9 Iz0_9 Iz1_9 hb10
  have hlu1 := iown_lt' hOu1
  have Iu1_10 := Lib.hid hOu1
  clear hOu1
  refine Lib.hid ?_
  go_wp2_with (first | (go_at_call 26; refine (eqints_same _ _ _ _ cu1 _ Iz1_10.out.iat Iu1_10.out.iat hcl1).mono ?_; rintro e w11 ⟨rfl, hb11⟩; refine Hid.out ?_) | fail)
  have hz11 := hb11.size
  have hB11 := hB10.trans (hb11.mono hB10.size)
  have Iz0_11 := Lib.hid (Iz0_10.out.on hb11)
  have Iz1_11 := Lib.hid (Iz1_10.out.on hb11)
  have Iu1_11 := Lib.hid (Iu1_10.out.on hb11)
  clear hB10 Iz0_10 Iz1_10 Iu1_10 hb11
  clear Iu1_11
  refine Lib.hid ?_
  go_wp2_with fail
  go_ret
  exact ⟨rfl, hB11⟩
end Go.Proofs.Ytgjogjmfpbinfaa.S2
