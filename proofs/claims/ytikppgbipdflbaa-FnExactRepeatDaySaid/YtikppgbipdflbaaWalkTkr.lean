/- The walk of the law FnExactRunTank: contracts. Conditions: each theorem's own premises. -/
import Derived.Test.YtikppgbipdflbaaTkLaw
import Derived.Deep.DeepCutAuto
namespace Go.Proofs.Ytikppgbipdflbaa.S11
open Go.RowKit P11

set_option maxHeartbeats 16000000 in
set_option maxRecDepth 100000 in
theorem walkRunTank (L a b : Int) (AC1 : Option Addr) (cc1 : Nat) (cu1 : List Int) (AC2 : Option Addr) (cc2 : Nat) (cu2 : List Int) (w : World) (hc1 : IAt w AC1 cu1) (hmc1 : cu1.length ≤ maxLen) (hc2 : IAt w AC2 cu2) (hmc2 : cu2.length ≤ maxLen) (I0 : List Int) (hI0 : I0.length ≤ 1000) (sv0 : Int) (sv1 : Int) (sv2 : Bool)
    (hs : ∀ (AC1 : Option Addr) (cc1 : Nat) (AC2 : Option Addr) (cc2 : Nat) (w : World), IAt w AC1 cu1 → cu1.length ≤ 1048576 → IAt w AC2 cu2 → cu2.length ≤ 1048576 → Calls Try.prog 16 #[tv L a b, .slice AC1 cu1.length cc1, .slice AC2 cu2.length cc2] w (RunA w I0 sv0 sv1 sv2))
    (hi : ∀ (AC1 : Option Addr) (cc1 : Nat) (AC2 : Option Addr) (cc2 : Nat) (w : World), IAt w AC1 cu1 → cu1.length ≤ 1048576 → IAt w AC2 cu2 → cu2.length ≤ 1048576 → Calls Try.prog 18 #[tv L a b, .slice AC1 cu1.length cc1, .slice AC2 cu2.length cc2] w (RunI w I0 sv0 sv1 sv2)) :
    Calls Try.prog 5 #[tv L a b, .slice AC1 cu1.length cc1, .slice AC2 cu2.length cc2] w fun e w' => e = .returned (.bool true) ∧ Below w.heap.size w w' := by
  have HS := Lib.hid hs
  have HI := Lib.hid hi
  have HC1 := Lib.hid hc1
  have HMC1 := Lib.hid hmc1
  have HC2 := Lib.hid hc2
  have HMC2 := Lib.hid hmc2
  clear hs hi hc1 hmc1 hc2 hmc2
  by_cases hci1 : 1048576 < cu1.length
  · have hlm1 : cu1.length ≤ 9223372036854775807 := by have := HMC1.out; unfold maxLen at this; omega
    go_enter Try.func5, Try.ntmps5
    go_wp2
    go_ret
    exact ⟨rfl, alloc_below w _⟩
  have hcl1 : cu1.length ≤ 1048576 := by omega
  clear hci1
  by_cases hci2 : 1048576 < cu2.length
  · have hlm2 : cu2.length ≤ 9223372036854775807 := by have := HMC2.out; unfold maxLen at this; omega
    go_enter Try.func5, Try.ntmps5
    go_wp2
    go_ret
    exact ⟨rfl, alloc_below w _⟩
  have hcl2 : cu2.length ≤ 1048576 := by omega
  clear hci2
  go_enter Try.func5, Try.ntmps5
  refine Hid.out ?_
  have hB1 := alloc_below w (tb 23 L a b)
  have hz1 := hB1.size
  have hw0 := new_lt w (tb 23 L a b)
  have Qa_1 := Lib.hid (BT.new w 23 L a b)
  obtain ⟨_, ba0, ba1, ba2⟩ := Qa_1.out
  refine Lib.hid ?_
  go_wp2_with (first | (go_at_call 11; refine (totk_any L a b _).mono ?_; rintro e w2 ⟨rfl, hb2⟩; refine Hid.out ?_) | fail)
  clear ba0 ba1 ba2
  have hz2 := hb2.size
  have hB2 := hB1.trans (hb2.mono hB1.size)
  have Qa_2 := Lib.hid (Qa_1.out.kept hb2)
  clear hB1 Qa_1 hb2
  obtain ⟨_, ba0, ba1, ba2⟩ := Qa_2.out
  refine Lib.hid ?_
  go_wp2_with (first | (go_at_call 17; refine (toints_any AC1 cc1 cu1 _ (HC1.out.kept hB2 (Nat.le_refl _)) hcl1).mono ?_; rintro e w3 ⟨⟨ge1, rfl, hge1, hOe1⟩, hb3⟩; refine Hid.out ?_) | fail)
  clear ba0 ba1 ba2
  have hz3 := hb3.size
  have hB3 := hB2.trans (hb3.mono hB2.size)
  have Qa_3 := Lib.hid (Qa_2.out.kept hb3)
  clear hB2 Qa_2 hb3
  have hle1 := iown_lt' hOe1
  have Ie1_3 := Lib.hid hOe1
  clear hOe1
  obtain ⟨_, ba0, ba1, ba2⟩ := Qa_3.out
  refine Lib.hid ?_
  go_wp2_with (first | (go_at_call 17; refine (toints_any AC2 cc2 cu2 _ (HC2.out.kept hB3 (Nat.le_refl _)) hcl2).mono ?_; rintro e w4 ⟨⟨ge2, rfl, hge2, hOe2⟩, hb4⟩; refine Hid.out ?_) | fail)
  clear ba0 ba1 ba2
  have hz4 := hb4.size
  have hB4 := hB3.trans (hb4.mono hB3.size)
  have Qa_4 := Lib.hid (Qa_3.out.kept hb4)
  have Ie1_4 := Lib.hid (Ie1_3.out.on hb4)
  clear hB3 Qa_3 Ie1_3 hb4
  have hle2 := iown_lt' hOe2
  have Ie2_4 := Lib.hid hOe2
  clear hOe2
  obtain ⟨_, ba0, ba1, ba2⟩ := Qa_4.out
  refine Lib.hid ?_
  go_wp2_with (first | (go_at_call 16; refine (HS.out _ _ _ _ _ Ie1_4.out.iat hcl1 Ie2_4.out.iat hcl2).mono ?_; rintro e w5 ⟨gS, oS, cS, rfl, hgS, hS, hb5, hlS⟩; refine Hid.out ?_) | fail)
  clear ba0 ba1 ba2
  have hz5 := hb5.size
  have hB5 := hB4.trans (hb5.mono hB4.size)
  have Qa_5 := Lib.hid (Qa_4.out.kept hb5)
  have Ie1_5 := Lib.hid (Ie1_4.out.on hb5)
  have Ie2_5 := Lib.hid (Ie2_4.out.on hb5)
  clear hB4 Qa_4 Ie1_4 Ie2_4 hb5
  have Ls_5 := Lib.hid hS
  clear hS
  clear Ie1_5
  clear Ie2_5
  obtain ⟨_, ba0, ba1, ba2⟩ := Qa_5.out
  refine Lib.hid ?_
  go_wp2_with (first | (go_at_call 17; refine (toints_any AC1 cc1 cu1 _ (HC1.out.kept hB5 (Nat.le_refl _)) hcl1).mono ?_; rintro e w6 ⟨⟨gz1, rfl, hgz1, hOz1⟩, hb6⟩; refine Hid.out ?_) | fail)
  clear ba0 ba1 ba2
  have hz6 := hb6.size
  have hB6 := hB5.trans (hb6.mono hB5.size)
  have Qa_6 := Lib.hid (Qa_5.out.kept hb6)
  have Ls_6 := Lib.hid (Ls_5.out.low hb6 (by omega))
  clear hB5 Qa_5 Ls_5 hb6
  have hlz1 := iown_lt' hOz1
  have Iz1_6 := Lib.hid hOz1
  clear hOz1
  obtain ⟨_, ba0, ba1, ba2⟩ := Qa_6.out
  refine Lib.hid ?_
  go_wp2_with (first | (go_at_call 17; refine (toints_any AC2 cc2 cu2 _ (HC2.out.kept hB6 (Nat.le_refl _)) hcl2).mono ?_; rintro e w7 ⟨⟨gz2, rfl, hgz2, hOz2⟩, hb7⟩; refine Hid.out ?_) | fail)
  clear ba0 ba1 ba2
  have hz7 := hb7.size
  have hB7 := hB6.trans (hb7.mono hB6.size)
  have Qa_7 := Lib.hid (Qa_6.out.kept hb7)
  have Ls_7 := Lib.hid (Ls_6.out.low hb7 (by omega))
  have Iz1_7 := Lib.hid (Iz1_6.out.on hb7)
  clear hB6 Qa_6 Ls_6 Iz1_6 hb7
  have hlz2 := iown_lt' hOz2
  have Iz2_7 := Lib.hid hOz2
  clear hOz2
  obtain ⟨_, ba0, ba1, ba2⟩ := Qa_7.out
  refine Lib.hid ?_
  go_wp2_with (first | (go_at_call 11; refine (totk_any L a b _).mono ?_; rintro e w8 ⟨rfl, hb8⟩; refine Hid.out ?_) | fail)
  clear ba0 ba1 ba2
  have hz8 := hb8.size
  have hB8 := hB7.trans (hb8.mono hB7.size)
  have Qa_8 := Lib.hid (Qa_7.out.kept hb8)
  have Ls_8 := Lib.hid (Ls_7.out.low hb8 (by omega))
  have Iz1_8 := Lib.hid (Iz1_7.out.on hb8)
  have Iz2_8 := Lib.hid (Iz2_7.out.on hb8)
  clear hB7 Qa_7 Ls_7 Iz1_7 Iz2_7 hb8
  obtain ⟨_, ba0, ba1, ba2⟩ := Qa_8.out
  refine Lib.hid ?_
  go_wp2_with (first | (go_at_call 18; refine (HI.out _ _ _ _ _ Iz1_8.out.iat hcl1 Iz2_8.out.iat hcl2).mono ?_; rintro e w9 ⟨gIp, cIp, rfl, hgIp, hOp, hb9⟩; refine Hid.out ?_) | fail)
  clear ba0 ba1 ba2
  have hz9 := hb9.size
  have hB9 := hB8.trans (hb9.mono hB8.size)
  have Qa_9 := Lib.hid (Qa_8.out.kept hb9)
  have Ls_9 := Lib.hid (Ls_8.out.low hb9 (by omega))
  have Iz1_9 := Lib.hid (Iz1_8.out.on hb9)
  have Iz2_9 := Lib.hid (Iz2_8.out.on hb9)
  clear hB8 Qa_8 Ls_8 Iz1_8 Iz2_8 hb9
  have hlIp := iown_lt' hOp
  have Jp_9 := Lib.hid hOp
  clear hOp
  obtain ⟨_, ba0, ba1, ba2⟩ := Qa_9.out
  refine Lib.hid ?_
  go_wp2_with (first | (go_at_call 19; refine (eqints_same _ _ _ _ I0 _ Jp_9.out.iat Ls_9.out (by omega)).mono ?_; rintro e w10 ⟨rfl, hb10⟩; refine Hid.out ?_) | fail)
  clear ba0 ba1 ba2
  have hz10 := hb10.size
  have hB10 := hB9.trans (hb10.mono hB9.size)
  have Qa_10 := Lib.hid (Qa_9.out.kept hb10)
  have Ls_10 := Lib.hid (Ls_9.out.low hb10 (by omega))
  have Iz1_10 := Lib.hid (Iz1_9.out.on hb10)
  have Iz2_10 := Lib.hid (Iz2_9.out.on hb10)
  have Jp_10 := Lib.hid (Jp_9.out.on hb10)
  clear hB9 Qa_9 Ls_9 Iz1_9 Iz2_9 Jp_9 hb10
  obtain ⟨_, ba0, ba1, ba2⟩ := Qa_10.out
  refine Lib.hid ?_
  go_wp2_with (first | (go_at_call 17; refine (toints_any AC1 cc1 cu1 _ (HC1.out.kept hB10 (Nat.le_refl _)) hcl1).mono ?_; rintro e w11 ⟨⟨gu1, rfl, hgu1, hOu1⟩, hb11⟩; refine Hid.out ?_) | fail)
  clear ba0 ba1 ba2
  have hz11 := hb11.size
  have hB11 := hB10.trans (hb11.mono hB10.size)
  have Qa_11 := Lib.hid (Qa_10.out.kept hb11)
  have Ls_11 := Lib.hid (Ls_10.out.low hb11 (by omega))
  have Iz1_11 := Lib.hid (Iz1_10.out.on hb11)
  have Iz2_11 := Lib.hid (Iz2_10.out.on hb11)
  have Jp_11 := Lib.hid (Jp_10.out.on hb11)
  clear hB10 Qa_10 Ls_10 Iz1_10 Iz2_10 Jp_10 hb11
  have hlu1 := iown_lt' hOu1
  have Iu1_11 := Lib.hid hOu1
  clear hOu1
  obtain ⟨_, ba0, ba1, ba2⟩ := Qa_11.out
  refine Lib.hid ?_
  go_wp2_with (first | (go_at_call 19; refine (eqints_same _ _ _ _ cu1 _ Iz1_11.out.iat Iu1_11.out.iat hcl1).mono ?_; rintro e w12 ⟨rfl, hb12⟩; refine Hid.out ?_) | fail)
  clear ba0 ba1 ba2
  have hz12 := hb12.size
  have hB12 := hB11.trans (hb12.mono hB11.size)
  have Qa_12 := Lib.hid (Qa_11.out.kept hb12)
  have Ls_12 := Lib.hid (Ls_11.out.low hb12 (by omega))
  have Iz1_12 := Lib.hid (Iz1_11.out.on hb12)
  have Iz2_12 := Lib.hid (Iz2_11.out.on hb12)
  have Jp_12 := Lib.hid (Jp_11.out.on hb12)
  have Iu1_12 := Lib.hid (Iu1_11.out.on hb12)
  clear hB11 Qa_11 Ls_11 Iz1_11 Iz2_11 Jp_11 Iu1_11 hb12
  clear Iu1_12
  obtain ⟨_, ba0, ba1, ba2⟩ := Qa_12.out
  refine Lib.hid ?_
  go_wp2_with (first | (go_at_call 17; refine (toints_any AC2 cc2 cu2 _ (HC2.out.kept hB12 (Nat.le_refl _)) hcl2).mono ?_; rintro e w13 ⟨⟨gu2, rfl, hgu2, hOu2⟩, hb13⟩; refine Hid.out ?_) | fail)
  clear ba0 ba1 ba2
  have hz13 := hb13.size
  have hB13 := hB12.trans (hb13.mono hB12.size)
  have Qa_13 := Lib.hid (Qa_12.out.kept hb13)
  have Ls_13 := Lib.hid (Ls_12.out.low hb13 (by omega))
  have Iz1_13 := Lib.hid (Iz1_12.out.on hb13)
  have Iz2_13 := Lib.hid (Iz2_12.out.on hb13)
  have Jp_13 := Lib.hid (Jp_12.out.on hb13)
  clear hB12 Qa_12 Ls_12 Iz1_12 Iz2_12 Jp_12 hb13
  have hlu2 := iown_lt' hOu2
  have Iu2_13 := Lib.hid hOu2
  clear hOu2
  obtain ⟨_, ba0, ba1, ba2⟩ := Qa_13.out
  refine Lib.hid ?_
  go_wp2_with (first | (go_at_call 19; refine (eqints_same _ _ _ _ cu2 _ Iz2_13.out.iat Iu2_13.out.iat hcl2).mono ?_; rintro e w14 ⟨rfl, hb14⟩; refine Hid.out ?_) | fail)
  clear ba0 ba1 ba2
  have hz14 := hb14.size
  have hB14 := hB13.trans (hb14.mono hB13.size)
  have Qa_14 := Lib.hid (Qa_13.out.kept hb14)
  have Ls_14 := Lib.hid (Ls_13.out.low hb14 (by omega))
  have Iz1_14 := Lib.hid (Iz1_13.out.on hb14)
  have Iz2_14 := Lib.hid (Iz2_13.out.on hb14)
  have Jp_14 := Lib.hid (Jp_13.out.on hb14)
  have Iu2_14 := Lib.hid (Iu2_13.out.on hb14)
  clear hB13 Qa_13 Ls_13 Iz1_13 Iz2_13 Jp_13 Iu2_13 hb14
  clear Iu2_14
  have HIZ1 := Iz1_14
  clear Iz1_14
  obtain ⟨_, ba0, ba1, ba2⟩ := Qa_14.out
  refine Lib.hid ?_
  go_wp2_with (first | (go_at_call 20; refine (markints_i _ gz1 _ (1) _ cu1 _ HIZ1.out hcl1 (by omega) (by omega)).mono ?_; rintro e w15 ⟨rfl, _, hg15⟩; refine Hid.out ?_) | fail)
  clear ba0 ba1 ba2
  have hz15 := hg15.size
  have hB15 := hB14.grown hg15 (by omega) (fun k hk => by simp at hk; omega)
  have Qa_15 := Lib.hid (Qa_14.out.far hg15 (by omega))
  have Ls_15 := Lib.hid (Ls_14.out.far hg15 (by omega))
  have Iz2_15 := Lib.hid (Iz2_14.out.far hg15 (by omega))
  have Jp_15 := Lib.hid (Jp_14.out.far hg15 (by omega))
  clear hB14 Qa_14 Ls_14 Iz2_14 Jp_14 hg15
  have HIZ2 := Iz2_15
  clear Iz2_15
  obtain ⟨_, ba0, ba1, ba2⟩ := Qa_15.out
  refine Lib.hid ?_
  go_wp2_with (first | (go_at_call 20; refine (markints_i _ gz2 _ (1 + cu1.length) _ cu2 _ HIZ2.out hcl2 (by omega) (by omega)).mono ?_; rintro e w16 ⟨rfl, _, hg16⟩; refine Hid.out ?_) | fail)
  clear ba0 ba1 ba2
  have hz16 := hg16.size
  have hB16 := hB15.grown hg16 (by omega) (fun k hk => by simp at hk; omega)
  have Qa_16 := Lib.hid (Qa_15.out.far hg16 (by omega))
  have Ls_16 := Lib.hid (Ls_15.out.far hg16 (by omega))
  have Jp_16 := Lib.hid (Jp_15.out.far hg16 (by omega))
  clear hB15 Qa_15 Ls_15 Jp_15 hg16
  obtain ⟨_, ba0, ba1, ba2⟩ := Qa_16.out
  refine Lib.hid ?_
  go_wp2_with (first | (go_at_call 19; refine (eqints_same _ _ _ _ I0 _ Jp_16.out.iat Ls_16.out (by omega)).mono ?_; rintro e w17 ⟨rfl, hb17⟩; refine Hid.out ?_) | fail)
  clear ba0 ba1 ba2
  have hz17 := hb17.size
  have hB17 := hB16.trans (hb17.mono hB16.size)
  have Qa_17 := Lib.hid (Qa_16.out.kept hb17)
  have Ls_17 := Lib.hid (Ls_16.out.low hb17 (by omega))
  have Jp_17 := Lib.hid (Jp_16.out.on hb17)
  clear hB16 Qa_16 Ls_16 Jp_16 hb17
  have HOJ := Jp_17
  clear Jp_17
  obtain ⟨_, ba0, ba1, ba2⟩ := Qa_17.out
  refine Lib.hid ?_
  go_wp2_with (first | (go_at_call 20; refine (markints_i _ gIp cIp (1) _ I0 _ HOJ.out (by omega) (by omega) (by omega)).mono ?_; rintro e w18 ⟨rfl, hM, hg18⟩; refine Hid.out ?_) | fail)
  clear ba0 ba1 ba2
  have hz18 := hg18.size
  have hB18 := hB17.grown hg18 (by omega) (fun k hk => by simp at hk; omega)
  have Qa_18 := Lib.hid (Qa_17.out.far hg18 (by omega))
  have Ls_18 := Lib.hid (Ls_17.out.far hg18 (by omega))
  clear hB17 Qa_17 Ls_17 hg18
  have K_18 := Lib.hid hM.iat_marks
  clear hM
  obtain ⟨_, ba0, ba1, ba2⟩ := Qa_18.out
  refine Lib.hid ?_
  go_wp2_with (first | (go_at_call 21; refine (heldints_i _ _ (1) I0.length _ _ K_18.out (by omega) (by omega) (by omega)).mono ?_; rintro e w19 ⟨rfl, hb19⟩; refine Hid.out ?_) | fail)
  clear ba0 ba1 ba2
  have hz19 := hb19.size
  have hB19 := hB18.trans (hb19.mono hB18.size)
  have Qa_19 := Lib.hid (Qa_18.out.kept hb19)
  have Ls_19 := Lib.hid (Ls_18.out.low hb19 (by omega))
  have K_19 := Lib.hid (K_18.out.low hb19 (by omega))
  clear hB18 Qa_18 Ls_18 K_18 hb19
  obtain ⟨_, ba0, ba1, ba2⟩ := Qa_19.out
  refine Lib.hid ?_
  go_wp2_with (first | (go_at_call 11; refine (totk_any L a b _).mono ?_; rintro e w20 ⟨rfl, hb20⟩; refine Hid.out ?_) | fail)
  clear ba0 ba1 ba2
  have hz20 := hb20.size
  have hB20 := hB19.trans (hb20.mono hB19.size)
  have Qa_20 := Lib.hid (Qa_19.out.kept hb20)
  have Ls_20 := Lib.hid (Ls_19.out.low hb20 (by omega))
  have K_20 := Lib.hid (K_19.out.low hb20 (by omega))
  clear hB19 Qa_19 Ls_19 K_19 hb20
  obtain ⟨_, ba0, ba1, ba2⟩ := Qa_20.out
  refine Lib.hid ?_
  go_wp2_with (first | (go_at_call 17; refine (toints_any AC1 cc1 cu1 _ (HC1.out.kept hB20 (Nat.le_refl _)) hcl1).mono ?_; rintro e w21 ⟨⟨gv1, rfl, hgv1, hOv1⟩, hb21⟩; refine Hid.out ?_) | fail)
  clear ba0 ba1 ba2
  have hz21 := hb21.size
  have hB21 := hB20.trans (hb21.mono hB20.size)
  have Qa_21 := Lib.hid (Qa_20.out.kept hb21)
  have Ls_21 := Lib.hid (Ls_20.out.low hb21 (by omega))
  have K_21 := Lib.hid (K_20.out.low hb21 (by omega))
  clear hB20 Qa_20 Ls_20 K_20 hb21
  have hlv1 := iown_lt' hOv1
  have Iv1_21 := Lib.hid hOv1
  clear hOv1
  obtain ⟨_, ba0, ba1, ba2⟩ := Qa_21.out
  refine Lib.hid ?_
  go_wp2_with (first | (go_at_call 17; refine (toints_any AC2 cc2 cu2 _ (HC2.out.kept hB21 (Nat.le_refl _)) hcl2).mono ?_; rintro e w22 ⟨⟨gv2, rfl, hgv2, hOv2⟩, hb22⟩; refine Hid.out ?_) | fail)
  clear ba0 ba1 ba2
  have hz22 := hb22.size
  have hB22 := hB21.trans (hb22.mono hB21.size)
  have Qa_22 := Lib.hid (Qa_21.out.kept hb22)
  have Ls_22 := Lib.hid (Ls_21.out.low hb22 (by omega))
  have K_22 := Lib.hid (K_21.out.low hb22 (by omega))
  have Iv1_22 := Lib.hid (Iv1_21.out.on hb22)
  clear hB21 Qa_21 Ls_21 K_21 Iv1_21 hb22
  have hlv2 := iown_lt' hOv2
  have Iv2_22 := Lib.hid hOv2
  clear hOv2
  obtain ⟨_, ba0, ba1, ba2⟩ := Qa_22.out
  refine Lib.hid ?_
  go_wp2_with (first | (go_at_call 18; refine (HI.out _ _ _ _ _ Iv1_22.out.iat hcl1 Iv2_22.out.iat hcl2).mono ?_; rintro e w23 ⟨gIh, cIh, rfl, hgIh, hOh, hb23⟩; refine Hid.out ?_) | fail)
  clear ba0 ba1 ba2
  have hz23 := hb23.size
  have hB23 := hB22.trans (hb23.mono hB22.size)
  have Qa_23 := Lib.hid (Qa_22.out.kept hb23)
  have Ls_23 := Lib.hid (Ls_22.out.low hb23 (by omega))
  have K_23 := Lib.hid (K_22.out.low hb23 (by omega))
  have Iv1_23 := Lib.hid (Iv1_22.out.on hb23)
  have Iv2_23 := Lib.hid (Iv2_22.out.on hb23)
  clear hB22 Qa_22 Ls_22 K_22 Iv1_22 Iv2_22 hb23
  have hlIh := iown_lt' hOh
  have Jh_23 := Lib.hid hOh
  clear hOh
  clear Iv1_23
  clear Iv2_23
  obtain ⟨_, ba0, ba1, ba2⟩ := Qa_23.out
  refine Lib.hid ?_
  go_wp2_with (first | (go_at_call 19; refine (eqints_same _ _ _ _ I0 _ Jh_23.out.iat Ls_23.out (by omega)).mono ?_; rintro e w24 ⟨rfl, hb24⟩; refine Hid.out ?_) | fail)
  clear ba0 ba1 ba2
  have hz24 := hb24.size
  have hB24 := hB23.trans (hb24.mono hB23.size)
  have Qa_24 := Lib.hid (Qa_23.out.kept hb24)
  have Ls_24 := Lib.hid (Ls_23.out.low hb24 (by omega))
  have K_24 := Lib.hid (K_23.out.low hb24 (by omega))
  have Jh_24 := Lib.hid (Jh_23.out.on hb24)
  clear hB23 Qa_23 Ls_23 K_23 Jh_23 hb24
  obtain ⟨_, ba0, ba1, ba2⟩ := Qa_24.out
  refine Lib.hid ?_
  go_wp2_with (first | (go_at_call 21; refine (heldints_i _ _ (1) I0.length _ _ K_24.out (by omega) (by omega) (by omega)).mono ?_; rintro e w25 ⟨rfl, hb25⟩; refine Hid.out ?_) | fail)
  clear ba0 ba1 ba2
  have hz25 := hb25.size
  have hB25 := hB24.trans (hb25.mono hB24.size)
  have Qa_25 := Lib.hid (Qa_24.out.kept hb25)
  have Ls_25 := Lib.hid (Ls_24.out.low hb25 (by omega))
  have K_25 := Lib.hid (K_24.out.low hb25 (by omega))
  have Jh_25 := Lib.hid (Jh_24.out.on hb25)
  clear hB24 Qa_24 Ls_24 K_24 Jh_24 hb25
  refine Lib.hid ?_
  go_wp2_with fail
  go_ret
  exact ⟨rfl, hB25⟩
end Go.Proofs.Ytikppgbipdflbaa.S11
