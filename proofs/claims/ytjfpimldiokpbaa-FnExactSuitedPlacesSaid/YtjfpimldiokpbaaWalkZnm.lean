/- The walk of the law FnExactRaisePlaces: contracts. Conditions: each theorem's own premises. -/
import Derived.Test.YtjfpimldiokpbaaZnLaw
import Derived.Deep.DeepCutAuto
namespace Go.Proofs.Ytjfpimldiokpbaa.S12
open Go.RowKit P12

set_option maxHeartbeats 16000000 in
set_option maxRecDepth 100000 in
theorem walkRaisePlaces  (AC0 : Option Addr) (cc0 : Nat) (cu0 : List Int) (x1 : Int) (w : World) (hc0 : IAt w AC0 cu0) (hmc0 : cu0.length ≤ maxLen) (I0 : List Int) (hI0 : I0.length ≤ 1000) (sv0 : Bool)
    (hs : ∀ (AC0 : Option Addr) (cc0 : Nat) (w : World), IAt w AC0 cu0 → cu0.length ≤ 1048576 → Calls Try.prog 35 #[.slice AC0 cu0.length cc0, .int .i64 x1] w (GivesA w I0 sv0))
    (hi : ∀ (AC0 : Option Addr) (cc0 : Nat) (w : World), IAt w AC0 cu0 → cu0.length ≤ 1048576 → Calls Try.prog 36 #[.slice AC0 cu0.length cc0, .int .i64 x1] w (GivesI w I0 sv0)) :
    Calls Try.prog 11 #[.slice AC0 cu0.length cc0, .int .i64 x1] w fun e w' => e = .returned (.bool true) ∧ Below w.heap.size w w' := by
  have HS := Lib.hid hs
  have HI := Lib.hid hi
  have HC0 := Lib.hid hc0
  have HMC0 := Lib.hid hmc0
  clear hs hi hc0 hmc0
  by_cases hci0 : 1048576 < cu0.length
  · have hlm0 : cu0.length ≤ 9223372036854775807 := by have := HMC0.out; unfold maxLen at this; omega
    go_enter Try.func11, Try.ntmps11
    go_wp2
    go_ret
    exact ⟨rfl, Below.refl _ _⟩
  have hcl0 : cu0.length ≤ 1048576 := by omega
  clear hci0
  go_enter Try.func11, Try.ntmps11
  refine Hid.out ?_
  have hB1 := Below.refl w.heap.size w
  have hz1 := hB1.size
  refine Lib.hid ?_
  go_wp2_with (first | (go_at_call 18; refine (toints_any AC0 cc0 cu0 _ (HC0.out.kept hB1 (Nat.le_refl _)) hcl0).mono ?_; rintro e w2 ⟨⟨ge0, rfl, hge0, hOe0⟩, hb2⟩; refine Hid.out ?_) | fail)
  have hz2 := hb2.size
  have hB2 := hB1.trans (hb2.mono hB1.size)
  clear hB1 hb2
  have hle0 := iown_lt' hOe0
  have Ie0_2 := Lib.hid hOe0
  clear hOe0
  refine Lib.hid ?_
  go_wp2_with (first | (go_at_call 35; refine (HS.out _ _ _ Ie0_2.out.iat hcl0).mono ?_; rintro e w3 ⟨gS, oS, cS, rfl, hgS, hS, hb3, hlS⟩; refine Hid.out ?_) | fail)
  have hz3 := hb3.size
  have hB3 := hB2.trans (hb3.mono hB2.size)
  have Ie0_3 := Lib.hid (Ie0_2.out.on hb3)
  clear hB2 Ie0_2 hb3
  have Ls_3 := Lib.hid hS
  clear hS
  clear Ie0_3
  refine Lib.hid ?_
  go_wp2_with (first | (go_at_call 18; refine (toints_any AC0 cc0 cu0 _ (HC0.out.kept hB3 (Nat.le_refl _)) hcl0).mono ?_; rintro e w4 ⟨⟨gz0, rfl, hgz0, hOz0⟩, hb4⟩; refine Hid.out ?_) | fail)
  have hz4 := hb4.size
  have hB4 := hB3.trans (hb4.mono hB3.size)
  have Ls_4 := Lib.hid (Ls_3.out.low hb4 (by omega))
  clear hB3 Ls_3 hb4
  have hlz0 := iown_lt' hOz0
  have Iz0_4 := Lib.hid hOz0
  clear hOz0
  refine Lib.hid ?_
  go_wp2_with (first | (go_at_call 36; refine (HI.out _ _ _ Iz0_4.out.iat hcl0).mono ?_; rintro e w5 ⟨gIp, cIp, rfl, hgIp, hOp, hb5⟩; refine Hid.out ?_) | fail)
  have hz5 := hb5.size
  have hB5 := hB4.trans (hb5.mono hB4.size)
  have Ls_5 := Lib.hid (Ls_4.out.low hb5 (by omega))
  have Iz0_5 := Lib.hid (Iz0_4.out.on hb5)
  clear hB4 Ls_4 Iz0_4 hb5
  have hlIp := iown_lt' hOp
  have Jp_5 := Lib.hid hOp
  clear hOp
  refine Lib.hid ?_
  go_wp2_with (first | (go_at_call 20; refine (eqints_same _ _ _ _ I0 _ Jp_5.out.iat Ls_5.out (by omega)).mono ?_; rintro e w6 ⟨rfl, hb6⟩; refine Hid.out ?_) | fail)
  have hz6 := hb6.size
  have hB6 := hB5.trans (hb6.mono hB5.size)
  have Ls_6 := Lib.hid (Ls_5.out.low hb6 (by omega))
  have Iz0_6 := Lib.hid (Iz0_5.out.on hb6)
  have Jp_6 := Lib.hid (Jp_5.out.on hb6)
  clear hB5 Ls_5 Iz0_5 Jp_5 hb6
  refine Lib.hid ?_
  go_wp2_with (first | (go_at_call 18; refine (toints_any AC0 cc0 cu0 _ (HC0.out.kept hB6 (Nat.le_refl _)) hcl0).mono ?_; rintro e w7 ⟨⟨gu0, rfl, hgu0, hOu0⟩, hb7⟩; refine Hid.out ?_) | fail)
  have hz7 := hb7.size
  have hB7 := hB6.trans (hb7.mono hB6.size)
  have Ls_7 := Lib.hid (Ls_6.out.low hb7 (by omega))
  have Iz0_7 := Lib.hid (Iz0_6.out.on hb7)
  have Jp_7 := Lib.hid (Jp_6.out.on hb7)
  clear hB6 Ls_6 Iz0_6 Jp_6 hb7
  have hlu0 := iown_lt' hOu0
  have Iu0_7 := Lib.hid hOu0
  clear hOu0
  refine Lib.hid ?_
  go_wp2_with (first | (go_at_call 20; refine (eqints_same _ _ _ _ cu0 _ Iz0_7.out.iat Iu0_7.out.iat hcl0).mono ?_; rintro e w8 ⟨rfl, hb8⟩; refine Hid.out ?_) | fail)
  have hz8 := hb8.size
  have hB8 := hB7.trans (hb8.mono hB7.size)
  have Ls_8 := Lib.hid (Ls_7.out.low hb8 (by omega))
  have Iz0_8 := Lib.hid (Iz0_7.out.on hb8)
  have Jp_8 := Lib.hid (Jp_7.out.on hb8)
  have Iu0_8 := Lib.hid (Iu0_7.out.on hb8)
  clear hB7 Ls_7 Iz0_7 Jp_7 Iu0_7 hb8
  clear Iu0_8
  have HIZ0 := Iz0_8
  clear Iz0_8
  refine Lib.hid ?_
  go_wp2_with (first | (go_at_call 21; refine (markints_i _ gz0 _ (1) _ cu0 _ HIZ0.out hcl0 (by omega) (by omega)).mono ?_; rintro e w9 ⟨rfl, _, hg9⟩; refine Hid.out ?_) | fail)
  have hz9 := hg9.size
  have hB9 := hB8.grown hg9 (by omega) (fun k hk => by simp at hk; omega)
  have Ls_9 := Lib.hid (Ls_8.out.far hg9 (by omega))
  have Jp_9 := Lib.hid (Jp_8.out.far hg9 (by omega))
  clear hB8 Ls_8 Jp_8 hg9
  refine Lib.hid ?_
  go_wp2_with (first | (go_at_call 20; refine (eqints_same _ _ _ _ I0 _ Jp_9.out.iat Ls_9.out (by omega)).mono ?_; rintro e w10 ⟨rfl, hb10⟩; refine Hid.out ?_) | fail)
  have hz10 := hb10.size
  have hB10 := hB9.trans (hb10.mono hB9.size)
  have Ls_10 := Lib.hid (Ls_9.out.low hb10 (by omega))
  have Jp_10 := Lib.hid (Jp_9.out.on hb10)
  clear hB9 Ls_9 Jp_9 hb10
  have HOJ := Jp_10
  clear Jp_10
  refine Lib.hid ?_
  go_wp2_with (first | (go_at_call 21; refine (markints_i _ gIp cIp (1) _ I0 _ HOJ.out (by omega) (by omega) (by omega)).mono ?_; rintro e w11 ⟨rfl, hM, hg11⟩; refine Hid.out ?_) | fail)
  have hz11 := hg11.size
  have hB11 := hB10.grown hg11 (by omega) (fun k hk => by simp at hk; omega)
  have Ls_11 := Lib.hid (Ls_10.out.far hg11 (by omega))
  clear hB10 Ls_10 hg11
  have K_11 := Lib.hid hM.iat_marks
  clear hM
  refine Lib.hid ?_
  go_wp2_with (first | (go_at_call 22; refine (heldints_i _ _ (1) I0.length _ _ K_11.out (by omega) (by omega) (by omega)).mono ?_; rintro e w12 ⟨rfl, hb12⟩; refine Hid.out ?_) | fail)
  have hz12 := hb12.size
  have hB12 := hB11.trans (hb12.mono hB11.size)
  have Ls_12 := Lib.hid (Ls_11.out.low hb12 (by omega))
  have K_12 := Lib.hid (K_11.out.low hb12 (by omega))
  clear hB11 Ls_11 K_11 hb12
  refine Lib.hid ?_
  go_wp2_with (first | (go_at_call 18; refine (toints_any AC0 cc0 cu0 _ (HC0.out.kept hB12 (Nat.le_refl _)) hcl0).mono ?_; rintro e w13 ⟨⟨gv0, rfl, hgv0, hOv0⟩, hb13⟩; refine Hid.out ?_) | fail)
  have hz13 := hb13.size
  have hB13 := hB12.trans (hb13.mono hB12.size)
  have Ls_13 := Lib.hid (Ls_12.out.low hb13 (by omega))
  have K_13 := Lib.hid (K_12.out.low hb13 (by omega))
  clear hB12 Ls_12 K_12 hb13
  have hlv0 := iown_lt' hOv0
  have Iv0_13 := Lib.hid hOv0
  clear hOv0
  refine Lib.hid ?_
  go_wp2_with (first | (go_at_call 36; refine (HI.out _ _ _ Iv0_13.out.iat hcl0).mono ?_; rintro e w14 ⟨gIh, cIh, rfl, hgIh, hOh, hb14⟩; refine Hid.out ?_) | fail)
  have hz14 := hb14.size
  have hB14 := hB13.trans (hb14.mono hB13.size)
  have Ls_14 := Lib.hid (Ls_13.out.low hb14 (by omega))
  have K_14 := Lib.hid (K_13.out.low hb14 (by omega))
  have Iv0_14 := Lib.hid (Iv0_13.out.on hb14)
  clear hB13 Ls_13 K_13 Iv0_13 hb14
  have hlIh := iown_lt' hOh
  have Jh_14 := Lib.hid hOh
  clear hOh
  clear Iv0_14
  refine Lib.hid ?_
  go_wp2_with (first | (go_at_call 20; refine (eqints_same _ _ _ _ I0 _ Jh_14.out.iat Ls_14.out (by omega)).mono ?_; rintro e w15 ⟨rfl, hb15⟩; refine Hid.out ?_) | fail)
  have hz15 := hb15.size
  have hB15 := hB14.trans (hb15.mono hB14.size)
  have Ls_15 := Lib.hid (Ls_14.out.low hb15 (by omega))
  have K_15 := Lib.hid (K_14.out.low hb15 (by omega))
  have Jh_15 := Lib.hid (Jh_14.out.on hb15)
  clear hB14 Ls_14 K_14 Jh_14 hb15
  refine Lib.hid ?_
  go_wp2_with (first | (go_at_call 22; refine (heldints_i _ _ (1) I0.length _ _ K_15.out (by omega) (by omega) (by omega)).mono ?_; rintro e w16 ⟨rfl, hb16⟩; refine Hid.out ?_) | fail)
  have hz16 := hb16.size
  have hB16 := hB15.trans (hb16.mono hB15.size)
  have Ls_16 := Lib.hid (Ls_15.out.low hb16 (by omega))
  have K_16 := Lib.hid (K_15.out.low hb16 (by omega))
  have Jh_16 := Lib.hid (Jh_15.out.on hb16)
  clear hB15 Ls_15 K_15 Jh_15 hb16
  refine Lib.hid ?_
  go_wp2_with fail
  go_ret
  exact ⟨rfl, hB16⟩
end Go.Proofs.Ytjfpimldiokpbaa.S12
