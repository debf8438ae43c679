/- The walk of the law FnExactZoneOf: contracts. Conditions: each theorem's own premises. -/
import Derived.Test.YtjfpimldiokpbaaZnLaw
import Derived.Deep.DeepCutAuto
namespace Go.Proofs.Ytjfpimldiokpbaa.S12
open Go.RowKit P12

set_option maxHeartbeats 16000000 in
set_option maxRecDepth 100000 in
theorem walkZoneOf (a b : Int) (AC0 : Option Addr) (cc0 : Nat) (cu0 : List Int) (w : World) (hc0 : IAt w AC0 cu0) (hmc0 : cu0.length ≤ maxLen) (I0 : List Int) (hI0 : I0.length ≤ 1000) (sv0 : Bool)
    (hs : ∀ (AC0 : Option Addr) (cc0 : Nat) (w : World), IAt w AC0 cu0 → cu0.length ≤ 1048576 → Calls Try.prog 27 #[.slice AC0 cu0.length cc0, rv a b] w (GivesA w I0 sv0))
    (hi : ∀ (AC0 : Option Addr) (cc0 : Nat) (w : World), IAt w AC0 cu0 → cu0.length ≤ 1048576 → Calls Try.prog 28 #[.slice AC0 cu0.length cc0, rv a b] w (GivesI w I0 sv0)) :
    Calls Try.prog 7 #[.slice AC0 cu0.length cc0, rv a b] w fun e w' => e = .returned (.bool true) ∧ Below w.heap.size w w' := by
  have HS := Lib.hid hs
  have HI := Lib.hid hi
  have HC0 := Lib.hid hc0
  have HMC0 := Lib.hid hmc0
  clear hs hi hc0 hmc0
  by_cases hci0 : 1048576 < cu0.length
  · have hlm0 : cu0.length ≤ 9223372036854775807 := by have := HMC0.out; unfold maxLen at this; omega
    go_enter Try.func7, Try.ntmps7
    go_wp2
    go_ret
    exact ⟨rfl, alloc_below w _⟩
  have hcl0 : cu0.length ≤ 1048576 := by omega
  clear hci0
  go_enter Try.func7, Try.ntmps7
  refine Hid.out ?_
  have hB1 := alloc_below w (rb 23 a b)
  have hz1 := hB1.size
  have hw0 := new_lt w (rb 23 a b)
  have Qa_1 := Lib.hid (BT.new w 23 a b)
  obtain ⟨_, ba0, ba1⟩ := Qa_1.out
  refine Lib.hid ?_
  go_upto_region 3 with (fail)
  go_cut [5, 6] (fun s0 s1 wx => s1 = .bool sv0 ∧ (∃ g o c, s0 = .slice (some ⟨g, o, none⟩) I0.length c ∧ Hid ((w.alloc (rb 23 a b)).heap.size ≤ g) ∧ Hid (IAt wx (some ⟨g, o, none⟩) I0) ∧ Hid (g < wx.heap.size)) ∧ Hid (Below (w.alloc (rb 23 a b)).heap.size (w.alloc (rb 23 a b)) wx))
  case first =>
    have hc7 := Lib.hid (HC0.out.kept hB1 (Nat.le_refl _))
    have hG7 := @cell_g
    go_region_with (first
      | (go_at_call 18; refine (toints_any AC0 cc0 cu0 (w.alloc (rb 23 a b)).drew hc7.out hcl0).mono ?_; rintro e wqa ⟨⟨gq, rfl, hgq, hOq⟩, hbqa⟩; have HBqa := Lib.hid hbqa; have HOq := Lib.hid hOq; have z0 := (hbqa.cell (p := ⟨w.heap.size, 0, none⟩) (show w.heap.size < (w.alloc (rb 23 a b)).heap.size by omega)).trans ba0; have z1 := (hbqa.cell (p := ⟨w.heap.size, 1, none⟩) (show w.heap.size < (w.alloc (rb 23 a b)).heap.size by omega)).trans ba1; have hzq : w.heap.size < wqa.heap.size := Nat.lt_of_lt_of_le (show w.heap.size < (w.alloc (rb 23 a b)).heap.size by omega) hbqa.size; clear hOq hbqa hgq)
      | (go_at_call 15; refine (torl_any a b _).mono ?_; rintro e wqb ⟨rfl, hbqb⟩; have HBqb := Lib.hid (HBqa.out.trans (hbqb.mono HBqa.out.size)); have HIq := Lib.hid (HOq.out.on hbqb).iat; clear hbqb)
      | (go_at_call 27; refine (HS.out _ _ _ HIq.out hcl0).mono ?_; rintro e wqc ⟨gSq, oSq, cSq, rfl, hgSq, hSq, hbqc, hlS9⟩; have HBqc := Lib.hid (HBqb.out.trans (hbqc.mono HBqb.out.size)); have hsq : (w.alloc (rb 23 a b)).heap.size ≤ wqb.heap.size := HBqb.out.size; have HRq := Lib.hid hSq; have hlq := Lib.hid hlS9; clear hSq hlS9; clear hbqc))
    all_goals
      go_wp2_with fail
      go_meet
      exact ⟨rfl, ⟨_, _, _, rfl, Lib.hid (by omega), HRq, hlq⟩, Lib.hid ((Below.refl (w.alloc (rb 23 a b)).heap.size (w.alloc (rb 23 a b))).drew.trans HBqc.out)⟩
  case rest =>
    obtain ⟨rfl, ⟨gS, oS, cS, rfl, hgS0, hS0, hlS0⟩, hbc⟩ := hcut
    obtain ⟨w2, hwb⟩ : ∃ w2, w2 = wc := ⟨_, rfl⟩
    subst hwb
    have hb2 := hbc.out
    clear hbc
    have hgS := hgS0.out
    have hS := hS0.out
    have hlS := hlS0.out
    clear hgS0 hS0 hlS0
    clear ba0 ba1
    have hz2 := hb2.size
    have hB2 := hB1.trans (hb2.mono hB1.size)
    have Qa_2 := Lib.hid (Qa_1.out.kept hb2)
    clear hB1 Qa_1 hb2
    refine Hid.out ?_
    have Ls_2 := Lib.hid hS
    clear hS
    obtain ⟨_, ba0, ba1⟩ := Qa_2.out
    refine Lib.hid ?_
    go_wp2_with (first | (go_at_call 18; refine (toints_any AC0 cc0 cu0 _ (HC0.out.kept hB2 (Nat.le_refl _)) hcl0).mono ?_; rintro e w3 ⟨⟨gz0, rfl, hgz0, hOz0⟩, hb3⟩; refine Hid.out ?_) | fail)
    clear ba0 ba1
    have hz3 := hb3.size
    have hB3 := hB2.trans (hb3.mono hB2.size)
    have Qa_3 := Lib.hid (Qa_2.out.kept hb3)
    have Ls_3 := Lib.hid (Ls_2.out.low hb3 (by omega))
    clear hB2 Qa_2 Ls_2 hb3
    have hlz0 := iown_lt' hOz0
    have Iz0_3 := Lib.hid hOz0
    clear hOz0
    obtain ⟨_, ba0, ba1⟩ := Qa_3.out
    refine Lib.hid ?_
    go_wp2_with (first | (go_at_call 15; refine (torl_any a b _).mono ?_; rintro e w4 ⟨rfl, hb4⟩; refine Hid.out ?_) | fail)
    clear ba0 ba1
    have hz4 := hb4.size
    have hB4 := hB3.trans (hb4.mono hB3.size)
    have Qa_4 := Lib.hid (Qa_3.out.kept hb4)
    have Ls_4 := Lib.hid (Ls_3.out.low hb4 (by omega))
    have Iz0_4 := Lib.hid (Iz0_3.out.on hb4)
    clear hB3 Qa_3 Ls_3 Iz0_3 hb4
    obtain ⟨_, ba0, ba1⟩ := Qa_4.out
    refine Lib.hid ?_
    go_wp2_with (first | (go_at_call 28; refine (HI.out _ _ _ Iz0_4.out.iat hcl0).mono ?_; rintro e w5 ⟨gIp, cIp, rfl, hgIp, hOp, hb5⟩; refine Hid.out ?_) | fail)
    clear ba0 ba1
    have hz5 := hb5.size
    have hB5 := hB4.trans (hb5.mono hB4.size)
    have Qa_5 := Lib.hid (Qa_4.out.kept hb5)
    have Ls_5 := Lib.hid (Ls_4.out.low hb5 (by omega))
    have Iz0_5 := Lib.hid (Iz0_4.out.on hb5)
    clear hB4 Qa_4 Ls_4 Iz0_4 hb5
    have hlIp := iown_lt' hOp
    have Jp_5 := Lib.hid hOp
    clear hOp
    obtain ⟨_, ba0, ba1⟩ := Qa_5.out
    refine Lib.hid ?_
    go_wp2_with (first | (go_at_call 20; refine (eqints_same _ _ _ _ I0 _ Jp_5.out.iat Ls_5.out (by omega)).mono ?_; rintro e w6 ⟨rfl, hb6⟩; refine Hid.out ?_) | fail)
    clear ba0 ba1
    have hz6 := hb6.size
    have hB6 := hB5.trans (hb6.mono hB5.size)
    have Qa_6 := Lib.hid (Qa_5.out.kept hb6)
    have Ls_6 := Lib.hid (Ls_5.out.low hb6 (by omega))
    have Iz0_6 := Lib.hid (Iz0_5.out.on hb6)
    have Jp_6 := Lib.hid (Jp_5.out.on hb6)
    clear hB5 Qa_5 Ls_5 Iz0_5 Jp_5 hb6
    obtain ⟨_, ba0, ba1⟩ := Qa_6.out
    refine Lib.hid ?_
    go_wp2_with (first | (go_at_call 18; refine (toints_any AC0 cc0 cu0 _ (HC0.out.kept hB6 (Nat.le_refl _)) hcl0).mono ?_; rintro e w7 ⟨⟨gu0, rfl, hgu0, hOu0⟩, hb7⟩; refine Hid.out ?_) | fail)
    clear ba0 ba1
    have hz7 := hb7.size
    have hB7 := hB6.trans (hb7.mono hB6.size)
    have Qa_7 := Lib.hid (Qa_6.out.kept hb7)
    have Ls_7 := Lib.hid (Ls_6.out.low hb7 (by omega))
    have Iz0_7 := Lib.hid (Iz0_6.out.on hb7)
    have Jp_7 := Lib.hid (Jp_6.out.on hb7)
    clear hB6 Qa_6 Ls_6 Iz0_6 Jp_6 hb7
    have hlu0 := iown_lt' hOu0
    have Iu0_7 := Lib.hid hOu0
    clear hOu0
    obtain ⟨_, ba0, ba1⟩ := Qa_7.out
    refine Lib.hid ?_
    go_wp2_with (first | (go_at_call 20; refine (eqints_same _ _ _ _ cu0 _ Iz0_7.out.iat Iu0_7.out.iat hcl0).mono ?_; rintro e w8 ⟨rfl, hb8⟩; refine Hid.out ?_) | fail)
    clear ba0 ba1
    have hz8 := hb8.size
    have hB8 := hB7.trans (hb8.mono hB7.size)
    have Qa_8 := Lib.hid (Qa_7.out.kept hb8)
    have Ls_8 := Lib.hid (Ls_7.out.low hb8 (by omega))
    have Iz0_8 := Lib.hid (Iz0_7.out.on hb8)
    have Jp_8 := Lib.hid (Jp_7.out.on hb8)
    have Iu0_8 := Lib.hid (Iu0_7.out.on hb8)
    clear hB7 Qa_7 Ls_7 Iz0_7 Jp_7 Iu0_7 hb8
    clear Iu0_8
    have HIZ0 := Iz0_8
    clear Iz0_8
    obtain ⟨_, ba0, ba1⟩ := Qa_8.out
    refine Lib.hid ?_
    go_wp2_with (first | (go_at_call 21; refine (markints_i _ gz0 _ (1) _ cu0 _ HIZ0.out hcl0 (by omega) (by omega)).mono ?_; rintro e w9 ⟨rfl, _, hg9⟩; refine Hid.out ?_) | fail)
    clear ba0 ba1
    have hz9 := hg9.size
    have hB9 := hB8.grown hg9 (by omega) (fun k hk => by simp at hk; omega)
    have Qa_9 := Lib.hid (Qa_8.out.far hg9 (by omega))
    have Ls_9 := Lib.hid (Ls_8.out.far hg9 (by omega))
    have Jp_9 := Lib.hid (Jp_8.out.far hg9 (by omega))
    clear hB8 Qa_8 Ls_8 Jp_8 hg9
    obtain ⟨_, ba0, ba1⟩ := Qa_9.out
    refine Lib.hid ?_
    go_wp2_with (first | (go_at_call 20; refine (eqints_same _ _ _ _ I0 _ Jp_9.out.iat Ls_9.out (by omega)).mono ?_; rintro e w10 ⟨rfl, hb10⟩; refine Hid.out ?_) | fail)
    clear ba0 ba1
    have hz10 := hb10.size
    have hB10 := hB9.trans (hb10.mono hB9.size)
    have Qa_10 := Lib.hid (Qa_9.out.kept hb10)
    have Ls_10 := Lib.hid (Ls_9.out.low hb10 (by omega))
    have Jp_10 := Lib.hid (Jp_9.out.on hb10)
    clear hB9 Qa_9 Ls_9 Jp_9 hb10
    have HOJ := Jp_10
    clear Jp_10
    obtain ⟨_, ba0, ba1⟩ := Qa_10.out
    refine Lib.hid ?_
    go_wp2_with (first | (go_at_call 21; refine (markints_i _ gIp cIp (1) _ I0 _ HOJ.out (by omega) (by omega) (by omega)).mono ?_; rintro e w11 ⟨rfl, hM, hg11⟩; refine Hid.out ?_) | fail)
    clear ba0 ba1
    have hz11 := hg11.size
    have hB11 := hB10.grown hg11 (by omega) (fun k hk => by simp at hk; omega)
    have Qa_11 := Lib.hid (Qa_10.out.far hg11 (by omega))
    have Ls_11 := Lib.hid (Ls_10.out.far hg11 (by omega))
    clear hB10 Qa_10 Ls_10 hg11
    have K_11 := Lib.hid hM.iat_marks
    clear hM
    obtain ⟨_, ba0, ba1⟩ := Qa_11.out
    refine Lib.hid ?_
    go_wp2_with (first | (go_at_call 22; refine (heldints_i _ _ (1) I0.length _ _ K_11.out (by omega) (by omega) (by omega)).mono ?_; rintro e w12 ⟨rfl, hb12⟩; refine Hid.out ?_) | fail)
    clear ba0 ba1
    have hz12 := hb12.size
    have hB12 := hB11.trans (hb12.mono hB11.size)
    have Qa_12 := Lib.hid (Qa_11.out.kept hb12)
    have Ls_12 := Lib.hid (Ls_11.out.low hb12 (by omega))
    have K_12 := Lib.hid (K_11.out.low hb12 (by omega))
    clear hB11 Qa_11 Ls_11 K_11 hb12
    obtain ⟨_, ba0, ba1⟩ := Qa_12.out
    refine Lib.hid ?_
    go_upto_region 22 with (fail)
    go_cut [13, 14] (fun s0 s1 wx => s1 = .bool sv0 ∧ (∃ g c, s0 = .slice (some ⟨g, 0, none⟩) I0.length c ∧ Hid (w12.heap.size ≤ g) ∧ Hid (IOwn wx w12.heap.size (.slice (some ⟨g, 0, none⟩) I0.length c) I0)) ∧ Hid (Below w12.heap.size w12 wx))
    case first =>
      have hc7 := Lib.hid (HC0.out.kept hB12 (Nat.le_refl _))
      have hG7 := @cell_g
      go_region_with (first
        | (go_at_call 18; refine (toints_any AC0 cc0 cu0 w12.drew hc7.out hcl0).mono ?_; rintro e wqa ⟨⟨gq, rfl, hgq, hOq⟩, hbqa⟩; have HBqa := Lib.hid hbqa; have HOq := Lib.hid hOq; have z0 := (hbqa.cell (p := ⟨w.heap.size, 0, none⟩) (show w.heap.size < w12.heap.size by omega)).trans ba0; have z1 := (hbqa.cell (p := ⟨w.heap.size, 1, none⟩) (show w.heap.size < w12.heap.size by omega)).trans ba1; have hzq : w.heap.size < wqa.heap.size := Nat.lt_of_lt_of_le (show w.heap.size < w12.heap.size by omega) hbqa.size; clear hOq hbqa hgq)
        | (go_at_call 15; refine (torl_any a b _).mono ?_; rintro e wqb ⟨rfl, hbqb⟩; have HBqb := Lib.hid (HBqa.out.trans (hbqb.mono HBqa.out.size)); have HIq := Lib.hid (HOq.out.on hbqb).iat; clear hbqb)
        | (go_at_call 28; refine (HI.out _ _ _ HIq.out hcl0).mono ?_; rintro e wqc ⟨gIq, cIq, rfl, hgIq, hOq9, hbqc⟩; have HBqc := Lib.hid (HBqb.out.trans (hbqc.mono HBqb.out.size)); have hsq : w12.heap.size ≤ wqb.heap.size := HBqb.out.size; have HRq := Lib.hid (own_lower hOq9 hsq); clear hOq9; clear hbqc))
      all_goals
        go_wp2_with fail
        go_meet
        exact ⟨rfl, ⟨_, _, rfl, Lib.hid (by omega), HRq⟩, Lib.hid ((Below.refl w12.heap.size w12).drew.trans HBqc.out)⟩
    case rest =>
      obtain ⟨rfl, ⟨gIh, cIh, rfl, hgI0, hO0⟩, hbc⟩ := hcut
      obtain ⟨w13, hwb⟩ : ∃ w13, w13 = wc := ⟨_, rfl⟩
      subst hwb
      have hb13 := hbc.out
      clear hbc
      have hgIh := hgI0.out
      have hOh := hO0.out
      clear hgI0 hO0
      clear ba0 ba1
      have hz13 := hb13.size
      have hB13 := hB12.trans (hb13.mono hB12.size)
      have Qa_13 := Lib.hid (Qa_12.out.kept hb13)
      have Ls_13 := Lib.hid (Ls_12.out.low hb13 (by omega))
      have K_13 := Lib.hid (K_12.out.low hb13 (by omega))
      clear hB12 Qa_12 Ls_12 K_12 hb13
      refine Hid.out ?_
      have hlIh := iown_lt' hOh
      have Jh_13 := Lib.hid hOh
      clear hOh
      obtain ⟨_, ba0, ba1⟩ := Qa_13.out
      refine Lib.hid ?_
      go_wp2_with (first | (go_at_call 20; refine (eqints_same _ _ _ _ I0 _ Jh_13.out.iat Ls_13.out (by omega)).mono ?_; rintro e w14 ⟨rfl, hb14⟩; refine Hid.out ?_) | fail)
      clear ba0 ba1
      have hz14 := hb14.size
      have hB14 := hB13.trans (hb14.mono hB13.size)
      have Qa_14 := Lib.hid (Qa_13.out.kept hb14)
      have Ls_14 := Lib.hid (Ls_13.out.low hb14 (by omega))
      have K_14 := Lib.hid (K_13.out.low hb14 (by omega))
      have Jh_14 := Lib.hid (Jh_13.out.on hb14)
      clear hB13 Qa_13 Ls_13 K_13 Jh_13 hb14
      obtain ⟨_, ba0, ba1⟩ := Qa_14.out
      refine Lib.hid ?_
      go_wp2_with (first | (go_at_call 22; refine (heldints_i _ _ (1) I0.length _ _ K_14.out (by omega) (by omega) (by omega)).mono ?_; rintro e w15 ⟨rfl, hb15⟩; refine Hid.out ?_) | fail)
      clear ba0 ba1
      have hz15 := hb15.size
      have hB15 := hB14.trans (hb15.mono hB14.size)
      have Qa_15 := Lib.hid (Qa_14.out.kept hb15)
      have Ls_15 := Lib.hid (Ls_14.out.low hb15 (by omega))
      have K_15 := Lib.hid (K_14.out.low hb15 (by omega))
      have Jh_15 := Lib.hid (Jh_14.out.on hb15)
      clear hB14 Qa_14 Ls_14 K_14 Jh_14 hb15
      refine Lib.hid ?_
      go_wp2_with fail
      go_ret
      exact ⟨rfl, hB15⟩
end Go.Proofs.Ytjfpimldiokpbaa.S12
