/- The law FnExactTurnFlows holds of the program: for every network, flows and number TurnFlows answers as its model, writes into no argument, and its answer owns its memory. Condition: the arguments are laid out as the row says. -/
import Derived.Test.YtgjogjmfpbinfaaNetKit
import Derived.Deep.DeepCutAuto
import Derived.Test.YtgjogjmfpbinfaaKS
import Derived.Test.YtgjogjmfpbinfaaRows
import Derived.Test.YtgjogjmfpbinfaaOpenOne
import Derived.WalkKit
import Derived.ProofKit
import Derived.OpenShut
import Derived.ChangeOld
import Derived.Below
namespace Go.Proofs.Ytgjogjmfpbinfaa.S2
open Go.RowKit P2

set_option maxHeartbeats 16000000 in
set_option maxRecDepth 100000 in
theorem walkTurnFlows (n : Int) (A : Option Addr) (cap : Nat) (ps : List Pp) (AC1 : Option Addr) (cc1 : Nat) (cu1 : List Int) (x2 : Int) (w : World) (h : PAt w A ps) (hm : ps.length ≤ maxLen) (hc1 : IAt w AC1 cu1) (hmc1 : cu1.length ≤ maxLen) (I0 : List Int) (hI0 : I0.length ≤ 1000) (sv0 : Bool)
    (hs : ∀ (A : Option Addr) (cap : Nat) (AC1 : Option Addr) (cc1 : Nat) (w : World), PAt w A ps → ps.length ≤ 1048576 → ps.length = cap → IAt w AC1 cu1 → cu1.length ≤ 1048576 → Calls Try.prog 30 #[nv n A ps.length cap, .slice AC1 cu1.length cc1, .int .i64 x2] w (GivesA w I0 sv0))
    (hi : ∀ (A : Option Addr) (cap : Nat) (AC1 : Option Addr) (cc1 : Nat) (w : World), PAt w A ps → ps.length ≤ 1048576 → ps.length = cap → IAt w AC1 cu1 → cu1.length ≤ 1048576 → Calls Try.prog 32 #[nv n A ps.length cap, .slice AC1 cu1.length cc1, .int .i64 x2] w (GivesI w I0 sv0)) :
    Calls Try.prog 5 #[nv n A ps.length cap, .slice AC1 cu1.length cc1, .int .i64 x2] w fun e w' => e = .returned (.bool true) ∧ Below w.heap.size w w' := by
  have HA := Lib.hid h
  have HM := Lib.hid hm
  have HS := Lib.hid hs
  have HI := Lib.hid hi
  have HC1 := Lib.hid hc1
  have HMC1 := Lib.hid hmc1
  clear h hm hs hi hc1 hmc1
  by_cases hci1 : 1048576 < cu1.length
  · have hlm1 : cu1.length ≤ 9223372036854775807 := by have := HMC1.out; unfold maxLen at this; omega
    go_enter Try.func5, Try.ntmps5
    go_wp2
    go_ret
    exact ⟨rfl, (Below.refl w.heap.size w).alloc (Nat.le_refl _) _⟩
  have hcl1 : cu1.length ≤ 1048576 := by omega
  clear hci1
  go_enter Try.func5, Try.ntmps5
  go_wp2_with (go_at_call 19; refine (sznet_le n A ps.length cap _ HM.out).mono ?_; rintro e w1 ⟨⟨r, rfl, hr⟩, hb1⟩; refine Hid.out ?_)
  have hB1 : Below (w.heap.size + 1) (w.alloc (.cells #[.int .i64 n, .slice A ps.length cap] 24)) w1 := by simpa using hb1
  clear hb1
  obtain ⟨b0, b1⟩ := box2 hB1
  have hz1 : w.heap.size < w1.heap.size := box_lt hB1
  by_cases hr0 : r < 0
  · refine Lib.hid ?_
    go_wp2
    go_ret
    exact ⟨rfl, below_box hB1⟩
  have hlen : ps.length ≤ 1048576 := by rcases hr with h | h; exact absurd h hr0; exact h.2.2
  clear hr
  refine Lib.hid ?_
  go_wp2_with (first | (go_at_call 21; refine (tonet_any n A cap ps _ (HA.out.kept (below_box hB1) (Nat.le_refl _)) hlen).mono ?_; rintro e w2 ⟨⟨ga, rfl, hga, hrowa⟩, hb2⟩; refine Hid.out ?_) | fail)
  have hz2 := hb2.size
  have hB2 := on_call hB1 hb2
  clear b0 b1
  obtain ⟨b0, b1⟩ := box2 hB2
  clear hB1 hb2
  have hla := hrowa.lt
  have Ta_2 := Lib.hid hrowa.at_
  clear hrowa
  refine Lib.hid ?_
  go_wp2_with (first | (go_at_call 31; refine (toints_any AC1 cc1 cu1 _ (HC1.out.kept (below_box hB2) (Nat.le_refl _)) hcl1).mono ?_; rintro e w3 ⟨⟨ge1, rfl, hge1, hOe1⟩, hb3⟩; refine Hid.out ?_) | fail)
  have hz3 := hb3.size
  have hB3 := on_call hB2 hb3
  have Ta_3 := Lib.hid (Ta_2.out.kept hb3 (Nat.le_refl _))
  clear b0 b1
  obtain ⟨b0, b1⟩ := box2 hB3
  clear hB2 Ta_2 hb3
  have hle1 := iown_lt' hOe1
  have Ie1_3 := Lib.hid hOe1
  clear hOe1
  refine Lib.hid ?_
  go_wp2_with (first | (go_at_call 30; refine (HS.out _ _ _ _ _ Ta_3.out hlen rfl Ie1_3.out.iat hcl1).mono ?_; rintro e w4 ⟨gSi, oSi, cSi, rfl, hgSi, hSi, hb4, hlSi⟩; refine Hid.out ?_) | fail)
  have hz4 := hb4.size
  have hB4 := on_call hB3 hb4
  have Ta_4 := Lib.hid (Ta_3.out.kept hb4 (Nat.le_refl _))
  have Ie1_4 := Lib.hid (Ie1_3.out.on hb4)
  clear b0 b1
  obtain ⟨b0, b1⟩ := box2 hB4
  clear hB3 Ta_3 Ie1_3 hb4
  have Lsi_4 := Lib.hid hSi
  clear hSi
  clear Ta_4
  clear Ie1_4
  refine Lib.hid ?_
  go_wp2_with (first | (go_at_call 21; refine (tonet_any n A cap ps _ (HA.out.kept (below_box hB4) (Nat.le_refl _)) hlen).mono ?_; rintro e w5 ⟨⟨gx, rfl, hgx, hrowx⟩, hb5⟩; refine Hid.out ?_) | fail)
  have hz5 := hb5.size
  have hB5 := on_call hB4 hb5
  have Lsi_5 := Lib.hid (Lsi_4.out.low hb5 (by omega))
  clear b0 b1
  obtain ⟨b0, b1⟩ := box2 hB5
  clear hB4 Lsi_4 hb5
  have hlx := hrowx.lt
  have Rx_5 := Lib.hid hrowx
  clear hrowx
  have hb5a := alloc_below w5 (.cells #[.int .i64 n, .slice (some ⟨gx, 0, none⟩) ps.length ps.length] 30)
  have hz5a : w5.heap.size < (w5.alloc (.cells #[.int .i64 n, .slice (some ⟨gx, 0, none⟩) ps.length ps.length] 30)).heap.size := by simp
  have hB5a := on_call hB5 hb5a
  have Lsi_5a := Lib.hid (Lsi_5.out.low hb5a (by omega))
  have Rx_5a := Lib.hid (Rx_5.out.kept hb5a (by omega))
  have hqn : w.heap.size < w5.heap.size := by omega
  refine Lib.hid ?_
  go_wp2_with (first | (go_at_call 31; refine (toints_any AC1 cc1 cu1 _ (HC1.out.kept (below_box hB5a) (Nat.le_refl _)) hcl1).mono ?_; rintro e w6 ⟨⟨gz1, rfl, hgz1, hOz1⟩, hb6⟩; refine Hid.out ?_) | fail)
  replace hb6 : Below (w5.alloc (.cells #[.int .i64 n, .slice (some ⟨gx, 0, none⟩) ps.length ps.length] 30)).heap.size (w5.alloc (.cells #[.int .i64 n, .slice (some ⟨gx, 0, none⟩) ps.length ps.length] 30)) w6 := hb6
  have Bx0_6 := (hb6.cell (p := ⟨w5.heap.size, 0, none⟩) (by dsimp only; omega)).trans (boxA0 (w := w5))
  have Bx1_6 := (hb6.cell (p := ⟨w5.heap.size, 1, none⟩) (by dsimp only; omega)).trans (boxA1 (w := w5))
  have hz6 := hb6.size
  have hB6 := on_call hB5a hb6
  have Lsi_6 := Lib.hid (Lsi_5a.out.low hb6 (by omega))
  have Rx_6 := Lib.hid (Rx_5a.out.kept hb6 (by omega))
  clear b0 b1
  obtain ⟨b0, b1⟩ := box2 hB6
  clear hB5a Lsi_5a Rx_5a hb6
  clear hB5 Lsi_5 Rx_5 hqn hb5a
  have hlz1 := iown_lt' hOz1
  have Iz1_6 := Lib.hid hOz1
  clear hOz1
  refine Lib.hid ?_
  go_wp2_with (first | (go_at_call 32; refine (HI.out _ _ _ _ _ Rx_6.out.at_ hlen rfl Iz1_6.out.iat hcl1).mono ?_; rintro e w7 ⟨gIpi, cIpi, rfl, hgIpi, hOpi, hb7⟩; refine Hid.out ?_) | fail)
  have hz7 := hb7.size
  have hB7 := on_call hB6 hb7
  have Lsi_7 := Lib.hid (Lsi_6.out.low hb7 (by omega))
  have Rx_7 := Lib.hid (Rx_6.out.kept hb7 (by omega))
  have Bx0_7 := (hb7.cell (p := ⟨w5.heap.size, 0, none⟩) (by dsimp only; omega)).trans Bx0_6
  have Bx1_7 := (hb7.cell (p := ⟨w5.heap.size, 1, none⟩) (by dsimp only; omega)).trans Bx1_6
  have Iz1_7 := Lib.hid (Iz1_6.out.on hb7)
  clear b0 b1
  obtain ⟨b0, b1⟩ := box2 hB7
  clear hB6 Lsi_6 Rx_6 Bx0_6 Bx1_6 Iz1_6 hb7
  have hlIpi := iown_lt' hOpi
  have Jpi_7 := Lib.hid hOpi
  clear hOpi
  refine Lib.hid ?_
  go_wp2_with (first | (go_at_call 26; refine (eqints_same _ _ _ _ I0 _ Jpi_7.out.iat Lsi_7.out (by omega)).mono ?_; rintro e w8 ⟨rfl, hb8⟩; refine Hid.out ?_) | fail)
  have hz8 := hb8.size
  have hB8 := on_call hB7 hb8
  have Lsi_8 := Lib.hid (Lsi_7.out.low hb8 (by omega))
  have Rx_8 := Lib.hid (Rx_7.out.kept hb8 (by omega))
  have Bx0_8 := (hb8.cell (p := ⟨w5.heap.size, 0, none⟩) (by dsimp only; omega)).trans Bx0_7
  have Bx1_8 := (hb8.cell (p := ⟨w5.heap.size, 1, none⟩) (by dsimp only; omega)).trans Bx1_7
  have Iz1_8 := Lib.hid (Iz1_7.out.on hb8)
  have Jpi_8 := Lib.hid (Jpi_7.out.on hb8)
  clear b0 b1
  obtain ⟨b0, b1⟩ := box2 hB8
  clear hB7 Lsi_7 Rx_7 Bx0_7 Bx1_7 Iz1_7 Jpi_7 hb8
  refine Lib.hid ?_
  go_upto_region 13 with (fail)
  go_cut [60] (fun st wx => st = .bool false ∧ Hid (Below w8.heap.size w8 wx))
  case first =>
    have hA7 := Lib.hid (HA.out.kept (below_box hB8) (Nat.le_refl _))
    have hat7 := Lib.hid Rx_8.out.at_
    have hx4 : w5.heap.size < w8.heap.size := by omega
    go_region_with (first
      | (go_at_call 21; refine (tonet_any n A cap ps w8.drew hA7.out hlen).mono ?_; rintro e wqa ⟨⟨gqa, rfl, hgqa, hrowqa⟩, hbqa⟩; have HBqa := Lib.hid hbqa; have hatqa := Lib.hid hrowqa.at_; have hatqb := Lib.hid (PAt.kept (w := w8.drew) hat7.out hbqa (Nat.le_refl _)); have z0 := (hbqa.cell (p := ⟨w5.heap.size, 0, none⟩) hx4).trans Bx0_8; have z1 := (hbqa.cell (p := ⟨w5.heap.size, 1, none⟩) hx4).trans Bx1_8; clear hgqa hrowqa hbqa)
      | (go_at_call 23; refine (eqnet_same n _ _ _ _ ps wqa hatqb.out hatqa.out hlen).mono ?_; rintro e wqb ⟨rfl, hbqb⟩))
    all_goals
      go_wp2_with fail
      go_meet
      exact ⟨rfl, Lib.hid ((Below.refl w8.heap.size w8).drew.trans (HBqa.out.trans (hbqb.mono HBqa.out.size)))⟩
  case rest =>
    obtain ⟨rfl, hbc⟩ := hcut
    obtain ⟨w9, hwb⟩ : ∃ w9, w9 = wc := ⟨_, rfl⟩
    subst hwb
    have hb9 := hbc.out
    clear hbc
    have hz9 := hb9.size
    have hB9 := on_call hB8 hb9
    have Lsi_9 := Lib.hid (Lsi_8.out.low hb9 (by omega))
    have Rx_9 := Lib.hid (Rx_8.out.kept hb9 (by omega))
    have Bx0_9 := (hb9.cell (p := ⟨w5.heap.size, 0, none⟩) (by dsimp only; omega)).trans Bx0_8
    have Bx1_9 := (hb9.cell (p := ⟨w5.heap.size, 1, none⟩) (by dsimp only; omega)).trans Bx1_8
    have Iz1_9 := Lib.hid (Iz1_8.out.on hb9)
    have Jpi_9 := Lib.hid (Jpi_8.out.on hb9)
    clear b0 b1
    obtain ⟨b0, b1⟩ := box2 hB9
    clear hB8 Lsi_8 Rx_8 Bx0_8 Bx1_8 Iz1_8 Jpi_8 hb9
    refine Lib.hid ?_
    go_wp2_with (first | (go_at_call 31; refine (toints_any AC1 cc1 cu1 _ (HC1.out.kept (below_box hB9) (Nat.le_refl _)) hcl1).mono ?_; rintro e w10 ⟨⟨gu1, rfl, hgu1, hOu1⟩, hb10⟩; refine Hid.out ?_) | fail)
    have hz10 := hb10.size
    have hB10 := on_call hB9 hb10
    have Lsi_10 := Lib.hid (Lsi_9.out.low hb10 (by omega))
    have Rx_10 := Lib.hid (Rx_9.out.kept hb10 (by omega))
    have Bx0_10 := (hb10.cell (p := ⟨w5.heap.size, 0, none⟩) (by dsimp only; omega)).trans Bx0_9
    have Bx1_10 := (hb10.cell (p := ⟨w5.heap.size, 1, none⟩) (by dsimp only; omega)).trans Bx1_9
    have Iz1_10 := Lib.hid (Iz1_9.out.on hb10)
    have Jpi_10 := Lib.hid (Jpi_9.out.on hb10)
    clear b0 b1
    obtain ⟨b0, b1⟩ := box2 hB10
    clear hB9 Lsi_9 Rx_9 Bx0_9 Bx1_9 Iz1_9 Jpi_9 hb10
    have hlu1 := iown_lt' hOu1
    have Iu1_10 := Lib.hid hOu1
    clear hOu1
    refine Lib.hid ?_
    go_wp2_with (first | (go_at_call 26; refine (eqints_same _ _ _ _ cu1 _ Iz1_10.out.iat Iu1_10.out.iat hcl1).mono ?_; rintro e w11 ⟨rfl, hb11⟩; refine Hid.out ?_) | fail)
    have hz11 := hb11.size
    have hB11 := on_call hB10 hb11
    have Lsi_11 := Lib.hid (Lsi_10.out.low hb11 (by omega))
    have Rx_11 := Lib.hid (Rx_10.out.kept hb11 (by omega))
    have Bx0_11 := (hb11.cell (p := ⟨w5.heap.size, 0, none⟩) (by dsimp only; omega)).trans Bx0_10
    have Bx1_11 := (hb11.cell (p := ⟨w5.heap.size, 1, none⟩) (by dsimp only; omega)).trans Bx1_10
    have Iz1_11 := Lib.hid (Iz1_10.out.on hb11)
    have Jpi_11 := Lib.hid (Jpi_10.out.on hb11)
    have Iu1_11 := Lib.hid (Iu1_10.out.on hb11)
    clear b0 b1
    obtain ⟨b0, b1⟩ := box2 hB11
    clear hB10 Lsi_10 Rx_10 Bx0_10 Bx1_10 Iz1_10 Jpi_10 Iu1_10 hb11
    clear Iu1_11
    have HRX := Rx_11
    clear Rx_11
    refine Lib.hid ?_
    go_wp2_with (first | (go_at_call 27; refine (marknetk_any n gx 1 ps _ HRX.out hlen (by omega)).mono ?_; rintro e w12 ⟨rfl, hg12⟩; refine Hid.out ?_) | fail)
    have hz12 := hg12.size
    have hB12 := hB11.grown hg12 (by omega) (fun k hk => by simp at hk; omega)
    have Lsi_12 := Lib.hid (Lsi_11.out.far hg12 (by omega))
    have Bx0_12 := (hg12.cell_far ⟨w5.heap.size, 0, none⟩ (by dsimp only; omega) (by simp; omega)).trans Bx0_11
    have Bx1_12 := (hg12.cell_far ⟨w5.heap.size, 1, none⟩ (by dsimp only; omega) (by simp; omega)).trans Bx1_11
    have Iz1_12 := Lib.hid (Iz1_11.out.far hg12 (by omega))
    have Jpi_12 := Lib.hid (Jpi_11.out.far hg12 (by omega))
    clear b0 b1
    obtain ⟨b0, b1⟩ := box2 hB12
    clear hB11 Lsi_11 Bx0_11 Bx1_11 Iz1_11 Jpi_11 hg12
    clear Bx0_12 Bx1_12
    have HIZ1 := Iz1_12
    clear Iz1_12
    refine Lib.hid ?_
    go_wp2_with (first | (go_at_call 28; refine (markints_i _ gz1 _ (1 + ps.length * 4) _ cu1 _ HIZ1.out hcl1 (by omega) (by omega)).mono ?_; rintro e w13 ⟨rfl, _, hg13⟩; refine Hid.out ?_) | fail)
    have hz13 := hg13.size
    have hB13 := hB12.grown hg13 (by omega) (fun k hk => by simp at hk; omega)
    have Lsi_13 := Lib.hid (Lsi_12.out.far hg13 (by omega))
    have Jpi_13 := Lib.hid (Jpi_12.out.far hg13 (by omega))
    clear b0 b1
    obtain ⟨b0, b1⟩ := box2 hB13
    clear hB12 Lsi_12 Jpi_12 hg13
    refine Lib.hid ?_
    go_wp2_with (first | (go_at_call 26; refine (eqints_same _ _ _ _ I0 _ Jpi_13.out.iat Lsi_13.out (by omega)).mono ?_; rintro e w14 ⟨rfl, hb14⟩; refine Hid.out ?_) | fail)
    have hz14 := hb14.size
    have hB14 := on_call hB13 hb14
    have Lsi_14 := Lib.hid (Lsi_13.out.low hb14 (by omega))
    have Jpi_14 := Lib.hid (Jpi_13.out.on hb14)
    clear b0 b1
    obtain ⟨b0, b1⟩ := box2 hB14
    clear hB13 Lsi_13 Jpi_13 hb14
    have HOJi := Jpi_14
    clear Jpi_14
    refine Lib.hid ?_
    go_wp2_with (first | (go_at_call 28; refine (markints_i _ gIpi cIpi (1) _ I0 _ HOJi.out (by omega) (by omega) (by omega)).mono ?_; rintro e w15 ⟨rfl, hM, hg15⟩; refine Hid.out ?_) | fail)
    have hz15 := hg15.size
    have hB15 := hB14.grown hg15 (by omega) (fun k hk => by simp at hk; omega)
    have Lsi_15 := Lib.hid (Lsi_14.out.far hg15 (by omega))
    clear b0 b1
    obtain ⟨b0, b1⟩ := box2 hB15
    clear hB14 Lsi_14 hg15
    have Ki_15 := Lib.hid hM.iat_marks
    clear hM
    refine Lib.hid ?_
    go_wp2_with (first | (go_at_call 29; refine (heldints_i _ _ (1) I0.length _ _ Ki_15.out (by omega) (by omega) (by omega)).mono ?_; rintro e w16 ⟨rfl, hb16⟩; refine Hid.out ?_) | fail)
    have hz16 := hb16.size
    have hB16 := on_call hB15 hb16
    have Lsi_16 := Lib.hid (Lsi_15.out.low hb16 (by omega))
    have Ki_16 := Lib.hid (Ki_15.out.low hb16 (by omega))
    clear b0 b1
    obtain ⟨b0, b1⟩ := box2 hB16
    clear hB15 Lsi_15 Ki_15 hb16
    refine Lib.hid ?_
    go_wp2_with (first | (go_at_call 21; refine (tonet_any n A cap ps _ (HA.out.kept (below_box hB16) (Nat.le_refl _)) hlen).mono ?_; rintro e w17 ⟨⟨gy, rfl, hgy, hrowy⟩, hb17⟩; refine Hid.out ?_) | fail)
    have hz17 := hb17.size
    have hB17 := on_call hB16 hb17
    have Lsi_17 := Lib.hid (Lsi_16.out.low hb17 (by omega))
    have Ki_17 := Lib.hid (Ki_16.out.low hb17 (by omega))
    clear b0 b1
    obtain ⟨b0, b1⟩ := box2 hB17
    clear hB16 Lsi_16 Ki_16 hb17
    have hly := hrowy.lt
    have Ty_17 := Lib.hid hrowy.at_
    clear hrowy
    refine Lib.hid ?_
    go_wp2_with (first | (go_at_call 31; refine (toints_any AC1 cc1 cu1 _ (HC1.out.kept (below_box hB17) (Nat.le_refl _)) hcl1).mono ?_; rintro e w18 ⟨⟨gv1, rfl, hgv1, hOv1⟩, hb18⟩; refine Hid.out ?_) | fail)
    have hz18 := hb18.size
    have hB18 := on_call hB17 hb18
    have Lsi_18 := Lib.hid (Lsi_17.out.low hb18 (by omega))
    have Ki_18 := Lib.hid (Ki_17.out.low hb18 (by omega))
    have Ty_18 := Lib.hid (Ty_17.out.kept hb18 (Nat.le_refl _))
    clear b0 b1
    obtain ⟨b0, b1⟩ := box2 hB18
    clear hB17 Lsi_17 Ki_17 Ty_17 hb18
    have hlv1 := iown_lt' hOv1
    have Iv1_18 := Lib.hid hOv1
    clear hOv1
    refine Lib.hid ?_
    go_wp2_with (first | (go_at_call 32; refine (HI.out _ _ _ _ _ Ty_18.out hlen rfl Iv1_18.out.iat hcl1).mono ?_; rintro e w19 ⟨gIhi, cIhi, rfl, hgIhi, hOhi, hb19⟩; refine Hid.out ?_) | fail)
    have hz19 := hb19.size
    have hB19 := on_call hB18 hb19
    have Lsi_19 := Lib.hid (Lsi_18.out.low hb19 (by omega))
    have Ki_19 := Lib.hid (Ki_18.out.low hb19 (by omega))
    have Ty_19 := Lib.hid (Ty_18.out.kept hb19 (Nat.le_refl _))
    have Iv1_19 := Lib.hid (Iv1_18.out.on hb19)
    clear b0 b1
    obtain ⟨b0, b1⟩ := box2 hB19
    clear hB18 Lsi_18 Ki_18 Ty_18 Iv1_18 hb19
    have hlIhi := iown_lt' hOhi
    have Jhi_19 := Lib.hid hOhi
    clear hOhi
    clear Ty_19
    clear Iv1_19
    refine Lib.hid ?_
    go_wp2_with (first | (go_at_call 26; refine (eqints_same _ _ _ _ I0 _ Jhi_19.out.iat Lsi_19.out (by omega)).mono ?_; rintro e w20 ⟨rfl, hb20⟩; refine Hid.out ?_) | fail)
    have hz20 := hb20.size
    have hB20 := on_call hB19 hb20
    have Lsi_20 := Lib.hid (Lsi_19.out.low hb20 (by omega))
    have Ki_20 := Lib.hid (Ki_19.out.low hb20 (by omega))
    have Jhi_20 := Lib.hid (Jhi_19.out.on hb20)
    clear b0 b1
    obtain ⟨b0, b1⟩ := box2 hB20
    clear hB19 Lsi_19 Ki_19 Jhi_19 hb20
    refine Lib.hid ?_
    go_wp2_with (first | (go_at_call 29; refine (heldints_i _ _ (1) I0.length _ _ Ki_20.out (by omega) (by omega) (by omega)).mono ?_; rintro e w21 ⟨rfl, hb21⟩; refine Hid.out ?_) | fail)
    have hz21 := hb21.size
    have hB21 := on_call hB20 hb21
    have Lsi_21 := Lib.hid (Lsi_20.out.low hb21 (by omega))
    have Ki_21 := Lib.hid (Ki_20.out.low hb21 (by omega))
    have Jhi_21 := Lib.hid (Jhi_20.out.on hb21)
    clear b0 b1
    obtain ⟨b0, b1⟩ := box2 hB21
    clear hB20 Lsi_20 Ki_20 Jhi_20 hb21
    refine Lib.hid ?_
    go_wp2_with fail
    go_ret
    exact ⟨rfl, (below_box hB21)⟩
end Go.Proofs.Ytgjogjmfpbinfaa.S2

namespace Go.Proofs.Ytgjogjmfpbinfaa.S2
open Go.RowKit P2
theorem law_tnf (n : Int) (A : Option Addr) (cap : Nat) (ps : List Pp) (AC : Option Addr) (cc : Nat) (cu : List Int) (x : Int) (w : World) (h : PAt w A ps) (hm : ps.length ≤ maxLen) (hc : IAt w AC cu) (hmc : cu.length ≤ maxLen) :
    Calls Try.prog 5 #[nv n A ps.length cap, .slice AC cu.length cc, .int .i64 x] w fun e w' => e = .returned (.bool true) ∧ Below w.heap.size w w' := by
  cases hv : goodB n ps with
  | false => exact walkTurnFlows n A cap ps AC cc cu x w h hm hc hmc [] (by simp) false (fun A c AC cc w h hl _ hc hcl => (stn_no1 n A c ps AC cc cu x w h (by unfold maxLen; omega) hv).mono fun _ _ h => h.any) (fun A c AC cc w h hl _ hc hcl => tn_no1 n A c ps AC cc cu x w fun w' hb => sga_no1 n A c ps w' (h.kept hb (Nat.le_refl _)) (by unfold maxLen; omega) hv)
  | true =>
    have hg := good_of hv
    obtain ⟨N, rfl⟩ := good_nat hg
    cases hr : ringB N ps with
    | false => exact walkTurnFlows N A cap ps AC cc cu x w h hm hc hmc [] (by simp) false (fun A c AC cc w h hl _ hc hcl => (stn_no2 N A c ps AC cc cu x w h (by unfold maxLen; omega) hv hr).mono fun _ _ h => h.any) (fun A c AC cc w h hl he hc hcl => tn_no1 N A c ps AC cc cu x w fun w' hb => sga_no2 N A c ps w' (h.kept hb (Nat.le_refl _)) (by unfold maxLen; omega) hv (by omega) hr)
    | true =>
      cases hf : floB N ps cu with
      | false => exact walkTurnFlows N A cap ps AC cc cu x w h hm hc hmc [] (by simp) false (fun A c AC cc w h hl _ hc hcl => (stn_no3 N A c ps AC cc cu x w h (by unfold maxLen; omega) hc hcl hv hr (.inl hf)).mono fun _ _ h => h.any) (fun A c AC cc w h hl he hc hcl => tn_no2 N A c ps AC cc cu x w h (by unfold maxLen; omega) hc hcl hf fun w' hb => sga_yes N A c ps w' (h.kept hb (Nat.le_refl _)) (by unfold maxLen; omega) hv (by omega) hr)
      | true =>
        by_cases hx : -8000 ≤ x ∧ x ≤ 8000
        · exact walkTurnFlows N A cap ps AC cc cu x w h hm hc hmc _ (by split; rw [tuL_len]; have := (floB_of hf).2.1; have := hg.2.2.1; omega; simp) _ (fun A c AC cc w h hl he hc hcl => (stn_yes N A c ps AC cc cu x w h (by unfold maxLen; omega) (by omega) hc hr hf hx).mono fun _ _ h => h.any) (fun A c AC cc w h hl he hc hcl => tn_yes N A c ps AC cc cu x w h (by unfold maxLen; omega) hc hf hx fun w' hb => sga_yes N A c ps w' (h.kept hb (Nat.le_refl _)) (by unfold maxLen; omega) hv (by omega) hr)
        · exact walkTurnFlows N A cap ps AC cc cu x w h hm hc hmc [] (by simp) false (fun A c AC cc w h hl _ hc hcl => (stn_no3 N A c ps AC cc cu x w h (by unfold maxLen; omega) hc hcl hv hr (.inr (by omega))).mono fun _ _ h => h.any) (fun A c AC cc w h hl he hc hcl => tn_no3 N A c ps AC cc cu x w h (by unfold maxLen; omega) hc hcl hf (by omega) fun w' hb => sga_yes N A c ps w' (h.kept hb (Nat.le_refl _)) (by unfold maxLen; omega) hv (by omega) hr)
end Go.Proofs.Ytgjogjmfpbinfaa.S2

namespace Go.Proofs.Ytgjogjmfpbinfaa.fnExactTurnFlows
open Go.ChangeShapes Go.WideShapes Go.ChangeAt Go.RowKit P2 S2
set_option linter.unusedVariables false

theorem own : ownKnob Try.prog.godebug = none := by kernel_rfl
theorem laidOut : laidOutB Try.prog = true := by kernel_rfl

set_option maxRecDepth 100000 in
theorem lifted (os : Os) (started : os.Started) (H : Type) (enc : TypeId × Value → H) :
    ReturnsInHanded {} Try.checked os 5 .any (Rows.fnExactTurnFlowsSpec.pre6 enc Try.prog Try.f5 Rows.fnExactTurnFlowsRow.domain false) (Rows.fnExactTurnFlowsSpec.post enc Try.prog Try.f5 false true false false) := by
  refine returnsInHanded_of_change (C := Try.checked) own started (by kernel_rfl) Try.func5
    (ChangeSpec.witness6 (enc := enc) (C := Try.checked) false ⟨#[], #[.agg #[.int .i64 0, .slice none 0 0], .slice none 0 0, .int .i64 0], []⟩ 8 (by kernel_rfl) (by kernel_rfl) (by kernel_rfl) (by kernel_rfl)) ?_
  intro W base args ds gs before hval0 hW hcnd _
  have hval : ∀ (j : Nat) t v, Try.f5.params[j]? = some t → args[j]? = some v → Value.okWide Try.prog W .any base t v := hval0
  have hW' := hW
  obtain ⟨p, q, hA0, hV, rfl, hfz, hnd⟩ := hW
  have hA : DataW.TrodAll enc Try.prog W 0 (fun _ => true) true Try.f5.params.toList args.toList ds p := hA0
  rw [Try.params5] at hA hval
  obtain ⟨v0, v1, v2, d0, d1, d2, p0, p1, p2, rfl, rfl, rfl, h0, h1, h2⟩ := trodAll_three hA
  obtain ⟨rfl, rfl⟩ := trodVars_none hV
  have k0 := h0
  have lt0 : ∀ x ∈ p0, x.block < W.heap.size := by obtain ⟨m, hm⟩ := k0; exact DataW.trod_lt m _ _ _ hm
  obtain ⟨n0, A0, cap0, ps0, rfl, at0, mx0⟩ := net_open (hval 0 24 v0 rfl rfl) h0
  have k1 := h1
  have lt1 : ∀ x ∈ p1, x.block < W.heap.size := by obtain ⟨m, hm⟩ := k1; exact DataW.trod_lt m _ _ _ hm
  obtain ⟨A1, cap1, cu1, rfl, at1, mx1⟩ := intsarg_open (hval 1 34 v1 rfl rfl) h1
  obtain ⟨a2, rfl, rfl, rfl, w2⟩ := open_int Try.underlying3 (hval 2 3 v2 rfl rfl) h2
  clear hA0 hval0
  refine (law_tnf n0 A0 cap0 ps0 A1 cap1 cu1 a2 W at0 mx0 at1 mx1).mono fun e W' ⟨he, bel⟩ => ?_
  subst he
  exact ⟨_, rfl, _, _, _, [], _, [], hW', trodAll_mk1 (shut_bool Try.underlying4 _), trodAll_mk3 (Below.trod laidOut (by kernel_rfl) (of_decide_eq_true (by kernel_rfl)) k0 bel lt0) (Below.trod laidOut (by kernel_rfl) (of_decide_eq_true (by kernel_rfl)) k1 bel lt1) (shut_int Try.underlying3 w2), rfl, bel.frame _, fun h => by cases h⟩

theorem andB {a b : Bool} (h : a = true) (g : b = true) : (a && b) = true := by rw [h, g]; rfl
theorem heavy : ((Rows.fnExactTurnFlowsRow.inPlace == Try.pinned.checked.prog.inPlace 5) && ((Rows.fnExactTurnFlowsRow.unfollowed == Try.pinned.checked.prog.unfollowed 5) && ((Rows.fnExactTurnFlowsRow.recurses == Try.pinned.checked.prog.recurses 5) && (Rows.fnExactTurnFlowsRow.named == Try.pinned.checked.prog.varsNamed 5)))) = true := by kernel_rfl
set_option maxHeartbeats 4000000 in
theorem closed : joinedFacts Try.pinned.checked.prog 5 Try.f5 Rows.fnExactTurnFlowsSpec Rows.fnExactTurnFlowsRow = true := by
  unfold joinedFacts
  simp only [Bool.and_assoc]
  have h := heavy
  rw [Bool.and_eq_true, Bool.and_eq_true, Bool.and_eq_true] at h
  obtain ⟨h1, h2, h3, h4⟩ := h
  iterate 9 refine andB (by as_aux_lemma => kernel_rfl) ?_
  refine andB (by with_reducible exact h1) (andB (by with_reducible exact h2) (andB (by with_reducible exact h3) (andB (by with_reducible exact h4) ?_)))
  as_aux_lemma => kernel_rfl
theorem named : Try.pinned.checked.prog.funcNamed Rows.fnExactTurnFlowsRow.func = some 5 := by kernel_rfl
theorem instd : Try.f5.isInstance Try.pinned.checked.prog Rows.fnExactTurnFlowsRow.origin Rows.fnExactTurnFlowsRow.targs := of_decide_eq_true (by kernel_rfl)
theorem proved : Rows.FnExactTurnFlowsSaid :=
  OpenClaim.holds_of_wide 5 Try.f5 rfl rfl rfl rfl rfl rfl rfl ⟨rfl, rfl, rfl, rfl, rfl⟩ rfl rfl rfl rfl rfl named Try.func5 closed
    instd (by unfold Func.isWrapper; first | (rw [if_pos (by decide +kernel)]; kernel_rfl) | (rw [if_neg (by decide +kernel)]; exact ⟨rfl, rfl⟩))
    (fun os started H enc _ => lifted os started H enc)
end Go.Proofs.Ytgjogjmfpbinfaa.fnExactTurnFlows
namespace Go.Proofs.Ytgjogjmfpbinfaa
theorem FnExactTurnFlows_holds : Rows.FnExactTurnFlowsSaid := fnExactTurnFlows.proved
#print axioms FnExactTurnFlows_holds
end Go.Proofs.Ytgjogjmfpbinfaa
