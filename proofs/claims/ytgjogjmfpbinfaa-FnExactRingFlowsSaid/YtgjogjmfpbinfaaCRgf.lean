/- The law FnExactRingFlows holds of the program: for every network, source and demands RingFlows answers as its model, writes into no argument, and its answer owns its memory. Condition: the arguments are laid out as the row says. -/
import Derived.Test.YtgjogjmfpbinfaaKQ
import Derived.Deep.DeepCutAuto
import Derived.Test.YtgjogjmfpbinfaaKF
import Derived.Test.YtgjogjmfpbinfaaRows
import Derived.Test.YtgjogjmfpbinfaaKN
import Derived.WalkKit
import Derived.ProofKit
import Derived.OpenShut
import Derived.ChangeOld
import Derived.Below
namespace Go.Proofs.Ytgjogjmfpbinfaa.S2
open Go.RowKit P2

set_option maxHeartbeats 16000000 in
set_option maxRecDepth 100000 in
theorem walkRingFlows (n : Int) (A : Option Addr) (cap : Nat) (ps : List Pp) (x1 : Int) (AC2 : Option Addr) (cc2 : Nat) (cu2 : List Int) (w : World) (h : PAt w A ps) (hm : ps.length ≤ maxLen) (hc2 : IAt w AC2 cu2) (hmc2 : cu2.length ≤ maxLen) (I0 : List Int) (hI0 : I0.length ≤ 1000) (sv0 : Bool)
    (hs : ∀ (A : Option Addr) (cap : Nat) (AC2 : Option Addr) (cc2 : Nat) (w : World), PAt w A ps → ps.length ≤ 1048576 → ps.length = cap → IAt w AC2 cu2 → cu2.length ≤ 1048576 → Calls Try.prog 33 #[nv n A ps.length cap, .int .i64 x1, .slice AC2 cu2.length cc2] w (GivesA w I0 sv0))
    (hi : ∀ (A : Option Addr) (cap : Nat) (AC2 : Option Addr) (cc2 : Nat) (w : World), PAt w A ps → ps.length ≤ 1048576 → ps.length = cap → IAt w AC2 cu2 → cu2.length ≤ 1048576 → Calls Try.prog 34 #[nv n A ps.length cap, .int .i64 x1, .slice AC2 cu2.length cc2] w (GivesI w I0 sv0)) :
    Calls Try.prog 6 #[nv n A ps.length cap, .int .i64 x1, .slice AC2 cu2.length cc2] w fun e w' => e = .returned (.bool true) ∧ Below w.heap.size w w' := by
  have HA := Lib.hid h
  have HM := Lib.hid hm
  have HS := Lib.hid hs
  have HI := Lib.hid hi
  have HC2 := Lib.hid hc2
  have HMC2 := Lib.hid hmc2
  clear h hm hs hi hc2 hmc2
  by_cases hci2 : 1048576 < cu2.length
  · have hlm2 : cu2.length ≤ 9223372036854775807 := by have := HMC2.out; unfold maxLen at this; omega
    go_enter Try.func6, Try.ntmps6
    go_wp2
    go_ret
    exact ⟨rfl, (Below.refl w.heap.size w).alloc (Nat.le_refl _) _⟩
  have hcl2 : cu2.length ≤ 1048576 := by omega
  clear hci2
  go_enter Try.func6, Try.ntmps6
  go_wp2_with (go_at_call 19; refine (sznet_le n A ps.length cap _ HM.out).mono ?_; rintro e w1 ⟨⟨r, rfl, hr⟩, hb1⟩; refine Hid.out ?_)
  have hB1 : Below (w.heap.size + 1) (w.alloc (.cells #[.int .i64 n, .slice A ps.length cap] 24)) w1 := by simpa using hb1
  clear hb1
  obtain ⟨b0, b1⟩ := box2 hB1
  have hz1 : w.heap.size < w1.heap.size := box_lt hB1
  by_cases hr0 : r < 0
  · refine Lib.hid ?_
    go_wp2
    go_ret
    exact ⟨rfl, below_box hB1⟩
  have hlen : ps.length ≤ 1048576 := by rcases hr with h | h; exact absurd h hr0; exact h.2.2
  clear hr
  refine Lib.hid ?_
  go_wp2_with (first | (go_at_call 21; refine (tonet_any n A cap ps _ (HA.out.kept (below_box hB1) (Nat.le_refl _)) hlen).mono ?_; rintro e w2 ⟨⟨ga, rfl, hga, hrowa⟩, hb2⟩; refine Hid.out ?_) | fail)
  have hz2 := hb2.size
  have hB2 := on_call hB1 hb2
  clear b0 b1
  obtain ⟨b0, b1⟩ := box2 hB2
  clear hB1 hb2
  have hla := hrowa.lt
  have Ta_2 := Lib.hid hrowa.at_
  clear hrowa
  refine Lib.hid ?_
  go_wp2_with (first | (go_at_call 31; refine (toints_any AC2 cc2 cu2 _ (HC2.out.kept (below_box hB2) (Nat.le_refl _)) hcl2).mono ?_; rintro e w3 ⟨⟨ge2, rfl, hge2, hOe2⟩, hb3⟩; refine Hid.out ?_) | fail)
  have hz3 := hb3.size
  have hB3 := on_call hB2 hb3
  have Ta_3 := Lib.hid (Ta_2.out.kept hb3 (Nat.le_refl _))
  clear b0 b1
  obtain ⟨b0, b1⟩ := box2 hB3
  clear hB2 Ta_2 hb3
  have hle2 := iown_lt' hOe2
  have Ie2_3 := Lib.hid hOe2
  clear hOe2
  refine Lib.hid ?_
  go_wp2_with (first | (go_at_call 33; refine (HS.out _ _ _ _ _ Ta_3.out hlen rfl Ie2_3.out.iat hcl2).mono ?_; rintro e w4 ⟨gSi, oSi, cSi, rfl, hgSi, hSi, hb4, hlSi⟩; refine Hid.out ?_) | fail)
  have hz4 := hb4.size
  have hB4 := on_call hB3 hb4
  have Ta_4 := Lib.hid (Ta_3.out.kept hb4 (Nat.le_refl _))
  have Ie2_4 := Lib.hid (Ie2_3.out.on hb4)
  clear b0 b1
  obtain ⟨b0, b1⟩ := box2 hB4
  clear hB3 Ta_3 Ie2_3 hb4
  have Lsi_4 := Lib.hid hSi
  clear hSi
  clear Ta_4
  clear Ie2_4
  refine Lib.hid ?_
  go_wp2_with (first | (go_at_call 21; refine (tonet_any n A cap ps _ (HA.out.kept (below_box hB4) (Nat.le_refl _)) hlen).mono ?_; rintro e w5 ⟨⟨gx, rfl, hgx, hrowx⟩, hb5⟩; refine Hid.out ?_) | fail)
  have hz5 := hb5.size
  have hB5 := on_call hB4 hb5
  have Lsi_5 := Lib.hid (Lsi_4.out.low hb5 (by omega))
  clear b0 b1
  obtain ⟨b0, b1⟩ := box2 hB5
  clear hB4 Lsi_4 hb5
  have hlx := hrowx.lt
  have Rx_5 := Lib.hid hrowx
  clear hrowx
  have hb5a := alloc_below w5 (.cells #[.int .i64 n, .slice (some ⟨gx, 0, none⟩) ps.length ps.length] 30)
  have hz5a : w5.heap.size < (w5.alloc (.cells #[.int .i64 n, .slice (some ⟨gx, 0, none⟩) ps.length ps.length] 30)).heap.size := by simp
  have hB5a := on_call hB5 hb5a
  have Lsi_5a := Lib.hid (Lsi_5.out.low hb5a (by omega))
  have Rx_5a := Lib.hid (Rx_5.out.kept hb5a (by omega))
  have hqn : w.heap.size < w5.heap.size := by omega
  refine Lib.hid ?_
  go_wp2_with (first | (go_at_call 31; refine (toints_any AC2 cc2 cu2 _ (HC2.out.kept (below_box hB5a) (Nat.le_refl _)) hcl2).mono ?_; rintro e w6 ⟨⟨gz2, rfl, hgz2, hOz2⟩, hb6⟩; refine Hid.out ?_) | fail)
  replace hb6 : Below (w5.alloc (.cells #[.int .i64 n, .slice (some ⟨gx, 0, none⟩) ps.length ps.length] 30)).heap.size (w5.alloc (.cells #[.int .i64 n, .slice (some ⟨gx, 0, none⟩) ps.length ps.length] 30)) w6 := hb6
  have Bx0_6 := (hb6.cell (p := ⟨w5.heap.size, 0, none⟩) (by dsimp only; omega)).trans (boxA0 (w := w5))
  have Bx1_6 := (hb6.cell (p := ⟨w5.heap.size, 1, none⟩) (by dsimp only; omega)).trans (boxA1 (w := w5))
  have hz6 := hb6.size
  have hB6 := on_call hB5a hb6
  have Lsi_6 := Lib.hid (Lsi_5a.out.low hb6 (by omega))
  have Rx_6 := Lib.hid (Rx_5a.out.kept hb6 (by omega))
  clear b0 b1
  obtain ⟨b0, b1⟩ := box2 hB6
  clear hB5a Lsi_5a Rx_5a hb6
  clear hB5 Lsi_5 Rx_5 hqn hb5a
  have hlz2 := iown_lt' hOz2
  have Iz2_6 := Lib.hid hOz2
  clear hOz2
  refine Lib.hid ?_
  go_wp2_with (first | (go_at_call 34; refine (HI.out _ _ _ _ _ Rx_6.out.at_ hlen rfl Iz2_6.out.iat hcl2).mono ?_; rintro e w7 ⟨gIpi, cIpi, rfl, hgIpi, hOpi, hb7⟩; refine Hid.out ?_) | fail)
  have hz7 := hb7.size
  have hB7 := on_call hB6 hb7
  have Lsi_7 := Lib.hid (Lsi_6.out.low hb7 (by omega))
  have Rx_7 := Lib.hid (Rx_6.out.kept hb7 (by omega))
  have Bx0_7 := (hb7.cell (p := ⟨w5.heap.size, 0, none⟩) (by dsimp only; omega)).trans Bx0_6
  have Bx1_7 := (hb7.cell (p := ⟨w5.heap.size, 1, none⟩) (by dsimp only; omega)).trans Bx1_6
  have Iz2_7 := Lib.hid (Iz2_6.out.on hb7)
  clear b0 b1
  obtain ⟨b0, b1⟩ := box2 hB7
  clear hB6 Lsi_6 Rx_6 Bx0_6 Bx1_6 Iz2_6 hb7
  have hlIpi := iown_lt' hOpi
  have Jpi_7 := Lib.hid hOpi
  clear hOpi
  refine Lib.hid ?_
  go_wp2_with (first | (go_at_call 26; refine (eqints_same _ _ _ _ I0 _ Jpi_7.out.iat Lsi_7.out (by omega)).mono ?_; rintro e w8 ⟨rfl, hb8⟩; refine Hid.out ?_) | fail)
  have hz8 := hb8.size
  have hB8 := on_call hB7 hb8
  have Lsi_8 := Lib.hid (Lsi_7.out.low hb8 (by omega))
  have Rx_8 := Lib.hid (Rx_7.out.kept hb8 (by omega))
  have Bx0_8 := (hb8.cell (p := ⟨w5.heap.size, 0, none⟩) (by dsimp only; omega)).trans Bx0_7
  have Bx1_8 := (hb8.cell (p := ⟨w5.heap.size, 1, none⟩) (by dsimp only; omega)).trans Bx1_7
  have Iz2_8 := Lib.hid (Iz2_7.out.on hb8)
  have Jpi_8 := Lib.hid (Jpi_7.out.on hb8)
  clear b0 b1
  obtain ⟨b0, b1⟩ := box2 hB8
  clear hB7 Lsi_7 Rx_7 Bx0_7 Bx1_7 Iz2_7 Jpi_7 hb8
  refine Lib.hid ?_
  go_upto_region 13 with (fail)
  go_cut [60] (fun st wx => st = .bool false ∧ Hid (Below w8.heap.size w8 wx))
  case first =>
    have hA7 := Lib.hid (HA.out.kept (below_box hB8) (Nat.le_refl _))
    have hat7 := Lib.hid Rx_8.out.at_
    have hx4 : w5.heap.size < w8.heap.size := by omega
    go_region_with (first
      | (go_at_call 21; refine (tonet_any n A cap ps w8.drew hA7.out hlen).mono ?_; rintro e wqa ⟨⟨gqa, rfl, hgqa, hrowqa⟩, hbqa⟩; have HBqa := Lib.hid hbqa; have hatqa := Lib.hid hrowqa.at_; have hatqb := Lib.hid (PAt.kept (w := w8.drew) hat7.out hbqa (Nat.le_refl _)); have z0 := (hbqa.cell (p := ⟨w5.heap.size, 0, none⟩) hx4).trans Bx0_8; have z1 := (hbqa.cell (p := ⟨w5.heap.size, 1, none⟩) hx4).trans Bx1_8; clear hgqa hrowqa hbqa)
      | (go_at_call 23; refine (eqnet_same n _ _ _ _ ps wqa hatqb.out hatqa.out hlen).mono ?_; rintro e wqb ⟨rfl, hbqb⟩))
    all_goals
      go_wp2_with fail
      go_meet
      exact ⟨rfl, Lib.hid ((Below.refl w8.heap.size w8).drew.trans (HBqa.out.trans (hbqb.mono HBqa.out.size)))⟩
  case rest =>
    obtain ⟨rfl, hbc⟩ := hcut
    obtain ⟨w9, hwb⟩ : ∃ w9, w9 = wc := ⟨_, rfl⟩
    subst hwb
    have hb9 := hbc.out
    clear hbc
    have hz9 := hb9.size
    have hB9 := on_call hB8 hb9
    have Lsi_9 := Lib.hid (Lsi_8.out.low hb9 (by omega))
    have Rx_9 := Lib.hid (Rx_8.out.kept hb9 (by omega))
    have Bx0_9 := (hb9.cell (p := ⟨w5.heap.size, 0, none⟩) (by dsimp only; omega)).trans Bx0_8
    have Bx1_9 := (hb9.cell (p := ⟨w5.heap.size, 1, none⟩) (by dsimp only; omega)).trans Bx1_8
    have Iz2_9 := Lib.hid (Iz2_8.out.on hb9)
    have Jpi_9 := Lib.hid (Jpi_8.out.on hb9)
    clear b0 b1
    obtain ⟨b0, b1⟩ := box2 hB9
    clear hB8 Lsi_8 Rx_8 Bx0_8 Bx1_8 Iz2_8 Jpi_8 hb9
    refine Lib.hid ?_
    go_wp2_with (first | (go_at_call 31; refine (toints_any AC2 cc2 cu2 _ (HC2.out.kept (below_box hB9) (Nat.le_refl _)) hcl2).mono ?_; rintro e w10 ⟨⟨gu2, rfl, hgu2, hOu2⟩, hb10⟩; refine Hid.out ?_) | fail)
    have hz10 := hb10.size
    have hB10 := on_call hB9 hb10
    have Lsi_10 := Lib.hid (Lsi_9.out.low hb10 (by omega))
    have Rx_10 := Lib.hid (Rx_9.out.kept hb10 (by omega))
    have Bx0_10 := (hb10.cell (p := ⟨w5.heap.size, 0, none⟩) (by dsimp only; omega)).trans Bx0_9
    have Bx1_10 := (hb10.cell (p := ⟨w5.heap.size, 1, none⟩) (by dsimp only; omega)).trans Bx1_9
    have Iz2_10 := Lib.hid (Iz2_9.out.on hb10)
    have Jpi_10 := Lib.hid (Jpi_9.out.on hb10)
    clear b0 b1
    obtain ⟨b0, b1⟩ := box2 hB10
    clear hB9 Lsi_9 Rx_9 Bx0_9 Bx1_9 Iz2_9 Jpi_9 hb10
    have hlu2 := iown_lt' hOu2
    have Iu2_10 := Lib.hid hOu2
    clear hOu2
    refine Lib.hid ?_
    go_wp2_with (first | (go_at_call 26; refine (eqints_same _ _ _ _ cu2 _ Iz2_10.out.iat Iu2_10.out.iat hcl2).mono ?_; rintro e w11 ⟨rfl, hb11⟩; refine Hid.out ?_) | fail)
    have hz11 := hb11.size
    have hB11 := on_call hB10 hb11
    have Lsi_11 := Lib.hid (Lsi_10.out.low hb11 (by omega))
    have Rx_11 := Lib.hid (Rx_10.out.kept hb11 (by omega))
    have Bx0_11 := (hb11.cell (p := ⟨w5.heap.size, 0, none⟩) (by dsimp only; omega)).trans Bx0_10
    have Bx1_11 := (hb11.cell (p := ⟨w5.heap.size, 1, none⟩) (by dsimp only; omega)).trans Bx1_10
    have Iz2_11 := Lib.hid (Iz2_10.out.on hb11)
    have Jpi_11 := Lib.hid (Jpi_10.out.on hb11)
    have Iu2_11 := Lib.hid (Iu2_10.out.on hb11)
    clear b0 b1
    obtain ⟨b0, b1⟩ := box2 hB11
    clear hB10 Lsi_10 Rx_10 Bx0_10 Bx1_10 Iz2_10 Jpi_10 Iu2_10 hb11
    clear Iu2_11
    have HRX := Rx_11
    clear Rx_11
    refine Lib.hid ?_
    go_wp2_with (first | (go_at_call 27; refine (marknetk_any n gx 1 ps _ HRX.out hlen (by omega)).mono ?_; rintro e w12 ⟨rfl, hg12⟩; refine Hid.out ?_) | fail)
    have hz12 := hg12.size
    have hB12 := hB11.grown hg12 (by omega) (fun k hk => by simp at hk; omega)
    have Lsi_12 := Lib.hid (Lsi_11.out.far hg12 (by omega))
    have Bx0_12 := (hg12.cell_far ⟨w5.heap.size, 0, none⟩ (by dsimp only; omega) (by simp; omega)).trans Bx0_11
    have Bx1_12 := (hg12.cell_far ⟨w5.heap.size, 1, none⟩ (by dsimp only; omega) (by simp; omega)).trans Bx1_11
    have Iz2_12 := Lib.hid (Iz2_11.out.far hg12 (by omega))
    have Jpi_12 := Lib.hid (Jpi_11.out.far hg12 (by omega))
    clear b0 b1
    obtain ⟨b0, b1⟩ := box2 hB12
    clear hB11 Lsi_11 Bx0_11 Bx1_11 Iz2_11 Jpi_11 hg12
    clear Bx0_12 Bx1_12
    have HIZ2 := Iz2_12
    clear Iz2_12
    refine Lib.hid ?_
    go_wp2_with (first | (go_at_call 28; refine (markints_i _ gz2 _ (1 + ps.length * 4) _ cu2 _ HIZ2.out hcl2 (by omega) (by omega)).mono ?_; rintro e w13 ⟨rfl, _, hg13⟩; refine Hid.out ?_) | fail)
    have hz13 := hg13.size
    have hB13 := hB12.grown hg13 (by omega) (fun k hk => by simp at hk; omega)
    have Lsi_13 := Lib.hid (Lsi_12.out.far hg13 (by omega))
    have Jpi_13 := Lib.hid (Jpi_12.out.far hg13 (by omega))
    clear b0 b1
    obtain ⟨b0, b1⟩ := box2 hB13
    clear hB12 Lsi_12 Jpi_12 hg13
    refine Lib.hid ?_
    go_wp2_with (first | (go_at_call 26; refine (eqints_same _ _ _ _ I0 _ Jpi_13.out.iat Lsi_13.out (by omega)).mono ?_; rintro e w14 ⟨rfl, hb14⟩; refine Hid.out ?_) | fail)
    have hz14 := hb14.size
    have hB14 := on_call hB13 hb14
    have Lsi_14 := Lib.hid (Lsi_13.out.low hb14 (by omega))
    have Jpi_14 := Lib.hid (Jpi_13.out.on hb14)
    clear b0 b1
    obtain ⟨b0, b1⟩ := box2 hB14
    clear hB13 Lsi_13 Jpi_13 hb14
    have HOJi := Jpi_14
    clear Jpi_14
    refine Lib.hid ?_
    go_wp2_with (first | (go_at_call 28; refine (markints_i _ gIpi cIpi (1) _ I0 _ HOJi.out (by omega) (by omega) (by omega)).mono ?_; rintro e w15 ⟨rfl, hM, hg15⟩; refine Hid.out ?_) | fail)
    have hz15 := hg15.size
    have hB15 := hB14.grown hg15 (by omega) (fun k hk => by simp at hk; omega)
    have Lsi_15 := Lib.hid (Lsi_14.out.far hg15 (by omega))
    clear b0 b1
    obtain ⟨b0, b1⟩ := box2 hB15
    clear hB14 Lsi_14 hg15
    have Ki_15 := Lib.hid hM.iat_marks
    clear hM
    refine Lib.hid ?_
    go_wp2_with (first | (go_at_call 29; refine (heldints_i _ _ (1) I0.length _ _ Ki_15.out (by omega) (by omega) (by omega)).mono ?_; rintro e w16 ⟨rfl, hb16⟩; refine Hid.out ?_) | fail)
    have hz16 := hb16.size
    have hB16 := on_call hB15 hb16
    have Lsi_16 := Lib.hid (Lsi_15.out.low hb16 (by omega))
    have Ki_16 := Lib.hid (Ki_15.out.low hb16 (by omega))
    clear b0 b1
    obtain ⟨b0, b1⟩ := box2 hB16
    clear hB15 Lsi_15 Ki_15 hb16
    refine Lib.hid ?_
    go_wp2_with (first | (go_at_call 21; refine (tonet_any n A cap ps _ (HA.out.kept (below_box hB16) (Nat.le_refl _)) hlen).mono ?_; rintro e w17 ⟨⟨gy, rfl, hgy, hrowy⟩, hb17⟩; refine Hid.out ?_) | fail)
    have hz17 := hb17.size
    have hB17 := on_call hB16 hb17
    have Lsi_17 := Lib.hid (Lsi_16.out.low hb17 (by omega))
    have Ki_17 := Lib.hid (Ki_16.out.low hb17 (by omega))
    clear b0 b1
    obtain ⟨b0, b1⟩ := box2 hB17
    clear hB16 Lsi_16 Ki_16 hb17
    have hly := hrowy.lt
    have Ty_17 := Lib.hid hrowy.at_
    clear hrowy
    refine Lib.hid ?_
    go_wp2_with (first | (go_at_call 31; refine (toints_any AC2 cc2 cu2 _ (HC2.out.kept (below_box hB17) (Nat.le_refl _)) hcl2).mono ?_; rintro e w18 ⟨⟨gv2, rfl, hgv2, hOv2⟩, hb18⟩; refine Hid.out ?_) | fail)
    have hz18 := hb18.size
    have hB18 := on_call hB17 hb18
    have Lsi_18 := Lib.hid (Lsi_17.out.low hb18 (by omega))
    have Ki_18 := Lib.hid (Ki_17.out.low hb18 (by omega))
    have Ty_18 := Lib.hid (Ty_17.out.kept hb18 (Nat.le_refl _))
    clear b0 b1
    obtain ⟨b0, b1⟩ := box2 hB18
    clear hB17 Lsi_17 Ki_17 Ty_17 hb18
    have hlv2 := iown_lt' hOv2
    have Iv2_18 := Lib.hid hOv2
    clear hOv2
    refine Lib.hid ?_
    go_wp2_with (first | (go_at_call 34; refine (HI.out _ _ _ _ _ Ty_18.out hlen rfl Iv2_18.out.iat hcl2).mono ?_; rintro e w19 ⟨gIhi, cIhi, rfl, hgIhi, hOhi, hb19⟩; refine Hid.out ?_) | fail)
    have hz19 := hb19.size
    have hB19 := on_call hB18 hb19
    have Lsi_19 := Lib.hid (Lsi_18.out.low hb19 (by omega))
    have Ki_19 := Lib.hid (Ki_18.out.low hb19 (by omega))
    have Ty_19 := Lib.hid (Ty_18.out.kept hb19 (Nat.le_refl _))
    have Iv2_19 := Lib.hid (Iv2_18.out.on hb19)
    clear b0 b1
    obtain ⟨b0, b1⟩ := box2 hB19
    clear hB18 Lsi_18 Ki_18 Ty_18 Iv2_18 hb19
    have hlIhi := iown_lt' hOhi
    have Jhi_19 := Lib.hid hOhi
    clear hOhi
    clear Ty_19
    clear Iv2_19
    refine Lib.hid ?_
    go_wp2_with (first | (go_at_call 26; refine (eqints_same _ _ _ _ I0 _ Jhi_19.out.iat Lsi_19.out (by omega)).mono ?_; rintro e w20 ⟨rfl, hb20⟩; refine Hid.out ?_) | fail)
    have hz20 := hb20.size
    have hB20 := on_call hB19 hb20
    have Lsi_20 := Lib.hid (Lsi_19.out.low hb20 (by omega))
    have Ki_20 := Lib.hid (Ki_19.out.low hb20 (by omega))
    have Jhi_20 := Lib.hid (Jhi_19.out.on hb20)
    clear b0 b1
    obtain ⟨b0, b1⟩ := box2 hB20
    clear hB19 Lsi_19 Ki_19 Jhi_19 hb20
    refine Lib.hid ?_
    go_wp2_with (first | (go_at_call 29; refine (heldints_i _ _ (1) I0.length _ _ Ki_20.out (by omega) (by omega) (by omega)).mono ?_; rintro e w21 ⟨rfl, hb21⟩; refine Hid.out ?_) | fail)
    have hz21 := hb21.size
    have hB21 := on_call hB20 hb21
    have Lsi_21 := Lib.hid (Lsi_20.out.low hb21 (by omega))
    have Ki_21 := Lib.hid (Ki_20.out.low hb21 (by omega))
    have Jhi_21 := Lib.hid (Jhi_20.out.on hb21)
    clear b0 b1
    obtain ⟨b0, b1⟩ := box2 hB21
    clear hB20 Lsi_20 Ki_20 Jhi_20 hb21
    refine Lib.hid ?_
    go_wp2_with fail
    go_ret
    exact ⟨rfl, (below_box hB21)⟩
end Go.Proofs.Ytgjogjmfpbinfaa.S2

namespace Go.Proofs.Ytgjogjmfpbinfaa.S2
open Go.RowKit P2

theorem turned_P {L H : List Int} {P : Nat} (hL : L.length = P) (hH : H.length = P) (hP : P ≤ 10) (A AH : Option Addr) (c ch : Nat) (y : Int) (w : World) (h1 : IAt w A L) (h2 : IAt w AH H) (hy : -100000 ≤ y ∧ y ≤ 100000) (hf : ∀ i, i < L.length → -100000 ≤ lA L i ∧ lA L i ≤ 100000) (hs : ∀ i, i < L.length → Sg (lA H i)) :
    Calls Try.prog 125 #[.slice A P c, .slice AH P ch, .int .i64 y] w fun e w2 => (∃ g3, e = .returned (.slice (some ⟨g3, 0, none⟩) P P) ∧ w.heap.size ≤ g3 ∧ IOwnP w2 w.heap.size (.slice (some ⟨g3, 0, none⟩) P P) P (tuL L H y)) ∧ Below w.heap.size w w2 := by
  subst hL
  have := turned_any A c L AH ch H y w h1 h2 hH (by omega) hy hf hs
  rw [hH] at this
  refine this.mono ?_
  rintro e w2 ⟨⟨g, he, hg, ho⟩, hb⟩
  exact ⟨⟨g, he, hg, by unfold IOwn at ho; rw [tuL_len] at ho; exact ho⟩, hb⟩
theorem stu_P {L H : List Int} {P : Nat} (hL : L.length = P) (hH : H.length = P) (h0 : 0 < P) (hP : P ≤ 10) (A AH : Option Addr) (c ch : Nat) (y : Int) (w : World) (h1 : IAt w AH H) (h2 : IAt w A L) (hy : -100000 ≤ y ∧ y ≤ 100000) (hf : ∀ i, i < L.length → -100000 ≤ lA L i ∧ lA L i ≤ 100000) (hs : ∀ i, i < L.length → Sg (lA H i)) :
    Calls Try.prog 123 #[.slice AH P ch, .slice A P c, .int .i64 y] w fun e w2 => ∃ g3 c3, e = .returned (.slice (some ⟨g3, 0, none⟩) P c3) ∧ w.heap.size ≤ g3 ∧ IOwnP w2 w.heap.size (.slice (some ⟨g3, 0, none⟩) P c3) P (tuL L H y) ∧ Below w.heap.size w w2 := by
  subst hL
  have := stu_any AH ch H A c L y w h1 h2 hH h0 (by omega) hy hf hs
  rw [hH] at this
  refine this.mono ?_
  rintro e w2 ⟨g, c, he, hg, ho, hb⟩
  unfold IOwn at ho
  rw [tuL_len] at he ho
  exact ⟨g, c, he, hg, ho, hb⟩
theorem en_P {n : Int} {ps : List Pp} {fl : List Int} {P : Nat} (hP : fl.length = P) (hp : ps.length = P) (A AD : Option Addr) (cap dc : Nat) (w : World) (h : PAt w A ps) (hm : P ≤ 10) (hd : IAt w AD fl) (hv : floB n ps fl = true) (hv2 : allR (-2000) 2000 fl = true) :
    Calls Try.prog 53 #[nv n A P cap, .slice AD P dc] w fun e w' => e = .returned (.tuple #[.int .i64 (enA ps fl), .bool true]) ∧ Below w.heap.size w w' := by
  have := en_yes n A cap ps AD dc fl w h (by unfold maxLen; omega) hd (by omega) hv hv2
  rw [hP, hp] at this
  exact this
theorem sen_P {n : Int} {ps : List Pp} {fl : List Int} {P : Nat} (hP : fl.length = P) (hp : ps.length = P) (A AD : Option Addr) (cap dc : Nat) (w : World) (h : PAt w A ps) (hd : IAt w AD fl) (hv : floB n ps fl = true) :
    Calls Try.prog 131 #[nv n A P cap, .slice AD P dc] w fun e w' => e = .returned (.int .i64 (enA ps fl)) ∧ Below w.heap.size w w' := by
  have := sen_sum n A cap ps AD dc fl w h hd hv
  rw [hP, hp] at this
  exact this
theorem idx_P {l : List Int} {P i0 : Nat} (hP : l.length = P) (hP10 : P ≤ 10) (hi : i0 < P) (hv : lA l i0 = 1) (hn : ∀ j, j < i0 → lA l j ≠ 1) (A : Option Addr) (c : Nat) (w : World) (h : IAt w A l) :
    Calls Try.prog 132 #[.slice A P c, .int .i64 1] w fun e w' => e = .returned (.int .i64 (i0 : Int)) ∧ w' = w := by
  subst hP
  exact index_any A c l 1 i0 w h (by omega) hi hv hn
theorem goodB_of {n : Int} {ps : List Pp} (h : P2.Good n ps) : goodB n ps = true := by simpa [goodB] using h
theorem wo_node {N : Nat} {ps : List Pp} (hg : P2.Good N ps) (i : Nat) (x : Int) : nodeB N (wo ps i) x = nodeB N ps x := by
  rw [nodeB_eq, nodeB_eq, goodB_of hg, goodB_of (good_sub hg (wo_sub ps i))]
theorem rgs_P {N : Nat} {ps : List Pp} {w w' : World} {e : Ending} (h : GivesI w (sgL N ps) true e w') : GivesS w ps.length (sgL N ps) e w' := by
  obtain ⟨g, c, he, hg, ho, hb⟩ := h
  exact ⟨g, c, by rw [he, sgL_len], hg, (World.ownsRow.lt ho g rfl).2, ho.iat, hb⟩
theorem own_cap {w : World} {B g n c : Nat} {l : List Int} (h : IOwn w B (.slice (some ⟨g, 0, none⟩) n c) l) : l.length ≤ c ∧ c ≤ maxLen := by
  rcases h.2 with ⟨h, _⟩ | ⟨g', c', cur, h, _, _, hle, hm, _⟩
  · cases h
  · injection h with _ _ h3
    rw [h3]; exact ⟨hle, hm⟩

set_option maxHeartbeats 1000000 in
theorem rf_yes (N t : Nat) (A : Option Addr) (cap : Nat) (ps : List Pp) (AD : Option Addr) (dc : Nat) (dm : List Int) (w : World) (h : PAt w A ps) (hc : ps.length ≤ cap) (hd : IAt w AD dm) (hv : goodB N ps = true) (hr : ringB N ps = true) (hn : nodeB N ps t = true) (hdm : demB N ps dm = true) (hS : sumL dm ≤ 200) :
    Calls Try.prog 34 #[nv N A ps.length cap, .int .i64 (t : Int), .slice AD dm.length dc] w (GivesI w (rfA N ps t dm) true) := by
  have hg := good_of hv
  have hR := ring_rg hg hr
  obtain ⟨_, hdl, hdr⟩ := demB_of hdm
  have hl10 := hg.2.2.1
  have hml : ps.length ≤ maxLen := by unfold maxLen; omega
  have h0 := sumL_nn hdr
  have hmo := hR.more
  have hle := hR.lp.lt
  obtain ⟨S, hSS⟩ : ∃ S : Nat, (S : Int) = sumL dm := ⟨(sumL dm).toNat, by omega⟩
  have hST : (sumL dm).toNat = S := by omega
  have hgw := good_sub hg (wo_sub ps (fst0 N ps))
  have hT0 := rfT_len hR t dm
  have hwl := wo_len ps (fst0 N ps) hle
  have hin : ∀ i, i < (rfF N ps t dm).length → -100000 ≤ lA (rfF N ps t dm) i ∧ lA (rfF N ps t dm) i ≤ 100000 := fun i _ => by
    have := rfF_in (N := N) (ps := ps) t hdr (by omega) i
    omega
  have hdm9 : dm.length ≤ 1048576 := by have := hg.2.1; omega
  have hK := rf_walk N A cap ps.length (ps.length - 1) (fst0 N ps) S t AD dm.length dc (sgL N ps) (tfL N (wo ps (fst0 N ps)) t dm) (rfF N ps t dm) (wo ps (fst0 N ps)) (fun y => tuL (rfF N ps t dm) (sgL N ps) y) (rfE N ps t dm) (fun y => by rw [tuL_len, rfF_len hR]) (by omega) w
    (fun w' hb => (sga_yes N A cap ps w' (h.kept hb (Nat.le_refl _)) hml hv hc hr).mono fun _ _ => rgs_P)
    (fun w' hb => by rw [hSS]; exact sup_yes N A cap ps AD dc dm w' (h.kept hb (Nat.le_refl _)) hml (hd.kept hb (Nat.le_refl _)) hdm9 hdm)
    (fun g c w' hi => idx_P (sgL_len N ps) hl10 hle hR.first.1 (fun j hj => by have := hR.first.2 j hj; unfold lA; rw [this]; decide) _ c w' hi)
    (fun w' hb => (wo_all N (fst0 N ps) cap A ps w' (h.kept hb (Nat.le_refl _)) hle hc hl10).mono fun e w2 ⟨A2, c, he, hp, hb2⟩ => ⟨A2, c, by rw [he, hwl], hp, hb2⟩)
    (fun A2 c w' hb hp => by
      have := tfl_cap N t A2 c (wo ps (fst0 N ps)) AD dc dm w' hp (by unfold maxLen; omega) (hd.kept hb (Nat.le_refl _)) hdm9 (by rw [wo_node hg]; exact hn) hR.tree (by unfold demB at hdm ⊢; rw [Bool.and_eq_true] at hdm ⊢; exact ⟨goodB_of hgw, hdm.2⟩)
      rw [hwl] at this
      refine this.mono ?_
      rintro e w2 ⟨g, he, hg2, ho, hb2⟩
      exact ⟨g, by rw [he, hT0], hg2, (World.ownsRow.lt ho g rfl).2, ho.iat, hb2⟩)
    (fun g b c w' hi hb => by
      have := ins_any (tfL N (wo ps (fst0 N ps)) t dm) (ps.length - 1) (fst0 N ps) hT0 (by omega) (by omega) g b c w' hi hb
      rw [show ps.length - 1 + 1 = ps.length by omega] at this
      exact this)
    (fun g c g2 c2 y w' hy1 hy2 hF hSg => turned_P (rfF_len hR t dm) (sgL_len N ps) hl10 _ _ c c2 y w' hF hSg (by omega) hin (fun i _ => sgL_in N ps i))
    (fun g y w' hb hy1 hy2 hi => by
      have hfl := rf_flo (N := N) (ps := ps) (t : Int) (x := y) hv hR hdr (by omega) hS (by omega) (by omega)
      exact en_P (by rw [tuL_len, rfF_len hR]) rfl A _ cap _ w' (h.kept hb (Nat.le_refl _)) hl10 hi hfl.1 hfl.2)
  unfold rfA
  rw [hST]
  exact hK

set_option maxHeartbeats 1000000 in
theorem srf_yes (N t : Nat) (A : Option Addr) (cap : Nat) (ps : List Pp) (AD : Option Addr) (dc : Nat) (dm : List Int) (w : World) (h : PAt w A ps) (hc : ps.length ≤ cap) (hd : IAt w AD dm) (hv : goodB N ps = true) (hr : ringB N ps = true) (hn : nodeB N ps t = true) (hdm : demB N ps dm = true) (hS : sumL dm ≤ 200) :
    Calls Try.prog 33 #[nv N A ps.length cap, .int .i64 (t : Int), .slice AD dm.length dc] w (GivesI w (rfA N ps t dm) true) := by
  have hg := good_of hv
  have hR := ring_rg hg hr
  obtain ⟨_, hdl, hdr⟩ := demB_of hdm
  obtain ⟨_, ht1, ht2⟩ := nodeB_of hn
  have hl10 := hg.2.2.1
  have hml : ps.length ≤ maxLen := by unfold maxLen; omega
  have h0 := sumL_nn hdr
  have hmo := hR.more
  have hle := hR.lp.lt
  obtain ⟨S, hSS⟩ : ∃ S : Nat, (S : Int) = sumL dm := ⟨(sumL dm).toNat, by omega⟩
  have hST : (sumL dm).toNat = S := by omega
  have hgw := good_sub hg (wo_sub ps (fst0 N ps))
  have hT0 := rfT_len hR t dm
  have hwl := wo_len ps (fst0 N ps) hle
  have hin : ∀ i, i < (rfF N ps t dm).length → -100000 ≤ lA (rfF N ps t dm) i ∧ lA (rfF N ps t dm) i ≤ 100000 := fun i _ => by
    have := rfF_in (N := N) (ps := ps) t hdr (by omega) i
    omega
  have hdm9 : dm.length ≤ 10 := by have := hg.2.1; omega
  have ham : amtB dm N 0 1000 = true := by unfold demB at hdm; rw [Bool.and_eq_true] at hdm; exact hdm.2
  have hK := srf_walk N A cap ps.length (ps.length - 1) (fst0 N ps) S t AD dm.length dc (sgL N ps) (tfL N (wo ps (fst0 N ps)) t dm) (wo ps (fst0 N ps)) (fun y => tuL (rfF N ps t dm) (sgL N ps) y) (rfE N ps t dm) (fun y => by rw [tuL_len, rfF_len hR]) (by omega) (by omega) hl10 (by omega) (sgL_len N ps) hT0 hR.first.2 hR.first.1 w
    (fun w' hb => snode_v hn A cap w' (h.kept hb (Nat.le_refl _)) hml)
    (fun w' hb => sring_v hr A cap w' (h.kept hb (Nat.le_refl _)) hg)
    (fun w' hb => sdem_v ham A ps.length cap AD dc w' (hd.kept hb (Nat.le_refl _)) (by omega))
    (fun w' hb => by rw [hSS]; exact ssum_any AD dc dm 0 1000 w' (hd.kept hb (Nat.le_refl _)) hdm9 hdr (by omega) (by omega))
    (fun w' hb => (slp_any N A cap ps w' (h.kept hb (Nat.le_refl _)) hc hg hr).mono fun e w2 ⟨g, c, he, hg2, ho, hb2⟩ => ⟨g, c, by rw [he, sgL_len], hg2, (World.ownsRow.lt ho g rfl).2, ho.iat, hb2⟩)
    (fun w' hb => (sw_cap N (fst0 N ps) cap A ps w' (h.kept hb (Nat.le_refl _)) hle hc hl10).mono fun e w2 ⟨A2, c, he, hp, hcc, hb2⟩ => ⟨A2, c, by rw [he, hwl], hp, by omega, hb2⟩)
    (fun A2 c w' hcc hb hp => by
      have := stf_any N t A2 c (wo ps (fst0 N ps)) AD dc dm w' hp (by omega) (hd.kept hb (Nat.le_refl _)) hgw (by omega) (by omega) hdr hdl
      rw [hwl] at this
      refine this.mono ?_
      rintro e w2 ⟨g, c2, he, hg2, ho, hb2⟩
      have hcp := own_cap ho
      exact ⟨g, 0, c2, by rw [he, hT0], hg2, (World.ownsRow.lt ho g rfl).2, by omega, hcp.2, ho.iat, hb2⟩)
    (fun g c g2 c2 y w' hy1 hy2 hSg hF => stu_P (rfF_len hR t dm) (sgL_len N ps) (by omega) hl10 _ _ c2 c y w' hSg hF (by omega) hin (fun i _ => sgL_in N ps i))
    (fun g c y w' hb hy1 hy2 hi => by
      have hfl := rf_flo (N := N) (ps := ps) (t : Int) (x := y) hv hR hdr (by omega) hS (by omega) (by omega)
      exact sen_P (by rw [tuL_len, rfF_len hR]) rfl A _ cap _ w' (h.kept hb (Nat.le_refl _)) hi hfl.1)
  unfold rfA
  rw [hST]
  exact hK

/-- Where RingFlows fails, on both sides. -/
theorem rf_bad (n : Int) (ps : List Pp) (x : Int) (dm : List Int) (hbad : goodB n ps = false ∨ nodeB n ps x = false ∨ ringB n.toNat ps = false ∨ demB n ps dm = false ∨ 200 < sumL dm) (A : Option Addr) (cap : Nat) (AD : Option Addr) (dc : Nat) (w : World) (h : PAt w A ps) (hm : ps.length ≤ maxLen) (hc : ps.length ≤ cap) (hd : IAt w AD dm) (hdl : dm.length ≤ 1048576) :
    Calls Try.prog 34 #[nv n A ps.length cap, .int .i64 x, .slice AD dm.length dc] w (GivesI w [] false) := by
  cases hv : goodB n ps with
  | false => exact rf_no1 n A cap ps.length x AD dm.length dc w fun w' hb => sga_no1 n A cap ps w' (h.kept hb (Nat.le_refl _)) hm hv
  | true =>
    have hg := good_of hv
    obtain ⟨N, rfl⟩ := good_nat hg
    rw [Int.toNat_natCast] at hbad
    cases hr : ringB N ps with
    | false => exact rf_no1 N A cap ps.length x AD dm.length dc w fun w' hb => sga_no2 N A cap ps w' (h.kept hb (Nat.le_refl _)) hm hv hc hr
    | true =>
      have K1 := fun w' (hb : Below w.heap.size w w') => (sga_yes N A cap ps w' (h.kept hb (Nat.le_refl _)) hm hv hc hr).mono fun _ _ => rgs_P
      cases hdm : demB N ps dm with
      | false => exact rf_no2 N A cap ps.length x AD dm.length dc (sgL N ps) 0 false (.inl rfl) w K1 fun w' hb => sup_no N A cap ps AD dc dm w' (h.kept hb (Nat.le_refl _)) hm (hd.kept hb (Nat.le_refl _)) hdl hdm
      | true =>
        have K2 := fun w' (hb : Below w.heap.size w w') => sup_yes N A cap ps AD dc dm w' (h.kept hb (Nat.le_refl _)) hm (hd.kept hb (Nat.le_refl _)) hdl hdm
        by_cases hS : 200 < sumL dm
        · exact rf_no2 N A cap ps.length x AD dm.length dc (sgL N ps) (sumL dm) true (.inr hS) w K1 K2
        · have hn : nodeB N ps x = false := by
            rcases hbad with h1 | h1 | h1 | h1 | h1
            · rw [hv] at h1; cases h1
            · exact h1
            · rw [hr] at h1; cases h1
            · rw [hdm] at h1; cases h1
            · exact absurd h1 hS
          have hR := ring_rg hg hr
          obtain ⟨_, hdl2, hdr⟩ := demB_of hdm
          have h0 := sumL_nn hdr
          have hl10 := hg.2.2.1
          have hle := hR.lp.lt
          have hwl := wo_len ps (fst0 N ps) hle
          obtain ⟨S, hSS⟩ : ∃ S : Nat, (S : Int) = sumL dm := ⟨(sumL dm).toNat, by omega⟩
          exact rf_no3 N A cap ps.length (ps.length - 1) (fst0 N ps) S x AD dm.length dc (sgL N ps) (wo ps (fst0 N ps)) (by omega) w K1 (by rw [hSS]; exact K2)
            (fun g c w' hi => idx_P (sgL_len N ps) hl10 hle hR.first.1 (fun j hj => by have := hR.first.2 j hj; unfold lA; rw [this]; decide) _ c w' hi)
            (fun w' hb => (wo_all N (fst0 N ps) cap A ps w' (h.kept hb (Nat.le_refl _)) hle hc hl10).mono fun e w2 ⟨A2, c, he, hp, hb2⟩ => ⟨A2, c, by rw [he, hwl], hp, hb2⟩)
            (fun A2 c w' hb hp => by
              have := tfl_no1 N A2 c (wo ps (fst0 N ps)) x AD dc dm w' fun w2 hb2 => tf_node (by rw [wo_node hg]; exact hn) A2 c w2 (hp.kept hb2 (Nat.le_refl _)) (by unfold maxLen; omega)
              rw [hwl] at this
              exact this)
theorem srf_bad (n : Int) (ps : List Pp) (x : Int) (dm : List Int) (hbad : goodB n ps = false ∨ nodeB n ps x = false ∨ ringB n.toNat ps = false ∨ demB n ps dm = false ∨ 200 < sumL dm) (A : Option Addr) (cap : Nat) (AD : Option Addr) (dc : Nat) (w : World) (h : PAt w A ps) (hm : ps.length ≤ maxLen) (hd : IAt w AD dm) (hdl : dm.length ≤ 1048576) :
    Calls Try.prog 33 #[nv n A ps.length cap, .int .i64 x, .slice AD dm.length dc] w (GivesA w [] false) := by
  cases hn : nodeB n ps x with
  | false => exact srf_no1 n A cap ps.length x AD dm.length dc w fun w' hb => snode_v hn A cap w' (h.kept hb (Nat.le_refl _)) hm
  | true =>
    have hg := (nodeB_of hn).1
    obtain ⟨N, rfl⟩ := good_nat hg
    rw [Int.toNat_natCast] at hbad
    have K1 := fun w' (hb : Below w.heap.size w w') => snode_v hn A cap w' (h.kept hb (Nat.le_refl _)) hm
    cases hr : ringB N ps with
    | false => exact srf_no2 N A cap ps.length x AD dm.length dc w K1 fun w' hb => sring_v hr A cap w' (h.kept hb (Nat.le_refl _)) hg
    | true =>
      have K2 := fun w' (hb : Below w.heap.size w w') => sring_v hr A cap w' (h.kept hb (Nat.le_refl _)) hg
      cases ham : amtB dm N 0 1000 with
      | false => exact srf_no3 N A cap ps.length x AD dm.length dc w K1 K2 fun w' hb => sdem_v ham A ps.length cap AD dc w' (hd.kept hb (Nat.le_refl _)) hdl
      | true =>
        have hal := amt_len ham
        have hS : 200 < sumL dm := by
          rcases hbad with h1 | h1 | h1 | h1 | h1
          · rw [goodB_of hg] at h1; cases h1
          · rw [hn] at h1; cases h1
          · rw [hr] at h1; cases h1
          · unfold demB at h1; rw [goodB_of hg, ham] at h1; cases h1
          · exact h1
        exact srf_no4 N A cap ps.length x AD dm.length dc (sumL dm) hS w K1 K2 (fun w' hb => sdem_v ham A ps.length cap AD dc w' (hd.kept hb (Nat.le_refl _)) hdl) fun w' hb => ssum_any AD dc dm 0 1000 w' (hd.kept hb (Nat.le_refl _)) (by have := hg.2.1; omega) hal.2 (by omega) (by omega)

theorem law_rgf (n : Int) (A : Option Addr) (cap : Nat) (ps : List Pp) (x : Int) (AC : Option Addr) (cc : Nat) (cu : List Int) (w : World) (h : PAt w A ps) (hm : ps.length ≤ maxLen) (hc : IAt w AC cu) (hmc : cu.length ≤ maxLen) :
    Calls Try.prog 6 #[nv n A ps.length cap, .int .i64 x, .slice AC cu.length cc] w fun e w' => e = .returned (.bool true) ∧ Below w.heap.size w w' := by
  by_cases hbad : goodB n ps = false ∨ nodeB n ps x = false ∨ ringB n.toNat ps = false ∨ demB n ps cu = false ∨ 200 < sumL cu
  · exact walkRingFlows n A cap ps x AC cc cu w h hm hc hmc [] (by simp) false (fun A c AC cc w h hl _ hc hcl => srf_bad n ps x cu hbad A c AC cc w h (by unfold maxLen; omega) hc hcl) (fun A c AC cc w h hl he hc hcl => rf_bad n ps x cu hbad A c AC cc w h (by unfold maxLen; omega) (by omega) hc hcl)
  · simp only [not_or, Bool.not_eq_false] at hbad
    obtain ⟨hv, hn, hr, hdm, hS⟩ := hbad
    have hg := good_of hv
    obtain ⟨N, rfl⟩ := good_nat hg
    obtain ⟨_, h1, h2⟩ := nodeB_of hn
    obtain ⟨t, rfl⟩ : ∃ t : Nat, x = t := ⟨x.toNat, by omega⟩
    rw [Int.toNat_natCast] at hr
    have hR := ring_rg hg hr
    exact walkRingFlows N A cap ps t AC cc cu w h hm hc hmc (rfA N ps t cu) (by rw [rfA_len hR]; have := hg.2.2.1; omega) true (fun A c AC cc w h hl he hc hcl => (srf_yes N t A c ps AC cc cu w h (by omega) hc hv hr hn hdm (by omega)).mono fun _ _ h => h.any) (fun A c AC cc w h hl he hc hcl => rf_yes N t A c ps AC cc cu w h (by omega) hc hv hr hn hdm (by omega))
end Go.Proofs.Ytgjogjmfpbinfaa.S2

namespace Go.Proofs.Ytgjogjmfpbinfaa.fnExactRingFlows
open Go.ChangeShapes Go.WideShapes Go.ChangeAt Go.RowKit P2 S2
set_option linter.unusedVariables false

theorem own : ownKnob Try.prog.godebug = none := by kernel_rfl
theorem laidOut : laidOutB Try.prog = true := by kernel_rfl

set_option maxRecDepth 100000 in
theorem lifted (os : Os) (started : os.Started) (H : Type) (enc : TypeId × Value → H) :
    ReturnsInHanded {} Try.checked os 6 .any (Rows.fnExactRingFlowsSpec.pre6 enc Try.prog Try.f6 Rows.fnExactRingFlowsRow.domain false) (Rows.fnExactRingFlowsSpec.post enc Try.prog Try.f6 false true false false) := by
  refine returnsInHanded_of_change (C := Try.checked) own started (by kernel_rfl) Try.func6
    (ChangeSpec.witness6 (enc := enc) (C := Try.checked) false ⟨#[], #[.agg #[.int .i64 0, .slice none 0 0], .int .i64 0, .slice none 0 0], []⟩ 8 (by kernel_rfl) (by kernel_rfl) (by kernel_rfl) (by kernel_rfl)) ?_
  intro W base args ds gs before hval0 hW hcnd _
  have hval : ∀ (j : Nat) t v, Try.f6.params[j]? = some t → args[j]? = some v → Value.okWide Try.prog W .any base t v := hval0
  have hW' := hW
  obtain ⟨p, q, hA0, hV, rfl, hfz, hnd⟩ := hW
  have hA : DataW.TrodAll enc Try.prog W 0 (fun _ => true) true Try.f6.params.toList args.toList ds p := hA0
  rw [Try.params6] at hA hval
  obtain ⟨v0, v1, v2, d0, d1, d2, p0, p1, p2, rfl, rfl, rfl, h0, h1, h2⟩ := trodAll_three hA
  obtain ⟨rfl, rfl⟩ := trodVars_none hV
  have k0 := h0
  have lt0 : ∀ x ∈ p0, x.block < W.heap.size := by obtain ⟨m, hm⟩ := k0; exact DataW.trod_lt m _ _ _ hm
  obtain ⟨n0, A0, cap0, ps0, rfl, at0, mx0⟩ := net_open (hval 0 24 v0 rfl rfl) h0
  obtain ⟨a1, rfl, rfl, rfl, w1⟩ := open_int Try.underlying3 (hval 1 3 v1 rfl rfl) h1
  have k2 := h2
  have lt2 : ∀ x ∈ p2, x.block < W.heap.size := by obtain ⟨m, hm⟩ := k2; exact DataW.trod_lt m _ _ _ hm
  obtain ⟨A2, cap2, cu2, rfl, at2, mx2⟩ := intsarg_open (hval 2 34 v2 rfl rfl) h2
  clear hA0 hval0
  refine (law_rgf n0 A0 cap0 ps0 a1 A2 cap2 cu2 W at0 mx0 at2 mx2).mono fun e W' ⟨he, bel⟩ => ?_
  subst he
  exact ⟨_, rfl, _, _, _, [], _, [], hW', trodAll_mk1 (shut_bool Try.underlying4 _), trodAll_mk3 (Below.trod laidOut (by kernel_rfl) (of_decide_eq_true (by kernel_rfl)) k0 bel lt0) (shut_int Try.underlying3 w1) (Below.trod laidOut (by kernel_rfl) (of_decide_eq_true (by kernel_rfl)) k2 bel lt2), rfl, bel.frame _, fun h => by cases h⟩

theorem andB {a b : Bool} (h : a = true) (g : b = true) : (a && b) = true := by rw [h, g]; rfl
theorem heavy : ((Rows.fnExactRingFlowsRow.inPlace == Try.pinned.checked.prog.inPlace 6) && ((Rows.fnExactRingFlowsRow.unfollowed == Try.pinned.checked.prog.unfollowed 6) && ((Rows.fnExactRingFlowsRow.recurses == Try.pinned.checked.prog.recurses 6) && (Rows.fnExactRingFlowsRow.named == Try.pinned.checked.prog.varsNamed 6)))) = true := by kernel_rfl
set_option maxHeartbeats 4000000 in
theorem closed : joinedFacts Try.pinned.checked.prog 6 Try.f6 Rows.fnExactRingFlowsSpec Rows.fnExactRingFlowsRow = true := by
  unfold joinedFacts
  simp only [Bool.and_assoc]
  have h := heavy
  rw [Bool.and_eq_true, Bool.and_eq_true, Bool.and_eq_true] at h
  obtain ⟨h1, h2, h3, h4⟩ := h
  iterate 9 refine andB (by as_aux_lemma => kernel_rfl) ?_
  refine andB (by with_reducible exact h1) (andB (by with_reducible exact h2) (andB (by with_reducible exact h3) (andB (by with_reducible exact h4) ?_)))
  as_aux_lemma => kernel_rfl
theorem named : Try.pinned.checked.prog.funcNamed Rows.fnExactRingFlowsRow.func = some 6 := by kernel_rfl
theorem instd : Try.f6.isInstance Try.pinned.checked.prog Rows.fnExactRingFlowsRow.origin Rows.fnExactRingFlowsRow.targs := of_decide_eq_true (by kernel_rfl)
theorem proved : Rows.FnExactRingFlowsSaid :=
  OpenClaim.holds_of_wide 6 Try.f6 rfl rfl rfl rfl rfl rfl rfl ⟨rfl, rfl, rfl, rfl, rfl⟩ rfl rfl rfl rfl rfl named Try.func6 closed
    instd (by unfold Func.isWrapper; first | (rw [if_pos (by decide +kernel)]; kernel_rfl) | (rw [if_neg (by decide +kernel)]; exact ⟨rfl, rfl⟩))
    (fun os started H enc _ => lifted os started H enc)
end Go.Proofs.Ytgjogjmfpbinfaa.fnExactRingFlows
namespace Go.Proofs.Ytgjogjmfpbinfaa
theorem FnExactRingFlows_holds : Rows.FnExactRingFlowsSaid := fnExactRingFlows.proved
#print axioms FnExactRingFlows_holds
end Go.Proofs.Ytgjogjmfpbinfaa
