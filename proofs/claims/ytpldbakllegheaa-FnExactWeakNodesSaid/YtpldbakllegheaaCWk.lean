/- The law FnExactWeakNodes holds of the program: for every network, source, demands, head, heights and need WeakNodes answers as its model, writes into no argument, and its answer owns its memory. Condition: the arguments are laid out as the row says. -/
import Derived.Test.YtpldbakllegheaaNetKit
import Derived.Deep.DeepCutAuto
import Derived.Test.YtpldbakllegheaaKW
import Derived.Test.YtpldbakllegheaaRows
import Derived.Test.YtpldbakllegheaaOpenOne
import Derived.WalkKit
import Derived.ProofKit
import Derived.OpenShut
import Derived.ChangeOld
import Derived.Below
namespace Go.Proofs.Ytpldbakllegheaa.S2
open Go.RowKit P2

set_option maxHeartbeats 16000000 in
set_option maxRecDepth 100000 in
theorem walkWeakNodes (n : Int) (A : Option Addr) (cap : Nat) (ps : List Pp) (x1 : Int) (AC2 : Option Addr) (cc2 : Nat) (cu2 : List Int) (x3 : Int) (AC4 : Option Addr) (cc4 : Nat) (cu4 : List Int) (x5 : Int) (w : World) (h : PAt w A ps) (hm : ps.length ≤ maxLen) (hc2 : IAt w AC2 cu2) (hmc2 : cu2.length ≤ maxLen) (hc4 : IAt w AC4 cu4) (hmc4 : cu4.length ≤ maxLen) (I0 : List Int) (hI0 : I0.length ≤ 1000) (sv0 : Bool)
    (hs : ∀ (A : Option Addr) (cap : Nat) (AC2 : Option Addr) (cc2 : Nat) (AC4 : Option Addr) (cc4 : Nat) (w : World), PAt w A ps → ps.length ≤ 1048576 → ps.length = cap → IAt w AC2 cu2 → cu2.length ≤ 1048576 → IAt w AC4 cu4 → cu4.length ≤ 1048576 → Calls Try.prog 29 #[nv n A ps.length cap, .int .i64 x1, .slice AC2 cu2.length cc2, .int .i64 x3, .slice AC4 cu4.length cc4, .int .i64 x5] w (GivesA w I0 sv0))
    (hi : ∀ (A : Option Addr) (cap : Nat) (AC2 : Option Addr) (cc2 : Nat) (AC4 : Option Addr) (cc4 : Nat) (w : World), PAt w A ps → ps.length ≤ 1048576 → ps.length = cap → IAt w AC2 cu2 → cu2.length ≤ 1048576 → IAt w AC4 cu4 → cu4.length ≤ 1048576 → Calls Try.prog 30 #[nv n A ps.length cap, .int .i64 x1, .slice AC2 cu2.length cc2, .int .i64 x3, .slice AC4 cu4.length cc4, .int .i64 x5] w (GivesI w I0 sv0)) :
    Calls Try.prog 6 #[nv n A ps.length cap, .int .i64 x1, .slice AC2 cu2.length cc2, .int .i64 x3, .slice AC4 cu4.length cc4, .int .i64 x5] w fun e w' => e = .returned (.bool true) ∧ Below w.heap.size w w' := by
  have HA := Lib.hid h
  have HM := Lib.hid hm
  have HS := Lib.hid hs
  have HI := Lib.hid hi
  have HC2 := Lib.hid hc2
  have HMC2 := Lib.hid hmc2
  have HC4 := Lib.hid hc4
  have HMC4 := Lib.hid hmc4
  clear h hm hs hi hc2 hmc2 hc4 hmc4
  by_cases hci2 : 1048576 < cu2.length
  · have hlm2 : cu2.length ≤ 9223372036854775807 := by have := HMC2.out; unfold maxLen at this; omega
    go_enter Try.func6, Try.ntmps6
    go_wp2
    go_ret
    exact ⟨rfl, (Below.refl w.heap.size w).alloc (Nat.le_refl _) _⟩
  have hcl2 : cu2.length ≤ 1048576 := by omega
  clear hci2
  by_cases hci4 : 1048576 < cu4.length
  · have hlm4 : cu4.length ≤ 9223372036854775807 := by have := HMC4.out; unfold maxLen at this; omega
    go_enter Try.func6, Try.ntmps6
    go_wp2
    go_ret
    exact ⟨rfl, (Below.refl w.heap.size w).alloc (Nat.le_refl _) _⟩
  have hcl4 : cu4.length ≤ 1048576 := by omega
  clear hci4
  go_enter Try.func6, Try.ntmps6
  go_wp2_with (go_at_call 15; refine (sznet_le n A ps.length cap _ HM.out).mono ?_; rintro e w1 ⟨⟨r, rfl, hr⟩, hb1⟩; refine Hid.out ?_)
  have hB1 : Below (w.heap.size + 1) (w.alloc (.cells #[.int .i64 n, .slice A ps.length cap] 24)) w1 := by simpa using hb1
  clear hb1
  obtain ⟨b0, b1⟩ := box2 hB1
  have hz1 : w.heap.size < w1.heap.size := box_lt hB1
  by_cases hr0 : r < 0
  · refine Lib.hid ?_
    go_wp2
    go_ret
    exact ⟨rfl, below_box hB1⟩
  have hlen : ps.length ≤ 1048576 := by rcases hr with h | h; exact absurd h hr0; exact h.2.2
  clear hr
  refine Lib.hid ?_
  go_wp2_with (first | (go_at_call 17; refine (tonet_any n A cap ps _ (HA.out.kept (below_box hB1) (Nat.le_refl _)) hlen).mono ?_; rintro e w2 ⟨⟨ga, rfl, hga, hrowa⟩, hb2⟩; refine Hid.out ?_) | fail)
  have hz2 := hb2.size
  have hB2 := on_call hB1 hb2
  clear b0 b1
  obtain ⟨b0, b1⟩ := box2 hB2
  clear hB1 hb2
  have hla := hrowa.lt
  have Ta_2 := Lib.hid hrowa.at_
  clear hrowa
  refine Lib.hid ?_
  go_wp2_with (first | (go_at_call 18; refine (toints_any AC2 cc2 cu2 _ (HC2.out.kept (below_box hB2) (Nat.le_refl _)) hcl2).mono ?_; rintro e w3 ⟨⟨ge2, rfl, hge2, hOe2⟩, hb3⟩; refine Hid.out ?_) | fail)
  have hz3 := hb3.size
  have hB3 := on_call hB2 hb3
  have Ta_3 := Lib.hid (Ta_2.out.kept hb3 (Nat.le_refl _))
  clear b0 b1
  obtain ⟨b0, b1⟩ := box2 hB3
  clear hB2 Ta_2 hb3
  have hle2 := iown_lt' hOe2
  have Ie2_3 := Lib.hid hOe2
  clear hOe2
  refine Lib.hid ?_
  go_wp2_with (first | (go_at_call 18; refine (toints_any AC4 cc4 cu4 _ (HC4.out.kept (below_box hB3) (Nat.le_refl _)) hcl4).mono ?_; rintro e w4 ⟨⟨ge4, rfl, hge4, hOe4⟩, hb4⟩; refine Hid.out ?_) | fail)
  have hz4 := hb4.size
  have hB4 := on_call hB3 hb4
  have Ta_4 := Lib.hid (Ta_3.out.kept hb4 (Nat.le_refl _))
  have Ie2_4 := Lib.hid (Ie2_3.out.on hb4)
  clear b0 b1
  obtain ⟨b0, b1⟩ := box2 hB4
  clear hB3 Ta_3 Ie2_3 hb4
  have hle4 := iown_lt' hOe4
  have Ie4_4 := Lib.hid hOe4
  clear hOe4
  refine Lib.hid ?_
  go_wp2_with (first | (go_at_call 29; refine (HS.out _ _ _ _ _ _ _ Ta_4.out hlen rfl Ie2_4.out.iat hcl2 Ie4_4.out.iat hcl4).mono ?_; rintro e w5 ⟨gSi, oSi, cSi, rfl, hgSi, hSi, hb5, hlSi⟩; refine Hid.out ?_) | fail)
  have hz5 := hb5.size
  have hB5 := on_call hB4 hb5
  have Ta_5 := Lib.hid (Ta_4.out.kept hb5 (Nat.le_refl _))
  have Ie2_5 := Lib.hid (Ie2_4.out.on hb5)
  have Ie4_5 := Lib.hid (Ie4_4.out.on hb5)
  clear b0 b1
  obtain ⟨b0, b1⟩ := box2 hB5
  clear hB4 Ta_4 Ie2_4 Ie4_4 hb5
  have Ls_5 := Lib.hid hSi
  clear hSi
  clear Ta_5
  clear Ie2_5
  clear Ie4_5
  refine Lib.hid ?_
  go_wp2_with (first | (go_at_call 17; refine (tonet_any n A cap ps _ (HA.out.kept (below_box hB5) (Nat.le_refl _)) hlen).mono ?_; rintro e w6 ⟨⟨gx, rfl, hgx, hrowx⟩, hb6⟩; refine Hid.out ?_) | fail)
  have hz6 := hb6.size
  have hB6 := on_call hB5 hb6
  have Ls_6 := Lib.hid (Ls_5.out.low hb6 (by omega))
  clear b0 b1
  obtain ⟨b0, b1⟩ := box2 hB6
  clear hB5 Ls_5 hb6
  have hlx := hrowx.lt
  have Rx_6 := Lib.hid hrowx
  clear hrowx
  have hb6a := alloc_below w6 (.cells #[.int .i64 n, .slice (some ⟨gx, 0, none⟩) ps.length ps.length] 31)
  have hz6a : w6.heap.size < (w6.alloc (.cells #[.int .i64 n, .slice (some ⟨gx, 0, none⟩) ps.length ps.length] 31)).heap.size := by simp
  have hB6a := on_call hB6 hb6a
  have Ls_6a := Lib.hid (Ls_6.out.low hb6a (by omega))
  have Rx_6a := Lib.hid (Rx_6.out.kept hb6a (by omega))
  have hqn : w.heap.size < w6.heap.size := by omega
  refine Lib.hid ?_
  go_wp2_with (first | (go_at_call 18; refine (toints_any AC2 cc2 cu2 _ (HC2.out.kept (below_box hB6a) (Nat.le_refl _)) hcl2).mono ?_; rintro e w7 ⟨⟨gz2, rfl, hgz2, hOz2⟩, hb7⟩; refine Hid.out ?_) | fail)
  replace hb7 : Below (w6.alloc (.cells #[.int .i64 n, .slice (some ⟨gx, 0, none⟩) ps.length ps.length] 31)).heap.size (w6.alloc (.cells #[.int .i64 n, .slice (some ⟨gx, 0, none⟩) ps.length ps.length] 31)) w7 := hb7
  have Bx0_7 := (hb7.cell (p := ⟨w6.heap.size, 0, none⟩) (by dsimp only; omega)).trans (boxA0 (w := w6))
  have Bx1_7 := (hb7.cell (p := ⟨w6.heap.size, 1, none⟩) (by dsimp only; omega)).trans (boxA1 (w := w6))
  have hz7 := hb7.size
  have hB7 := on_call hB6a hb7
  have Ls_7 := Lib.hid (Ls_6a.out.low hb7 (by omega))
  have Rx_7 := Lib.hid (Rx_6a.out.kept hb7 (by omega))
  clear b0 b1
  obtain ⟨b0, b1⟩ := box2 hB7
  clear hB6a Ls_6a Rx_6a hb7
  clear hB6 Ls_6 Rx_6 hqn hb6a
  have hlz2 := iown_lt' hOz2
  have Iz2_7 := Lib.hid hOz2
  clear hOz2
  refine Lib.hid ?_
  go_wp2_with (first | (go_at_call 18; refine (toints_any AC4 cc4 cu4 _ (HC4.out.kept (below_box hB7) (Nat.le_refl _)) hcl4).mono ?_; rintro e w8 ⟨⟨gz4, rfl, hgz4, hOz4⟩, hb8⟩; refine Hid.out ?_) | fail)
  have hz8 := hb8.size
  have hB8 := on_call hB7 hb8
  have Ls_8 := Lib.hid (Ls_7.out.low hb8 (by omega))
  have Rx_8 := Lib.hid (Rx_7.out.kept hb8 (by omega))
  have Bx0_8 := (hb8.cell (p := ⟨w6.heap.size, 0, none⟩) (by dsimp only; omega)).trans Bx0_7
  have Bx1_8 := (hb8.cell (p := ⟨w6.heap.size, 1, none⟩) (by dsimp only; omega)).trans Bx1_7
  have Iz2_8 := Lib.hid (Iz2_7.out.on hb8)
  clear b0 b1
  obtain ⟨b0, b1⟩ := box2 hB8
  clear hB7 Ls_7 Rx_7 Bx0_7 Bx1_7 Iz2_7 hb8
  have hlz4 := iown_lt' hOz4
  have Iz4_8 := Lib.hid hOz4
  clear hOz4
  refine Lib.hid ?_
  go_wp2_with (first | (go_at_call 30; refine (HI.out _ _ _ _ _ _ _ Rx_8.out.at_ hlen rfl Iz2_8.out.iat hcl2 Iz4_8.out.iat hcl4).mono ?_; rintro e w9 ⟨gIpi, cIpi, rfl, hgIpi, hOpi, hb9⟩; refine Hid.out ?_) | fail)
  have hz9 := hb9.size
  have hB9 := on_call hB8 hb9
  have Ls_9 := Lib.hid (Ls_8.out.low hb9 (by omega))
  have Rx_9 := Lib.hid (Rx_8.out.kept hb9 (by omega))
  have Bx0_9 := (hb9.cell (p := ⟨w6.heap.size, 0, none⟩) (by dsimp only; omega)).trans Bx0_8
  have Bx1_9 := (hb9.cell (p := ⟨w6.heap.size, 1, none⟩) (by dsimp only; omega)).trans Bx1_8
  have Iz2_9 := Lib.hid (Iz2_8.out.on hb9)
  have Iz4_9 := Lib.hid (Iz4_8.out.on hb9)
  clear b0 b1
  obtain ⟨b0, b1⟩ := box2 hB9
  clear hB8 Ls_8 Rx_8 Bx0_8 Bx1_8 Iz2_8 Iz4_8 hb9
  have hlIpi := iown_lt' hOpi
  have Jpi_9 := Lib.hid hOpi
  clear hOpi
  refine Lib.hid ?_
  go_wp2_with (first | (go_at_call 21; refine (eqints_same _ _ _ _ I0 _ Jpi_9.out.iat Ls_9.out (by omega)).mono ?_; rintro e w10 ⟨rfl, hb10⟩; refine Hid.out ?_) | fail)
  have hz10 := hb10.size
  have hB10 := on_call hB9 hb10
  have Ls_10 := Lib.hid (Ls_9.out.low hb10 (by omega))
  have Rx_10 := Lib.hid (Rx_9.out.kept hb10 (by omega))
  have Bx0_10 := (hb10.cell (p := ⟨w6.heap.size, 0, none⟩) (by dsimp only; omega)).trans Bx0_9
  have Bx1_10 := (hb10.cell (p := ⟨w6.heap.size, 1, none⟩) (by dsimp only; omega)).trans Bx1_9
  have Iz2_10 := Lib.hid (Iz2_9.out.on hb10)
  have Iz4_10 := Lib.hid (Iz4_9.out.on hb10)
  have Jpi_10 := Lib.hid (Jpi_9.out.on hb10)
  clear b0 b1
  obtain ⟨b0, b1⟩ := box2 hB10
  clear hB9 Ls_9 Rx_9 Bx0_9 Bx1_9 Iz2_9 Iz4_9 Jpi_9 hb10
  refine Lib.hid ?_
  go_upto_region 16 with (fail)
  go_cut [79] (fun st wx => st = .bool false ∧ Hid (Below w10.heap.size w10 wx))
  case first =>
    have hA7 := Lib.hid (HA.out.kept (below_box hB10) (Nat.le_refl _))
    have hat7 := Lib.hid Rx_10.out.at_
    have hx4 : w6.heap.size < w10.heap.size := by omega
    go_region_with (first
      | (go_at_call 17; refine (tonet_any n A cap ps w10.drew hA7.out hlen).mono ?_; rintro e wqa ⟨⟨gqa, rfl, hgqa, hrowqa⟩, hbqa⟩; have HBqa := Lib.hid hbqa; have hatqa := Lib.hid hrowqa.at_; have hatqb := Lib.hid (PAt.kept (w := w10.drew) hat7.out hbqa (Nat.le_refl _)); have z0 := (hbqa.cell (p := ⟨w6.heap.size, 0, none⟩) hx4).trans Bx0_10; have z1 := (hbqa.cell (p := ⟨w6.heap.size, 1, none⟩) hx4).trans Bx1_10; clear hgqa hrowqa hbqa)
      | (go_at_call 20; refine (eqnet_same n _ _ _ _ ps wqa hatqb.out hatqa.out hlen).mono ?_; rintro e wqb ⟨rfl, hbqb⟩))
    all_goals
      go_wp2_with fail
      go_meet
      exact ⟨rfl, Lib.hid ((Below.refl w10.heap.size w10).drew.trans (HBqa.out.trans (hbqb.mono HBqa.out.size)))⟩
  case rest =>
    obtain ⟨rfl, hbc⟩ := hcut
    obtain ⟨w11, hwb⟩ : ∃ w11, w11 = wc := ⟨_, rfl⟩
    subst hwb
    have hb11 := hbc.out
    clear hbc
    have hz11 := hb11.size
    have hB11 := on_call hB10 hb11
    have Ls_11 := Lib.hid (Ls_10.out.low hb11 (by omega))
    have Rx_11 := Lib.hid (Rx_10.out.kept hb11 (by omega))
    have Bx0_11 := (hb11.cell (p := ⟨w6.heap.size, 0, none⟩) (by dsimp only; omega)).trans Bx0_10
    have Bx1_11 := (hb11.cell (p := ⟨w6.heap.size, 1, none⟩) (by dsimp only; omega)).trans Bx1_10
    have Iz2_11 := Lib.hid (Iz2_10.out.on hb11)
    have Iz4_11 := Lib.hid (Iz4_10.out.on hb11)
    have Jpi_11 := Lib.hid (Jpi_10.out.on hb11)
    clear b0 b1
    obtain ⟨b0, b1⟩ := box2 hB11
    clear hB10 Ls_10 Rx_10 Bx0_10 Bx1_10 Iz2_10 Iz4_10 Jpi_10 hb11
    refine Lib.hid ?_
    go_wp2_with (first | (go_at_call 18; refine (toints_any AC2 cc2 cu2 _ (HC2.out.kept (below_box hB11) (Nat.le_refl _)) hcl2).mono ?_; rintro e w12 ⟨⟨gu2, rfl, hgu2, hOu2⟩, hb12⟩; refine Hid.out ?_) | fail)
    have hz12 := hb12.size
    have hB12 := on_call hB11 hb12
    have Ls_12 := Lib.hid (Ls_11.out.low hb12 (by omega))
    have Rx_12 := Lib.hid (Rx_11.out.kept hb12 (by omega))
    have Bx0_12 := (hb12.cell (p := ⟨w6.heap.size, 0, none⟩) (by dsimp only; omega)).trans Bx0_11
    have Bx1_12 := (hb12.cell (p := ⟨w6.heap.size, 1, none⟩) (by dsimp only; omega)).trans Bx1_11
    have Iz2_12 := Lib.hid (Iz2_11.out.on hb12)
    have Iz4_12 := Lib.hid (Iz4_11.out.on hb12)
    have Jpi_12 := Lib.hid (Jpi_11.out.on hb12)
    clear b0 b1
    obtain ⟨b0, b1⟩ := box2 hB12
    clear hB11 Ls_11 Rx_11 Bx0_11 Bx1_11 Iz2_11 Iz4_11 Jpi_11 hb12
    have hlu2 := iown_lt' hOu2
    have Iu2_12 := Lib.hid hOu2
    clear hOu2
    refine Lib.hid ?_
    go_wp2_with (first | (go_at_call 21; refine (eqints_same _ _ _ _ cu2 _ Iz2_12.out.iat Iu2_12.out.iat hcl2).mono ?_; rintro e w13 ⟨rfl, hb13⟩; refine Hid.out ?_) | fail)
    have hz13 := hb13.size
    have hB13 := on_call hB12 hb13
    have Ls_13 := Lib.hid (Ls_12.out.low hb13 (by omega))
    have Rx_13 := Lib.hid (Rx_12.out.kept hb13 (by omega))
    have Bx0_13 := (hb13.cell (p := ⟨w6.heap.size, 0, none⟩) (by dsimp only; omega)).trans Bx0_12
    have Bx1_13 := (hb13.cell (p := ⟨w6.heap.size, 1, none⟩) (by dsimp only; omega)).trans Bx1_12
    have Iz2_13 := Lib.hid (Iz2_12.out.on hb13)
    have Iz4_13 := Lib.hid (Iz4_12.out.on hb13)
    have Jpi_13 := Lib.hid (Jpi_12.out.on hb13)
    have Iu2_13 := Lib.hid (Iu2_12.out.on hb13)
    clear b0 b1
    obtain ⟨b0, b1⟩ := box2 hB13
    clear hB12 Ls_12 Rx_12 Bx0_12 Bx1_12 Iz2_12 Iz4_12 Jpi_12 Iu2_12 hb13
    clear Iu2_13
    refine Lib.hid ?_
    go_wp2_with (first | (go_at_call 18; refine (toints_any AC4 cc4 cu4 _ (HC4.out.kept (below_box hB13) (Nat.le_refl _)) hcl4).mono ?_; rintro e w14 ⟨⟨gu4, rfl, hgu4, hOu4⟩, hb14⟩; refine Hid.out ?_) | fail)
    have hz14 := hb14.size
    have hB14 := on_call hB13 hb14
    have Ls_14 := Lib.hid (Ls_13.out.low hb14 (by omega))
    have Rx_14 := Lib.hid (Rx_13.out.kept hb14 (by omega))
    have Bx0_14 := (hb14.cell (p := ⟨w6.heap.size, 0, none⟩) (by dsimp only; omega)).trans Bx0_13
    have Bx1_14 := (hb14.cell (p := ⟨w6.heap.size, 1, none⟩) (by dsimp only; omega)).trans Bx1_13
    have Iz2_14 := Lib.hid (Iz2_13.out.on hb14)
    have Iz4_14 := Lib.hid (Iz4_13.out.on hb14)
    have Jpi_14 := Lib.hid (Jpi_13.out.on hb14)
    clear b0 b1
    obtain ⟨b0, b1⟩ := box2 hB14
    clear hB13 Ls_13 Rx_13 Bx0_13 Bx1_13 Iz2_13 Iz4_13 Jpi_13 hb14
    have hlu4 := iown_lt' hOu4
    have Iu4_14 := Lib.hid hOu4
    clear hOu4
    refine Lib.hid ?_
    go_wp2_with (first | (go_at_call 21; refine (eqints_same _ _ _ _ cu4 _ Iz4_14.out.iat Iu4_14.out.iat hcl4).mono ?_; rintro e w15 ⟨rfl, hb15⟩; refine Hid.out ?_) | fail)
    have hz15 := hb15.size
    have hB15 := on_call hB14 hb15
    have Ls_15 := Lib.hid (Ls_14.out.low hb15 (by omega))
    have Rx_15 := Lib.hid (Rx_14.out.kept hb15 (by omega))
    have Bx0_15 := (hb15.cell (p := ⟨w6.heap.size, 0, none⟩) (by dsimp only; omega)).trans Bx0_14
    have Bx1_15 := (hb15.cell (p := ⟨w6.heap.size, 1, none⟩) (by dsimp only; omega)).trans Bx1_14
    have Iz2_15 := Lib.hid (Iz2_14.out.on hb15)
    have Iz4_15 := Lib.hid (Iz4_14.out.on hb15)
    have Jpi_15 := Lib.hid (Jpi_14.out.on hb15)
    have Iu4_15 := Lib.hid (Iu4_14.out.on hb15)
    clear b0 b1
    obtain ⟨b0, b1⟩ := box2 hB15
    clear hB14 Ls_14 Rx_14 Bx0_14 Bx1_14 Iz2_14 Iz4_14 Jpi_14 Iu4_14 hb15
    clear Iu4_15
    have HRX := Rx_15
    clear Rx_15
    refine Lib.hid ?_
    go_wp2_with (first | (go_at_call 24; refine (marknetk_any n gx 1 ps _ HRX.out hlen (by omega)).mono ?_; rintro e w16 ⟨rfl, hg16⟩; refine Hid.out ?_) | fail)
    have hz16 := hg16.size
    have hB16 := hB15.grown hg16 (by omega) (fun k hk => by simp at hk; omega)
    have Ls_16 := Lib.hid (Ls_15.out.far hg16 (by omega))
    have Bx0_16 := (hg16.cell_far ⟨w6.heap.size, 0, none⟩ (by dsimp only; omega) (by simp; omega)).trans Bx0_15
    have Bx1_16 := (hg16.cell_far ⟨w6.heap.size, 1, none⟩ (by dsimp only; omega) (by simp; omega)).trans Bx1_15
    have Iz2_16 := Lib.hid (Iz2_15.out.far hg16 (by omega))
    have Iz4_16 := Lib.hid (Iz4_15.out.far hg16 (by omega))
    have Jpi_16 := Lib.hid (Jpi_15.out.far hg16 (by omega))
    clear b0 b1
    obtain ⟨b0, b1⟩ := box2 hB16
    clear hB15 Ls_15 Bx0_15 Bx1_15 Iz2_15 Iz4_15 Jpi_15 hg16
    clear Bx0_16 Bx1_16
    have HIZ2 := Iz2_16
    clear Iz2_16
    refine Lib.hid ?_
    go_wp2_with (first | (go_at_call 25; refine (markints_i _ gz2 _ (1 + ps.length * 4) _ cu2 _ HIZ2.out hcl2 (by omega) (by omega)).mono ?_; rintro e w17 ⟨rfl, _, hg17⟩; refine Hid.out ?_) | fail)
    have hz17 := hg17.size
    have hB17 := hB16.grown hg17 (by omega) (fun k hk => by simp at hk; omega)
    have Ls_17 := Lib.hid (Ls_16.out.far hg17 (by omega))
    have Iz4_17 := Lib.hid (Iz4_16.out.far hg17 (by omega))
    have Jpi_17 := Lib.hid (Jpi_16.out.far hg17 (by omega))
    clear b0 b1
    obtain ⟨b0, b1⟩ := box2 hB17
    clear hB16 Ls_16 Iz4_16 Jpi_16 hg17
    have HIZ4 := Iz4_17
    clear Iz4_17
    refine Lib.hid ?_
    go_wp2_with (first | (go_at_call 25; refine (markints_i _ gz4 _ (1 + ps.length * 4 + cu2.length) _ cu4 _ HIZ4.out hcl4 (by omega) (by omega)).mono ?_; rintro e w18 ⟨rfl, _, hg18⟩; refine Hid.out ?_) | fail)
    have hz18 := hg18.size
    have hB18 := hB17.grown hg18 (by omega) (fun k hk => by simp at hk; omega)
    have Ls_18 := Lib.hid (Ls_17.out.far hg18 (by omega))
    have Jpi_18 := Lib.hid (Jpi_17.out.far hg18 (by omega))
    clear b0 b1
    obtain ⟨b0, b1⟩ := box2 hB18
    clear hB17 Ls_17 Jpi_17 hg18
    refine Lib.hid ?_
    go_wp2_with (first | (go_at_call 21; refine (eqints_same _ _ _ _ I0 _ Jpi_18.out.iat Ls_18.out (by omega)).mono ?_; rintro e w19 ⟨rfl, hb19⟩; refine Hid.out ?_) | fail)
    have hz19 := hb19.size
    have hB19 := on_call hB18 hb19
    have Ls_19 := Lib.hid (Ls_18.out.low hb19 (by omega))
    have Jpi_19 := Lib.hid (Jpi_18.out.on hb19)
    clear b0 b1
    obtain ⟨b0, b1⟩ := box2 hB19
    clear hB18 Ls_18 Jpi_18 hb19
    have HOJ := Jpi_19
    clear Jpi_19
    refine Lib.hid ?_
    go_wp2_with (first | (go_at_call 25; refine (markints_i _ gIpi cIpi (1) _ I0 _ HOJ.out (by omega) (by omega) (by omega)).mono ?_; rintro e w20 ⟨rfl, hM, hg20⟩; refine Hid.out ?_) | fail)
    have hz20 := hg20.size
    have hB20 := hB19.grown hg20 (by omega) (fun k hk => by simp at hk; omega)
    have Ls_20 := Lib.hid (Ls_19.out.far hg20 (by omega))
    clear b0 b1
    obtain ⟨b0, b1⟩ := box2 hB20
    clear hB19 Ls_19 hg20
    have Ki_20 := Lib.hid hM.iat_marks
    clear hM
    refine Lib.hid ?_
    go_wp2_with (first | (go_at_call 26; refine (heldints_i _ _ (1) I0.length _ _ Ki_20.out (by omega) (by omega) (by omega)).mono ?_; rintro e w21 ⟨rfl, hb21⟩; refine Hid.out ?_) | fail)
    have hz21 := hb21.size
    have hB21 := on_call hB20 hb21
    have Ls_21 := Lib.hid (Ls_20.out.low hb21 (by omega))
    have Ki_21 := Lib.hid (Ki_20.out.low hb21 (by omega))
    clear b0 b1
    obtain ⟨b0, b1⟩ := box2 hB21
    clear hB20 Ls_20 Ki_20 hb21
    refine Lib.hid ?_
    go_wp2_with (first | (go_at_call 17; refine (tonet_any n A cap ps _ (HA.out.kept (below_box hB21) (Nat.le_refl _)) hlen).mono ?_; rintro e w22 ⟨⟨gy, rfl, hgy, hrowy⟩, hb22⟩; refine Hid.out ?_) | fail)
    have hz22 := hb22.size
    have hB22 := on_call hB21 hb22
    have Ls_22 := Lib.hid (Ls_21.out.low hb22 (by omega))
    have Ki_22 := Lib.hid (Ki_21.out.low hb22 (by omega))
    clear b0 b1
    obtain ⟨b0, b1⟩ := box2 hB22
    clear hB21 Ls_21 Ki_21 hb22
    have hly := hrowy.lt
    have Ty_22 := Lib.hid hrowy.at_
    clear hrowy
    refine Lib.hid ?_
    go_wp2_with (first | (go_at_call 18; refine (toints_any AC2 cc2 cu2 _ (HC2.out.kept (below_box hB22) (Nat.le_refl _)) hcl2).mono ?_; rintro e w23 ⟨⟨gv2, rfl, hgv2, hOv2⟩, hb23⟩; refine Hid.out ?_) | fail)
    have hz23 := hb23.size
    have hB23 := on_call hB22 hb23
    have Ls_23 := Lib.hid (Ls_22.out.low hb23 (by omega))
    have Ki_23 := Lib.hid (Ki_22.out.low hb23 (by omega))
    have Ty_23 := Lib.hid (Ty_22.out.kept hb23 (Nat.le_refl _))
    clear b0 b1
    obtain ⟨b0, b1⟩ := box2 hB23
    clear hB22 Ls_22 Ki_22 Ty_22 hb23
    have hlv2 := iown_lt' hOv2
    have Iv2_23 := Lib.hid hOv2
    clear hOv2
    refine Lib.hid ?_
    go_wp2_with (first | (go_at_call 18; refine (toints_any AC4 cc4 cu4 _ (HC4.out.kept (below_box hB23) (Nat.le_refl _)) hcl4).mono ?_; rintro e w24 ⟨⟨gv4, rfl, hgv4, hOv4⟩, hb24⟩; refine Hid.out ?_) | fail)
    have hz24 := hb24.size
    have hB24 := on_call hB23 hb24
    have Ls_24 := Lib.hid (Ls_23.out.low hb24 (by omega))
    have Ki_24 := Lib.hid (Ki_23.out.low hb24 (by omega))
    have Ty_24 := Lib.hid (Ty_23.out.kept hb24 (Nat.le_refl _))
    have Iv2_24 := Lib.hid (Iv2_23.out.on hb24)
    clear b0 b1
    obtain ⟨b0, b1⟩ := box2 hB24
    clear hB23 Ls_23 Ki_23 Ty_23 Iv2_23 hb24
    have hlv4 := iown_lt' hOv4
    have Iv4_24 := Lib.hid hOv4
    clear hOv4
    refine Lib.hid ?_
    go_wp2_with (first | (go_at_call 30; refine (HI.out _ _ _ _ _ _ _ Ty_24.out hlen rfl Iv2_24.out.iat hcl2 Iv4_24.out.iat hcl4).mono ?_; rintro e w25 ⟨gIhi, cIhi, rfl, hgIhi, hOhi, hb25⟩; refine Hid.out ?_) | fail)
    have hz25 := hb25.size
    have hB25 := on_call hB24 hb25
    have Ls_25 := Lib.hid (Ls_24.out.low hb25 (by omega))
    have Ki_25 := Lib.hid (Ki_24.out.low hb25 (by omega))
    have Ty_25 := Lib.hid (Ty_24.out.kept hb25 (Nat.le_refl _))
    have Iv2_25 := Lib.hid (Iv2_24.out.on hb25)
    have Iv4_25 := Lib.hid (Iv4_24.out.on hb25)
    clear b0 b1
    obtain ⟨b0, b1⟩ := box2 hB25
    clear hB24 Ls_24 Ki_24 Ty_24 Iv2_24 Iv4_24 hb25
    have hlIhi := iown_lt' hOhi
    have Jhi_25 := Lib.hid hOhi
    clear hOhi
    clear Ty_25
    clear Iv2_25
    clear Iv4_25
    refine Lib.hid ?_
    go_wp2_with (first | (go_at_call 21; refine (eqints_same _ _ _ _ I0 _ Jhi_25.out.iat Ls_25.out (by omega)).mono ?_; rintro e w26 ⟨rfl, hb26⟩; refine Hid.out ?_) | fail)
    have hz26 := hb26.size
    have hB26 := on_call hB25 hb26
    have Ls_26 := Lib.hid (Ls_25.out.low hb26 (by omega))
    have Ki_26 := Lib.hid (Ki_25.out.low hb26 (by omega))
    have Jhi_26 := Lib.hid (Jhi_25.out.on hb26)
    clear b0 b1
    obtain ⟨b0, b1⟩ := box2 hB26
    clear hB25 Ls_25 Ki_25 Jhi_25 hb26
    refine Lib.hid ?_
    go_wp2_with (first | (go_at_call 26; refine (heldints_i _ _ (1) I0.length _ _ Ki_26.out (by omega) (by omega) (by omega)).mono ?_; rintro e w27 ⟨rfl, hb27⟩; refine Hid.out ?_) | fail)
    have hz27 := hb27.size
    have hB27 := on_call hB26 hb27
    have Ls_27 := Lib.hid (Ls_26.out.low hb27 (by omega))
    have Ki_27 := Lib.hid (Ki_26.out.low hb27 (by omega))
    have Jhi_27 := Lib.hid (Jhi_26.out.on hb27)
    clear b0 b1
    obtain ⟨b0, b1⟩ := box2 hB27
    clear hB26 Ls_26 Ki_26 Jhi_26 hb27
    refine Lib.hid ?_
    go_wp2_with fail
    go_ret
    exact ⟨rfl, below_box hB27⟩
end Go.Proofs.Ytpldbakllegheaa.S2

namespace Go.Proofs.Ytpldbakllegheaa.S2
open Go.RowKit P2
theorem law_wk (n : Int) (A : Option Addr) (cap : Nat) (ps : List Pp) (x : Int) (AC : Option Addr) (cc : Nat) (cu : List Int) (h0 : Int) (AH : Option Addr) (ch : Nat) (hs : List Int) (need : Int) (w : World) (h : PAt w A ps) (hm : ps.length ≤ maxLen) (hc : IAt w AC cu) (hmc : cu.length ≤ maxLen) (hi : IAt w AH hs) (hmi : hs.length ≤ maxLen) :
    Calls Try.prog 6 #[nv n A ps.length cap, .int .i64 x, .slice AC cu.length cc, .int .i64 h0, .slice AH hs.length ch, .int .i64 need] w fun e w' => e = .returned (.bool true) ∧ Below w.heap.size w w' := by
  cases hv : askP n ps x cu h0 hs with
  | false => exact walkWeakNodes n A cap ps x AC cc cu h0 AH ch hs need w h hm hc hmc hi hmi [] (by simp) false (fun A c AC cc AH ch w h hl _ hc hcl hi hil => swk_no n A c ps x AC cc cu h0 AH ch hs need w h hm hc hcl hi hil (.inl hv)) (fun A c AC cc AH ch w h hl _ hc hcl hi hil => wk_no1 n A c ps x AC cc cu h0 AH ch hs need w (fun w' hb => pr_bad n A c ps x AC cc cu h0 AH ch hs w' (h.kept hb (Nat.le_refl _)) hm (hc.kept hb (Nat.le_refl _)) hcl (hi.kept hb (Nat.le_refl _)) hil (askP_no hv)))
  | true =>
    obtain ⟨hva, hvs⟩ := askP_of hv
    obtain ⟨N, X, rfl, rfl, h1, h2, h3, h4⟩ := askH_of hva
    have hN8 := (nodeB_of h1).1.2.1
    have hL8 : (prL N ps X cu h0 hs).length ≤ 8 := by rw [prL_len]; omega
    cases hne : hdR need with
    | false => exact walkWeakNodes N A cap ps X AC cc cu h0 AH ch hs need w h hm hc hmc hi hmi [] (by simp) false (fun A c AC cc AH ch w h hl _ hc hcl hi hil => swk_no N A c ps X AC cc cu h0 AH ch hs need w h hm hc hcl hi hil (.inr hne)) (fun A c AC cc AH ch w h hl _ hc hcl hi hil => wk_no2 N A c ps X AC cc cu h0 AH ch hs need _ w hne (fun w' hb => pr_yes N X A c ps AC cc cu h0 AH ch hs w' (h.kept hb (Nat.le_refl _)) hm (hc.kept hb (Nat.le_refl _)) hcl (hi.kept hb (Nat.le_refl _)) h1 h3 h2 h4 hvs))
    | true => exact walkWeakNodes N A cap ps X AC cc cu h0 AH ch hs need w h hm hc hmc hi hmi (wkTo (prL N ps X cu h0 hs) need (prL N ps X cu h0 hs).length) (by have := wkTo_len (prL N ps X cu h0 hs) need (prL N ps X cu h0 hs).length; omega) true (fun A c AC cc AH ch w h hl hcap hc hcl hi hil => swk_yes N X A c ps AC cc cu h0 AH ch hs need w h hm hcap hc hcl hi hil hva h1 h3 h2 h4 hvs hne) (fun A c AC cc AH ch w h hl _ hc hcl hi hil => wk_yes N A c ps X AC cc cu h0 AH ch hs need _ w hL8 hne (fun w' hb => pr_yes N X A c ps AC cc cu h0 AH ch hs w' (h.kept hb (Nat.le_refl _)) hm (hc.kept hb (Nat.le_refl _)) hcl (hi.kept hb (Nat.le_refl _)) h1 h3 h2 h4 hvs))
end Go.Proofs.Ytpldbakllegheaa.S2

namespace Go.Proofs.Ytpldbakllegheaa.fnExactWeakNodes
open Go.ChangeShapes Go.WideShapes Go.ChangeAt Go.RowKit P2 S2
set_option linter.unusedVariables false

theorem own : ownKnob Try.prog.godebug = none := by kernel_rfl
theorem laidOut : laidOutB Try.prog = true := by kernel_rfl

set_option maxRecDepth 100000 in
theorem lifted (os : Os) (started : os.Started) (H : Type) (enc : TypeId × Value → H) :
    ReturnsInHanded {} Try.checked os 6 .any (Rows.fnExactWeakNodesSpec.pre6 enc Try.prog Try.f6 Rows.fnExactWeakNodesRow.domain false) (Rows.fnExactWeakNodesSpec.post enc Try.prog Try.f6 false true false false) := by
  refine returnsInHanded_of_change (C := Try.checked) own started (by kernel_rfl) Try.func6
    (ChangeSpec.witness6 (enc := enc) (C := Try.checked) false ⟨#[], #[.agg #[.int .i64 0, .slice none 0 0], .int .i64 0, .slice none 0 0, .int .i64 0, .slice none 0 0, .int .i64 0], []⟩ 8 (by kernel_rfl) (by kernel_rfl) (by kernel_rfl) (by kernel_rfl)) ?_
  intro W base args ds gs before hval0 hW hcnd _
  have hval : ∀ (j : Nat) t v, Try.f6.params[j]? = some t → args[j]? = some v → Value.okWide Try.prog W .any base t v := hval0
  have hW' := hW
  obtain ⟨p, q, hA0, hV, rfl, hfz, hnd⟩ := hW
  have hA : DataW.TrodAll enc Try.prog W 0 (fun _ => true) true Try.f6.params.toList args.toList ds p := hA0
  rw [Try.params6] at hA hval
  obtain ⟨v0, v1, v2, v3, v4, v5, d0, d1, d2, d3, d4, d5, p0, p1, p2, p3, p4, p5, rfl, rfl, rfl, h0, h1, h2, h3, h4, h5⟩ := trodAll_six hA
  obtain ⟨rfl, rfl⟩ := trodVars_none hV
  have k0 := h0
  have lt0 : ∀ x ∈ p0, x.block < W.heap.size := by obtain ⟨m, hm⟩ := k0; exact DataW.trod_lt m _ _ _ hm
  obtain ⟨n0, A0, cap0, ps0, rfl, at0, mx0⟩ := net_open (hval 0 24 v0 rfl rfl) h0
  obtain ⟨a1, rfl, rfl, rfl, w1⟩ := open_int Try.underlying3 (hval 1 3 v1 rfl rfl) h1
  have k2 := h2
  have lt2 : ∀ x ∈ p2, x.block < W.heap.size := by obtain ⟨m, hm⟩ := k2; exact DataW.trod_lt m _ _ _ hm
  obtain ⟨A2, cap2, cu2, rfl, at2, mx2⟩ := intsarg_open (hval 2 25 v2 rfl rfl) h2
  obtain ⟨a3, rfl, rfl, rfl, w3⟩ := open_int Try.underlying3 (hval 3 3 v3 rfl rfl) h3
  have k4 := h4
  have lt4 : ∀ x ∈ p4, x.block < W.heap.size := by obtain ⟨m, hm⟩ := k4; exact DataW.trod_lt m _ _ _ hm
  obtain ⟨A4, cap4, cu4, rfl, at4, mx4⟩ := intsarg_open (hval 4 25 v4 rfl rfl) h4
  obtain ⟨a5, rfl, rfl, rfl, w5⟩ := open_int Try.underlying3 (hval 5 3 v5 rfl rfl) h5
  clear hA0 hval0
  refine (law_wk n0 A0 cap0 ps0 a1 A2 cap2 cu2 a3 A4 cap4 cu4 a5 W at0 mx0 at2 mx2 at4 mx4).mono fun e W' ⟨he, bel⟩ => ?_
  subst he
  exact ⟨_, rfl, _, _, _, [], _, [], hW', trodAll_mk1 (shut_bool Try.underlying4 _), trodAll_mk6 (Below.trod laidOut (by kernel_rfl) (of_decide_eq_true (by kernel_rfl)) k0 bel lt0) (shut_int Try.underlying3 w1) (Below.trod laidOut (by kernel_rfl) (of_decide_eq_true (by kernel_rfl)) k2 bel lt2) (shut_int Try.underlying3 w3) (Below.trod laidOut (by kernel_rfl) (of_decide_eq_true (by kernel_rfl)) k4 bel lt4) (shut_int Try.underlying3 w5), rfl, bel.frame _, fun h => by cases h⟩

theorem proved : Rows.FnExactWeakNodesSaid :=
  OpenClaim.holds_of_wide 6 Try.f6 rfl rfl rfl rfl rfl rfl rfl ⟨rfl, rfl, rfl, rfl, rfl⟩ rfl rfl rfl rfl rfl (by kernel_rfl) Try.func6 (by kernel_rfl)
    (of_decide_eq_true (by kernel_rfl)) (by unfold Func.isWrapper; first | (rw [if_pos (by decide +kernel)]; kernel_rfl) | (rw [if_neg (by decide +kernel)]; exact ⟨rfl, rfl⟩))
    (fun os started H enc _ => lifted os started H enc)
end Go.Proofs.Ytpldbakllegheaa.fnExactWeakNodes
namespace Go.Proofs.Ytpldbakllegheaa
theorem FnExactWeakNodes_holds : Rows.FnExactWeakNodesSaid := fnExactWeakNodes.proved
#print axioms FnExactWeakNodes_holds
end Go.Proofs.Ytpldbakllegheaa
