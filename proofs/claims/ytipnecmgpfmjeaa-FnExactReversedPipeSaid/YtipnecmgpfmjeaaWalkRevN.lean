/- The walk of the law FnExactReversedPipe: contracts. Conditions: each theorem's own premises. -/
import Derived.Test.YtipnecmgpfmjeaaNetKit
import Derived.Deep.DeepCutAuto
namespace Go.Proofs.Ytipnecmgpfmjeaa.S2
open Go.RowKit P2

set_option maxHeartbeats 16000000 in
set_option maxRecDepth 100000 in
theorem walkReversedPipen (n : Int) (A : Option Addr) (cap : Nat) (ps : List Pp) (AC1 : Option Addr) (cc1 : Nat) (cu1 : List Int) (x2 : Int) (w : World) (h : PAt w A ps) (hm : ps.length ≤ maxLen) (hc1 : IAt w AC1 cu1) (hmc1 : cu1.length ≤ maxLen) (N0 : Int) (I0 : List Int) (hI0 : I0.length ≤ 1000) (sv0 : Bool)
    (hs : ∀ (A : Option Addr) (cap : Nat) (AC1 : Option Addr) (cc1 : Nat) (w : World), PAt w A ps → ps.length ≤ 1048576 → ps.length = cap → IAt w AC1 cu1 → cu1.length ≤ 1048576 → Calls Try.prog 29 #[nv n A ps.length cap, .slice AC1 cu1.length cc1, .int .i64 x2] w (GivesXA w N0 [] I0 sv0))
    (hi : ∀ (A : Option Addr) (cap : Nat) (AC1 : Option Addr) (cc1 : Nat) (w : World), PAt w A ps → ps.length ≤ 1048576 → ps.length = cap → IAt w AC1 cu1 → cu1.length ≤ 1048576 → Calls Try.prog 28 #[nv n A ps.length cap, .slice AC1 cu1.length cc1, .int .i64 x2] w (GivesX0 w N0 I0 sv0)) :
    Calls Try.prog 11 #[nv n A ps.length cap, .slice AC1 cu1.length cc1, .int .i64 x2] w fun e w' => e = .returned (.bool true) ∧ Below w.heap.size w w' := by
  have HA := Lib.hid h
  have HM := Lib.hid hm
  have HS := Lib.hid hs
  have HI := Lib.hid hi
  have HC1 := Lib.hid hc1
  have HMC1 := Lib.hid hmc1
  clear h hm hs hi hc1 hmc1
  by_cases hci1 : 1048576 < cu1.length
  · have hlm1 : cu1.length ≤ 9223372036854775807 := by have := HMC1.out; unfold maxLen at this; omega
    go_enter Try.func11, Try.ntmps11
    go_wp2
    go_ret
    exact ⟨rfl, (Below.refl w.heap.size w).alloc (Nat.le_refl _) _⟩
  have hcl1 : cu1.length ≤ 1048576 := by omega
  clear hci1
  go_enter Try.func11, Try.ntmps11
  go_wp2_with (go_at_call 37; refine (sznet_le n A ps.length cap _ HM.out).mono ?_; rintro e w1 ⟨⟨r, rfl, hr⟩, hb1⟩; refine Hid.out ?_)
  have hB1 : Below (w.heap.size + 1) (w.alloc (.cells #[.int .i64 n, .slice A ps.length cap] 59)) w1 := by simpa using hb1
  clear hb1
  obtain ⟨b0, b1⟩ := box2 hB1
  have hz1 : w.heap.size < w1.heap.size := box_lt hB1
  by_cases hr0 : r < 0
  · refine Lib.hid ?_
    go_wp2
    go_ret
    exact ⟨rfl, below_box hB1⟩
  have hlen : ps.length ≤ 1048576 := by rcases hr with h | h; exact absurd h hr0; exact h.2.2
  clear hr
  refine Lib.hid ?_
  go_wp2_with (first | (go_at_call 39; refine (tonet_any n A cap ps _ (HA.out.kept (below_box hB1) (Nat.le_refl _)) hlen).mono ?_; rintro e w2 ⟨⟨ga, rfl, hga, hrowa⟩, hb2⟩; refine Hid.out ?_) | fail)
  have hz2 := hb2.size
  have hB2 := on_call hB1 hb2
  clear b0 b1
  obtain ⟨b0, b1⟩ := box2 hB2
  clear hB1 hb2
  have hla := hrowa.lt
  have Ta_2 := Lib.hid hrowa.at_
  clear hrowa
  refine Lib.hid ?_
  go_wp2_with (first | (go_at_call 42; refine (toints_any AC1 cc1 cu1 _ (HC1.out.kept (below_box hB2) (Nat.le_refl _)) hcl1).mono ?_; rintro e w3 ⟨⟨ge1, rfl, hge1, hOe1⟩, hb3⟩; refine Hid.out ?_) | fail)
  have hz3 := hb3.size
  have hB3 := on_call hB2 hb3
  have Ta_3 := Lib.hid (Ta_2.out.kept hb3 (Nat.le_refl _))
  clear b0 b1
  obtain ⟨b0, b1⟩ := box2 hB3
  clear hB2 Ta_2 hb3
  have hle1 := iown_lt' hOe1
  have Ie1_3 := Lib.hid hOe1
  clear hOe1
  refine Lib.hid ?_
  go_wp2_with (first | (go_at_call 29; refine (HS.out _ _ _ _ _ Ta_3.out hlen rfl Ie1_3.out.iat hcl1).mono ?_; rintro e w4 ⟨AS, cS, gSi, oSi, cSi, rfl, hlS, hS, hgSi, hSi, hb4, hlSi⟩; refine Hid.out ?_) | fail)
  have hz4 := hb4.size
  have hB4 := on_call hB3 hb4
  have Ta_4 := Lib.hid (Ta_3.out.kept hb4 (Nat.le_refl _))
  have Ie1_4 := Lib.hid (Ie1_3.out.on hb4)
  clear b0 b1
  obtain ⟨b0, b1⟩ := box2 hB4
  clear hB3 Ta_3 Ie1_3 hb4
  have SS_4 := Lib.hid (PB.of hS)
  have hSz : w4.heap.size ≤ w4.heap.size := Nat.le_refl _
  clear hS
  have Ls_4 := Lib.hid hSi
  clear hSi
  clear Ta_4
  clear Ie1_4
  have hb4a := alloc_below w4 (.cells #[.int .i64 N0, .slice AS 0 cS] 26)
  have hz4a : w4.heap.size < (w4.alloc (.cells #[.int .i64 N0, .slice AS 0 cS] 26)).heap.size := by simp
  have hB4a := on_call hB4 hb4a
  have SS_4a := Lib.hid (SS_4.out.kept hb4a)
  have Ls_4a := Lib.hid (Ls_4.out.low hb4a (by omega))
  have hqn : w.heap.size < w4.heap.size := by omega
  refine Lib.hid ?_
  go_wp2_with (first | (go_at_call 39; refine (tonet_any n A cap ps _ (HA.out.kept (below_box hB4a) (Nat.le_refl _)) hlen).mono ?_; rintro e w5 ⟨⟨gx, rfl, hgx, hrowx⟩, hb5⟩; refine Hid.out ?_) | fail)
  replace hb5 : Below (w4.alloc (.cells #[.int .i64 N0, .slice AS 0 cS] 26)).heap.size (w4.alloc (.cells #[.int .i64 N0, .slice AS 0 cS] 26)) w5 := hb5
  have Bw0_5 := (hb5.cell (p := ⟨w4.heap.size, 0, none⟩) (by dsimp only; omega)).trans (boxA0 (w := w4))
  have Bw1_5 := (hb5.cell (p := ⟨w4.heap.size, 1, none⟩) (by dsimp only; omega)).trans (boxA1 (w := w4))
  have hz5 := hb5.size
  have hB5 := on_call hB4a hb5
  have SS_5 := Lib.hid (SS_4a.out.kept hb5)
  have Ls_5 := Lib.hid (Ls_4a.out.low hb5 (by omega))
  clear b0 b1
  obtain ⟨b0, b1⟩ := box2 hB5
  clear hB4a SS_4a Ls_4a hb5
  clear hB4 SS_4 Ls_4 hqn hb4a
  have hlx := hrowx.lt
  have Rx_5 := Lib.hid hrowx
  clear hrowx
  have hb5a := alloc_below w5 (.cells #[.int .i64 n, .slice (some ⟨gx, 0, none⟩) ps.length ps.length] 26)
  have hz5a : w5.heap.size < (w5.alloc (.cells #[.int .i64 n, .slice (some ⟨gx, 0, none⟩) ps.length ps.length] 26)).heap.size := by simp
  have hB5a := on_call hB5 hb5a
  have SS_5a := Lib.hid (SS_5.out.kept hb5a)
  have Ls_5a := Lib.hid (Ls_5.out.low hb5a (by omega))
  have Bw0_5a := Lib.hid ((hb5a.cell (p := ⟨w4.heap.size, 0, none⟩) (by dsimp only; omega)).trans Bw0_5)
  have Bw1_5a := Lib.hid ((hb5a.cell (p := ⟨w4.heap.size, 1, none⟩) (by dsimp only; omega)).trans Bw1_5)
  have Rx_5a := Lib.hid (Rx_5.out.kept hb5a (by omega))
  have hqn : w.heap.size < w5.heap.size := by omega
  have hqw : w4.heap.size < w5.heap.size := by omega
  refine Lib.hid ?_
  go_wp2_with (first | (go_at_call 42; refine (toints_any AC1 cc1 cu1 _ (HC1.out.kept (below_box hB5a) (Nat.le_refl _)) hcl1).mono ?_; rintro e w6 ⟨⟨gz1, rfl, hgz1, hOz1⟩, hb6⟩; refine Hid.out ?_) | fail)
  replace hb6 : Below (w5.alloc (.cells #[.int .i64 n, .slice (some ⟨gx, 0, none⟩) ps.length ps.length] 26)).heap.size (w5.alloc (.cells #[.int .i64 n, .slice (some ⟨gx, 0, none⟩) ps.length ps.length] 26)) w6 := hb6
  have Bx0_6 := (hb6.cell (p := ⟨w5.heap.size, 0, none⟩) (by dsimp only; omega)).trans (boxA0 (w := w5))
  have Bx1_6 := (hb6.cell (p := ⟨w5.heap.size, 1, none⟩) (by dsimp only; omega)).trans (boxA1 (w := w5))
  have hz6 := hb6.size
  have hB6 := on_call hB5a hb6
  have SS_6 := Lib.hid (SS_5a.out.kept hb6)
  have Ls_6 := Lib.hid (Ls_5a.out.low hb6 (by omega))
  have Bw0_6 := (hb6.cell (p := ⟨w4.heap.size, 0, none⟩) (by dsimp only; omega)).trans Bw0_5a.out
  have Bw1_6 := (hb6.cell (p := ⟨w4.heap.size, 1, none⟩) (by dsimp only; omega)).trans Bw1_5a.out
  have Rx_6 := Lib.hid (Rx_5a.out.kept hb6 (by omega))
  clear b0 b1
  obtain ⟨b0, b1⟩ := box2 hB6
  clear hB5a SS_5a Ls_5a Bw0_5a Bw1_5a Rx_5a hb6
  clear hB5 SS_5 Ls_5 Bw0_5 Bw1_5 Rx_5 hqn hqw hb5a
  have hlz1 := iown_lt' hOz1
  have Iz1_6 := Lib.hid hOz1
  clear hOz1
  refine Lib.hid ?_
  go_wp2_with (first | (go_at_call 28; refine (HI.out _ _ _ _ _ Rx_6.out.at_ hlen rfl Iz1_6.out.iat hcl1).mono ?_; rintro e w7 ⟨gIpi, cIpi, rfl, hgIpi, hOpi, hb7⟩; refine Hid.out ?_) | fail)
  have hz7 := hb7.size
  have hB7 := on_call hB6 hb7
  have SS_7 := Lib.hid (SS_6.out.kept hb7)
  have Ls_7 := Lib.hid (Ls_6.out.low hb7 (by omega))
  have Bw0_7 := (hb7.cell (p := ⟨w4.heap.size, 0, none⟩) (by dsimp only; omega)).trans Bw0_6
  have Bw1_7 := (hb7.cell (p := ⟨w4.heap.size, 1, none⟩) (by dsimp only; omega)).trans Bw1_6
  have Rx_7 := Lib.hid (Rx_6.out.kept hb7 (by omega))
  have Bx0_7 := (hb7.cell (p := ⟨w5.heap.size, 0, none⟩) (by dsimp only; omega)).trans Bx0_6
  have Bx1_7 := (hb7.cell (p := ⟨w5.heap.size, 1, none⟩) (by dsimp only; omega)).trans Bx1_6
  have Iz1_7 := Lib.hid (Iz1_6.out.on hb7)
  clear b0 b1
  obtain ⟨b0, b1⟩ := box2 hB7
  clear hB6 SS_6 Ls_6 Bw0_6 Bw1_6 Rx_6 Bx0_6 Bx1_6 Iz1_6 hb7
  have hlIpi := iown_lt' hOpi
  have Jpi_7 := Lib.hid hOpi
  clear hOpi
  have hb7a := alloc_below w7 (.cells #[.int .i64 N0, .slice none 0 0] 26)
  have hz7a : w7.heap.size < (w7.alloc (.cells #[.int .i64 N0, .slice none 0 0] 26)).heap.size := by simp
  have hB7a := on_call hB7 hb7a
  have SS_7a := Lib.hid (SS_7.out.kept hb7a)
  have Ls_7a := Lib.hid (Ls_7.out.low hb7a (by omega))
  have Bw0_7a := Lib.hid ((hb7a.cell (p := ⟨w4.heap.size, 0, none⟩) (by dsimp only; omega)).trans Bw0_7)
  have Bw1_7a := Lib.hid ((hb7a.cell (p := ⟨w4.heap.size, 1, none⟩) (by dsimp only; omega)).trans Bw1_7)
  have Rx_7a := Lib.hid (Rx_7.out.kept hb7a (by omega))
  have Bx0_7a := Lib.hid ((hb7a.cell (p := ⟨w5.heap.size, 0, none⟩) (by dsimp only; omega)).trans Bx0_7)
  have Bx1_7a := Lib.hid ((hb7a.cell (p := ⟨w5.heap.size, 1, none⟩) (by dsimp only; omega)).trans Bx1_7)
  have Iz1_7a := Lib.hid (Iz1_7.out.on hb7a)
  have Jpi_7a := Lib.hid (Jpi_7.out.on hb7a)
  have hqn : w.heap.size < w7.heap.size := by omega
  have hqw : w4.heap.size < w7.heap.size := by omega
  have hqx : w5.heap.size < w7.heap.size := by omega
  refine Lib.hid ?_
  go_wp2_with (first | (go_at_call 40; refine (eqnet_same N0 _ _ _ _ [] _ (.inl rfl) (.inl rfl) (by simp)).mono ?_; rintro e w8 ⟨rfl, hb8⟩; refine Hid.out ?_) | fail)
  replace hb8 : Below (w7.alloc (.cells #[.int .i64 N0, .slice none 0 0] 26)).heap.size (w7.alloc (.cells #[.int .i64 N0, .slice none 0 0] 26)) w8 := hb8
  have Bg0_8 := (hb8.cell (p := ⟨w7.heap.size, 0, none⟩) (by dsimp only; omega)).trans (boxA0 (w := w7))
  have Bg1_8 := (hb8.cell (p := ⟨w7.heap.size, 1, none⟩) (by dsimp only; omega)).trans (boxA1 (w := w7))
  have hz8 := hb8.size
  have hB8 := on_call hB7a hb8
  have SS_8 := Lib.hid (SS_7a.out.kept hb8)
  have Ls_8 := Lib.hid (Ls_7a.out.low hb8 (by omega))
  have Bw0_8 := (hb8.cell (p := ⟨w4.heap.size, 0, none⟩) (by dsimp only; omega)).trans Bw0_7a.out
  have Bw1_8 := (hb8.cell (p := ⟨w4.heap.size, 1, none⟩) (by dsimp only; omega)).trans Bw1_7a.out
  have Rx_8 := Lib.hid (Rx_7a.out.kept hb8 (by omega))
  have Bx0_8 := (hb8.cell (p := ⟨w5.heap.size, 0, none⟩) (by dsimp only; omega)).trans Bx0_7a.out
  have Bx1_8 := (hb8.cell (p := ⟨w5.heap.size, 1, none⟩) (by dsimp only; omega)).trans Bx1_7a.out
  have Iz1_8 := Lib.hid (Iz1_7a.out.on hb8)
  have Jpi_8 := Lib.hid (Jpi_7a.out.on hb8)
  clear b0 b1
  obtain ⟨b0, b1⟩ := box2 hB8
  clear hB7a SS_7a Ls_7a Bw0_7a Bw1_7a Rx_7a Bx0_7a Bx1_7a Iz1_7a Jpi_7a hb8
  clear hB7 SS_7 Ls_7 Bw0_7 Bw1_7 Rx_7 Bx0_7 Bx1_7 Iz1_7 Jpi_7 hqn hqw hqx hb7a
  refine Lib.hid ?_
  go_wp2_with (first | (go_at_call 43; refine (eqints_same _ _ _ _ I0 _ Jpi_8.out.iat Ls_8.out (by omega)).mono ?_; rintro e w9 ⟨rfl, hb9⟩; refine Hid.out ?_) | fail)
  have hz9 := hb9.size
  have hB9 := on_call hB8 hb9
  have SS_9 := Lib.hid (SS_8.out.kept hb9)
  have Ls_9 := Lib.hid (Ls_8.out.low hb9 (by omega))
  have Bw0_9 := (hb9.cell (p := ⟨w4.heap.size, 0, none⟩) (by dsimp only; omega)).trans Bw0_8
  have Bw1_9 := (hb9.cell (p := ⟨w4.heap.size, 1, none⟩) (by dsimp only; omega)).trans Bw1_8
  have Rx_9 := Lib.hid (Rx_8.out.kept hb9 (by omega))
  have Bx0_9 := (hb9.cell (p := ⟨w5.heap.size, 0, none⟩) (by dsimp only; omega)).trans Bx0_8
  have Bx1_9 := (hb9.cell (p := ⟨w5.heap.size, 1, none⟩) (by dsimp only; omega)).trans Bx1_8
  have Iz1_9 := Lib.hid (Iz1_8.out.on hb9)
  have Jpi_9 := Lib.hid (Jpi_8.out.on hb9)
  have Bg0_9 := (hb9.cell (p := ⟨w7.heap.size, 0, none⟩) (by dsimp only; omega)).trans Bg0_8
  have Bg1_9 := (hb9.cell (p := ⟨w7.heap.size, 1, none⟩) (by dsimp only; omega)).trans Bg1_8
  clear b0 b1
  obtain ⟨b0, b1⟩ := box2 hB9
  clear hB8 SS_8 Ls_8 Bw0_8 Bw1_8 Rx_8 Bx0_8 Bx1_8 Iz1_8 Jpi_8 Bg0_8 Bg1_8 hb9
  refine Lib.hid ?_
  go_upto_region 13 with (fail)
  go_cut [71] (fun st wx => st = .bool false ∧ Hid (Below w9.heap.size w9 wx))
  case first =>
    have hA7 := Lib.hid (HA.out.kept (below_box hB9) (Nat.le_refl _))
    have hat7 := Lib.hid Rx_9.out.at_
    have hx4 : w5.heap.size < w9.heap.size := by omega
    go_region_with (first
      | (go_at_call 39; refine (tonet_any n A cap ps w9.drew hA7.out hlen).mono ?_; rintro e wqa ⟨⟨gqa, rfl, hgqa, hrowqa⟩, hbqa⟩; have HBqa := Lib.hid hbqa; have hatqa := Lib.hid hrowqa.at_; have hatqb := Lib.hid (PAt.kept (w := w9.drew) hat7.out hbqa (Nat.le_refl _)); have z0 := (hbqa.cell (p := ⟨w5.heap.size, 0, none⟩) hx4).trans Bx0_9; have z1 := (hbqa.cell (p := ⟨w5.heap.size, 1, none⟩) hx4).trans Bx1_9; clear hgqa hrowqa hbqa)
      | (go_at_call 40; refine (eqnet_same n _ _ _ _ ps wqa hatqb.out hatqa.out hlen).mono ?_; rintro e wqb ⟨rfl, hbqb⟩))
    all_goals
      go_wp2_with fail
      go_meet
      exact ⟨rfl, Lib.hid ((Below.refl w9.heap.size w9).drew.trans (HBqa.out.trans (hbqb.mono HBqa.out.size)))⟩
  case rest =>
    obtain ⟨rfl, hbc⟩ := hcut
    obtain ⟨w10, hwb⟩ : ∃ w10, w10 = wc := ⟨_, rfl⟩
    subst hwb
    have hb10 := hbc.out
    clear hbc
    have hz10 := hb10.size
    have hB10 := on_call hB9 hb10
    have SS_10 := Lib.hid (SS_9.out.kept hb10)
    have Ls_10 := Lib.hid (Ls_9.out.low hb10 (by omega))
    have Bw0_10 := (hb10.cell (p := ⟨w4.heap.size, 0, none⟩) (by dsimp only; omega)).trans Bw0_9
    have Bw1_10 := (hb10.cell (p := ⟨w4.heap.size, 1, none⟩) (by dsimp only; omega)).trans Bw1_9
    have Rx_10 := Lib.hid (Rx_9.out.kept hb10 (by omega))
    have Bx0_10 := (hb10.cell (p := ⟨w5.heap.size, 0, none⟩) (by dsimp only; omega)).trans Bx0_9
    have Bx1_10 := (hb10.cell (p := ⟨w5.heap.size, 1, none⟩) (by dsimp only; omega)).trans Bx1_9
    have Iz1_10 := Lib.hid (Iz1_9.out.on hb10)
    have Jpi_10 := Lib.hid (Jpi_9.out.on hb10)
    have Bg0_10 := (hb10.cell (p := ⟨w7.heap.size, 0, none⟩) (by dsimp only; omega)).trans Bg0_9
    have Bg1_10 := (hb10.cell (p := ⟨w7.heap.size, 1, none⟩) (by dsimp only; omega)).trans Bg1_9
    clear b0 b1
    obtain ⟨b0, b1⟩ := box2 hB10
    clear hB9 SS_9 Ls_9 Bw0_9 Bw1_9 Rx_9 Bx0_9 Bx1_9 Iz1_9 Jpi_9 Bg0_9 Bg1_9 hb10
    refine Lib.hid ?_
    go_wp2_with (first | (go_at_call 42; refine (toints_any AC1 cc1 cu1 _ (HC1.out.kept (below_box hB10) (Nat.le_refl _)) hcl1).mono ?_; rintro e w11 ⟨⟨gu1, rfl, hgu1, hOu1⟩, hb11⟩; refine Hid.out ?_) | fail)
    have hz11 := hb11.size
    have hB11 := on_call hB10 hb11
    have SS_11 := Lib.hid (SS_10.out.kept hb11)
    have Ls_11 := Lib.hid (Ls_10.out.low hb11 (by omega))
    have Bw0_11 := (hb11.cell (p := ⟨w4.heap.size, 0, none⟩) (by dsimp only; omega)).trans Bw0_10
    have Bw1_11 := (hb11.cell (p := ⟨w4.heap.size, 1, none⟩) (by dsimp only; omega)).trans Bw1_10
    have Rx_11 := Lib.hid (Rx_10.out.kept hb11 (by omega))
    have Bx0_11 := (hb11.cell (p := ⟨w5.heap.size, 0, none⟩) (by dsimp only; omega)).trans Bx0_10
    have Bx1_11 := (hb11.cell (p := ⟨w5.heap.size, 1, none⟩) (by dsimp only; omega)).trans Bx1_10
    have Iz1_11 := Lib.hid (Iz1_10.out.on hb11)
    have Jpi_11 := Lib.hid (Jpi_10.out.on hb11)
    have Bg0_11 := (hb11.cell (p := ⟨w7.heap.size, 0, none⟩) (by dsimp only; omega)).trans Bg0_10
    have Bg1_11 := (hb11.cell (p := ⟨w7.heap.size, 1, none⟩) (by dsimp only; omega)).trans Bg1_10
    clear b0 b1
    obtain ⟨b0, b1⟩ := box2 hB11
    clear hB10 SS_10 Ls_10 Bw0_10 Bw1_10 Rx_10 Bx0_10 Bx1_10 Iz1_10 Jpi_10 Bg0_10 Bg1_10 hb11
    have hlu1 := iown_lt' hOu1
    have Iu1_11 := Lib.hid hOu1
    clear hOu1
    refine Lib.hid ?_
    go_wp2_with (first | (go_at_call 43; refine (eqints_same _ _ _ _ cu1 _ Iz1_11.out.iat Iu1_11.out.iat hcl1).mono ?_; rintro e w12 ⟨rfl, hb12⟩; refine Hid.out ?_) | fail)
    have hz12 := hb12.size
    have hB12 := on_call hB11 hb12
    have SS_12 := Lib.hid (SS_11.out.kept hb12)
    have Ls_12 := Lib.hid (Ls_11.out.low hb12 (by omega))
    have Bw0_12 := (hb12.cell (p := ⟨w4.heap.size, 0, none⟩) (by dsimp only; omega)).trans Bw0_11
    have Bw1_12 := (hb12.cell (p := ⟨w4.heap.size, 1, none⟩) (by dsimp only; omega)).trans Bw1_11
    have Rx_12 := Lib.hid (Rx_11.out.kept hb12 (by omega))
    have Bx0_12 := (hb12.cell (p := ⟨w5.heap.size, 0, none⟩) (by dsimp only; omega)).trans Bx0_11
    have Bx1_12 := (hb12.cell (p := ⟨w5.heap.size, 1, none⟩) (by dsimp only; omega)).trans Bx1_11
    have Iz1_12 := Lib.hid (Iz1_11.out.on hb12)
    have Jpi_12 := Lib.hid (Jpi_11.out.on hb12)
    have Bg0_12 := (hb12.cell (p := ⟨w7.heap.size, 0, none⟩) (by dsimp only; omega)).trans Bg0_11
    have Bg1_12 := (hb12.cell (p := ⟨w7.heap.size, 1, none⟩) (by dsimp only; omega)).trans Bg1_11
    have Iu1_12 := Lib.hid (Iu1_11.out.on hb12)
    clear b0 b1
    obtain ⟨b0, b1⟩ := box2 hB12
    clear hB11 SS_11 Ls_11 Bw0_11 Bw1_11 Rx_11 Bx0_11 Bx1_11 Iz1_11 Jpi_11 Bg0_11 Bg1_11 Iu1_11 hb12
    clear Iu1_12
    have HRX := Rx_12
    clear Rx_12
    refine Lib.hid ?_
    go_wp2_with (first | (go_at_call 44; refine (marknetk_any n gx 1 ps _ HRX.out hlen (by omega)).mono ?_; rintro e w13 ⟨rfl, hg13⟩; refine Hid.out ?_) | fail)
    have hz13 := hg13.size
    have hB13 := hB12.grown hg13 (by omega) (fun k hk => by simp at hk; omega)
    have SS_13 := Lib.hid (SS_12.out.far hg13 (by omega))
    have Ls_13 := Lib.hid (Ls_12.out.far hg13 (by omega))
    have Bw0_13 := (hg13.cell_far ⟨w4.heap.size, 0, none⟩ (by dsimp only; omega) (by simp; omega)).trans Bw0_12
    have Bw1_13 := (hg13.cell_far ⟨w4.heap.size, 1, none⟩ (by dsimp only; omega) (by simp; omega)).trans Bw1_12
    have Bx0_13 := (hg13.cell_far ⟨w5.heap.size, 0, none⟩ (by dsimp only; omega) (by simp; omega)).trans Bx0_12
    have Bx1_13 := (hg13.cell_far ⟨w5.heap.size, 1, none⟩ (by dsimp only; omega) (by simp; omega)).trans Bx1_12
    have Iz1_13 := Lib.hid (Iz1_12.out.far hg13 (by omega))
    have Jpi_13 := Lib.hid (Jpi_12.out.far hg13 (by omega))
    have Bg0_13 := (hg13.cell_far ⟨w7.heap.size, 0, none⟩ (by dsimp only; omega) (by simp; omega)).trans Bg0_12
    have Bg1_13 := (hg13.cell_far ⟨w7.heap.size, 1, none⟩ (by dsimp only; omega) (by simp; omega)).trans Bg1_12
    clear b0 b1
    obtain ⟨b0, b1⟩ := box2 hB13
    clear hB12 SS_12 Ls_12 Bw0_12 Bw1_12 Bx0_12 Bx1_12 Iz1_12 Jpi_12 Bg0_12 Bg1_12 hg13
    clear Bx0_13 Bx1_13
    have HIZ1 := Iz1_13
    clear Iz1_13
    refine Lib.hid ?_
    go_wp2_with (first | (go_at_call 45; refine (markints_i _ gz1 _ (1 + ps.length * 4) _ cu1 _ HIZ1.out hcl1 (by omega) (by omega)).mono ?_; rintro e w14 ⟨rfl, _, hg14⟩; refine Hid.out ?_) | fail)
    have hz14 := hg14.size
    have hB14 := hB13.grown hg14 (by omega) (fun k hk => by simp at hk; omega)
    have SS_14 := Lib.hid (SS_13.out.far hg14 (by omega))
    have Ls_14 := Lib.hid (Ls_13.out.far hg14 (by omega))
    have Bw0_14 := (hg14.cell_far ⟨w4.heap.size, 0, none⟩ (by dsimp only; omega) (by simp; omega)).trans Bw0_13
    have Bw1_14 := (hg14.cell_far ⟨w4.heap.size, 1, none⟩ (by dsimp only; omega) (by simp; omega)).trans Bw1_13
    have Jpi_14 := Lib.hid (Jpi_13.out.far hg14 (by omega))
    have Bg0_14 := (hg14.cell_far ⟨w7.heap.size, 0, none⟩ (by dsimp only; omega) (by simp; omega)).trans Bg0_13
    have Bg1_14 := (hg14.cell_far ⟨w7.heap.size, 1, none⟩ (by dsimp only; omega) (by simp; omega)).trans Bg1_13
    clear b0 b1
    obtain ⟨b0, b1⟩ := box2 hB14
    clear hB13 SS_13 Ls_13 Bw0_13 Bw1_13 Jpi_13 Bg0_13 Bg1_13 hg14
    refine Lib.hid ?_
    go_wp2_with (first | (go_at_call 40; refine (eqnet_same N0 _ _ _ _ [] _ (.inl rfl) (.inl rfl) (by simp)).mono ?_; rintro e w15 ⟨rfl, hb15⟩; refine Hid.out ?_) | fail)
    have hz15 := hb15.size
    have hB15 := on_call hB14 hb15
    have SS_15 := Lib.hid (SS_14.out.kept hb15)
    have Ls_15 := Lib.hid (Ls_14.out.low hb15 (by omega))
    have Bw0_15 := (hb15.cell (p := ⟨w4.heap.size, 0, none⟩) (by dsimp only; omega)).trans Bw0_14
    have Bw1_15 := (hb15.cell (p := ⟨w4.heap.size, 1, none⟩) (by dsimp only; omega)).trans Bw1_14
    have Jpi_15 := Lib.hid (Jpi_14.out.on hb15)
    have Bg0_15 := (hb15.cell (p := ⟨w7.heap.size, 0, none⟩) (by dsimp only; omega)).trans Bg0_14
    have Bg1_15 := (hb15.cell (p := ⟨w7.heap.size, 1, none⟩) (by dsimp only; omega)).trans Bg1_14
    clear b0 b1
    obtain ⟨b0, b1⟩ := box2 hB15
    clear hB14 SS_14 Ls_14 Bw0_14 Bw1_14 Jpi_14 Bg0_14 Bg1_14 hb15
    refine Lib.hid ?_
    go_wp2_with (first | (go_at_call 43; refine (eqints_same _ _ _ _ I0 _ Jpi_15.out.iat Ls_15.out (by omega)).mono ?_; rintro e w16 ⟨rfl, hb16⟩; refine Hid.out ?_) | fail)
    have hz16 := hb16.size
    have hB16 := on_call hB15 hb16
    have SS_16 := Lib.hid (SS_15.out.kept hb16)
    have Ls_16 := Lib.hid (Ls_15.out.low hb16 (by omega))
    have Bw0_16 := (hb16.cell (p := ⟨w4.heap.size, 0, none⟩) (by dsimp only; omega)).trans Bw0_15
    have Bw1_16 := (hb16.cell (p := ⟨w4.heap.size, 1, none⟩) (by dsimp only; omega)).trans Bw1_15
    have Jpi_16 := Lib.hid (Jpi_15.out.on hb16)
    have Bg0_16 := (hb16.cell (p := ⟨w7.heap.size, 0, none⟩) (by dsimp only; omega)).trans Bg0_15
    have Bg1_16 := (hb16.cell (p := ⟨w7.heap.size, 1, none⟩) (by dsimp only; omega)).trans Bg1_15
    clear b0 b1
    obtain ⟨b0, b1⟩ := box2 hB16
    clear hB15 SS_15 Ls_15 Bw0_15 Bw1_15 Jpi_15 Bg0_15 Bg1_15 hb16
    refine Lib.hid ?_
    go_wp2_with (first | (go_at_call 44; refine (marknet_nil N0 _).mono ?_; rintro e w17 ⟨rfl, hb17⟩; refine Hid.out ?_) | fail)
    have hz17 := hb17.size
    have hB17 := on_call hB16 hb17
    have SS_17 := Lib.hid (SS_16.out.kept hb17)
    have Ls_17 := Lib.hid (Ls_16.out.low hb17 (by omega))
    have Bw0_17 := (hb17.cell (p := ⟨w4.heap.size, 0, none⟩) (by dsimp only; omega)).trans Bw0_16
    have Bw1_17 := (hb17.cell (p := ⟨w4.heap.size, 1, none⟩) (by dsimp only; omega)).trans Bw1_16
    have Jpi_17 := Lib.hid (Jpi_16.out.on hb17)
    have Bg0_17 := (hb17.cell (p := ⟨w7.heap.size, 0, none⟩) (by dsimp only; omega)).trans Bg0_16
    have Bg1_17 := (hb17.cell (p := ⟨w7.heap.size, 1, none⟩) (by dsimp only; omega)).trans Bg1_16
    clear b0 b1
    obtain ⟨b0, b1⟩ := box2 hB17
    clear hB16 SS_16 Ls_16 Bw0_16 Bw1_16 Jpi_16 Bg0_16 Bg1_16 hb17
    have HOJ := Jpi_17
    clear Jpi_17
    refine Lib.hid ?_
    go_wp2_with (first | (go_at_call 45; refine (markints_i _ gIpi cIpi (1) _ I0 _ HOJ.out (by omega) (by omega) (by omega)).mono ?_; rintro e w18 ⟨rfl, hM, hg18⟩; refine Hid.out ?_) | fail)
    have hz18 := hg18.size
    have hB18 := hB17.grown hg18 (by omega) (fun k hk => by simp at hk; omega)
    have SS_18 := Lib.hid (SS_17.out.far hg18 (by omega))
    have Ls_18 := Lib.hid (Ls_17.out.far hg18 (by omega))
    have Bw0_18 := (hg18.cell_far ⟨w4.heap.size, 0, none⟩ (by dsimp only; omega) (by simp; omega)).trans Bw0_17
    have Bw1_18 := (hg18.cell_far ⟨w4.heap.size, 1, none⟩ (by dsimp only; omega) (by simp; omega)).trans Bw1_17
    have Bg0_18 := (hg18.cell_far ⟨w7.heap.size, 0, none⟩ (by dsimp only; omega) (by simp; omega)).trans Bg0_17
    have Bg1_18 := (hg18.cell_far ⟨w7.heap.size, 1, none⟩ (by dsimp only; omega) (by simp; omega)).trans Bg1_17
    clear b0 b1
    obtain ⟨b0, b1⟩ := box2 hB18
    clear hB17 SS_17 Ls_17 Bw0_17 Bw1_17 Bg0_17 Bg1_17 hg18
    have Ki_18 := Lib.hid hM.iat_marks
    clear hM
    refine Lib.hid ?_
    go_wp2_with (first | (go_at_call 48; refine (heldnet_nil N0 _).mono ?_; rintro e w19 ⟨rfl, hb19⟩; refine Hid.out ?_) | fail)
    have hz19 := hb19.size
    have hB19 := on_call hB18 hb19
    have SS_19 := Lib.hid (SS_18.out.kept hb19)
    have Ls_19 := Lib.hid (Ls_18.out.low hb19 (by omega))
    have Bw0_19 := (hb19.cell (p := ⟨w4.heap.size, 0, none⟩) (by dsimp only; omega)).trans Bw0_18
    have Bw1_19 := (hb19.cell (p := ⟨w4.heap.size, 1, none⟩) (by dsimp only; omega)).trans Bw1_18
    have Bg0_19 := (hb19.cell (p := ⟨w7.heap.size, 0, none⟩) (by dsimp only; omega)).trans Bg0_18
    have Bg1_19 := (hb19.cell (p := ⟨w7.heap.size, 1, none⟩) (by dsimp only; omega)).trans Bg1_18
    have Ki_19 := Lib.hid (Ki_18.out.low hb19 (by omega))
    clear b0 b1
    obtain ⟨b0, b1⟩ := box2 hB19
    clear hB18 SS_18 Ls_18 Bw0_18 Bw1_18 Bg0_18 Bg1_18 Ki_18 hb19
    refine Lib.hid ?_
    go_wp2_with (first | (go_at_call 46; refine (heldints_i _ _ (1) I0.length _ _ Ki_19.out (by omega) (by omega) (by omega)).mono ?_; rintro e w20 ⟨rfl, hb20⟩; refine Hid.out ?_) | fail)
    have hz20 := hb20.size
    have hB20 := on_call hB19 hb20
    have SS_20 := Lib.hid (SS_19.out.kept hb20)
    have Ls_20 := Lib.hid (Ls_19.out.low hb20 (by omega))
    have Bw0_20 := (hb20.cell (p := ⟨w4.heap.size, 0, none⟩) (by dsimp only; omega)).trans Bw0_19
    have Bw1_20 := (hb20.cell (p := ⟨w4.heap.size, 1, none⟩) (by dsimp only; omega)).trans Bw1_19
    have Bg0_20 := (hb20.cell (p := ⟨w7.heap.size, 0, none⟩) (by dsimp only; omega)).trans Bg0_19
    have Bg1_20 := (hb20.cell (p := ⟨w7.heap.size, 1, none⟩) (by dsimp only; omega)).trans Bg1_19
    have Ki_20 := Lib.hid (Ki_19.out.low hb20 (by omega))
    clear b0 b1
    obtain ⟨b0, b1⟩ := box2 hB20
    clear hB19 SS_19 Ls_19 Bw0_19 Bw1_19 Bg0_19 Bg1_19 Ki_19 hb20
    refine Lib.hid ?_
    go_wp2_with (first | (go_at_call 39; refine (tonet_any n A cap ps _ (HA.out.kept (below_box hB20) (Nat.le_refl _)) hlen).mono ?_; rintro e w21 ⟨⟨gy, rfl, hgy, hrowy⟩, hb21⟩; refine Hid.out ?_) | fail)
    have hz21 := hb21.size
    have hB21 := on_call hB20 hb21
    have SS_21 := Lib.hid (SS_20.out.kept hb21)
    have Ls_21 := Lib.hid (Ls_20.out.low hb21 (by omega))
    have Bw0_21 := (hb21.cell (p := ⟨w4.heap.size, 0, none⟩) (by dsimp only; omega)).trans Bw0_20
    have Bw1_21 := (hb21.cell (p := ⟨w4.heap.size, 1, none⟩) (by dsimp only; omega)).trans Bw1_20
    have Bg0_21 := (hb21.cell (p := ⟨w7.heap.size, 0, none⟩) (by dsimp only; omega)).trans Bg0_20
    have Bg1_21 := (hb21.cell (p := ⟨w7.heap.size, 1, none⟩) (by dsimp only; omega)).trans Bg1_20
    have Ki_21 := Lib.hid (Ki_20.out.low hb21 (by omega))
    clear b0 b1
    obtain ⟨b0, b1⟩ := box2 hB21
    clear hB20 SS_20 Ls_20 Bw0_20 Bw1_20 Bg0_20 Bg1_20 Ki_20 hb21
    have hly := hrowy.lt
    have Ty_21 := Lib.hid hrowy.at_
    clear hrowy
    refine Lib.hid ?_
    go_wp2_with (first | (go_at_call 42; refine (toints_any AC1 cc1 cu1 _ (HC1.out.kept (below_box hB21) (Nat.le_refl _)) hcl1).mono ?_; rintro e w22 ⟨⟨gv1, rfl, hgv1, hOv1⟩, hb22⟩; refine Hid.out ?_) | fail)
    have hz22 := hb22.size
    have hB22 := on_call hB21 hb22
    have SS_22 := Lib.hid (SS_21.out.kept hb22)
    have Ls_22 := Lib.hid (Ls_21.out.low hb22 (by omega))
    have Bw0_22 := (hb22.cell (p := ⟨w4.heap.size, 0, none⟩) (by dsimp only; omega)).trans Bw0_21
    have Bw1_22 := (hb22.cell (p := ⟨w4.heap.size, 1, none⟩) (by dsimp only; omega)).trans Bw1_21
    have Bg0_22 := (hb22.cell (p := ⟨w7.heap.size, 0, none⟩) (by dsimp only; omega)).trans Bg0_21
    have Bg1_22 := (hb22.cell (p := ⟨w7.heap.size, 1, none⟩) (by dsimp only; omega)).trans Bg1_21
    have Ki_22 := Lib.hid (Ki_21.out.low hb22 (by omega))
    have Ty_22 := Lib.hid (Ty_21.out.kept hb22 (Nat.le_refl _))
    clear b0 b1
    obtain ⟨b0, b1⟩ := box2 hB22
    clear hB21 SS_21 Ls_21 Bw0_21 Bw1_21 Bg0_21 Bg1_21 Ki_21 Ty_21 hb22
    have hlv1 := iown_lt' hOv1
    have Iv1_22 := Lib.hid hOv1
    clear hOv1
    refine Lib.hid ?_
    go_wp2_with (first | (go_at_call 28; refine (HI.out _ _ _ _ _ Ty_22.out hlen rfl Iv1_22.out.iat hcl1).mono ?_; rintro e w23 ⟨gIhi, cIhi, rfl, hgIhi, hOhi, hb23⟩; refine Hid.out ?_) | fail)
    have hz23 := hb23.size
    have hB23 := on_call hB22 hb23
    have SS_23 := Lib.hid (SS_22.out.kept hb23)
    have Ls_23 := Lib.hid (Ls_22.out.low hb23 (by omega))
    have Bw0_23 := (hb23.cell (p := ⟨w4.heap.size, 0, none⟩) (by dsimp only; omega)).trans Bw0_22
    have Bw1_23 := (hb23.cell (p := ⟨w4.heap.size, 1, none⟩) (by dsimp only; omega)).trans Bw1_22
    have Bg0_23 := (hb23.cell (p := ⟨w7.heap.size, 0, none⟩) (by dsimp only; omega)).trans Bg0_22
    have Bg1_23 := (hb23.cell (p := ⟨w7.heap.size, 1, none⟩) (by dsimp only; omega)).trans Bg1_22
    have Ki_23 := Lib.hid (Ki_22.out.low hb23 (by omega))
    have Ty_23 := Lib.hid (Ty_22.out.kept hb23 (Nat.le_refl _))
    have Iv1_23 := Lib.hid (Iv1_22.out.on hb23)
    clear b0 b1
    obtain ⟨b0, b1⟩ := box2 hB23
    clear hB22 SS_22 Ls_22 Bw0_22 Bw1_22 Bg0_22 Bg1_22 Ki_22 Ty_22 Iv1_22 hb23
    have hlIhi := iown_lt' hOhi
    have Jhi_23 := Lib.hid hOhi
    clear hOhi
    clear Ty_23
    clear Iv1_23
    have hb23a := alloc_below w23 (.cells #[.int .i64 N0, .slice none 0 0] 26)
    have hz23a : w23.heap.size < (w23.alloc (.cells #[.int .i64 N0, .slice none 0 0] 26)).heap.size := by simp
    have hB23a := on_call hB23 hb23a
    have SS_23a := Lib.hid (SS_23.out.kept hb23a)
    have Ls_23a := Lib.hid (Ls_23.out.low hb23a (by omega))
    have Bw0_23a := Lib.hid ((hb23a.cell (p := ⟨w4.heap.size, 0, none⟩) (by dsimp only; omega)).trans Bw0_23)
    have Bw1_23a := Lib.hid ((hb23a.cell (p := ⟨w4.heap.size, 1, none⟩) (by dsimp only; omega)).trans Bw1_23)
    have Bg0_23a := Lib.hid ((hb23a.cell (p := ⟨w7.heap.size, 0, none⟩) (by dsimp only; omega)).trans Bg0_23)
    have Bg1_23a := Lib.hid ((hb23a.cell (p := ⟨w7.heap.size, 1, none⟩) (by dsimp only; omega)).trans Bg1_23)
    have Ki_23a := Lib.hid (Ki_23.out.low hb23a (by omega))
    have Jhi_23a := Lib.hid (Jhi_23.out.on hb23a)
    have hqn : w.heap.size < w23.heap.size := by omega
    have hqw : w4.heap.size < w23.heap.size := by omega
    have hqg : w7.heap.size < w23.heap.size := by omega
    refine Lib.hid ?_
    go_wp2_with (first | (go_at_call 40; refine (eqnet_same N0 _ _ _ _ [] _ (.inl rfl) (.inl rfl) (by simp)).mono ?_; rintro e w24 ⟨rfl, hb24⟩; refine Hid.out ?_) | fail)
    replace hb24 : Below (w23.alloc (.cells #[.int .i64 N0, .slice none 0 0] 26)).heap.size (w23.alloc (.cells #[.int .i64 N0, .slice none 0 0] 26)) w24 := hb24
    have Bh0_24 := (hb24.cell (p := ⟨w23.heap.size, 0, none⟩) (by dsimp only; omega)).trans (boxA0 (w := w23))
    have Bh1_24 := (hb24.cell (p := ⟨w23.heap.size, 1, none⟩) (by dsimp only; omega)).trans (boxA1 (w := w23))
    have hz24 := hb24.size
    have hB24 := on_call hB23a hb24
    have SS_24 := Lib.hid (SS_23a.out.kept hb24)
    have Ls_24 := Lib.hid (Ls_23a.out.low hb24 (by omega))
    have Bw0_24 := (hb24.cell (p := ⟨w4.heap.size, 0, none⟩) (by dsimp only; omega)).trans Bw0_23a.out
    have Bw1_24 := (hb24.cell (p := ⟨w4.heap.size, 1, none⟩) (by dsimp only; omega)).trans Bw1_23a.out
    have Bg0_24 := (hb24.cell (p := ⟨w7.heap.size, 0, none⟩) (by dsimp only; omega)).trans Bg0_23a.out
    have Bg1_24 := (hb24.cell (p := ⟨w7.heap.size, 1, none⟩) (by dsimp only; omega)).trans Bg1_23a.out
    have Ki_24 := Lib.hid (Ki_23a.out.low hb24 (by omega))
    have Jhi_24 := Lib.hid (Jhi_23a.out.on hb24)
    clear b0 b1
    obtain ⟨b0, b1⟩ := box2 hB24
    clear hB23a SS_23a Ls_23a Bw0_23a Bw1_23a Bg0_23a Bg1_23a Ki_23a Jhi_23a hb24
    clear hB23 SS_23 Ls_23 Bw0_23 Bw1_23 Bg0_23 Bg1_23 Ki_23 Jhi_23 hqn hqw hqg hb23a
    refine Lib.hid ?_
    go_wp2_with (first | (go_at_call 43; refine (eqints_same _ _ _ _ I0 _ Jhi_24.out.iat Ls_24.out (by omega)).mono ?_; rintro e w25 ⟨rfl, hb25⟩; refine Hid.out ?_) | fail)
    have hz25 := hb25.size
    have hB25 := on_call hB24 hb25
    have SS_25 := Lib.hid (SS_24.out.kept hb25)
    have Ls_25 := Lib.hid (Ls_24.out.low hb25 (by omega))
    have Bw0_25 := (hb25.cell (p := ⟨w4.heap.size, 0, none⟩) (by dsimp only; omega)).trans Bw0_24
    have Bw1_25 := (hb25.cell (p := ⟨w4.heap.size, 1, none⟩) (by dsimp only; omega)).trans Bw1_24
    have Bg0_25 := (hb25.cell (p := ⟨w7.heap.size, 0, none⟩) (by dsimp only; omega)).trans Bg0_24
    have Bg1_25 := (hb25.cell (p := ⟨w7.heap.size, 1, none⟩) (by dsimp only; omega)).trans Bg1_24
    have Ki_25 := Lib.hid (Ki_24.out.low hb25 (by omega))
    have Jhi_25 := Lib.hid (Jhi_24.out.on hb25)
    have Bh0_25 := (hb25.cell (p := ⟨w23.heap.size, 0, none⟩) (by dsimp only; omega)).trans Bh0_24
    have Bh1_25 := (hb25.cell (p := ⟨w23.heap.size, 1, none⟩) (by dsimp only; omega)).trans Bh1_24
    clear b0 b1
    obtain ⟨b0, b1⟩ := box2 hB25
    clear hB24 SS_24 Ls_24 Bw0_24 Bw1_24 Bg0_24 Bg1_24 Ki_24 Jhi_24 Bh0_24 Bh1_24 hb25
    refine Lib.hid ?_
    go_wp2_with (first | (go_at_call 48; refine (heldnet_nil N0 _).mono ?_; rintro e w26 ⟨rfl, hb26⟩; refine Hid.out ?_) | fail)
    have hz26 := hb26.size
    have hB26 := on_call hB25 hb26
    have SS_26 := Lib.hid (SS_25.out.kept hb26)
    have Ls_26 := Lib.hid (Ls_25.out.low hb26 (by omega))
    have Bw0_26 := (hb26.cell (p := ⟨w4.heap.size, 0, none⟩) (by dsimp only; omega)).trans Bw0_25
    have Bw1_26 := (hb26.cell (p := ⟨w4.heap.size, 1, none⟩) (by dsimp only; omega)).trans Bw1_25
    have Bg0_26 := (hb26.cell (p := ⟨w7.heap.size, 0, none⟩) (by dsimp only; omega)).trans Bg0_25
    have Bg1_26 := (hb26.cell (p := ⟨w7.heap.size, 1, none⟩) (by dsimp only; omega)).trans Bg1_25
    have Ki_26 := Lib.hid (Ki_25.out.low hb26 (by omega))
    have Jhi_26 := Lib.hid (Jhi_25.out.on hb26)
    have Bh0_26 := (hb26.cell (p := ⟨w23.heap.size, 0, none⟩) (by dsimp only; omega)).trans Bh0_25
    have Bh1_26 := (hb26.cell (p := ⟨w23.heap.size, 1, none⟩) (by dsimp only; omega)).trans Bh1_25
    clear b0 b1
    obtain ⟨b0, b1⟩ := box2 hB26
    clear hB25 SS_25 Ls_25 Bw0_25 Bw1_25 Bg0_25 Bg1_25 Ki_25 Jhi_25 Bh0_25 Bh1_25 hb26
    refine Lib.hid ?_
    go_wp2_with (first | (go_at_call 46; refine (heldints_i _ _ (1) I0.length _ _ Ki_26.out (by omega) (by omega) (by omega)).mono ?_; rintro e w27 ⟨rfl, hb27⟩; refine Hid.out ?_) | fail)
    have hz27 := hb27.size
    have hB27 := on_call hB26 hb27
    have SS_27 := Lib.hid (SS_26.out.kept hb27)
    have Ls_27 := Lib.hid (Ls_26.out.low hb27 (by omega))
    have Bw0_27 := (hb27.cell (p := ⟨w4.heap.size, 0, none⟩) (by dsimp only; omega)).trans Bw0_26
    have Bw1_27 := (hb27.cell (p := ⟨w4.heap.size, 1, none⟩) (by dsimp only; omega)).trans Bw1_26
    have Bg0_27 := (hb27.cell (p := ⟨w7.heap.size, 0, none⟩) (by dsimp only; omega)).trans Bg0_26
    have Bg1_27 := (hb27.cell (p := ⟨w7.heap.size, 1, none⟩) (by dsimp only; omega)).trans Bg1_26
    have Ki_27 := Lib.hid (Ki_26.out.low hb27 (by omega))
    have Jhi_27 := Lib.hid (Jhi_26.out.on hb27)
    have Bh0_27 := (hb27.cell (p := ⟨w23.heap.size, 0, none⟩) (by dsimp only; omega)).trans Bh0_26
    have Bh1_27 := (hb27.cell (p := ⟨w23.heap.size, 1, none⟩) (by dsimp only; omega)).trans Bh1_26
    clear b0 b1
    obtain ⟨b0, b1⟩ := box2 hB27
    clear hB26 SS_26 Ls_26 Bw0_26 Bw1_26 Bg0_26 Bg1_26 Ki_26 Jhi_26 Bh0_26 Bh1_26 hb27
    refine Lib.hid ?_
    go_wp2_with fail
    go_ret
    exact ⟨rfl, below_box hB27⟩
end Go.Proofs.Ytipnecmgpfmjeaa.S2
