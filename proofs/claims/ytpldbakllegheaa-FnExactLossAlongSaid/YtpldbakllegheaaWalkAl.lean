/- The walk of the law FnExactLossAlong: contracts. Conditions: each theorem's own premises. -/
import Derived.Test.YtpldbakllegheaaNetKit
import Derived.Deep.DeepCutAuto
namespace Go.Proofs.Ytpldbakllegheaa.S2
open Go.RowKit P2

set_option maxHeartbeats 16000000 in
set_option maxRecDepth 100000 in
theorem walkLossAlong (n : Int) (A : Option Addr) (cap : Nat) (ps : List Pp) (AC1 : Option Addr) (cc1 : Nat) (cu1 : List Int) (x2 : Int) (x3 : Int) (w : World) (h : PAt w A ps) (hm : ps.length ≤ maxLen) (hc1 : IAt w AC1 cu1) (hmc1 : cu1.length ≤ maxLen) (sv0 : Int) (sv1 : Bool)
    (hs : ∀ (A : Option Addr) (cap : Nat) (AC1 : Option Addr) (cc1 : Nat) (w : World), PAt w A ps → ps.length ≤ 1048576 → ps.length = cap → IAt w AC1 cu1 → cu1.length ≤ 1048576 → Calls Try.prog 33 #[nv n A ps.length cap, .slice AC1 cu1.length cc1, .int .i64 x2, .int .i64 x3] w (fun e w' => e = .returned (.tuple #[.int .i64 sv0, .bool sv1]) ∧ Below w.heap.size w w'))
    (hi : ∀ (A : Option Addr) (cap : Nat) (AC1 : Option Addr) (cc1 : Nat) (w : World), PAt w A ps → ps.length ≤ 1048576 → ps.length = cap → IAt w AC1 cu1 → cu1.length ≤ 1048576 → Calls Try.prog 34 #[nv n A ps.length cap, .slice AC1 cu1.length cc1, .int .i64 x2, .int .i64 x3] w (fun e w' => e = .returned (.tuple #[.int .i64 sv0, .bool sv1]) ∧ Below w.heap.size w w')) :
    Calls Try.prog 8 #[nv n A ps.length cap, .slice AC1 cu1.length cc1, .int .i64 x2, .int .i64 x3] w fun e w' => e = .returned (.bool true) ∧ Below w.heap.size w w' := by
  have HA := Lib.hid h
  have HM := Lib.hid hm
  have HS := Lib.hid hs
  have HI := Lib.hid hi
  have HC1 := Lib.hid hc1
  have HMC1 := Lib.hid hmc1
  clear h hm hs hi hc1 hmc1
  by_cases hci1 : 1048576 < cu1.length
  · have hlm1 : cu1.length ≤ 9223372036854775807 := by have := HMC1.out; unfold maxLen at this; omega
    go_enter Try.func8, Try.ntmps8
    go_wp2
    go_ret
    exact ⟨rfl, (Below.refl w.heap.size w).alloc (Nat.le_refl _) _⟩
  have hcl1 : cu1.length ≤ 1048576 := by omega
  clear hci1
  go_enter Try.func8, Try.ntmps8
  go_wp2_with (go_at_call 15; refine (sznet_le n A ps.length cap _ HM.out).mono ?_; rintro e w1 ⟨⟨r, rfl, hr⟩, hb1⟩; refine Hid.out ?_)
  have hB1 : Below (w.heap.size + 1) (w.alloc (.cells #[.int .i64 n, .slice A ps.length cap] 24)) w1 := by simpa using hb1
  clear hb1
  obtain ⟨b0, b1⟩ := box2 hB1
  have hz1 : w.heap.size < w1.heap.size := box_lt hB1
  by_cases hr0 : r < 0
  · refine Lib.hid ?_
    go_wp2
    go_ret
    exact ⟨rfl, below_box hB1⟩
  have hlen : ps.length ≤ 1048576 := by rcases hr with h | h; exact absurd h hr0; exact h.2.2
  clear hr
  refine Lib.hid ?_
  go_wp2_with (first | (go_at_call 17; refine (tonet_any n A cap ps _ (HA.out.kept (below_box hB1) (Nat.le_refl _)) hlen).mono ?_; rintro e w2 ⟨⟨ga, rfl, hga, hrowa⟩, hb2⟩; refine Hid.out ?_) | fail)
  have hz2 := hb2.size
  have hB2 := on_call hB1 hb2
  clear b0 b1
  obtain ⟨b0, b1⟩ := box2 hB2
  clear hB1 hb2
  have hla := hrowa.lt
  have Ta_2 := Lib.hid hrowa.at_
  clear hrowa
  refine Lib.hid ?_
  go_wp2_with (first | (go_at_call 18; refine (toints_any AC1 cc1 cu1 _ (HC1.out.kept (below_box hB2) (Nat.le_refl _)) hcl1).mono ?_; rintro e w3 ⟨⟨ge1, rfl, hge1, hOe1⟩, hb3⟩; refine Hid.out ?_) | fail)
  have hz3 := hb3.size
  have hB3 := on_call hB2 hb3
  have Ta_3 := Lib.hid (Ta_2.out.kept hb3 (Nat.le_refl _))
  clear b0 b1
  obtain ⟨b0, b1⟩ := box2 hB3
  clear hB2 Ta_2 hb3
  have hle1 := iown_lt' hOe1
  have Ie1_3 := Lib.hid hOe1
  clear hOe1
  refine Lib.hid ?_
  go_wp2_with (first | (go_at_call 33; refine (HS.out _ _ _ _ _ Ta_3.out hlen rfl Ie1_3.out.iat hcl1).mono ?_; rintro e w4 ⟨rfl, hb4⟩; refine Hid.out ?_) | fail)
  have hz4 := hb4.size
  have hB4 := on_call hB3 hb4
  have Ta_4 := Lib.hid (Ta_3.out.kept hb4 (Nat.le_refl _))
  have Ie1_4 := Lib.hid (Ie1_3.out.on hb4)
  clear b0 b1
  obtain ⟨b0, b1⟩ := box2 hB4
  clear hB3 Ta_3 Ie1_3 hb4
  clear Ta_4
  clear Ie1_4
  refine Lib.hid ?_
  go_wp2_with (first | (go_at_call 17; refine (tonet_any n A cap ps _ (HA.out.kept (below_box hB4) (Nat.le_refl _)) hlen).mono ?_; rintro e w5 ⟨⟨gx, rfl, hgx, hrowx⟩, hb5⟩; refine Hid.out ?_) | fail)
  have hz5 := hb5.size
  have hB5 := on_call hB4 hb5
  clear b0 b1
  obtain ⟨b0, b1⟩ := box2 hB5
  clear hB4 hb5
  have hlx := hrowx.lt
  have Rx_5 := Lib.hid hrowx
  clear hrowx
  have hb5a := alloc_below w5 (.cells #[.int .i64 n, .slice (some ⟨gx, 0, none⟩) ps.length ps.length] 31)
  have hz5a : w5.heap.size < (w5.alloc (.cells #[.int .i64 n, .slice (some ⟨gx, 0, none⟩) ps.length ps.length] 31)).heap.size := by simp
  have hB5a := on_call hB5 hb5a
  have Rx_5a := Lib.hid (Rx_5.out.kept hb5a (by omega))
  have hqn : w.heap.size < w5.heap.size := by omega
  refine Lib.hid ?_
  go_wp2_with (first | (go_at_call 18; refine (toints_any AC1 cc1 cu1 _ (HC1.out.kept (below_box hB5a) (Nat.le_refl _)) hcl1).mono ?_; rintro e w6 ⟨⟨gz1, rfl, hgz1, hOz1⟩, hb6⟩; refine Hid.out ?_) | fail)
  replace hb6 : Below (w5.alloc (.cells #[.int .i64 n, .slice (some ⟨gx, 0, none⟩) ps.length ps.length] 31)).heap.size (w5.alloc (.cells #[.int .i64 n, .slice (some ⟨gx, 0, none⟩) ps.length ps.length] 31)) w6 := hb6
  have Bx0_6 := (hb6.cell (p := ⟨w5.heap.size, 0, none⟩) (by dsimp only; omega)).trans (boxA0 (w := w5))
  have Bx1_6 := (hb6.cell (p := ⟨w5.heap.size, 1, none⟩) (by dsimp only; omega)).trans (boxA1 (w := w5))
  have hz6 := hb6.size
  have hB6 := on_call hB5a hb6
  have Rx_6 := Lib.hid (Rx_5a.out.kept hb6 (by omega))
  clear b0 b1
  obtain ⟨b0, b1⟩ := box2 hB6
  clear hB5a Rx_5a hb6
  clear hB5 Rx_5 hqn hb5a
  have hlz1 := iown_lt' hOz1
  have Iz1_6 := Lib.hid hOz1
  clear hOz1
  refine Lib.hid ?_
  go_wp2_with (first | (go_at_call 34; refine (HI.out _ _ _ _ _ Rx_6.out.at_ hlen rfl Iz1_6.out.iat hcl1).mono ?_; rintro e w7 ⟨rfl, hb7⟩; refine Hid.out ?_) | fail)
  have hz7 := hb7.size
  have hB7 := on_call hB6 hb7
  have Rx_7 := Lib.hid (Rx_6.out.kept hb7 (by omega))
  have Bx0_7 := (hb7.cell (p := ⟨w5.heap.size, 0, none⟩) (by dsimp only; omega)).trans Bx0_6
  have Bx1_7 := (hb7.cell (p := ⟨w5.heap.size, 1, none⟩) (by dsimp only; omega)).trans Bx1_6
  have Iz1_7 := Lib.hid (Iz1_6.out.on hb7)
  clear b0 b1
  obtain ⟨b0, b1⟩ := box2 hB7
  clear hB6 Rx_6 Bx0_6 Bx1_6 Iz1_6 hb7
  refine Lib.hid ?_
  go_upto_region 13 with (fail)
  go_cut [58] (fun st wx => st = .bool false ∧ Hid (Below w7.heap.size w7 wx))
  case first =>
    have hA7 := Lib.hid (HA.out.kept (below_box hB7) (Nat.le_refl _))
    have hat7 := Lib.hid Rx_7.out.at_
    have hx4 : w5.heap.size < w7.heap.size := by omega
    go_region_with (first
      | (go_at_call 17; refine (tonet_any n A cap ps w7.drew hA7.out hlen).mono ?_; rintro e wqa ⟨⟨gqa, rfl, hgqa, hrowqa⟩, hbqa⟩; have HBqa := Lib.hid hbqa; have hatqa := Lib.hid hrowqa.at_; have hatqb := Lib.hid (PAt.kept (w := w7.drew) hat7.out hbqa (Nat.le_refl _)); have z0 := (hbqa.cell (p := ⟨w5.heap.size, 0, none⟩) hx4).trans Bx0_7; have z1 := (hbqa.cell (p := ⟨w5.heap.size, 1, none⟩) hx4).trans Bx1_7; clear hgqa hrowqa hbqa)
      | (go_at_call 20; refine (eqnet_same n _ _ _ _ ps wqa hatqb.out hatqa.out hlen).mono ?_; rintro e wqb ⟨rfl, hbqb⟩))
    all_goals
      go_wp2_with fail
      go_meet
      exact ⟨rfl, Lib.hid ((Below.refl w7.heap.size w7).drew.trans (HBqa.out.trans (hbqb.mono HBqa.out.size)))⟩
  case rest =>
    obtain ⟨rfl, hbc⟩ := hcut
    obtain ⟨w8, hwb⟩ : ∃ w8, w8 = wc := ⟨_, rfl⟩
    subst hwb
    have hb8 := hbc.out
    clear hbc
    have hz8 := hb8.size
    have hB8 := on_call hB7 hb8
    have Rx_8 := Lib.hid (Rx_7.out.kept hb8 (by omega))
    have Bx0_8 := (hb8.cell (p := ⟨w5.heap.size, 0, none⟩) (by dsimp only; omega)).trans Bx0_7
    have Bx1_8 := (hb8.cell (p := ⟨w5.heap.size, 1, none⟩) (by dsimp only; omega)).trans Bx1_7
    have Iz1_8 := Lib.hid (Iz1_7.out.on hb8)
    clear b0 b1
    obtain ⟨b0, b1⟩ := box2 hB8
    clear hB7 Rx_7 Bx0_7 Bx1_7 Iz1_7 hb8
    refine Lib.hid ?_
    go_wp2_with (first | (go_at_call 18; refine (toints_any AC1 cc1 cu1 _ (HC1.out.kept (below_box hB8) (Nat.le_refl _)) hcl1).mono ?_; rintro e w9 ⟨⟨gu1, rfl, hgu1, hOu1⟩, hb9⟩; refine Hid.out ?_) | fail)
    have hz9 := hb9.size
    have hB9 := on_call hB8 hb9
    have Rx_9 := Lib.hid (Rx_8.out.kept hb9 (by omega))
    have Bx0_9 := (hb9.cell (p := ⟨w5.heap.size, 0, none⟩) (by dsimp only; omega)).trans Bx0_8
    have Bx1_9 := (hb9.cell (p := ⟨w5.heap.size, 1, none⟩) (by dsimp only; omega)).trans Bx1_8
    have Iz1_9 := Lib.hid (Iz1_8.out.on hb9)
    clear b0 b1
    obtain ⟨b0, b1⟩ := box2 hB9
    clear hB8 Rx_8 Bx0_8 Bx1_8 Iz1_8 hb9
    have hlu1 := iown_lt' hOu1
    have Iu1_9 := Lib.hid hOu1
    clear hOu1
    refine Lib.hid ?_
    go_wp2_with (first | (go_at_call 21; refine (eqints_same _ _ _ _ cu1 _ Iz1_9.out.iat Iu1_9.out.iat hcl1).mono ?_; rintro e w10 ⟨rfl, hb10⟩; refine Hid.out ?_) | fail)
    have hz10 := hb10.size
    have hB10 := on_call hB9 hb10
    have Rx_10 := Lib.hid (Rx_9.out.kept hb10 (by omega))
    have Bx0_10 := (hb10.cell (p := ⟨w5.heap.size, 0, none⟩) (by dsimp only; omega)).trans Bx0_9
    have Bx1_10 := (hb10.cell (p := ⟨w5.heap.size, 1, none⟩) (by dsimp only; omega)).trans Bx1_9
    have Iz1_10 := Lib.hid (Iz1_9.out.on hb10)
    have Iu1_10 := Lib.hid (Iu1_9.out.on hb10)
    clear b0 b1
    obtain ⟨b0, b1⟩ := box2 hB10
    clear hB9 Rx_9 Bx0_9 Bx1_9 Iz1_9 Iu1_9 hb10
    clear Iu1_10
    refine Lib.hid ?_
    go_wp2_with fail
    go_ret
    exact ⟨rfl, below_box hB10⟩
end Go.Proofs.Ytpldbakllegheaa.S2
