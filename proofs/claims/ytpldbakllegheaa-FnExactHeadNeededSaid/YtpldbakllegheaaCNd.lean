/- The law FnExactHeadNeeded holds of the program: for every network, source, demands, heights and need HeadNeeded answers as its model and writes into no argument. Condition: the arguments are laid out as the row says. -/
import Derived.Test.YtpldbakllegheaaNetKit
import Derived.Deep.DeepCutAuto
import Derived.Test.YtpldbakllegheaaKW
import Derived.Test.YtpldbakllegheaaRows
import Derived.Test.YtpldbakllegheaaOpenOne
import Derived.WalkKit
import Derived.ProofKit
import Derived.OpenShut
import Derived.ChangeOld
import Derived.Below
namespace Go.Proofs.Ytpldbakllegheaa.S2
open Go.RowKit P2

set_option maxHeartbeats 16000000 in
set_option maxRecDepth 100000 in
theorem walkHeadNeeded (n : Int) (A : Option Addr) (cap : Nat) (ps : List Pp) (x1 : Int) (AC2 : Option Addr) (cc2 : Nat) (cu2 : List Int) (AC3 : Option Addr) (cc3 : Nat) (cu3 : List Int) (x4 : Int) (w : World) (h : PAt w A ps) (hm : ps.length ≤ maxLen) (hc2 : IAt w AC2 cu2) (hmc2 : cu2.length ≤ maxLen) (hc3 : IAt w AC3 cu3) (hmc3 : cu3.length ≤ maxLen) (sv0 : Int) (sv1 : Bool)
    (hs : ∀ (A : Option Addr) (cap : Nat) (AC2 : Option Addr) (cc2 : Nat) (AC3 : Option Addr) (cc3 : Nat) (w : World), PAt w A ps → ps.length ≤ 1048576 → ps.length = cap → IAt w AC2 cu2 → cu2.length ≤ 1048576 → IAt w AC3 cu3 → cu3.length ≤ 1048576 → Calls Try.prog 31 #[nv n A ps.length cap, .int .i64 x1, .slice AC2 cu2.length cc2, .slice AC3 cu3.length cc3, .int .i64 x4] w (fun e w' => e = .returned (.tuple #[.int .i64 sv0, .bool sv1]) ∧ Below w.heap.size w w'))
    (hi : ∀ (A : Option Addr) (cap : Nat) (AC2 : Option Addr) (cc2 : Nat) (AC3 : Option Addr) (cc3 : Nat) (w : World), PAt w A ps → ps.length ≤ 1048576 → ps.length = cap → IAt w AC2 cu2 → cu2.length ≤ 1048576 → IAt w AC3 cu3 → cu3.length ≤ 1048576 → Calls Try.prog 32 #[nv n A ps.length cap, .int .i64 x1, .slice AC2 cu2.length cc2, .slice AC3 cu3.length cc3, .int .i64 x4] w (fun e w' => e = .returned (.tuple #[.int .i64 sv0, .bool sv1]) ∧ Below w.heap.size w w')) :
    Calls Try.prog 7 #[nv n A ps.length cap, .int .i64 x1, .slice AC2 cu2.length cc2, .slice AC3 cu3.length cc3, .int .i64 x4] w fun e w' => e = .returned (.bool true) ∧ Below w.heap.size w w' := by
  have HA := Lib.hid h
  have HM := Lib.hid hm
  have HS := Lib.hid hs
  have HI := Lib.hid hi
  have HC2 := Lib.hid hc2
  have HMC2 := Lib.hid hmc2
  have HC3 := Lib.hid hc3
  have HMC3 := Lib.hid hmc3
  clear h hm hs hi hc2 hmc2 hc3 hmc3
  by_cases hci2 : 1048576 < cu2.length
  · have hlm2 : cu2.length ≤ 9223372036854775807 := by have := HMC2.out; unfold maxLen at this; omega
    go_enter Try.func7, Try.ntmps7
    go_wp2
    go_ret
    exact ⟨rfl, (Below.refl w.heap.size w).alloc (Nat.le_refl _) _⟩
  have hcl2 : cu2.length ≤ 1048576 := by omega
  clear hci2
  by_cases hci3 : 1048576 < cu3.length
  · have hlm3 : cu3.length ≤ 9223372036854775807 := by have := HMC3.out; unfold maxLen at this; omega
    go_enter Try.func7, Try.ntmps7
    go_wp2
    go_ret
    exact ⟨rfl, (Below.refl w.heap.size w).alloc (Nat.le_refl _) _⟩
  have hcl3 : cu3.length ≤ 1048576 := by omega
  clear hci3
  go_enter Try.func7, Try.ntmps7
  go_wp2_with (go_at_call 15; refine (sznet_le n A ps.length cap _ HM.out).mono ?_; rintro e w1 ⟨⟨r, rfl, hr⟩, hb1⟩; refine Hid.out ?_)
  have hB1 : Below (w.heap.size + 1) (w.alloc (.cells #[.int .i64 n, .slice A ps.length cap] 24)) w1 := by simpa using hb1
  clear hb1
  obtain ⟨b0, b1⟩ := box2 hB1
  have hz1 : w.heap.size < w1.heap.size := box_lt hB1
  by_cases hr0 : r < 0
  · refine Lib.hid ?_
    go_wp2
    go_ret
    exact ⟨rfl, below_box hB1⟩
  have hlen : ps.length ≤ 1048576 := by rcases hr with h | h; exact absurd h hr0; exact h.2.2
  clear hr
  refine Lib.hid ?_
  go_wp2_with (first | (go_at_call 17; refine (tonet_any n A cap ps _ (HA.out.kept (below_box hB1) (Nat.le_refl _)) hlen).mono ?_; rintro e w2 ⟨⟨ga, rfl, hga, hrowa⟩, hb2⟩; refine Hid.out ?_) | fail)
  have hz2 := hb2.size
  have hB2 := on_call hB1 hb2
  clear b0 b1
  obtain ⟨b0, b1⟩ := box2 hB2
  clear hB1 hb2
  have hla := hrowa.lt
  have Ta_2 := Lib.hid hrowa.at_
  clear hrowa
  refine Lib.hid ?_
  go_wp2_with (first | (go_at_call 18; refine (toints_any AC2 cc2 cu2 _ (HC2.out.kept (below_box hB2) (Nat.le_refl _)) hcl2).mono ?_; rintro e w3 ⟨⟨ge2, rfl, hge2, hOe2⟩, hb3⟩; refine Hid.out ?_) | fail)
  have hz3 := hb3.size
  have hB3 := on_call hB2 hb3
  have Ta_3 := Lib.hid (Ta_2.out.kept hb3 (Nat.le_refl _))
  clear b0 b1
  obtain ⟨b0, b1⟩ := box2 hB3
  clear hB2 Ta_2 hb3
  have hle2 := iown_lt' hOe2
  have Ie2_3 := Lib.hid hOe2
  clear hOe2
  refine Lib.hid ?_
  go_wp2_with (first | (go_at_call 18; refine (toints_any AC3 cc3 cu3 _ (HC3.out.kept (below_box hB3) (Nat.le_refl _)) hcl3).mono ?_; rintro e w4 ⟨⟨ge3, rfl, hge3, hOe3⟩, hb4⟩; refine Hid.out ?_) | fail)
  have hz4 := hb4.size
  have hB4 := on_call hB3 hb4
  have Ta_4 := Lib.hid (Ta_3.out.kept hb4 (Nat.le_refl _))
  have Ie2_4 := Lib.hid (Ie2_3.out.on hb4)
  clear b0 b1
  obtain ⟨b0, b1⟩ := box2 hB4
  clear hB3 Ta_3 Ie2_3 hb4
  have hle3 := iown_lt' hOe3
  have Ie3_4 := Lib.hid hOe3
  clear hOe3
  refine Lib.hid ?_
  go_wp2_with (first | (go_at_call 31; refine (HS.out _ _ _ _ _ _ _ Ta_4.out hlen rfl Ie2_4.out.iat hcl2 Ie3_4.out.iat hcl3).mono ?_; rintro e w5 ⟨rfl, hb5⟩; refine Hid.out ?_) | fail)
  have hz5 := hb5.size
  have hB5 := on_call hB4 hb5
  have Ta_5 := Lib.hid (Ta_4.out.kept hb5 (Nat.le_refl _))
  have Ie2_5 := Lib.hid (Ie2_4.out.on hb5)
  have Ie3_5 := Lib.hid (Ie3_4.out.on hb5)
  clear b0 b1
  obtain ⟨b0, b1⟩ := box2 hB5
  clear hB4 Ta_4 Ie2_4 Ie3_4 hb5
  clear Ta_5
  clear Ie2_5
  clear Ie3_5
  refine Lib.hid ?_
  go_wp2_with (first | (go_at_call 17; refine (tonet_any n A cap ps _ (HA.out.kept (below_box hB5) (Nat.le_refl _)) hlen).mono ?_; rintro e w6 ⟨⟨gx, rfl, hgx, hrowx⟩, hb6⟩; refine Hid.out ?_) | fail)
  have hz6 := hb6.size
  have hB6 := on_call hB5 hb6
  clear b0 b1
  obtain ⟨b0, b1⟩ := box2 hB6
  clear hB5 hb6
  have hlx := hrowx.lt
  have Rx_6 := Lib.hid hrowx
  clear hrowx
  have hb6a := alloc_below w6 (.cells #[.int .i64 n, .slice (some ⟨gx, 0, none⟩) ps.length ps.length] 31)
  have hz6a : w6.heap.size < (w6.alloc (.cells #[.int .i64 n, .slice (some ⟨gx, 0, none⟩) ps.length ps.length] 31)).heap.size := by simp
  have hB6a := on_call hB6 hb6a
  have Rx_6a := Lib.hid (Rx_6.out.kept hb6a (by omega))
  have hqn : w.heap.size < w6.heap.size := by omega
  refine Lib.hid ?_
  go_wp2_with (first | (go_at_call 18; refine (toints_any AC2 cc2 cu2 _ (HC2.out.kept (below_box hB6a) (Nat.le_refl _)) hcl2).mono ?_; rintro e w7 ⟨⟨gz2, rfl, hgz2, hOz2⟩, hb7⟩; refine Hid.out ?_) | fail)
  replace hb7 : Below (w6.alloc (.cells #[.int .i64 n, .slice (some ⟨gx, 0, none⟩) ps.length ps.length] 31)).heap.size (w6.alloc (.cells #[.int .i64 n, .slice (some ⟨gx, 0, none⟩) ps.length ps.length] 31)) w7 := hb7
  have Bx0_7 := (hb7.cell (p := ⟨w6.heap.size, 0, none⟩) (by dsimp only; omega)).trans (boxA0 (w := w6))
  have Bx1_7 := (hb7.cell (p := ⟨w6.heap.size, 1, none⟩) (by dsimp only; omega)).trans (boxA1 (w := w6))
  have hz7 := hb7.size
  have hB7 := on_call hB6a hb7
  have Rx_7 := Lib.hid (Rx_6a.out.kept hb7 (by omega))
  clear b0 b1
  obtain ⟨b0, b1⟩ := box2 hB7
  clear hB6a Rx_6a hb7
  clear hB6 Rx_6 hqn hb6a
  have hlz2 := iown_lt' hOz2
  have Iz2_7 := Lib.hid hOz2
  clear hOz2
  refine Lib.hid ?_
  go_wp2_with (first | (go_at_call 18; refine (toints_any AC3 cc3 cu3 _ (HC3.out.kept (below_box hB7) (Nat.le_refl _)) hcl3).mono ?_; rintro e w8 ⟨⟨gz3, rfl, hgz3, hOz3⟩, hb8⟩; refine Hid.out ?_) | fail)
  have hz8 := hb8.size
  have hB8 := on_call hB7 hb8
  have Rx_8 := Lib.hid (Rx_7.out.kept hb8 (by omega))
  have Bx0_8 := (hb8.cell (p := ⟨w6.heap.size, 0, none⟩) (by dsimp only; omega)).trans Bx0_7
  have Bx1_8 := (hb8.cell (p := ⟨w6.heap.size, 1, none⟩) (by dsimp only; omega)).trans Bx1_7
  have Iz2_8 := Lib.hid (Iz2_7.out.on hb8)
  clear b0 b1
  obtain ⟨b0, b1⟩ := box2 hB8
  clear hB7 Rx_7 Bx0_7 Bx1_7 Iz2_7 hb8
  have hlz3 := iown_lt' hOz3
  have Iz3_8 := Lib.hid hOz3
  clear hOz3
  refine Lib.hid ?_
  go_wp2_with (first | (go_at_call 32; refine (HI.out _ _ _ _ _ _ _ Rx_8.out.at_ hlen rfl Iz2_8.out.iat hcl2 Iz3_8.out.iat hcl3).mono ?_; rintro e w9 ⟨rfl, hb9⟩; refine Hid.out ?_) | fail)
  have hz9 := hb9.size
  have hB9 := on_call hB8 hb9
  have Rx_9 := Lib.hid (Rx_8.out.kept hb9 (by omega))
  have Bx0_9 := (hb9.cell (p := ⟨w6.heap.size, 0, none⟩) (by dsimp only; omega)).trans Bx0_8
  have Bx1_9 := (hb9.cell (p := ⟨w6.heap.size, 1, none⟩) (by dsimp only; omega)).trans Bx1_8
  have Iz2_9 := Lib.hid (Iz2_8.out.on hb9)
  have Iz3_9 := Lib.hid (Iz3_8.out.on hb9)
  clear b0 b1
  obtain ⟨b0, b1⟩ := box2 hB9
  clear hB8 Rx_8 Bx0_8 Bx1_8 Iz2_8 Iz3_8 hb9
  refine Lib.hid ?_
  go_upto_region 16 with (fail)
  go_cut [69] (fun st wx => st = .bool false ∧ Hid (Below w9.heap.size w9 wx))
  case first =>
    have hA7 := Lib.hid (HA.out.kept (below_box hB9) (Nat.le_refl _))
    have hat7 := Lib.hid Rx_9.out.at_
    have hx4 : w6.heap.size < w9.heap.size := by omega
    go_region_with (first
      | (go_at_call 17; refine (tonet_any n A cap ps w9.drew hA7.out hlen).mono ?_; rintro e wqa ⟨⟨gqa, rfl, hgqa, hrowqa⟩, hbqa⟩; have HBqa := Lib.hid hbqa; have hatqa := Lib.hid hrowqa.at_; have hatqb := Lib.hid (PAt.kept (w := w9.drew) hat7.out hbqa (Nat.le_refl _)); have z0 := (hbqa.cell (p := ⟨w6.heap.size, 0, none⟩) hx4).trans Bx0_9; have z1 := (hbqa.cell (p := ⟨w6.heap.size, 1, none⟩) hx4).trans Bx1_9; clear hgqa hrowqa hbqa)
      | (go_at_call 20; refine (eqnet_same n _ _ _ _ ps wqa hatqb.out hatqa.out hlen).mono ?_; rintro e wqb ⟨rfl, hbqb⟩))
    all_goals
      go_wp2_with fail
      go_meet
      exact ⟨rfl, Lib.hid ((Below.refl w9.heap.size w9).drew.trans (HBqa.out.trans (hbqb.mono HBqa.out.size)))⟩
  case rest =>
    obtain ⟨rfl, hbc⟩ := hcut
    obtain ⟨w10, hwb⟩ : ∃ w10, w10 = wc := ⟨_, rfl⟩
    subst hwb
    have hb10 := hbc.out
    clear hbc
    have hz10 := hb10.size
    have hB10 := on_call hB9 hb10
    have Rx_10 := Lib.hid (Rx_9.out.kept hb10 (by omega))
    have Bx0_10 := (hb10.cell (p := ⟨w6.heap.size, 0, none⟩) (by dsimp only; omega)).trans Bx0_9
    have Bx1_10 := (hb10.cell (p := ⟨w6.heap.size, 1, none⟩) (by dsimp only; omega)).trans Bx1_9
    have Iz2_10 := Lib.hid (Iz2_9.out.on hb10)
    have Iz3_10 := Lib.hid (Iz3_9.out.on hb10)
    clear b0 b1
    obtain ⟨b0, b1⟩ := box2 hB10
    clear hB9 Rx_9 Bx0_9 Bx1_9 Iz2_9 Iz3_9 hb10
    refine Lib.hid ?_
    go_wp2_with (first | (go_at_call 18; refine (toints_any AC2 cc2 cu2 _ (HC2.out.kept (below_box hB10) (Nat.le_refl _)) hcl2).mono ?_; rintro e w11 ⟨⟨gu2, rfl, hgu2, hOu2⟩, hb11⟩; refine Hid.out ?_) | fail)
    have hz11 := hb11.size
    have hB11 := on_call hB10 hb11
    have Rx_11 := Lib.hid (Rx_10.out.kept hb11 (by omega))
    have Bx0_11 := (hb11.cell (p := ⟨w6.heap.size, 0, none⟩) (by dsimp only; omega)).trans Bx0_10
    have Bx1_11 := (hb11.cell (p := ⟨w6.heap.size, 1, none⟩) (by dsimp only; omega)).trans Bx1_10
    have Iz2_11 := Lib.hid (Iz2_10.out.on hb11)
    have Iz3_11 := Lib.hid (Iz3_10.out.on hb11)
    clear b0 b1
    obtain ⟨b0, b1⟩ := box2 hB11
    clear hB10 Rx_10 Bx0_10 Bx1_10 Iz2_10 Iz3_10 hb11
    have hlu2 := iown_lt' hOu2
    have Iu2_11 := Lib.hid hOu2
    clear hOu2
    refine Lib.hid ?_
    go_wp2_with (first | (go_at_call 21; refine (eqints_same _ _ _ _ cu2 _ Iz2_11.out.iat Iu2_11.out.iat hcl2).mono ?_; rintro e w12 ⟨rfl, hb12⟩; refine Hid.out ?_) | fail)
    have hz12 := hb12.size
    have hB12 := on_call hB11 hb12
    have Rx_12 := Lib.hid (Rx_11.out.kept hb12 (by omega))
    have Bx0_12 := (hb12.cell (p := ⟨w6.heap.size, 0, none⟩) (by dsimp only; omega)).trans Bx0_11
    have Bx1_12 := (hb12.cell (p := ⟨w6.heap.size, 1, none⟩) (by dsimp only; omega)).trans Bx1_11
    have Iz2_12 := Lib.hid (Iz2_11.out.on hb12)
    have Iz3_12 := Lib.hid (Iz3_11.out.on hb12)
    have Iu2_12 := Lib.hid (Iu2_11.out.on hb12)
    clear b0 b1
    obtain ⟨b0, b1⟩ := box2 hB12
    clear hB11 Rx_11 Bx0_11 Bx1_11 Iz2_11 Iz3_11 Iu2_11 hb12
    clear Iu2_12
    refine Lib.hid ?_
    go_wp2_with (first | (go_at_call 18; refine (toints_any AC3 cc3 cu3 _ (HC3.out.kept (below_box hB12) (Nat.le_refl _)) hcl3).mono ?_; rintro e w13 ⟨⟨gu3, rfl, hgu3, hOu3⟩, hb13⟩; refine Hid.out ?_) | fail)
    have hz13 := hb13.size
    have hB13 := on_call hB12 hb13
    have Rx_13 := Lib.hid (Rx_12.out.kept hb13 (by omega))
    have Bx0_13 := (hb13.cell (p := ⟨w6.heap.size, 0, none⟩) (by dsimp only; omega)).trans Bx0_12
    have Bx1_13 := (hb13.cell (p := ⟨w6.heap.size, 1, none⟩) (by dsimp only; omega)).trans Bx1_12
    have Iz2_13 := Lib.hid (Iz2_12.out.on hb13)
    have Iz3_13 := Lib.hid (Iz3_12.out.on hb13)
    clear b0 b1
    obtain ⟨b0, b1⟩ := box2 hB13
    clear hB12 Rx_12 Bx0_12 Bx1_12 Iz2_12 Iz3_12 hb13
    have hlu3 := iown_lt' hOu3
    have Iu3_13 := Lib.hid hOu3
    clear hOu3
    refine Lib.hid ?_
    go_wp2_with (first | (go_at_call 21; refine (eqints_same _ _ _ _ cu3 _ Iz3_13.out.iat Iu3_13.out.iat hcl3).mono ?_; rintro e w14 ⟨rfl, hb14⟩; refine Hid.out ?_) | fail)
    have hz14 := hb14.size
    have hB14 := on_call hB13 hb14
    have Rx_14 := Lib.hid (Rx_13.out.kept hb14 (by omega))
    have Bx0_14 := (hb14.cell (p := ⟨w6.heap.size, 0, none⟩) (by dsimp only; omega)).trans Bx0_13
    have Bx1_14 := (hb14.cell (p := ⟨w6.heap.size, 1, none⟩) (by dsimp only; omega)).trans Bx1_13
    have Iz2_14 := Lib.hid (Iz2_13.out.on hb14)
    have Iz3_14 := Lib.hid (Iz3_13.out.on hb14)
    have Iu3_14 := Lib.hid (Iu3_13.out.on hb14)
    clear b0 b1
    obtain ⟨b0, b1⟩ := box2 hB14
    clear hB13 Rx_13 Bx0_13 Bx1_13 Iz2_13 Iz3_13 Iu3_13 hb14
    clear Iu3_14
    refine Lib.hid ?_
    go_wp2_with fail
    go_ret
    exact ⟨rfl, below_box hB14⟩
end Go.Proofs.Ytpldbakllegheaa.S2

namespace Go.Proofs.Ytpldbakllegheaa.S2
open Go.RowKit P2
theorem law_nd (n : Int) (A : Option Addr) (cap : Nat) (ps : List Pp) (x : Int) (AC : Option Addr) (cc : Nat) (cu : List Int) (AH : Option Addr) (ch : Nat) (hs : List Int) (need : Int) (w : World) (h : PAt w A ps) (hm : ps.length ≤ maxLen) (hc : IAt w AC cu) (hmc : cu.length ≤ maxLen) (hi : IAt w AH hs) (hmi : hs.length ≤ maxLen) :
    Calls Try.prog 7 #[nv n A ps.length cap, .int .i64 x, .slice AC cu.length cc, .slice AH hs.length ch, .int .i64 need] w fun e w' => e = .returned (.bool true) ∧ Below w.heap.size w w' := by
  cases hv : askP n ps x cu 0 hs with
  | false => exact walkHeadNeeded n A cap ps x AC cc cu AH ch hs need w h hm hc hmc hi hmi 0 false (fun A c AC cc AH ch w h hl _ hc hcl hi hil => snd_no n A c ps x AC cc cu AH ch hs need w h hm hc hcl hi hil (.inl hv)) (fun A c AC cc AH ch w h hl _ hc hcl hi hil => nd_no1 n A c ps x AC cc cu AH ch hs need w (fun w' hb => pr_bad n A c ps x AC cc cu 0 AH ch hs w' (h.kept hb (Nat.le_refl _)) hm (hc.kept hb (Nat.le_refl _)) hcl (hi.kept hb (Nat.le_refl _)) hil (askP_no hv)))
  | true =>
    obtain ⟨hva, hvs⟩ := askP_of hv
    obtain ⟨N, X, rfl, rfl, h1, h2, h3, h4⟩ := askH_of hva
    obtain ⟨hg, hX1, hX2⟩ := nodeB_of h1
    obtain ⟨_, hdn, hr⟩ := demB_of h2
    obtain ⟨hsl, hsr⟩ := hsB_of hvs
    have hN8 := hg.2.1
    have hN1 := hg.1
    have hPL : (prL N ps X cu 0 hs).length = N := prL_len _ _ _ _ _ _
    cases hne : hdR need with
    | false => exact walkHeadNeeded N A cap ps X AC cc cu AH ch hs need w h hm hc hmc hi hmi 0 false (fun A c AC cc AH ch w h hl _ hc hcl hi hil => snd_no N A c ps X AC cc cu AH ch hs need w h hm hc hcl hi hil (.inr hne)) (fun A c AC cc AH ch w h hl _ hc hcl hi hil => nd_no2 N A c ps X AC cc cu AH ch hs need _ w hne (fun w' hb => pr_yes N X A c ps AC cc cu 0 AH ch hs w' (h.kept hb (Nat.le_refl _)) hm (hc.kept hb (Nat.le_refl _)) hcl (hi.kept hb (Nat.le_refl _)) h1 h3 h2 h4 hvs))
    | true =>
      obtain ⟨hn1, hn2⟩ := hdR_of hne
      have hb : ∀ i, i < (prL N ps X cu 0 hs).length → -1000000000000 ≤ lA (prL N ps X cu 0 hs) i ∧ lA (prL N ps X cu 0 hs) i ≤ 1000000000000 := fun i hi => by
        rw [hPL] at hi
        rw [prL_at hi]
        have a := hdF_in hg h3 hr hdn (s := X) (h := 0) (by omega) (by omega) (by omega) (by omega) hi
        have b := allR_at hsr (i := i) (by omega)
        unfold lA
        omega
      have he := need_nn (ps := ps) (s := X) (dm := cu) (hs := hs) hn1 (by omega) (by omega) hsr (show hs.length = N by omega)
      obtain ⟨u, hu⟩ : ∃ u : Int × Bool, u = if hdR (need - loK (prL N ps X cu 0 hs) (prL N ps X cu 0 hs).length) = true then (need - loK (prL N ps X cu 0 hs) (prL N ps X cu 0 hs).length, true) else (0, false) := ⟨_, rfl⟩
      exact walkHeadNeeded N A cap ps X AC cc cu AH ch hs need w h hm hc hmc hi hmi u.1 u.2 (fun A c AC cc AH ch w h hl hcap hc hcl hi hil => snd_ok N X A c ps AC cc cu AH ch hs need u w h hm hcap hc hcl hi hil hva h1 h3 h2 h4 hvs hne hb (by rw [he]; exact hu)) (fun A c AC cc AH ch w h hl _ hc hcl hi hil => nd_ok N A c ps X AC cc cu AH ch hs need (prL N ps X cu 0 hs) u w (by rw [hPL]; omega) (by rw [hPL]; omega) hb hne hu (fun w' hb => pr_yes N X A c ps AC cc cu 0 AH ch hs w' (h.kept hb (Nat.le_refl _)) hm (hc.kept hb (Nat.le_refl _)) hcl (hi.kept hb (Nat.le_refl _)) h1 h3 h2 h4 hvs))
end Go.Proofs.Ytpldbakllegheaa.S2

namespace Go.Proofs.Ytpldbakllegheaa.fnExactHeadNeeded
open Go.ChangeShapes Go.WideShapes Go.ChangeAt Go.RowKit P2 S2
set_option linter.unusedVariables false

theorem own : ownKnob Try.prog.godebug = none := by kernel_rfl
theorem laidOut : laidOutB Try.prog = true := by kernel_rfl

set_option maxRecDepth 100000 in
theorem lifted (os : Os) (started : os.Started) (H : Type) (enc : TypeId × Value → H) :
    ReturnsInHanded {} Try.checked os 7 .any (Rows.fnExactHeadNeededSpec.pre6 enc Try.prog Try.f7 Rows.fnExactHeadNeededRow.domain false) (Rows.fnExactHeadNeededSpec.post enc Try.prog Try.f7 false true false false) := by
  refine returnsInHanded_of_change (C := Try.checked) own started (by kernel_rfl) Try.func7
    (ChangeSpec.witness6 (enc := enc) (C := Try.checked) false ⟨#[], #[.agg #[.int .i64 0, .slice none 0 0], .int .i64 0, .slice none 0 0, .slice none 0 0, .int .i64 0], []⟩ 8 (by kernel_rfl) (by kernel_rfl) (by kernel_rfl) (by kernel_rfl)) ?_
  intro W base args ds gs before hval0 hW hcnd _
  have hval : ∀ (j : Nat) t v, Try.f7.params[j]? = some t → args[j]? = some v → Value.okWide Try.prog W .any base t v := hval0
  have hW' := hW
  obtain ⟨p, q, hA0, hV, rfl, hfz, hnd⟩ := hW
  have hA : DataW.TrodAll enc Try.prog W 0 (fun _ => true) true Try.f7.params.toList args.toList ds p := hA0
  rw [Try.params7] at hA hval
  obtain ⟨v0, v1, v2, v3, v4, d0, d1, d2, d3, d4, p0, p1, p2, p3, p4, rfl, rfl, rfl, h0, h1, h2, h3, h4⟩ := trodAll_five hA
  obtain ⟨rfl, rfl⟩ := trodVars_none hV
  have k0 := h0
  have lt0 : ∀ x ∈ p0, x.block < W.heap.size := by obtain ⟨m, hm⟩ := k0; exact DataW.trod_lt m _ _ _ hm
  obtain ⟨n0, A0, cap0, ps0, rfl, at0, mx0⟩ := net_open (hval 0 24 v0 rfl rfl) h0
  obtain ⟨a1, rfl, rfl, rfl, w1⟩ := open_int Try.underlying3 (hval 1 3 v1 rfl rfl) h1
  have k2 := h2
  have lt2 : ∀ x ∈ p2, x.block < W.heap.size := by obtain ⟨m, hm⟩ := k2; exact DataW.trod_lt m _ _ _ hm
  obtain ⟨A2, cap2, cu2, rfl, at2, mx2⟩ := intsarg_open (hval 2 25 v2 rfl rfl) h2
  have k3 := h3
  have lt3 : ∀ x ∈ p3, x.block < W.heap.size := by obtain ⟨m, hm⟩ := k3; exact DataW.trod_lt m _ _ _ hm
  obtain ⟨A3, cap3, cu3, rfl, at3, mx3⟩ := intsarg_open (hval 3 25 v3 rfl rfl) h3
  obtain ⟨a4, rfl, rfl, rfl, w4⟩ := open_int Try.underlying3 (hval 4 3 v4 rfl rfl) h4
  clear hA0 hval0
  refine (law_nd n0 A0 cap0 ps0 a1 A2 cap2 cu2 A3 cap3 cu3 a4 W at0 mx0 at2 mx2 at3 mx3).mono fun e W' ⟨he, bel⟩ => ?_
  subst he
  exact ⟨_, rfl, _, _, _, [], _, [], hW', trodAll_mk1 (shut_bool Try.underlying4 _), trodAll_mk5 (Below.trod laidOut (by kernel_rfl) (of_decide_eq_true (by kernel_rfl)) k0 bel lt0) (shut_int Try.underlying3 w1) (Below.trod laidOut (by kernel_rfl) (of_decide_eq_true (by kernel_rfl)) k2 bel lt2) (Below.trod laidOut (by kernel_rfl) (of_decide_eq_true (by kernel_rfl)) k3 bel lt3) (shut_int Try.underlying3 w4), rfl, bel.frame _, fun h => by cases h⟩

theorem proved : Rows.FnExactHeadNeededSaid :=
  OpenClaim.holds_of_wide 7 Try.f7 rfl rfl rfl rfl rfl rfl rfl ⟨rfl, rfl, rfl, rfl, rfl⟩ rfl rfl rfl rfl rfl (by kernel_rfl) Try.func7 (by kernel_rfl)
    (of_decide_eq_true (by kernel_rfl)) (by unfold Func.isWrapper; first | (rw [if_pos (by decide +kernel)]; kernel_rfl) | (rw [if_neg (by decide +kernel)]; exact ⟨rfl, rfl⟩))
    (fun os started H enc _ => lifted os started H enc)
end Go.Proofs.Ytpldbakllegheaa.fnExactHeadNeeded
namespace Go.Proofs.Ytpldbakllegheaa
theorem FnExactHeadNeeded_holds : Rows.FnExactHeadNeededSaid := fnExactHeadNeeded.proved
#print axioms FnExactHeadNeeded_holds
end Go.Proofs.Ytpldbakllegheaa
