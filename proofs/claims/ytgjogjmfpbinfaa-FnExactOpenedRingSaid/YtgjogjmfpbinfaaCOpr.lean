/- The law FnExactOpenedRing holds of the program: for every network and Id OpenedRing answers as its model, writes into no argument, and its answer owns its memory. Condition: the arguments are laid out as the row says. -/
import Derived.Test.YtgjogjmfpbinfaaNetKit
import Derived.Deep.DeepCutAuto
import Derived.Test.YtgjogjmfpbinfaaKO
import Derived.Test.YtgjogjmfpbinfaaRows
import Derived.Test.YtgjogjmfpbinfaaOpenOne
import Derived.WalkKit
import Derived.ProofKit
import Derived.OpenShut
import Derived.ChangeOld
import Derived.Below
namespace Go.Proofs.Ytgjogjmfpbinfaa.S2
open Go.RowKit P2

set_option maxHeartbeats 16000000 in
set_option maxRecDepth 100000 in
theorem walkOpenedRing (n : Int) (A : Option Addr) (cap : Nat) (ps : List Pp) (x1 : Int) (w : World) (h : PAt w A ps) (hm : ps.length ≤ maxLen) (N0 : Int) (L0 : List Pp) (hL0 : L0.length ≤ 1000) (sv0 : Bool)
    (hs : ∀ (A : Option Addr) (cap : Nat) (w : World), PAt w A ps → ps.length ≤ 1048576 → ps.length = cap → Calls Try.prog 41 #[nv n A ps.length cap, .int .i64 x1] w (GivesNA w N0 L0 sv0))
    (hi : ∀ (A : Option Addr) (cap : Nat) (w : World), PAt w A ps → ps.length ≤ 1048576 → ps.length = cap → Calls Try.prog 42 #[nv n A ps.length cap, .int .i64 x1] w (GivesNI w N0 L0 sv0)) :
    Calls Try.prog 10 #[nv n A ps.length cap, .int .i64 x1] w fun e w' => e = .returned (.bool true) ∧ Below w.heap.size w w' := by
  have HA := Lib.hid h
  have HM := Lib.hid hm
  have HS := Lib.hid hs
  have HI := Lib.hid hi
  clear h hm hs hi
  go_enter Try.func10, Try.ntmps10
  go_wp2_with (go_at_call 19; refine (sznet_le n A ps.length cap _ HM.out).mono ?_; rintro e w1 ⟨⟨r, rfl, hr⟩, hb1⟩; refine Hid.out ?_)
  have hB1 : Below (w.heap.size + 1) (w.alloc (.cells #[.int .i64 n, .slice A ps.length cap] 24)) w1 := by simpa using hb1
  clear hb1
  obtain ⟨b0, b1⟩ := box2 hB1
  have hz1 : w.heap.size < w1.heap.size := box_lt hB1
  by_cases hr0 : r < 0
  · refine Lib.hid ?_
    go_wp2
    go_ret
    exact ⟨rfl, below_box hB1⟩
  have hlen : ps.length ≤ 1048576 := by rcases hr with h | h; exact absurd h hr0; exact h.2.2
  clear hr
  refine Lib.hid ?_
  go_wp2_with (first | (go_at_call 21; refine (tonet_any n A cap ps _ (HA.out.kept (below_box hB1) (Nat.le_refl _)) hlen).mono ?_; rintro e w2 ⟨⟨ga, rfl, hga, hrowa⟩, hb2⟩; refine Hid.out ?_) | fail)
  have hz2 := hb2.size
  have hB2 := on_call hB1 hb2
  clear b0 b1
  obtain ⟨b0, b1⟩ := box2 hB2
  clear hB1 hb2
  have hla := hrowa.lt
  have Ta_2 := Lib.hid hrowa.at_
  clear hrowa
  refine Lib.hid ?_
  go_wp2_with (first | (go_at_call 41; refine (HS.out _ _ _ Ta_2.out hlen rfl).mono ?_; rintro e w3 ⟨AS, cS, rfl, hlS, hS, hb3⟩; refine Hid.out ?_) | fail)
  have hz3 := hb3.size
  have hB3 := on_call hB2 hb3
  have Ta_3 := Lib.hid (Ta_2.out.kept hb3 (Nat.le_refl _))
  clear b0 b1
  obtain ⟨b0, b1⟩ := box2 hB3
  clear hB2 Ta_2 hb3
  have SS_3 := Lib.hid (PB.of hS)
  have hSz : w3.heap.size ≤ w3.heap.size := Nat.le_refl _
  clear hS
  clear Ta_3
  have hb3a := alloc_below w3 (.cells #[.int .i64 N0, .slice AS L0.length cS] 30)
  have hz3a : w3.heap.size < (w3.alloc (.cells #[.int .i64 N0, .slice AS L0.length cS] 30)).heap.size := by simp
  have hB3a := on_call hB3 hb3a
  have SS_3a := Lib.hid (SS_3.out.kept hb3a)
  have hqn : w.heap.size < w3.heap.size := by omega
  refine Lib.hid ?_
  go_wp2_with (first | (go_at_call 21; refine (tonet_any n A cap ps _ (HA.out.kept (below_box hB3a) (Nat.le_refl _)) hlen).mono ?_; rintro e w4 ⟨⟨gx, rfl, hgx, hrowx⟩, hb4⟩; refine Hid.out ?_) | fail)
  replace hb4 : Below (w3.alloc (.cells #[.int .i64 N0, .slice AS L0.length cS] 30)).heap.size (w3.alloc (.cells #[.int .i64 N0, .slice AS L0.length cS] 30)) w4 := hb4
  have Bw0_4 := (hb4.cell (p := ⟨w3.heap.size, 0, none⟩) (by dsimp only; omega)).trans (boxA0 (w := w3))
  have Bw1_4 := (hb4.cell (p := ⟨w3.heap.size, 1, none⟩) (by dsimp only; omega)).trans (boxA1 (w := w3))
  have hz4 := hb4.size
  have hB4 := on_call hB3a hb4
  have SS_4 := Lib.hid (SS_3a.out.kept hb4)
  clear b0 b1
  obtain ⟨b0, b1⟩ := box2 hB4
  clear hB3a SS_3a hb4
  clear hB3 SS_3 hqn hb3a
  have hlx := hrowx.lt
  have Rx_4 := Lib.hid hrowx
  clear hrowx
  have hb4a := alloc_below w4 (.cells #[.int .i64 n, .slice (some ⟨gx, 0, none⟩) ps.length ps.length] 30)
  have hz4a : w4.heap.size < (w4.alloc (.cells #[.int .i64 n, .slice (some ⟨gx, 0, none⟩) ps.length ps.length] 30)).heap.size := by simp
  have hB4a := on_call hB4 hb4a
  have SS_4a := Lib.hid (SS_4.out.kept hb4a)
  have Bw0_4a := Lib.hid ((hb4a.cell (p := ⟨w3.heap.size, 0, none⟩) (by dsimp only; omega)).trans Bw0_4)
  have Bw1_4a := Lib.hid ((hb4a.cell (p := ⟨w3.heap.size, 1, none⟩) (by dsimp only; omega)).trans Bw1_4)
  have Rx_4a := Lib.hid (Rx_4.out.kept hb4a (by omega))
  have hqn : w.heap.size < w4.heap.size := by omega
  have hqw : w3.heap.size < w4.heap.size := by omega
  refine Lib.hid ?_
  go_wp2_with (first | (go_at_call 42; refine (HI.out _ _ _ Rx_4a.out.at_ hlen rfl).mono ?_; rintro e w5 ⟨gIp, cIp, BIp, rfl, hgIp, hOp, hb5⟩; refine Hid.out ?_) | fail)
  replace hb5 : Below (w4.alloc (.cells #[.int .i64 n, .slice (some ⟨gx, 0, none⟩) ps.length ps.length] 30)).heap.size (w4.alloc (.cells #[.int .i64 n, .slice (some ⟨gx, 0, none⟩) ps.length ps.length] 30)) w5 := hb5
  have Bx0_5 := (hb5.cell (p := ⟨w4.heap.size, 0, none⟩) (by dsimp only; omega)).trans (boxA0 (w := w4))
  have Bx1_5 := (hb5.cell (p := ⟨w4.heap.size, 1, none⟩) (by dsimp only; omega)).trans (boxA1 (w := w4))
  have hz5 := hb5.size
  have hB5 := on_call hB4a hb5
  have SS_5 := Lib.hid (SS_4a.out.kept hb5)
  have Bw0_5 := (hb5.cell (p := ⟨w3.heap.size, 0, none⟩) (by dsimp only; omega)).trans Bw0_4a.out
  have Bw1_5 := (hb5.cell (p := ⟨w3.heap.size, 1, none⟩) (by dsimp only; omega)).trans Bw1_4a.out
  have Rx_5 := Lib.hid (Rx_4a.out.kept hb5 (by omega))
  clear b0 b1
  obtain ⟨b0, b1⟩ := box2 hB5
  clear hB4a SS_4a Bw0_4a Bw1_4a Rx_4a hb5
  clear hB4 SS_4 Bw0_4 Bw1_4 Rx_4 hqn hqw hb4a
  have hlIp := (hOp.lt gIp rfl).2
  have Opq_5 := Lib.hid hOp
  clear hOp
  have hb5a := alloc_below w5 (.cells #[.int .i64 N0, .slice (some ⟨gIp, 0, none⟩) L0.length cIp] 30)
  have hz5a : w5.heap.size < (w5.alloc (.cells #[.int .i64 N0, .slice (some ⟨gIp, 0, none⟩) L0.length cIp] 30)).heap.size := by simp
  have hB5a := on_call hB5 hb5a
  have SS_5a := Lib.hid (SS_5.out.kept hb5a)
  have Bw0_5a := Lib.hid ((hb5a.cell (p := ⟨w3.heap.size, 0, none⟩) (by dsimp only; omega)).trans Bw0_5)
  have Bw1_5a := Lib.hid ((hb5a.cell (p := ⟨w3.heap.size, 1, none⟩) (by dsimp only; omega)).trans Bw1_5)
  have Rx_5a := Lib.hid (Rx_5.out.kept hb5a (by omega))
  have Bx0_5a := Lib.hid ((hb5a.cell (p := ⟨w4.heap.size, 0, none⟩) (by dsimp only; omega)).trans Bx0_5)
  have Bx1_5a := Lib.hid ((hb5a.cell (p := ⟨w4.heap.size, 1, none⟩) (by dsimp only; omega)).trans Bx1_5)
  have Opq_5a := Lib.hid (own_onP Opq_5.out hb5a)
  have hqn : w.heap.size < w5.heap.size := by omega
  have hqw : w3.heap.size < w5.heap.size := by omega
  have hqx : w4.heap.size < w5.heap.size := by omega
  refine Lib.hid ?_
  go_wp2_with (first | (go_at_call 23; refine (eqnet_same N0 _ _ _ _ L0 _ (own_patP Opq_5a.out) SS_5a.out.1 (by omega)).mono ?_; rintro e w6 ⟨rfl, hb6⟩; refine Hid.out ?_) | fail)
  replace hb6 : Below (w5.alloc (.cells #[.int .i64 N0, .slice (some ⟨gIp, 0, none⟩) L0.length cIp] 30)).heap.size (w5.alloc (.cells #[.int .i64 N0, .slice (some ⟨gIp, 0, none⟩) L0.length cIp] 30)) w6 := hb6
  have Bg0_6 := (hb6.cell (p := ⟨w5.heap.size, 0, none⟩) (by dsimp only; omega)).trans (boxA0 (w := w5))
  have Bg1_6 := (hb6.cell (p := ⟨w5.heap.size, 1, none⟩) (by dsimp only; omega)).trans (boxA1 (w := w5))
  have hz6 := hb6.size
  have hB6 := on_call hB5a hb6
  have SS_6 := Lib.hid (SS_5a.out.kept hb6)
  have Bw0_6 := (hb6.cell (p := ⟨w3.heap.size, 0, none⟩) (by dsimp only; omega)).trans Bw0_5a.out
  have Bw1_6 := (hb6.cell (p := ⟨w3.heap.size, 1, none⟩) (by dsimp only; omega)).trans Bw1_5a.out
  have Rx_6 := Lib.hid (Rx_5a.out.kept hb6 (by omega))
  have Bx0_6 := (hb6.cell (p := ⟨w4.heap.size, 0, none⟩) (by dsimp only; omega)).trans Bx0_5a.out
  have Bx1_6 := (hb6.cell (p := ⟨w4.heap.size, 1, none⟩) (by dsimp only; omega)).trans Bx1_5a.out
  have Opq_6 := Lib.hid (own_onP Opq_5a.out hb6)
  clear b0 b1
  obtain ⟨b0, b1⟩ := box2 hB6
  clear hB5a SS_5a Bw0_5a Bw1_5a Rx_5a Bx0_5a Bx1_5a Opq_5a hb6
  clear hB5 SS_5 Bw0_5 Bw1_5 Rx_5 Bx0_5 Bx1_5 Opq_5 hqn hqw hqx hb5a
  refine Lib.hid ?_
  go_upto_region 10 with (fail)
  go_cut [49] (fun st wx => st = .bool false ∧ Hid (Below w6.heap.size w6 wx))
  case first =>
    have hA7 := Lib.hid (HA.out.kept (below_box hB6) (Nat.le_refl _))
    have hat7 := Lib.hid Rx_6.out.at_
    have hx4 : w4.heap.size < w6.heap.size := by omega
    go_region_with (first
      | (go_at_call 21; refine (tonet_any n A cap ps w6.drew hA7.out hlen).mono ?_; rintro e wqa ⟨⟨gqa, rfl, hgqa, hrowqa⟩, hbqa⟩; have HBqa := Lib.hid hbqa; have hatqa := Lib.hid hrowqa.at_; have hatqb := Lib.hid (PAt.kept (w := w6.drew) hat7.out hbqa (Nat.le_refl _)); have z0 := (hbqa.cell (p := ⟨w4.heap.size, 0, none⟩) hx4).trans Bx0_6; have z1 := (hbqa.cell (p := ⟨w4.heap.size, 1, none⟩) hx4).trans Bx1_6; clear hgqa hrowqa hbqa)
      | (go_at_call 23; refine (eqnet_same n _ _ _ _ ps wqa hatqb.out hatqa.out hlen).mono ?_; rintro e wqb ⟨rfl, hbqb⟩))
    all_goals
      go_wp2_with fail
      go_meet
      exact ⟨rfl, Lib.hid ((Below.refl w6.heap.size w6).drew.trans (HBqa.out.trans (hbqb.mono HBqa.out.size)))⟩
  case rest =>
    obtain ⟨rfl, hbc⟩ := hcut
    obtain ⟨w7, hwb⟩ : ∃ w7, w7 = wc := ⟨_, rfl⟩
    subst hwb
    have hb7 := hbc.out
    clear hbc
    have hz7 := hb7.size
    have hB7 := on_call hB6 hb7
    have SS_7 := Lib.hid (SS_6.out.kept hb7)
    have Bw0_7 := (hb7.cell (p := ⟨w3.heap.size, 0, none⟩) (by dsimp only; omega)).trans Bw0_6
    have Bw1_7 := (hb7.cell (p := ⟨w3.heap.size, 1, none⟩) (by dsimp only; omega)).trans Bw1_6
    have Rx_7 := Lib.hid (Rx_6.out.kept hb7 (by omega))
    have Bx0_7 := (hb7.cell (p := ⟨w4.heap.size, 0, none⟩) (by dsimp only; omega)).trans Bx0_6
    have Bx1_7 := (hb7.cell (p := ⟨w4.heap.size, 1, none⟩) (by dsimp only; omega)).trans Bx1_6
    have Opq_7 := Lib.hid (own_onP Opq_6.out hb7)
    have Bg0_7 := (hb7.cell (p := ⟨w5.heap.size, 0, none⟩) (by dsimp only; omega)).trans Bg0_6
    have Bg1_7 := (hb7.cell (p := ⟨w5.heap.size, 1, none⟩) (by dsimp only; omega)).trans Bg1_6
    clear b0 b1
    obtain ⟨b0, b1⟩ := box2 hB7
    clear hB6 SS_6 Bw0_6 Bw1_6 Rx_6 Bx0_6 Bx1_6 Opq_6 Bg0_6 Bg1_6 hb7
    have HRX := Rx_7
    clear Rx_7
    refine Lib.hid ?_
    go_wp2_with (first | (go_at_call 27; refine (marknetk_any n gx 1 ps _ HRX.out hlen (by omega)).mono ?_; rintro e w8 ⟨rfl, hg8⟩; refine Hid.out ?_) | fail)
    have hz8 := hg8.size
    have hB8 := hB7.grown hg8 (by omega) (fun k hk => by simp at hk; omega)
    have SS_8 := Lib.hid (SS_7.out.far hg8 (by omega))
    have Bw0_8 := (hg8.cell_far ⟨w3.heap.size, 0, none⟩ (by dsimp only; omega) (by simp; omega)).trans Bw0_7
    have Bw1_8 := (hg8.cell_far ⟨w3.heap.size, 1, none⟩ (by dsimp only; omega) (by simp; omega)).trans Bw1_7
    have Bx0_8 := (hg8.cell_far ⟨w4.heap.size, 0, none⟩ (by dsimp only; omega) (by simp; omega)).trans Bx0_7
    have Bx1_8 := (hg8.cell_far ⟨w4.heap.size, 1, none⟩ (by dsimp only; omega) (by simp; omega)).trans Bx1_7
    have Opq_8 := Lib.hid (own_farP Opq_7.out hg8 (by omega))
    have Bg0_8 := (hg8.cell_far ⟨w5.heap.size, 0, none⟩ (by dsimp only; omega) (by simp; omega)).trans Bg0_7
    have Bg1_8 := (hg8.cell_far ⟨w5.heap.size, 1, none⟩ (by dsimp only; omega) (by simp; omega)).trans Bg1_7
    clear b0 b1
    obtain ⟨b0, b1⟩ := box2 hB8
    clear hB7 SS_7 Bw0_7 Bw1_7 Bx0_7 Bx1_7 Opq_7 Bg0_7 Bg1_7 hg8
    clear Bx0_8 Bx1_8
    refine Lib.hid ?_
    go_wp2_with (first | (go_at_call 23; refine (eqnet_same N0 _ _ _ _ L0 _ (own_patP Opq_8.out) SS_8.out.1 (by omega)).mono ?_; rintro e w9 ⟨rfl, hb9⟩; refine Hid.out ?_) | fail)
    have hz9 := hb9.size
    have hB9 := on_call hB8 hb9
    have SS_9 := Lib.hid (SS_8.out.kept hb9)
    have Bw0_9 := (hb9.cell (p := ⟨w3.heap.size, 0, none⟩) (by dsimp only; omega)).trans Bw0_8
    have Bw1_9 := (hb9.cell (p := ⟨w3.heap.size, 1, none⟩) (by dsimp only; omega)).trans Bw1_8
    have Opq_9 := Lib.hid (own_onP Opq_8.out hb9)
    have Bg0_9 := (hb9.cell (p := ⟨w5.heap.size, 0, none⟩) (by dsimp only; omega)).trans Bg0_8
    have Bg1_9 := (hb9.cell (p := ⟨w5.heap.size, 1, none⟩) (by dsimp only; omega)).trans Bg1_8
    clear b0 b1
    obtain ⟨b0, b1⟩ := box2 hB9
    clear hB8 SS_8 Bw0_8 Bw1_8 Opq_8 Bg0_8 Bg1_8 hb9
    have HOI := Opq_9
    clear Opq_9
    refine Lib.hid ?_
    go_wp2_with (first | (go_at_call 27; refine (marknet_own N0 BIp gIp cIp L0.length (pcs L0) (pcs_len L0) _ HOI.out (by omega)).mono ?_; rintro e w10 ⟨rfl, hM, hg10⟩; refine Hid.out ?_) | fail)
    have hz10 := hg10.size
    have hB10 := hB9.grown hg10 (by omega) (fun k hk => by simp at hk; omega)
    have SS_10 := Lib.hid (SS_9.out.far hg10 (by omega))
    have Bw0_10 := (hg10.cell_far ⟨w3.heap.size, 0, none⟩ (by dsimp only; omega) (by simp; omega)).trans Bw0_9
    have Bw1_10 := (hg10.cell_far ⟨w3.heap.size, 1, none⟩ (by dsimp only; omega) (by simp; omega)).trans Bw1_9
    have Bg0_10 := (hg10.cell_far ⟨w5.heap.size, 0, none⟩ (by dsimp only; omega) (by simp; omega)).trans Bg0_9
    have Bg1_10 := (hg10.cell_far ⟨w5.heap.size, 1, none⟩ (by dsimp only; omega) (by simp; omega)).trans Bg1_9
    clear b0 b1
    obtain ⟨b0, b1⟩ := box2 hB10
    clear hB9 SS_9 Bw0_9 Bw1_9 Bg0_9 Bg1_9 hg10
    have MI_10 := Lib.hid hM
    clear hM
    refine Lib.hid ?_
    go_wp2_with (first | (go_at_call 43; refine (heldnet_any N0 gIp cIp L0.length _ MI_10.out (by omega)).mono ?_; rintro e w11 ⟨rfl, hb11⟩; refine Hid.out ?_) | fail)
    have hz11 := hb11.size
    have hB11 := on_call hB10 hb11
    have SS_11 := Lib.hid (SS_10.out.kept hb11)
    have Bw0_11 := (hb11.cell (p := ⟨w3.heap.size, 0, none⟩) (by dsimp only; omega)).trans Bw0_10
    have Bw1_11 := (hb11.cell (p := ⟨w3.heap.size, 1, none⟩) (by dsimp only; omega)).trans Bw1_10
    have Bg0_11 := (hb11.cell (p := ⟨w5.heap.size, 0, none⟩) (by dsimp only; omega)).trans Bg0_10
    have Bg1_11 := (hb11.cell (p := ⟨w5.heap.size, 1, none⟩) (by dsimp only; omega)).trans Bg1_10
    have MI_11 := Lib.hid (MI_10.out.kept hb11)
    clear b0 b1
    obtain ⟨b0, b1⟩ := box2 hB11
    clear hB10 SS_10 Bw0_10 Bw1_10 Bg0_10 Bg1_10 MI_10 hb11
    refine Lib.hid ?_
    go_wp2_with (first | (go_at_call 21; refine (tonet_any n A cap ps _ (HA.out.kept (below_box hB11) (Nat.le_refl _)) hlen).mono ?_; rintro e w12 ⟨⟨gy, rfl, hgy, hrowy⟩, hb12⟩; refine Hid.out ?_) | fail)
    have hz12 := hb12.size
    have hB12 := on_call hB11 hb12
    have SS_12 := Lib.hid (SS_11.out.kept hb12)
    have Bw0_12 := (hb12.cell (p := ⟨w3.heap.size, 0, none⟩) (by dsimp only; omega)).trans Bw0_11
    have Bw1_12 := (hb12.cell (p := ⟨w3.heap.size, 1, none⟩) (by dsimp only; omega)).trans Bw1_11
    have Bg0_12 := (hb12.cell (p := ⟨w5.heap.size, 0, none⟩) (by dsimp only; omega)).trans Bg0_11
    have Bg1_12 := (hb12.cell (p := ⟨w5.heap.size, 1, none⟩) (by dsimp only; omega)).trans Bg1_11
    have MI_12 := Lib.hid (MI_11.out.kept hb12)
    clear b0 b1
    obtain ⟨b0, b1⟩ := box2 hB12
    clear hB11 SS_11 Bw0_11 Bw1_11 Bg0_11 Bg1_11 MI_11 hb12
    have hly := hrowy.lt
    have Ty_12 := Lib.hid hrowy.at_
    clear hrowy
    refine Lib.hid ?_
    go_wp2_with (first | (go_at_call 42; refine (HI.out _ _ _ Ty_12.out hlen rfl).mono ?_; rintro e w13 ⟨gIh, cIh, BIh, rfl, hgIh, hOh, hb13⟩; refine Hid.out ?_) | fail)
    have hz13 := hb13.size
    have hB13 := on_call hB12 hb13
    have SS_13 := Lib.hid (SS_12.out.kept hb13)
    have Bw0_13 := (hb13.cell (p := ⟨w3.heap.size, 0, none⟩) (by dsimp only; omega)).trans Bw0_12
    have Bw1_13 := (hb13.cell (p := ⟨w3.heap.size, 1, none⟩) (by dsimp only; omega)).trans Bw1_12
    have Bg0_13 := (hb13.cell (p := ⟨w5.heap.size, 0, none⟩) (by dsimp only; omega)).trans Bg0_12
    have Bg1_13 := (hb13.cell (p := ⟨w5.heap.size, 1, none⟩) (by dsimp only; omega)).trans Bg1_12
    have MI_13 := Lib.hid (MI_12.out.kept hb13)
    have Ty_13 := Lib.hid (Ty_12.out.kept hb13 (Nat.le_refl _))
    clear b0 b1
    obtain ⟨b0, b1⟩ := box2 hB13
    clear hB12 SS_12 Bw0_12 Bw1_12 Bg0_12 Bg1_12 MI_12 Ty_12 hb13
    have hlIh := (hOh.lt gIh rfl).2
    have Ohq_13 := Lib.hid hOh
    clear hOh
    clear Ty_13
    have hb13a := alloc_below w13 (.cells #[.int .i64 N0, .slice (some ⟨gIh, 0, none⟩) L0.length cIh] 30)
    have hz13a : w13.heap.size < (w13.alloc (.cells #[.int .i64 N0, .slice (some ⟨gIh, 0, none⟩) L0.length cIh] 30)).heap.size := by simp
    have hB13a := on_call hB13 hb13a
    have SS_13a := Lib.hid (SS_13.out.kept hb13a)
    have Bw0_13a := Lib.hid ((hb13a.cell (p := ⟨w3.heap.size, 0, none⟩) (by dsimp only; omega)).trans Bw0_13)
    have Bw1_13a := Lib.hid ((hb13a.cell (p := ⟨w3.heap.size, 1, none⟩) (by dsimp only; omega)).trans Bw1_13)
    have Bg0_13a := Lib.hid ((hb13a.cell (p := ⟨w5.heap.size, 0, none⟩) (by dsimp only; omega)).trans Bg0_13)
    have Bg1_13a := Lib.hid ((hb13a.cell (p := ⟨w5.heap.size, 1, none⟩) (by dsimp only; omega)).trans Bg1_13)
    have MI_13a := Lib.hid (MI_13.out.kept hb13a)
    have Ohq_13a := Lib.hid (own_onP Ohq_13.out hb13a)
    have hqn : w.heap.size < w13.heap.size := by omega
    have hqw : w3.heap.size < w13.heap.size := by omega
    have hqg : w5.heap.size < w13.heap.size := by omega
    refine Lib.hid ?_
    go_wp2_with (first | (go_at_call 23; refine (eqnet_same N0 _ _ _ _ L0 _ (own_patP Ohq_13a.out) SS_13a.out.1 (by omega)).mono ?_; rintro e w14 ⟨rfl, hb14⟩; refine Hid.out ?_) | fail)
    replace hb14 : Below (w13.alloc (.cells #[.int .i64 N0, .slice (some ⟨gIh, 0, none⟩) L0.length cIh] 30)).heap.size (w13.alloc (.cells #[.int .i64 N0, .slice (some ⟨gIh, 0, none⟩) L0.length cIh] 30)) w14 := hb14
    have Bh0_14 := (hb14.cell (p := ⟨w13.heap.size, 0, none⟩) (by dsimp only; omega)).trans (boxA0 (w := w13))
    have Bh1_14 := (hb14.cell (p := ⟨w13.heap.size, 1, none⟩) (by dsimp only; omega)).trans (boxA1 (w := w13))
    have hz14 := hb14.size
    have hB14 := on_call hB13a hb14
    have SS_14 := Lib.hid (SS_13a.out.kept hb14)
    have Bw0_14 := (hb14.cell (p := ⟨w3.heap.size, 0, none⟩) (by dsimp only; omega)).trans Bw0_13a.out
    have Bw1_14 := (hb14.cell (p := ⟨w3.heap.size, 1, none⟩) (by dsimp only; omega)).trans Bw1_13a.out
    have Bg0_14 := (hb14.cell (p := ⟨w5.heap.size, 0, none⟩) (by dsimp only; omega)).trans Bg0_13a.out
    have Bg1_14 := (hb14.cell (p := ⟨w5.heap.size, 1, none⟩) (by dsimp only; omega)).trans Bg1_13a.out
    have MI_14 := Lib.hid (MI_13a.out.kept hb14)
    have Ohq_14 := Lib.hid (own_onP Ohq_13a.out hb14)
    clear b0 b1
    obtain ⟨b0, b1⟩ := box2 hB14
    clear hB13a SS_13a Bw0_13a Bw1_13a Bg0_13a Bg1_13a MI_13a Ohq_13a hb14
    clear hB13 SS_13 Bw0_13 Bw1_13 Bg0_13 Bg1_13 MI_13 Ohq_13 hqn hqw hqg hb13a
    refine Lib.hid ?_
    go_wp2_with (first | (go_at_call 43; refine (heldnet_any N0 gIp cIp L0.length _ MI_14.out (by omega)).mono ?_; rintro e w15 ⟨rfl, hb15⟩; refine Hid.out ?_) | fail)
    have hz15 := hb15.size
    have hB15 := on_call hB14 hb15
    have SS_15 := Lib.hid (SS_14.out.kept hb15)
    have Bw0_15 := (hb15.cell (p := ⟨w3.heap.size, 0, none⟩) (by dsimp only; omega)).trans Bw0_14
    have Bw1_15 := (hb15.cell (p := ⟨w3.heap.size, 1, none⟩) (by dsimp only; omega)).trans Bw1_14
    have Bg0_15 := (hb15.cell (p := ⟨w5.heap.size, 0, none⟩) (by dsimp only; omega)).trans Bg0_14
    have Bg1_15 := (hb15.cell (p := ⟨w5.heap.size, 1, none⟩) (by dsimp only; omega)).trans Bg1_14
    have MI_15 := Lib.hid (MI_14.out.kept hb15)
    have Ohq_15 := Lib.hid (own_onP Ohq_14.out hb15)
    have Bh0_15 := (hb15.cell (p := ⟨w13.heap.size, 0, none⟩) (by dsimp only; omega)).trans Bh0_14
    have Bh1_15 := (hb15.cell (p := ⟨w13.heap.size, 1, none⟩) (by dsimp only; omega)).trans Bh1_14
    clear b0 b1
    obtain ⟨b0, b1⟩ := box2 hB15
    clear hB14 SS_14 Bw0_14 Bw1_14 Bg0_14 Bg1_14 MI_14 Ohq_14 Bh0_14 Bh1_14 hb15
    refine Lib.hid ?_
    go_wp2_with fail
    go_ret
    exact ⟨rfl, (below_box hB15)⟩
end Go.Proofs.Ytgjogjmfpbinfaa.S2

namespace Go.Proofs.Ytgjogjmfpbinfaa.S2
open Go.RowKit P2

set_option maxHeartbeats 16000000 in
set_option maxRecDepth 100000 in
theorem walkOpenedRingn (n : Int) (A : Option Addr) (cap : Nat) (ps : List Pp) (x1 : Int) (w : World) (h : PAt w A ps) (hm : ps.length ≤ maxLen) (N0 : Int) (sv0 : Bool)
    (hs : ∀ (A : Option Addr) (cap : Nat) (w : World), PAt w A ps → ps.length ≤ 1048576 → ps.length = cap → Calls Try.prog 41 #[nv n A ps.length cap, .int .i64 x1] w (GivesNA w N0 [] sv0))
    (hi : ∀ (A : Option Addr) (cap : Nat) (w : World), PAt w A ps → ps.length ≤ 1048576 → ps.length = cap → Calls Try.prog 42 #[nv n A ps.length cap, .int .i64 x1] w (GivesN0 w N0 sv0)) :
    Calls Try.prog 10 #[nv n A ps.length cap, .int .i64 x1] w fun e w' => e = .returned (.bool true) ∧ Below w.heap.size w w' := by
  have HA := Lib.hid h
  have HM := Lib.hid hm
  have HS := Lib.hid hs
  have HI := Lib.hid hi
  clear h hm hs hi
  go_enter Try.func10, Try.ntmps10
  go_wp2_with (go_at_call 19; refine (sznet_le n A ps.length cap _ HM.out).mono ?_; rintro e w1 ⟨⟨r, rfl, hr⟩, hb1⟩; refine Hid.out ?_)
  have hB1 : Below (w.heap.size + 1) (w.alloc (.cells #[.int .i64 n, .slice A ps.length cap] 24)) w1 := by simpa using hb1
  clear hb1
  obtain ⟨b0, b1⟩ := box2 hB1
  have hz1 : w.heap.size < w1.heap.size := box_lt hB1
  by_cases hr0 : r < 0
  · refine Lib.hid ?_
    go_wp2
    go_ret
    exact ⟨rfl, below_box hB1⟩
  have hlen : ps.length ≤ 1048576 := by rcases hr with h | h; exact absurd h hr0; exact h.2.2
  clear hr
  refine Lib.hid ?_
  go_wp2_with (first | (go_at_call 21; refine (tonet_any n A cap ps _ (HA.out.kept (below_box hB1) (Nat.le_refl _)) hlen).mono ?_; rintro e w2 ⟨⟨ga, rfl, hga, hrowa⟩, hb2⟩; refine Hid.out ?_) | fail)
  have hz2 := hb2.size
  have hB2 := on_call hB1 hb2
  clear b0 b1
  obtain ⟨b0, b1⟩ := box2 hB2
  clear hB1 hb2
  have hla := hrowa.lt
  have Ta_2 := Lib.hid hrowa.at_
  clear hrowa
  refine Lib.hid ?_
  go_wp2_with (first | (go_at_call 41; refine (HS.out _ _ _ Ta_2.out hlen rfl).mono ?_; rintro e w3 ⟨AS, cS, rfl, hlS, hS, hb3⟩; refine Hid.out ?_) | fail)
  have hz3 := hb3.size
  have hB3 := on_call hB2 hb3
  have Ta_3 := Lib.hid (Ta_2.out.kept hb3 (Nat.le_refl _))
  clear b0 b1
  obtain ⟨b0, b1⟩ := box2 hB3
  clear hB2 Ta_2 hb3
  have SS_3 := Lib.hid (PB.of hS)
  have hSz : w3.heap.size ≤ w3.heap.size := Nat.le_refl _
  clear hS
  clear Ta_3
  have hb3a := alloc_below w3 (.cells #[.int .i64 N0, .slice AS 0 cS] 30)
  have hz3a : w3.heap.size < (w3.alloc (.cells #[.int .i64 N0, .slice AS 0 cS] 30)).heap.size := by simp
  have hB3a := on_call hB3 hb3a
  have SS_3a := Lib.hid (SS_3.out.kept hb3a)
  have hqn : w.heap.size < w3.heap.size := by omega
  refine Lib.hid ?_
  go_wp2_with (first | (go_at_call 21; refine (tonet_any n A cap ps _ (HA.out.kept (below_box hB3a) (Nat.le_refl _)) hlen).mono ?_; rintro e w4 ⟨⟨gx, rfl, hgx, hrowx⟩, hb4⟩; refine Hid.out ?_) | fail)
  replace hb4 : Below (w3.alloc (.cells #[.int .i64 N0, .slice AS 0 cS] 30)).heap.size (w3.alloc (.cells #[.int .i64 N0, .slice AS 0 cS] 30)) w4 := hb4
  have Bw0_4 := (hb4.cell (p := ⟨w3.heap.size, 0, none⟩) (by dsimp only; omega)).trans (boxA0 (w := w3))
  have Bw1_4 := (hb4.cell (p := ⟨w3.heap.size, 1, none⟩) (by dsimp only; omega)).trans (boxA1 (w := w3))
  have hz4 := hb4.size
  have hB4 := on_call hB3a hb4
  have SS_4 := Lib.hid (SS_3a.out.kept hb4)
  clear b0 b1
  obtain ⟨b0, b1⟩ := box2 hB4
  clear hB3a SS_3a hb4
  clear hB3 SS_3 hqn hb3a
  have hlx := hrowx.lt
  have Rx_4 := Lib.hid hrowx
  clear hrowx
  have hb4a := alloc_below w4 (.cells #[.int .i64 n, .slice (some ⟨gx, 0, none⟩) ps.length ps.length] 30)
  have hz4a : w4.heap.size < (w4.alloc (.cells #[.int .i64 n, .slice (some ⟨gx, 0, none⟩) ps.length ps.length] 30)).heap.size := by simp
  have hB4a := on_call hB4 hb4a
  have SS_4a := Lib.hid (SS_4.out.kept hb4a)
  have Bw0_4a := Lib.hid ((hb4a.cell (p := ⟨w3.heap.size, 0, none⟩) (by dsimp only; omega)).trans Bw0_4)
  have Bw1_4a := Lib.hid ((hb4a.cell (p := ⟨w3.heap.size, 1, none⟩) (by dsimp only; omega)).trans Bw1_4)
  have Rx_4a := Lib.hid (Rx_4.out.kept hb4a (by omega))
  have hqn : w.heap.size < w4.heap.size := by omega
  have hqw : w3.heap.size < w4.heap.size := by omega
  refine Lib.hid ?_
  go_wp2_with (first | (go_at_call 42; refine (HI.out _ _ _ Rx_4a.out.at_ hlen rfl).mono ?_; rintro e w5 ⟨rfl, hb5⟩; refine Hid.out ?_) | fail)
  replace hb5 : Below (w4.alloc (.cells #[.int .i64 n, .slice (some ⟨gx, 0, none⟩) ps.length ps.length] 30)).heap.size (w4.alloc (.cells #[.int .i64 n, .slice (some ⟨gx, 0, none⟩) ps.length ps.length] 30)) w5 := hb5
  have Bx0_5 := (hb5.cell (p := ⟨w4.heap.size, 0, none⟩) (by dsimp only; omega)).trans (boxA0 (w := w4))
  have Bx1_5 := (hb5.cell (p := ⟨w4.heap.size, 1, none⟩) (by dsimp only; omega)).trans (boxA1 (w := w4))
  have hz5 := hb5.size
  have hB5 := on_call hB4a hb5
  have SS_5 := Lib.hid (SS_4a.out.kept hb5)
  have Bw0_5 := (hb5.cell (p := ⟨w3.heap.size, 0, none⟩) (by dsimp only; omega)).trans Bw0_4a.out
  have Bw1_5 := (hb5.cell (p := ⟨w3.heap.size, 1, none⟩) (by dsimp only; omega)).trans Bw1_4a.out
  have Rx_5 := Lib.hid (Rx_4a.out.kept hb5 (by omega))
  clear b0 b1
  obtain ⟨b0, b1⟩ := box2 hB5
  clear hB4a SS_4a Bw0_4a Bw1_4a Rx_4a hb5
  clear hB4 SS_4 Bw0_4 Bw1_4 Rx_4 hqn hqw hb4a
  have hb5a := alloc_below w5 (.cells #[.int .i64 N0, .slice none 0 0] 30)
  have hz5a : w5.heap.size < (w5.alloc (.cells #[.int .i64 N0, .slice none 0 0] 30)).heap.size := by simp
  have hB5a := on_call hB5 hb5a
  have SS_5a := Lib.hid (SS_5.out.kept hb5a)
  have Bw0_5a := Lib.hid ((hb5a.cell (p := ⟨w3.heap.size, 0, none⟩) (by dsimp only; omega)).trans Bw0_5)
  have Bw1_5a := Lib.hid ((hb5a.cell (p := ⟨w3.heap.size, 1, none⟩) (by dsimp only; omega)).trans Bw1_5)
  have Rx_5a := Lib.hid (Rx_5.out.kept hb5a (by omega))
  have Bx0_5a := Lib.hid ((hb5a.cell (p := ⟨w4.heap.size, 0, none⟩) (by dsimp only; omega)).trans Bx0_5)
  have Bx1_5a := Lib.hid ((hb5a.cell (p := ⟨w4.heap.size, 1, none⟩) (by dsimp only; omega)).trans Bx1_5)
  have hqn : w.heap.size < w5.heap.size := by omega
  have hqw : w3.heap.size < w5.heap.size := by omega
  have hqx : w4.heap.size < w5.heap.size := by omega
  refine Lib.hid ?_
  go_wp2_with (first | (go_at_call 23; refine (eqnet_same N0 _ _ _ _ [] _ (.inl rfl) (.inl rfl) (by simp)).mono ?_; rintro e w6 ⟨rfl, hb6⟩; refine Hid.out ?_) | fail)
  replace hb6 : Below (w5.alloc (.cells #[.int .i64 N0, .slice none 0 0] 30)).heap.size (w5.alloc (.cells #[.int .i64 N0, .slice none 0 0] 30)) w6 := hb6
  have Bg0_6 := (hb6.cell (p := ⟨w5.heap.size, 0, none⟩) (by dsimp only; omega)).trans (boxA0 (w := w5))
  have Bg1_6 := (hb6.cell (p := ⟨w5.heap.size, 1, none⟩) (by dsimp only; omega)).trans (boxA1 (w := w5))
  have hz6 := hb6.size
  have hB6 := on_call hB5a hb6
  have SS_6 := Lib.hid (SS_5a.out.kept hb6)
  have Bw0_6 := (hb6.cell (p := ⟨w3.heap.size, 0, none⟩) (by dsimp only; omega)).trans Bw0_5a.out
  have Bw1_6 := (hb6.cell (p := ⟨w3.heap.size, 1, none⟩) (by dsimp only; omega)).trans Bw1_5a.out
  have Rx_6 := Lib.hid (Rx_5a.out.kept hb6 (by omega))
  have Bx0_6 := (hb6.cell (p := ⟨w4.heap.size, 0, none⟩) (by dsimp only; omega)).trans Bx0_5a.out
  have Bx1_6 := (hb6.cell (p := ⟨w4.heap.size, 1, none⟩) (by dsimp only; omega)).trans Bx1_5a.out
  clear b0 b1
  obtain ⟨b0, b1⟩ := box2 hB6
  clear hB5a SS_5a Bw0_5a Bw1_5a Rx_5a Bx0_5a Bx1_5a hb6
  clear hB5 SS_5 Bw0_5 Bw1_5 Rx_5 Bx0_5 Bx1_5 hqn hqw hqx hb5a
  refine Lib.hid ?_
  go_upto_region 10 with (fail)
  go_cut [49] (fun st wx => st = .bool false ∧ Hid (Below w6.heap.size w6 wx))
  case first =>
    have hA7 := Lib.hid (HA.out.kept (below_box hB6) (Nat.le_refl _))
    have hat7 := Lib.hid Rx_6.out.at_
    have hx4 : w4.heap.size < w6.heap.size := by omega
    go_region_with (first
      | (go_at_call 21; refine (tonet_any n A cap ps w6.drew hA7.out hlen).mono ?_; rintro e wqa ⟨⟨gqa, rfl, hgqa, hrowqa⟩, hbqa⟩; have HBqa := Lib.hid hbqa; have hatqa := Lib.hid hrowqa.at_; have hatqb := Lib.hid (PAt.kept (w := w6.drew) hat7.out hbqa (Nat.le_refl _)); have z0 := (hbqa.cell (p := ⟨w4.heap.size, 0, none⟩) hx4).trans Bx0_6; have z1 := (hbqa.cell (p := ⟨w4.heap.size, 1, none⟩) hx4).trans Bx1_6; clear hgqa hrowqa hbqa)
      | (go_at_call 23; refine (eqnet_same n _ _ _ _ ps wqa hatqb.out hatqa.out hlen).mono ?_; rintro e wqb ⟨rfl, hbqb⟩))
    all_goals
      go_wp2_with fail
      go_meet
      exact ⟨rfl, Lib.hid ((Below.refl w6.heap.size w6).drew.trans (HBqa.out.trans (hbqb.mono HBqa.out.size)))⟩
  case rest =>
    obtain ⟨rfl, hbc⟩ := hcut
    obtain ⟨w7, hwb⟩ : ∃ w7, w7 = wc := ⟨_, rfl⟩
    subst hwb
    have hb7 := hbc.out
    clear hbc
    have hz7 := hb7.size
    have hB7 := on_call hB6 hb7
    have SS_7 := Lib.hid (SS_6.out.kept hb7)
    have Bw0_7 := (hb7.cell (p := ⟨w3.heap.size, 0, none⟩) (by dsimp only; omega)).trans Bw0_6
    have Bw1_7 := (hb7.cell (p := ⟨w3.heap.size, 1, none⟩) (by dsimp only; omega)).trans Bw1_6
    have Rx_7 := Lib.hid (Rx_6.out.kept hb7 (by omega))
    have Bx0_7 := (hb7.cell (p := ⟨w4.heap.size, 0, none⟩) (by dsimp only; omega)).trans Bx0_6
    have Bx1_7 := (hb7.cell (p := ⟨w4.heap.size, 1, none⟩) (by dsimp only; omega)).trans Bx1_6
    have Bg0_7 := (hb7.cell (p := ⟨w5.heap.size, 0, none⟩) (by dsimp only; omega)).trans Bg0_6
    have Bg1_7 := (hb7.cell (p := ⟨w5.heap.size, 1, none⟩) (by dsimp only; omega)).trans Bg1_6
    clear b0 b1
    obtain ⟨b0, b1⟩ := box2 hB7
    clear hB6 SS_6 Bw0_6 Bw1_6 Rx_6 Bx0_6 Bx1_6 Bg0_6 Bg1_6 hb7
    have HRX := Rx_7
    clear Rx_7
    refine Lib.hid ?_
    go_wp2_with (first | (go_at_call 27; refine (marknetk_any n gx 1 ps _ HRX.out hlen (by omega)).mono ?_; rintro e w8 ⟨rfl, hg8⟩; refine Hid.out ?_) | fail)
    have hz8 := hg8.size
    have hB8 := hB7.grown hg8 (by omega) (fun k hk => by simp at hk; omega)
    have SS_8 := Lib.hid (SS_7.out.far hg8 (by omega))
    have Bw0_8 := (hg8.cell_far ⟨w3.heap.size, 0, none⟩ (by dsimp only; omega) (by simp; omega)).trans Bw0_7
    have Bw1_8 := (hg8.cell_far ⟨w3.heap.size, 1, none⟩ (by dsimp only; omega) (by simp; omega)).trans Bw1_7
    have Bx0_8 := (hg8.cell_far ⟨w4.heap.size, 0, none⟩ (by dsimp only; omega) (by simp; omega)).trans Bx0_7
    have Bx1_8 := (hg8.cell_far ⟨w4.heap.size, 1, none⟩ (by dsimp only; omega) (by simp; omega)).trans Bx1_7
    have Bg0_8 := (hg8.cell_far ⟨w5.heap.size, 0, none⟩ (by dsimp only; omega) (by simp; omega)).trans Bg0_7
    have Bg1_8 := (hg8.cell_far ⟨w5.heap.size, 1, none⟩ (by dsimp only; omega) (by simp; omega)).trans Bg1_7
    clear b0 b1
    obtain ⟨b0, b1⟩ := box2 hB8
    clear hB7 SS_7 Bw0_7 Bw1_7 Bx0_7 Bx1_7 Bg0_7 Bg1_7 hg8
    clear Bx0_8 Bx1_8
    refine Lib.hid ?_
    go_wp2_with (first | (go_at_call 23; refine (eqnet_same N0 _ _ _ _ [] _ (.inl rfl) (.inl rfl) (by simp)).mono ?_; rintro e w9 ⟨rfl, hb9⟩; refine Hid.out ?_) | fail)
    have hz9 := hb9.size
    have hB9 := on_call hB8 hb9
    have SS_9 := Lib.hid (SS_8.out.kept hb9)
    have Bw0_9 := (hb9.cell (p := ⟨w3.heap.size, 0, none⟩) (by dsimp only; omega)).trans Bw0_8
    have Bw1_9 := (hb9.cell (p := ⟨w3.heap.size, 1, none⟩) (by dsimp only; omega)).trans Bw1_8
    have Bg0_9 := (hb9.cell (p := ⟨w5.heap.size, 0, none⟩) (by dsimp only; omega)).trans Bg0_8
    have Bg1_9 := (hb9.cell (p := ⟨w5.heap.size, 1, none⟩) (by dsimp only; omega)).trans Bg1_8
    clear b0 b1
    obtain ⟨b0, b1⟩ := box2 hB9
    clear hB8 SS_8 Bw0_8 Bw1_8 Bg0_8 Bg1_8 hb9
    refine Lib.hid ?_
    go_wp2_with (first | (go_at_call 27; refine (marknet_nil N0 _).mono ?_; rintro e w10 ⟨rfl, hb10⟩; refine Hid.out ?_) | fail)
    have hz10 := hb10.size
    have hB10 := on_call hB9 hb10
    have SS_10 := Lib.hid (SS_9.out.kept hb10)
    have Bw0_10 := (hb10.cell (p := ⟨w3.heap.size, 0, none⟩) (by dsimp only; omega)).trans Bw0_9
    have Bw1_10 := (hb10.cell (p := ⟨w3.heap.size, 1, none⟩) (by dsimp only; omega)).trans Bw1_9
    have Bg0_10 := (hb10.cell (p := ⟨w5.heap.size, 0, none⟩) (by dsimp only; omega)).trans Bg0_9
    have Bg1_10 := (hb10.cell (p := ⟨w5.heap.size, 1, none⟩) (by dsimp only; omega)).trans Bg1_9
    clear b0 b1
    obtain ⟨b0, b1⟩ := box2 hB10
    clear hB9 SS_9 Bw0_9 Bw1_9 Bg0_9 Bg1_9 hb10
    refine Lib.hid ?_
    go_wp2_with (first | (go_at_call 43; refine (heldnet_nil N0 _).mono ?_; rintro e w11 ⟨rfl, hb11⟩; refine Hid.out ?_) | fail)
    have hz11 := hb11.size
    have hB11 := on_call hB10 hb11
    have SS_11 := Lib.hid (SS_10.out.kept hb11)
    have Bw0_11 := (hb11.cell (p := ⟨w3.heap.size, 0, none⟩) (by dsimp only; omega)).trans Bw0_10
    have Bw1_11 := (hb11.cell (p := ⟨w3.heap.size, 1, none⟩) (by dsimp only; omega)).trans Bw1_10
    have Bg0_11 := (hb11.cell (p := ⟨w5.heap.size, 0, none⟩) (by dsimp only; omega)).trans Bg0_10
    have Bg1_11 := (hb11.cell (p := ⟨w5.heap.size, 1, none⟩) (by dsimp only; omega)).trans Bg1_10
    clear b0 b1
    obtain ⟨b0, b1⟩ := box2 hB11
    clear hB10 SS_10 Bw0_10 Bw1_10 Bg0_10 Bg1_10 hb11
    refine Lib.hid ?_
    go_wp2_with (first | (go_at_call 21; refine (tonet_any n A cap ps _ (HA.out.kept (below_box hB11) (Nat.le_refl _)) hlen).mono ?_; rintro e w12 ⟨⟨gy, rfl, hgy, hrowy⟩, hb12⟩; refine Hid.out ?_) | fail)
    have hz12 := hb12.size
    have hB12 := on_call hB11 hb12
    have SS_12 := Lib.hid (SS_11.out.kept hb12)
    have Bw0_12 := (hb12.cell (p := ⟨w3.heap.size, 0, none⟩) (by dsimp only; omega)).trans Bw0_11
    have Bw1_12 := (hb12.cell (p := ⟨w3.heap.size, 1, none⟩) (by dsimp only; omega)).trans Bw1_11
    have Bg0_12 := (hb12.cell (p := ⟨w5.heap.size, 0, none⟩) (by dsimp only; omega)).trans Bg0_11
    have Bg1_12 := (hb12.cell (p := ⟨w5.heap.size, 1, none⟩) (by dsimp only; omega)).trans Bg1_11
    clear b0 b1
    obtain ⟨b0, b1⟩ := box2 hB12
    clear hB11 SS_11 Bw0_11 Bw1_11 Bg0_11 Bg1_11 hb12
    have hly := hrowy.lt
    have Ty_12 := Lib.hid hrowy.at_
    clear hrowy
    refine Lib.hid ?_
    go_wp2_with (first | (go_at_call 42; refine (HI.out _ _ _ Ty_12.out hlen rfl).mono ?_; rintro e w13 ⟨rfl, hb13⟩; refine Hid.out ?_) | fail)
    have hz13 := hb13.size
    have hB13 := on_call hB12 hb13
    have SS_13 := Lib.hid (SS_12.out.kept hb13)
    have Bw0_13 := (hb13.cell (p := ⟨w3.heap.size, 0, none⟩) (by dsimp only; omega)).trans Bw0_12
    have Bw1_13 := (hb13.cell (p := ⟨w3.heap.size, 1, none⟩) (by dsimp only; omega)).trans Bw1_12
    have Bg0_13 := (hb13.cell (p := ⟨w5.heap.size, 0, none⟩) (by dsimp only; omega)).trans Bg0_12
    have Bg1_13 := (hb13.cell (p := ⟨w5.heap.size, 1, none⟩) (by dsimp only; omega)).trans Bg1_12
    have Ty_13 := Lib.hid (Ty_12.out.kept hb13 (Nat.le_refl _))
    clear b0 b1
    obtain ⟨b0, b1⟩ := box2 hB13
    clear hB12 SS_12 Bw0_12 Bw1_12 Bg0_12 Bg1_12 Ty_12 hb13
    clear Ty_13
    have hb13a := alloc_below w13 (.cells #[.int .i64 N0, .slice none 0 0] 30)
    have hz13a : w13.heap.size < (w13.alloc (.cells #[.int .i64 N0, .slice none 0 0] 30)).heap.size := by simp
    have hB13a := on_call hB13 hb13a
    have SS_13a := Lib.hid (SS_13.out.kept hb13a)
    have Bw0_13a := Lib.hid ((hb13a.cell (p := ⟨w3.heap.size, 0, none⟩) (by dsimp only; omega)).trans Bw0_13)
    have Bw1_13a := Lib.hid ((hb13a.cell (p := ⟨w3.heap.size, 1, none⟩) (by dsimp only; omega)).trans Bw1_13)
    have Bg0_13a := Lib.hid ((hb13a.cell (p := ⟨w5.heap.size, 0, none⟩) (by dsimp only; omega)).trans Bg0_13)
    have Bg1_13a := Lib.hid ((hb13a.cell (p := ⟨w5.heap.size, 1, none⟩) (by dsimp only; omega)).trans Bg1_13)
    have hqn : w.heap.size < w13.heap.size := by omega
    have hqw : w3.heap.size < w13.heap.size := by omega
    have hqg : w5.heap.size < w13.heap.size := by omega
    refine Lib.hid ?_
    go_wp2_with (first | (go_at_call 23; refine (eqnet_same N0 _ _ _ _ [] _ (.inl rfl) (.inl rfl) (by simp)).mono ?_; rintro e w14 ⟨rfl, hb14⟩; refine Hid.out ?_) | fail)
    replace hb14 : Below (w13.alloc (.cells #[.int .i64 N0, .slice none 0 0] 30)).heap.size (w13.alloc (.cells #[.int .i64 N0, .slice none 0 0] 30)) w14 := hb14
    have Bh0_14 := (hb14.cell (p := ⟨w13.heap.size, 0, none⟩) (by dsimp only; omega)).trans (boxA0 (w := w13))
    have Bh1_14 := (hb14.cell (p := ⟨w13.heap.size, 1, none⟩) (by dsimp only; omega)).trans (boxA1 (w := w13))
    have hz14 := hb14.size
    have hB14 := on_call hB13a hb14
    have SS_14 := Lib.hid (SS_13a.out.kept hb14)
    have Bw0_14 := (hb14.cell (p := ⟨w3.heap.size, 0, none⟩) (by dsimp only; omega)).trans Bw0_13a.out
    have Bw1_14 := (hb14.cell (p := ⟨w3.heap.size, 1, none⟩) (by dsimp only; omega)).trans Bw1_13a.out
    have Bg0_14 := (hb14.cell (p := ⟨w5.heap.size, 0, none⟩) (by dsimp only; omega)).trans Bg0_13a.out
    have Bg1_14 := (hb14.cell (p := ⟨w5.heap.size, 1, none⟩) (by dsimp only; omega)).trans Bg1_13a.out
    clear b0 b1
    obtain ⟨b0, b1⟩ := box2 hB14
    clear hB13a SS_13a Bw0_13a Bw1_13a Bg0_13a Bg1_13a hb14
    clear hB13 SS_13 Bw0_13 Bw1_13 Bg0_13 Bg1_13 hqn hqw hqg hb13a
    refine Lib.hid ?_
    go_wp2_with (first | (go_at_call 43; refine (heldnet_nil N0 _).mono ?_; rintro e w15 ⟨rfl, hb15⟩; refine Hid.out ?_) | fail)
    have hz15 := hb15.size
    have hB15 := on_call hB14 hb15
    have SS_15 := Lib.hid (SS_14.out.kept hb15)
    have Bw0_15 := (hb15.cell (p := ⟨w3.heap.size, 0, none⟩) (by dsimp only; omega)).trans Bw0_14
    have Bw1_15 := (hb15.cell (p := ⟨w3.heap.size, 1, none⟩) (by dsimp only; omega)).trans Bw1_14
    have Bg0_15 := (hb15.cell (p := ⟨w5.heap.size, 0, none⟩) (by dsimp only; omega)).trans Bg0_14
    have Bg1_15 := (hb15.cell (p := ⟨w5.heap.size, 1, none⟩) (by dsimp only; omega)).trans Bg1_14
    have Bh0_15 := (hb15.cell (p := ⟨w13.heap.size, 0, none⟩) (by dsimp only; omega)).trans Bh0_14
    have Bh1_15 := (hb15.cell (p := ⟨w13.heap.size, 1, none⟩) (by dsimp only; omega)).trans Bh1_14
    clear b0 b1
    obtain ⟨b0, b1⟩ := box2 hB15
    clear hB14 SS_14 Bw0_14 Bw1_14 Bg0_14 Bg1_14 Bh0_14 Bh1_14 hb15
    refine Lib.hid ?_
    go_wp2_with fail
    go_ret
    exact ⟨rfl, (below_box hB15)⟩
end Go.Proofs.Ytgjogjmfpbinfaa.S2

namespace Go.Proofs.Ytgjogjmfpbinfaa.S2
open Go.RowKit P2
theorem law_opr (n : Int) (A : Option Addr) (cap : Nat) (ps : List Pp) (x : Int) (w : World) (h : PAt w A ps) (hm : ps.length ≤ maxLen) :
    Calls Try.prog 10 #[nv n A ps.length cap, .int .i64 x] w fun e w' => e = .returned (.bool true) ∧ Below w.heap.size w w' := by
  cases hv : goodB n ps with
  | false => exact walkOpenedRingn n A cap ps x w h hm 0 false (fun A c w h hm _ => sopr_no1 n A c ps x w h hm hv) (fun A c w h hm _ => opr_no1 n A c ps x w fun w' hb => lpo_no n A c ps w' fun w'' hb' => sga_no1 n A c ps w'' (h.kept (hb.trans (hb'.mono hb.size)) (Nat.le_refl _)) (by unfold maxLen; omega) hv)
  | true =>
    have hg := good_of hv
    obtain ⟨N, rfl⟩ := good_nat hg
    have hpl := hg.2.2.1
    cases hr : ringB N ps with
    | false => exact walkOpenedRingn N A cap ps x w h hm 0 false (fun A c w h hm _ => sopr_no2 N A c ps x w h hm hv hr) (fun A c w h hm _ => opr_no1 N A c ps x w fun w' hb => lpo_no N A c ps w' fun w'' hb' => sga_no2 N A c ps w'' (h.kept (hb.trans (hb'.mono hb.size)) (Nat.le_refl _)) (by unfold maxLen; omega) hv (by omega) hr)
    | true =>
      have hil := loI_len ps (sgL N ps) ps.length
      have HL : ∀ (A : Option Addr) (c : Nat) (w : World), PAt w A ps → ps.length = c → ∀ w', Below w.heap.size w w' → Calls Try.prog 25 #[nv N A ps.length c] w' (GivesII w' (loI ps (sgL N ps) ps.length) (loS (sgL N ps) ps.length) true) := fun A c w h he w' hb => lpo_yes N A c ps (sgL N ps) (sgL_len N ps) hpl w' (h.kept hb (Nat.le_refl _)) fun w'' hb' => sga_yes N A c ps w'' (h.kept (hb.trans (hb'.mono hb.size)) (Nat.le_refl _)) (by unfold maxLen; omega) hv (by omega) hr
      obtain ⟨r, hf⟩ := find_ex ps x
      rcases id hf with ⟨rfl, hno⟩ | ⟨i, hi, rfl, hix, _⟩
      · exact walkOpenedRingn N A cap ps x w h hm 0 false (fun A c w h hm _ => sopr_no3 N A c ps x w h hm hv hr hf) (fun A c w h hm he => opr_no2 N A c ps x _ _ (by omega) (loI_not _ hno) w (HL A c w h he))
      · have hmem := loI_mem (sgL N ps) (x := x) (good_ids hg) hi hix
        by_cases hs : dA (sgL N ps) i = 0
        · exact walkOpenedRingn N A cap ps x w h hm 0 false (fun A c w h hm he => sopr_no4 N A c ps x w h hm hv hr (by omega) hi hf hs) (fun A c w h hm he => opr_no2 N A c ps x _ _ (by omega) (fun hx => hmem.1 hx hs) w (HL A c w h he))
        · have hl := wo_len ps i hi
          have h2 : 2 ≤ ps.length := by
            have h1 := (ring_full hr).1
            have h3 := good_pp hg (pAt_mem hi)
            unfold PpOk at h3
            omega
          exact walkOpenedRing N A cap ps x w h hm N (wo ps i) (by omega) true (fun A c w h hm he => sopr_yes N A c ps x w h hm hv hr (by omega) hi hf hs)
            (fun A c w h hm he => opr_yes N A c ps x _ _ (by omega) (hmem.2 hs) (wo ps i) w (HL A c w h he) fun w' hb => (irem_many N i A c ps x w' (h.kept hb (Nat.le_refl _)) hm hv (by omega) hi h2 hf).mono fun e w2 ⟨g, c', B, he', hg', hB', ho, hbb⟩ => ⟨g, c', B, by rw [hl]; exact he', hg', hB', by rw [hl]; exact ho, hbb⟩)
end Go.Proofs.Ytgjogjmfpbinfaa.S2

namespace Go.Proofs.Ytgjogjmfpbinfaa.fnExactOpenedRing
open Go.ChangeShapes Go.WideShapes Go.ChangeAt Go.RowKit P2 S2
set_option linter.unusedVariables false

theorem own : ownKnob Try.prog.godebug = none := by kernel_rfl
theorem laidOut : laidOutB Try.prog = true := by kernel_rfl

set_option maxRecDepth 100000 in
theorem lifted (os : Os) (started : os.Started) (H : Type) (enc : TypeId × Value → H) :
    ReturnsInHanded {} Try.checked os 10 .any (Rows.fnExactOpenedRingSpec.pre6 enc Try.prog Try.f10 Rows.fnExactOpenedRingRow.domain false) (Rows.fnExactOpenedRingSpec.post enc Try.prog Try.f10 false true false false) := by
  refine returnsInHanded_of_change (C := Try.checked) own started (by kernel_rfl) Try.func10
    (ChangeSpec.witness6 (enc := enc) (C := Try.checked) false ⟨#[], #[.agg #[.int .i64 0, .slice none 0 0], .int .i64 0], []⟩ 8 (by kernel_rfl) (by kernel_rfl) (by kernel_rfl) (by kernel_rfl)) ?_
  intro W base args ds gs before hval0 hW hcnd _
  have hval : ∀ (j : Nat) t v, Try.f10.params[j]? = some t → args[j]? = some v → Value.okWide Try.prog W .any base t v := hval0
  have hW' := hW
  obtain ⟨p, q, hA0, hV, rfl, hfz, hnd⟩ := hW
  have hA : DataW.TrodAll enc Try.prog W 0 (fun _ => true) true Try.f10.params.toList args.toList ds p := hA0
  rw [Try.params10] at hA hval
  obtain ⟨v0, v1, d0, d1, p0, p1, rfl, rfl, rfl, h0, h1⟩ := trodAll_two hA
  obtain ⟨rfl, rfl⟩ := trodVars_none hV
  have k0 := h0
  have lt0 : ∀ x ∈ p0, x.block < W.heap.size := by obtain ⟨m, hm⟩ := k0; exact DataW.trod_lt m _ _ _ hm
  obtain ⟨n0, A0, cap0, ps0, rfl, at0, mx0⟩ := net_open (hval 0 24 v0 rfl rfl) h0
  obtain ⟨a1, rfl, rfl, rfl, w1⟩ := open_int Try.underlying3 (hval 1 3 v1 rfl rfl) h1
  clear hA0 hval0
  refine (law_opr n0 A0 cap0 ps0 a1 W at0 mx0).mono fun e W' ⟨he, bel⟩ => ?_
  subst he
  exact ⟨_, rfl, _, _, _, [], _, [], hW', trodAll_mk1 (shut_bool Try.underlying4 _), trodAll_mk2 (Below.trod laidOut (by kernel_rfl) (of_decide_eq_true (by kernel_rfl)) k0 bel lt0) (shut_int Try.underlying3 w1), rfl, bel.frame _, fun h => by cases h⟩

theorem andB {a b : Bool} (h : a = true) (g : b = true) : (a && b) = true := by rw [h, g]; rfl
theorem heavy : ((Rows.fnExactOpenedRingRow.inPlace == Try.pinned.checked.prog.inPlace 10) && ((Rows.fnExactOpenedRingRow.unfollowed == Try.pinned.checked.prog.unfollowed 10) && ((Rows.fnExactOpenedRingRow.recurses == Try.pinned.checked.prog.recurses 10) && (Rows.fnExactOpenedRingRow.named == Try.pinned.checked.prog.varsNamed 10)))) = true := by kernel_rfl
set_option maxHeartbeats 4000000 in
theorem closed : joinedFacts Try.pinned.checked.prog 10 Try.f10 Rows.fnExactOpenedRingSpec Rows.fnExactOpenedRingRow = true := by
  unfold joinedFacts
  simp only [Bool.and_assoc]
  have h := heavy
  rw [Bool.and_eq_true, Bool.and_eq_true, Bool.and_eq_true] at h
  obtain ⟨h1, h2, h3, h4⟩ := h
  iterate 9 refine andB (by as_aux_lemma => kernel_rfl) ?_
  refine andB (by with_reducible exact h1) (andB (by with_reducible exact h2) (andB (by with_reducible exact h3) (andB (by with_reducible exact h4) ?_)))
  as_aux_lemma => kernel_rfl
theorem named : Try.pinned.checked.prog.funcNamed Rows.fnExactOpenedRingRow.func = some 10 := by kernel_rfl
theorem instd : Try.f10.isInstance Try.pinned.checked.prog Rows.fnExactOpenedRingRow.origin Rows.fnExactOpenedRingRow.targs := of_decide_eq_true (by kernel_rfl)
theorem proved : Rows.FnExactOpenedRingSaid :=
  OpenClaim.holds_of_wide 10 Try.f10 rfl rfl rfl rfl rfl rfl rfl ⟨rfl, rfl, rfl, rfl, rfl⟩ rfl rfl rfl rfl rfl named Try.func10 closed
    instd (by unfold Func.isWrapper; first | (rw [if_pos (by decide +kernel)]; kernel_rfl) | (rw [if_neg (by decide +kernel)]; exact ⟨rfl, rfl⟩))
    (fun os started H enc _ => lifted os started H enc)
end Go.Proofs.Ytgjogjmfpbinfaa.fnExactOpenedRing
namespace Go.Proofs.Ytgjogjmfpbinfaa
theorem FnExactOpenedRing_holds : Rows.FnExactOpenedRingSaid := fnExactOpenedRing.proved
#print axioms FnExactOpenedRing_holds
end Go.Proofs.Ytgjogjmfpbinfaa
