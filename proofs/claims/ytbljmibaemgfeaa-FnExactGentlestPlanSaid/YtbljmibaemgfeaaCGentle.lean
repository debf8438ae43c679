/- The law FnExactGentlestPlan returns true for every network, valves, source, pipe and customers and leaves its arguments as they were. No conditions. -/
import Derived.Test.YtbljmibaemgfeaaKPa
import Derived.Deep.DeepCutAuto
import Derived.Test.YtbljmibaemgfeaaKPe
import Derived.Test.YtbljmibaemgfeaaRows
import Derived.Test.YtbljmibaemgfeaaOpenOne
import Derived.Test.YtbljmibaemgfeaaValOpen
import Derived.WalkKit
import Derived.ProofKit
import Derived.OpenShut
import Derived.ChangeOld
import Derived.Below
namespace Go.Proofs.Ytbljmibaemgfeaa.S2
open Go.RowKit P2 P4

set_option maxHeartbeats 16000000 in
set_option maxRecDepth 100000 in
theorem walkGentlestPlan (n : Int) (A : Option Addr) (cap : Nat) (ps : List Pp) (AV : Option Addr) (capv : Nat) (vs : List Vv) (x2 : Int) (x3 : Int) (AC4 : Option Addr) (cc4 : Nat) (cu4 : List Int) (w : World) (h : PAt w A ps) (hm : ps.length ≤ maxLen) (hv : VAt w AV vs) (hmv : vs.length ≤ maxLen) (hc4 : IAt w AC4 cu4) (hmc4 : cu4.length ≤ maxLen) (L0 : List Int) (hh : Int) (ok : Bool) (hL0 : L0.length ≤ 1000)
    (hs : ∀ (A : Option Addr) (cap : Nat) (AV : Option Addr) (capv : Nat) (AC4 : Option Addr) (cc4 : Nat) (w : World), ps.length ≤ 1048576 → PAt w A ps → VAt w AV vs → vs.length ≤ capv → capv ≤ maxLen → IAt w AC4 cu4 → cu4.length ≤ 1048576 → Calls Try.prog 33 #[nv n A ps.length cap, .slice AV vs.length capv, .int .i64 x2, .int .i64 x3, .slice AC4 cu4.length cc4] w (GivesAH w L0 hh ok))
    (hi : ∀ (A : Option Addr) (cap : Nat) (AV : Option Addr) (capv : Nat) (AC4 : Option Addr) (cc4 : Nat) (w : World), ps.length ≤ 1048576 → PAt w A ps → VAt w AV vs → vs.length ≤ capv → capv ≤ maxLen → IAt w AC4 cu4 → cu4.length ≤ 1048576 → Calls Try.prog 34 #[nv n A ps.length cap, .slice AV vs.length capv, .int .i64 x2, .int .i64 x3, .slice AC4 cu4.length cc4] w (GivesIH w L0 hh ok)) :
    Calls Try.prog 6 #[nv n A ps.length cap, .slice AV vs.length capv, .int .i64 x2, .int .i64 x3, .slice AC4 cu4.length cc4] w fun e w' => e = .returned (.bool true) ∧ Below w.heap.size w w' := by
  have HA := Lib.hid h
  have HM := Lib.hid hm
  have HS := Lib.hid hs
  have HI := Lib.hid hi
  have HV := Lib.hid hv
  have HMV := Lib.hid hmv
  have HC4 := Lib.hid hc4
  have HMC4 := Lib.hid hmc4
  clear h hm hs hi hv hmv hc4 hmc4
  by_cases hci4 : 1048576 < cu4.length
  · have hlm4 : cu4.length ≤ 9223372036854775807 := by have := HMC4.out; unfold maxLen at this; omega
    go_enter Try.func6, Try.ntmps6
    go_wp2
    go_ret
    exact ⟨rfl, (Below.refl w.heap.size w).alloc (Nat.le_refl _) _⟩
  have hcl4 : cu4.length ≤ 1048576 := by omega
  clear hci4
  go_enter Try.func6, Try.ntmps6
  go_wp2_with (go_at_call 15; refine (sznet_le n A ps.length cap _ HM.out).mono ?_; rintro e w1 ⟨⟨r, rfl, hr⟩, hb1⟩; refine Hid.out ?_)
  have hB1 : Below (w.heap.size + 1) (w.alloc (.cells #[.int .i64 n, .slice A ps.length cap] 24)) w1 := by simpa using hb1
  clear hb1
  obtain ⟨b0, b1⟩ := box2 hB1
  by_cases hr0 : r < 0
  · refine Lib.hid ?_
    go_wp2
    go_ret
    exact ⟨rfl, below_box hB1⟩
  have hlen : ps.length ≤ 1048576 := by rcases hr with h | h; exact absurd h hr0; exact h.2.2
  have hr9 : r ≤ 1048576 := by rcases hr with h | h; exact absurd h hr0; exact h.2.1
  clear hr
  refine Lib.hid ?_
  go_wp2_with (go_at_call 16; refine (szvalves_any AV vs.length capv r (by omega) hr9 _ HMV.out).mono ?_; rintro e w1x ⟨⟨r2, rfl, hr2⟩, hw⟩; replace hw := hw.symm; subst hw; refine Hid.out ?_)
  by_cases hr20 : r2 < 0
  · refine Lib.hid ?_
    go_wp2
    go_ret
    exact ⟨rfl, below_box hB1⟩
  have hlenv : vs.length ≤ 1048576 := by rcases hr2 with h | h; exact absurd h hr20; exact h.2.2
  clear hr2 hr9
  have hcm : vs.length ≤ maxLen := by unfold maxLen; omega
  have hz1 : w.heap.size < w1.heap.size := box_lt hB1
  refine Lib.hid ?_
  go_wp2_with (first | (go_at_call 18; refine (tonet_any n A cap ps _ (HA.out.kept (below_box hB1) (Nat.le_refl _)) hlen).mono ?_; rintro e w2 ⟨⟨ga, rfl, hga, hrowa⟩, hb2⟩; refine Hid.out ?_) | fail)
  have Xa_2 := Lib.hid hrowa
  have hla := hrowa.lt
  clear hrowa
  have hz2 := hb2.size
  have hB2 := on_call hB1 hb2
  clear b0 b1
  obtain ⟨b0, b1⟩ := box2 hB2
  clear hB1 hb2
  refine Lib.hid ?_
  go_wp2_with (first | (go_at_call 19; refine (tovalves_any AV capv vs _ (HV.out.kept (below_box hB2) (Nat.le_refl _)) hlenv).mono ?_; rintro e w3 ⟨⟨gb, rfl, hgb, hrowb⟩, hb3⟩; refine Hid.out ?_) | fail)
  have Zb_3 := Lib.hid hrowb
  have hlb := hrowb.lt
  clear hrowb
  have hz3 := hb3.size
  have hB3 := on_call hB2 hb3
  have Xa_3 := Lib.hid (Xa_2.out.kept hb3 (by omega))
  clear b0 b1
  obtain ⟨b0, b1⟩ := box2 hB3
  clear hB2 Xa_2 hb3
  refine Lib.hid ?_
  go_wp2_with (first | (go_at_call 20; refine (toints_any AC4 cc4 cu4 _ (HC4.out.kept (below_box hB3) (Nat.le_refl _)) hcl4).mono ?_; rintro e w4 ⟨⟨ge4, rfl, hge4, hOe4⟩, hb4⟩; refine Hid.out ?_) | fail)
  have Oe4_4 := Lib.hid hOe4
  have hle4 := iown_lt' hOe4
  clear hOe4
  have hz4 := hb4.size
  have hB4 := on_call hB3 hb4
  have Xa_4 := Lib.hid (Xa_3.out.kept hb4 (by omega))
  have Zb_4 := Lib.hid (Zb_3.out.kept hb4 (by omega))
  clear b0 b1
  obtain ⟨b0, b1⟩ := box2 hB4
  clear hB3 Xa_3 Zb_3 hb4
  refine Lib.hid ?_
  go_wp2_with (first | (go_at_call 33; refine (HS.out _ _ _ _ _ _ _ hlen Xa_4.out.at_ Zb_4.out.at_ (Nat.le_refl _) hcm Oe4_4.out.iat hcl4).mono ?_; rintro e w5 ⟨gS0, oS0, cS0, rfl, hgS0, hS0, hb5, hlS0⟩; refine Hid.out ?_) | fail)
  have S0_5 := Lib.hid hS0
  clear hS0
  clear Xa_4 Zb_4 Oe4_4
  have hz5 := hb5.size
  have hB5 := on_call hB4 hb5
  clear b0 b1
  obtain ⟨b0, b1⟩ := box2 hB5
  clear hB4 hb5
  refine Lib.hid ?_
  go_wp2_with (first | (go_at_call 18; refine (tonet_any n A cap ps _ (HA.out.kept (below_box hB5) (Nat.le_refl _)) hlen).mono ?_; rintro e w6 ⟨⟨gx, rfl, hgx, hrowx⟩, hb6⟩; refine Hid.out ?_) | fail)
  have Xx_6 := Lib.hid hrowx
  have hlx := hrowx.lt
  clear hrowx
  have hz6 := hb6.size
  have hB6 := on_call hB5 hb6
  have S0_6 := Lib.hid (S0_5.out.low hb6 (by omega))
  clear b0 b1
  obtain ⟨b0, b1⟩ := box2 hB6
  clear hB5 S0_5 hb6
  have HBX := Lib.hid (show Below w6.heap.size w6 (w6.alloc (.cells #[.int .i64 n, .slice (some ⟨gx, 0, none⟩) ps.length ps.length] 32)) from (Below.refl _ _).alloc (Nat.le_refl _) _)
  have HBX2 := Lib.hid (on_call hB6 HBX.out)
  refine Lib.hid ?_
  go_wp2_with (first | (go_at_call 19; refine (tovalves_any AV capv vs _ (HV.out.kept (below_box HBX2.out) (Nat.le_refl _)) hlenv).mono ?_; rintro e w7 ⟨⟨gy, rfl, hgy, hrowy⟩, hbq⟩; refine Hid.out ?_) | fail)
  obtain ⟨y0_7, y1_7⟩ := box2 (w := w6) (by simpa using hbq)
  have hb7 := HBX.out.trans (hbq.mono (by simp))
  have Zy_7 := Lib.hid hrowy
  have hly := hrowy.lt
  have hzq := hbq.size
  simp at hzq hgy
  clear hrowy hbq HBX HBX2
  have hz7 := hb7.size
  have hB7 := on_call hB6 hb7
  have S0_7 := Lib.hid (S0_6.out.low hb7 (by omega))
  have Xx_7 := Lib.hid (Xx_6.out.kept hb7 (by omega))
  clear b0 b1
  obtain ⟨b0, b1⟩ := box2 hB7
  clear hB6 S0_6 Xx_6 hb7
  refine Lib.hid ?_
  go_wp2_with (first | (go_at_call 20; refine (toints_any AC4 cc4 cu4 _ (HC4.out.kept (below_box hB7) (Nat.le_refl _)) hcl4).mono ?_; rintro e w8 ⟨⟨gz4, rfl, hgz4, hOz4⟩, hb8⟩; refine Hid.out ?_) | fail)
  have Oz4_8 := Lib.hid hOz4
  have hlz4 := iown_lt' hOz4
  clear hOz4
  have hz8 := hb8.size
  have hB8 := on_call hB7 hb8
  have S0_8 := Lib.hid (S0_7.out.low hb8 (by omega))
  have Xx_8 := Lib.hid (Xx_7.out.kept hb8 (by omega))
  have Zy_8 := Lib.hid (Zy_7.out.kept hb8 (by omega))
  have y0_8 := (hb8.cell (p := ⟨w6.heap.size, 0, none⟩) (by dsimp only; omega)).trans y0_7
  have y1_8 := (hb8.cell (p := ⟨w6.heap.size, 1, none⟩) (by dsimp only; omega)).trans y1_7
  clear b0 b1
  obtain ⟨b0, b1⟩ := box2 hB8
  clear hB7 S0_7 Xx_7 Zy_7 y0_7 y1_7 hb8
  refine Lib.hid ?_
  go_wp2_with (first | (go_at_call 34; refine (HI.out _ _ _ _ _ _ _ hlen Xx_8.out.at_ Zy_8.out.at_ (Nat.le_refl _) hcm Oz4_8.out.iat hcl4).mono ?_; rintro e w9 ⟨gI0, cI0, rfl, hgI0, hO0, hb9⟩; refine Hid.out ?_) | fail)
  have O0_9 := Lib.hid hO0
  have hlI0 := iown_lt' hO0
  clear hO0
  have hz9 := hb9.size
  have hB9 := on_call hB8 hb9
  have S0_9 := Lib.hid (S0_8.out.low hb9 (by omega))
  have Xx_9 := Lib.hid (Xx_8.out.kept hb9 (by omega))
  have Zy_9 := Lib.hid (Zy_8.out.kept hb9 (by omega))
  have y0_9 := (hb9.cell (p := ⟨w6.heap.size, 0, none⟩) (by dsimp only; omega)).trans y0_8
  have y1_9 := (hb9.cell (p := ⟨w6.heap.size, 1, none⟩) (by dsimp only; omega)).trans y1_8
  have Oz4_9 := Lib.hid (Oz4_8.out.on hb9)
  clear b0 b1
  obtain ⟨b0, b1⟩ := box2 hB9
  clear hB8 S0_8 Xx_8 Zy_8 y0_8 y1_8 Oz4_8 hb9
  refine Lib.hid ?_
  go_wp2_with (first | (go_at_call 24; refine (eqints_same _ _ _ _ L0 w9 O0_9.out.iat S0_9.out (by omega)).mono ?_; rintro e w10 ⟨rfl, hb10⟩; refine Hid.out ?_) | fail)
  have hz10 := hb10.size
  have hB10 := on_call hB9 hb10
  have S0_10 := Lib.hid (S0_9.out.low hb10 (by omega))
  have Xx_10 := Lib.hid (Xx_9.out.kept hb10 (by omega))
  have Zy_10 := Lib.hid (Zy_9.out.kept hb10 (by omega))
  have y0_10 := (hb10.cell (p := ⟨w6.heap.size, 0, none⟩) (by dsimp only; omega)).trans y0_9
  have y1_10 := (hb10.cell (p := ⟨w6.heap.size, 1, none⟩) (by dsimp only; omega)).trans y1_9
  have Oz4_10 := Lib.hid (Oz4_9.out.on hb10)
  have O0_10 := Lib.hid (O0_9.out.on hb10)
  clear b0 b1
  obtain ⟨b0, b1⟩ := box2 hB10
  clear hB9 S0_9 Xx_9 Zy_9 y0_9 y1_9 Oz4_9 O0_9 hb10
  refine Lib.hid ?_
  go_upto_region 17 with (fail)
  go_cut [87] (fun st wx => st = .bool false ∧ Hid (Below w10.heap.size w10 wx))
  case first =>
    have hA7 := Lib.hid (HA.out.kept (below_box hB10) (Nat.le_refl _))
    have hat7 := Lib.hid Xx_10.out.at_
    have hx4 : w6.heap.size < w10.heap.size := by omega
    go_region_with (first
      | (go_at_call 18; refine (tonet_any n A cap ps w10.drew hA7.out hlen).mono ?_; rintro e wqa ⟨⟨gqa, rfl, hgqa, hrowqa⟩, hbqa⟩; have HBqa := Lib.hid hbqa; have hatqa := Lib.hid hrowqa.at_; have hatqb := Lib.hid (PAt.kept (w := w10.drew) hat7.out hbqa (Nat.le_refl _)); have z0 := (hbqa.cell (p := ⟨w6.heap.size, 0, none⟩) hx4).trans y0_10; have z1 := (hbqa.cell (p := ⟨w6.heap.size, 1, none⟩) hx4).trans y1_10; clear hgqa hrowqa hbqa)
      | (go_at_call 22; refine (eqnet_same n _ _ _ _ ps wqa hatqb.out hatqa.out hlen).mono ?_; rintro e wqb ⟨rfl, hbqb⟩))
    all_goals
      go_wp2_with fail
      go_meet
      exact ⟨rfl, Lib.hid ((Below.refl w10.heap.size w10).drew.trans (HBqa.out.trans (hbqb.mono HBqa.out.size)))⟩
  case rest =>
    obtain ⟨rfl, hbc⟩ := hcut
    obtain ⟨w11, hwb⟩ : ∃ w11, w11 = wc := ⟨_, rfl⟩
    subst hwb
    have hb11 := hbc.out
    clear hbc
    have hz11 := hb11.size
    have hB11 := on_call hB10 hb11
    have S0_11 := Lib.hid (S0_10.out.low hb11 (by omega))
    have Xx_11 := Lib.hid (Xx_10.out.kept hb11 (by omega))
    have Zy_11 := Lib.hid (Zy_10.out.kept hb11 (by omega))
    have y0_11 := (hb11.cell (p := ⟨w6.heap.size, 0, none⟩) (by dsimp only; omega)).trans y0_10
    have y1_11 := (hb11.cell (p := ⟨w6.heap.size, 1, none⟩) (by dsimp only; omega)).trans y1_10
    have Oz4_11 := Lib.hid (Oz4_10.out.on hb11)
    have O0_11 := Lib.hid (O0_10.out.on hb11)
    clear b0 b1
    obtain ⟨b0, b1⟩ := box2 hB11
    clear hB10 S0_10 Xx_10 Zy_10 y0_10 y1_10 Oz4_10 O0_10 hb11
    refine Lib.hid ?_
    go_wp2_with (first | (go_at_call 19; refine (tovalves_any AV capv vs _ (HV.out.kept (below_box hB11) (Nat.le_refl _)) hlenv).mono ?_; rintro e w12 ⟨⟨gu, rfl, hgu, hrowu⟩, hb12⟩; refine Hid.out ?_) | fail)
    have Zu_12 := Lib.hid hrowu
    have hlu := hrowu.lt
    clear hrowu
    have hz12 := hb12.size
    have hB12 := on_call hB11 hb12
    have S0_12 := Lib.hid (S0_11.out.low hb12 (by omega))
    have Xx_12 := Lib.hid (Xx_11.out.kept hb12 (by omega))
    have Zy_12 := Lib.hid (Zy_11.out.kept hb12 (by omega))
    have y0_12 := (hb12.cell (p := ⟨w6.heap.size, 0, none⟩) (by dsimp only; omega)).trans y0_11
    have y1_12 := (hb12.cell (p := ⟨w6.heap.size, 1, none⟩) (by dsimp only; omega)).trans y1_11
    have Oz4_12 := Lib.hid (Oz4_11.out.on hb12)
    have O0_12 := Lib.hid (O0_11.out.on hb12)
    clear b0 b1
    obtain ⟨b0, b1⟩ := box2 hB12
    clear hB11 S0_11 Xx_11 Zy_11 y0_11 y1_11 Oz4_11 O0_11 hb12
    refine Lib.hid ?_
    go_wp2_with (first | (go_at_call 23; refine (eqvalves_same _ _ _ _ vs w12 Zy_12.out.at_ Zu_12.out.at_ hlenv).mono ?_; rintro e w13 ⟨rfl, hb13⟩; refine Hid.out ?_) | fail)
    have hz13 := hb13.size
    have hB13 := on_call hB12 hb13
    have S0_13 := Lib.hid (S0_12.out.low hb13 (by omega))
    have Xx_13 := Lib.hid (Xx_12.out.kept hb13 (by omega))
    have Zy_13 := Lib.hid (Zy_12.out.kept hb13 (by omega))
    have y0_13 := (hb13.cell (p := ⟨w6.heap.size, 0, none⟩) (by dsimp only; omega)).trans y0_12
    have y1_13 := (hb13.cell (p := ⟨w6.heap.size, 1, none⟩) (by dsimp only; omega)).trans y1_12
    have Oz4_13 := Lib.hid (Oz4_12.out.on hb13)
    have O0_13 := Lib.hid (O0_12.out.on hb13)
    clear b0 b1
    obtain ⟨b0, b1⟩ := box2 hB13
    clear hB12 S0_12 Xx_12 Zy_12 y0_12 y1_12 Oz4_12 O0_12 hb13
    refine Lib.hid ?_
    go_wp2_with (first | (go_at_call 20; refine (toints_any AC4 cc4 cu4 _ (HC4.out.kept (below_box hB13) (Nat.le_refl _)) hcl4).mono ?_; rintro e w14 ⟨⟨gv4, rfl, hgv4, hOv4⟩, hb14⟩; refine Hid.out ?_) | fail)
    have Ov4_14 := Lib.hid hOv4
    have hlv4 := iown_lt' hOv4
    clear hOv4
    have hz14 := hb14.size
    have hB14 := on_call hB13 hb14
    have S0_14 := Lib.hid (S0_13.out.low hb14 (by omega))
    have Xx_14 := Lib.hid (Xx_13.out.kept hb14 (by omega))
    have Zy_14 := Lib.hid (Zy_13.out.kept hb14 (by omega))
    have y0_14 := (hb14.cell (p := ⟨w6.heap.size, 0, none⟩) (by dsimp only; omega)).trans y0_13
    have y1_14 := (hb14.cell (p := ⟨w6.heap.size, 1, none⟩) (by dsimp only; omega)).trans y1_13
    have Oz4_14 := Lib.hid (Oz4_13.out.on hb14)
    have O0_14 := Lib.hid (O0_13.out.on hb14)
    clear b0 b1
    obtain ⟨b0, b1⟩ := box2 hB14
    clear hB13 S0_13 Xx_13 Zy_13 y0_13 y1_13 Oz4_13 O0_13 hb14
    refine Lib.hid ?_
    go_wp2_with (first | (go_at_call 24; refine (eqints_same _ _ _ _ cu4 w14 Oz4_14.out.iat Ov4_14.out.iat hcl4).mono ?_; rintro e w15 ⟨rfl, hb15⟩; refine Hid.out ?_) | fail)
    have hz15 := hb15.size
    have hB15 := on_call hB14 hb15
    have S0_15 := Lib.hid (S0_14.out.low hb15 (by omega))
    have Xx_15 := Lib.hid (Xx_14.out.kept hb15 (by omega))
    have Zy_15 := Lib.hid (Zy_14.out.kept hb15 (by omega))
    have y0_15 := (hb15.cell (p := ⟨w6.heap.size, 0, none⟩) (by dsimp only; omega)).trans y0_14
    have y1_15 := (hb15.cell (p := ⟨w6.heap.size, 1, none⟩) (by dsimp only; omega)).trans y1_14
    have Oz4_15 := Lib.hid (Oz4_14.out.on hb15)
    have O0_15 := Lib.hid (O0_14.out.on hb15)
    clear b0 b1
    obtain ⟨b0, b1⟩ := box2 hB15
    clear hB14 S0_14 Xx_14 Zy_14 y0_14 y1_14 Oz4_14 O0_14 hb15
    refine Lib.hid ?_
    go_wp2_with (first | (go_at_call 27; refine (marknetk_any n gx 1 ps w15 Xx_15.out hlen (by omega)).mono ?_; rintro e w16 ⟨rfl, hg16⟩; refine Hid.out ?_) | fail)
    have hz16 := hg16.size
    have hB16 := hB15.grown hg16 (by omega) (fun k hk => by simp at hk; omega)
    have S0_16 := Lib.hid (S0_15.out.far hg16 (by omega))
    have Zy_16 := Lib.hid (Zy_15.out.far hg16 (by omega))
    have Oz4_16 := Lib.hid (Oz4_15.out.far hg16 (by omega))
    have O0_16 := Lib.hid (O0_15.out.far hg16 (by omega))
    clear b0 b1
    obtain ⟨b0, b1⟩ := box2 hB16
    clear hB15 S0_15 Zy_15 Oz4_15 O0_15 hg16
    refine Lib.hid ?_
    go_wp2_with (first | (go_at_call 28; refine (markvrow_i gy _ vs w16 Zy_16.out hlenv (by omega) (by omega)).mono ?_; rintro e w17 ⟨rfl, hg17⟩; refine Hid.out ?_) | fail)
    have hz17 := hg17.size
    have hB17 := hB16.grown hg17 (by omega) (fun k hk => by simp at hk; omega)
    have S0_17 := Lib.hid (S0_16.out.far hg17 (by omega))
    have Oz4_17 := Lib.hid (Oz4_16.out.far hg17 (by omega))
    have O0_17 := Lib.hid (O0_16.out.far hg17 (by omega))
    clear b0 b1
    obtain ⟨b0, b1⟩ := box2 hB17
    clear hB16 S0_16 Oz4_16 O0_16 hg17
    refine Lib.hid ?_
    go_wp2_with (first | (go_at_call 29; refine (markints_i _ gz4 _ (1 + ps.length * 4 + vs.length * 4) _ cu4 w17 Oz4_17.out hcl4 (by omega) (by omega)).mono ?_; rintro e w18 ⟨rfl, _, hg18⟩; refine Hid.out ?_) | fail)
    have hz18 := hg18.size
    have hB18 := hB17.grown hg18 (by omega) (fun k hk => by simp at hk; omega)
    have S0_18 := Lib.hid (S0_17.out.far hg18 (by omega))
    have O0_18 := Lib.hid (O0_17.out.far hg18 (by omega))
    clear b0 b1
    obtain ⟨b0, b1⟩ := box2 hB18
    clear hB17 S0_17 O0_17 hg18
    refine Lib.hid ?_
    go_wp2_with (first | (go_at_call 24; refine (eqints_same _ _ _ _ L0 w18 O0_18.out.iat S0_18.out (by omega)).mono ?_; rintro e w19 ⟨rfl, hb19⟩; refine Hid.out ?_) | fail)
    have hz19 := hb19.size
    have hB19 := on_call hB18 hb19
    have S0_19 := Lib.hid (S0_18.out.low hb19 (by omega))
    have O0_19 := Lib.hid (O0_18.out.on hb19)
    clear b0 b1
    obtain ⟨b0, b1⟩ := box2 hB19
    clear hB18 S0_18 O0_18 hb19
    refine Lib.hid ?_
    go_wp2_with (first | (go_at_call 29; refine (markints_i _ gI0 cI0 (1) _ L0 w19 O0_19.out (by omega) (by omega) (by omega)).mono ?_; rintro e w20 ⟨rfl, ho20, hg20⟩; refine Hid.out ?_) | fail)
    have SM0_20 := Lib.hid ho20.iat_marks
    clear ho20
    have hz20 := hg20.size
    have hB20 := hB19.grown hg20 (by omega) (fun k hk => by simp at hk; omega)
    have S0_20 := Lib.hid (S0_19.out.far hg20 (by omega))
    clear b0 b1
    obtain ⟨b0, b1⟩ := box2 hB20
    clear hB19 S0_19 hg20
    refine Lib.hid ?_
    go_wp2_with (first | (go_at_call 30; refine (heldints_i _ _ (1) L0.length _ w20 SM0_20.out (by omega) (by omega) (by omega)).mono ?_; rintro e w21 ⟨rfl, hb21⟩; refine Hid.out ?_) | fail)
    have hz21 := hb21.size
    have hB21 := on_call hB20 hb21
    have S0_21 := Lib.hid (S0_20.out.low hb21 (by omega))
    have SM0_21 := Lib.hid (SM0_20.out.low hb21 (by omega))
    clear b0 b1
    obtain ⟨b0, b1⟩ := box2 hB21
    clear hB20 S0_20 SM0_20 hb21
    refine Lib.hid ?_
    go_wp2_with (first | (go_at_call 18; refine (tonet_any n A cap ps _ (HA.out.kept (below_box hB21) (Nat.le_refl _)) hlen).mono ?_; rintro e w22 ⟨⟨gc, rfl, hgc, hrowc⟩, hb22⟩; refine Hid.out ?_) | fail)
    have Xc_22 := Lib.hid hrowc
    have hlc := hrowc.lt
    clear hrowc
    have hz22 := hb22.size
    have hB22 := on_call hB21 hb22
    have S0_22 := Lib.hid (S0_21.out.low hb22 (by omega))
    have SM0_22 := Lib.hid (SM0_21.out.low hb22 (by omega))
    clear b0 b1
    obtain ⟨b0, b1⟩ := box2 hB22
    clear hB21 S0_21 SM0_21 hb22
    refine Lib.hid ?_
    go_wp2_with (first | (go_at_call 19; refine (tovalves_any AV capv vs _ (HV.out.kept (below_box hB22) (Nat.le_refl _)) hlenv).mono ?_; rintro e w23 ⟨⟨gd, rfl, hgd, hrowd⟩, hb23⟩; refine Hid.out ?_) | fail)
    have Zd_23 := Lib.hid hrowd
    have hld := hrowd.lt
    clear hrowd
    have hz23 := hb23.size
    have hB23 := on_call hB22 hb23
    have S0_23 := Lib.hid (S0_22.out.low hb23 (by omega))
    have SM0_23 := Lib.hid (SM0_22.out.low hb23 (by omega))
    have Xc_23 := Lib.hid (Xc_22.out.kept hb23 (by omega))
    clear b0 b1
    obtain ⟨b0, b1⟩ := box2 hB23
    clear hB22 S0_22 SM0_22 Xc_22 hb23
    refine Lib.hid ?_
    go_wp2_with (first | (go_at_call 20; refine (toints_any AC4 cc4 cu4 _ (HC4.out.kept (below_box hB23) (Nat.le_refl _)) hcl4).mono ?_; rintro e w24 ⟨⟨gf4, rfl, hgf4, hOf4⟩, hb24⟩; refine Hid.out ?_) | fail)
    have Of4_24 := Lib.hid hOf4
    have hlf4 := iown_lt' hOf4
    clear hOf4
    have hz24 := hb24.size
    have hB24 := on_call hB23 hb24
    have S0_24 := Lib.hid (S0_23.out.low hb24 (by omega))
    have SM0_24 := Lib.hid (SM0_23.out.low hb24 (by omega))
    have Xc_24 := Lib.hid (Xc_23.out.kept hb24 (by omega))
    have Zd_24 := Lib.hid (Zd_23.out.kept hb24 (by omega))
    clear b0 b1
    obtain ⟨b0, b1⟩ := box2 hB24
    clear hB23 S0_23 SM0_23 Xc_23 Zd_23 hb24
    refine Lib.hid ?_
    go_wp2_with (first | (go_at_call 34; refine (HI.out _ _ _ _ _ _ _ hlen Xc_24.out.at_ Zd_24.out.at_ (Nat.le_refl _) hcm Of4_24.out.iat hcl4).mono ?_; rintro e w25 ⟨gJ0, cJ0, rfl, hgJ0, hO0, hb25⟩; refine Hid.out ?_) | fail)
    have O0_25 := Lib.hid hO0
    clear hO0
    have hz25 := hb25.size
    have hB25 := on_call hB24 hb25
    have S0_25 := Lib.hid (S0_24.out.low hb25 (by omega))
    have SM0_25 := Lib.hid (SM0_24.out.low hb25 (by omega))
    clear b0 b1
    obtain ⟨b0, b1⟩ := box2 hB25
    clear hB24 S0_24 SM0_24 hb25
    refine Lib.hid ?_
    go_wp2_with (first | (go_at_call 24; refine (eqints_same _ _ _ _ L0 w25 O0_25.out.iat S0_25.out (by omega)).mono ?_; rintro e w26 ⟨rfl, hb26⟩; refine Hid.out ?_) | fail)
    have hz26 := hb26.size
    have hB26 := on_call hB25 hb26
    have S0_26 := Lib.hid (S0_25.out.low hb26 (by omega))
    have SM0_26 := Lib.hid (SM0_25.out.low hb26 (by omega))
    have O0_26 := Lib.hid (O0_25.out.on hb26)
    clear b0 b1
    obtain ⟨b0, b1⟩ := box2 hB26
    clear hB25 S0_25 SM0_25 O0_25 hb26
    refine Lib.hid ?_
    go_wp2_with (first | (go_at_call 30; refine (heldints_i _ _ (1) L0.length _ w26 SM0_26.out (by omega) (by omega) (by omega)).mono ?_; rintro e w27 ⟨rfl, hb27⟩; refine Hid.out ?_) | fail)
    have hz27 := hb27.size
    have hB27 := on_call hB26 hb27
    have S0_27 := Lib.hid (S0_26.out.low hb27 (by omega))
    have SM0_27 := Lib.hid (SM0_26.out.low hb27 (by omega))
    have O0_27 := Lib.hid (O0_26.out.on hb27)
    clear b0 b1
    obtain ⟨b0, b1⟩ := box2 hB27
    clear hB26 S0_26 SM0_26 O0_26 hb27
    refine Lib.hid ?_
    go_wp2_with fail
    go_ret
    exact ⟨rfl, below_box hB27⟩
end Go.Proofs.Ytbljmibaemgfeaa.S2

namespace Go.Proofs.Ytbljmibaemgfeaa.S2
open Go.RowKit P2 P4
theorem law_gentle (n : Int) (A : Option Addr) (cap : Nat) (ps : List Pp) (AV : Option Addr) (capv : Nat) (vs : List Vv) (X x : Int) (AU : Option Addr) (cq : Nat) (cu : List Int) (w : World) (h : PAt w A ps) (hm : ps.length ≤ maxLen) (hv : VAt w AV vs) (hmv : vs.length ≤ maxLen) (hu : IAt w AU cu) (hmu : cu.length ≤ maxLen) :
    Calls Try.prog 6 #[nv n A ps.length cap, .slice AV vs.length capv, .int .i64 X, .int .i64 x, .slice AU cu.length cq] w fun e w' => e = .returned (.bool true) ∧ Below w.heap.size w w' := by
  cases hq : askB n ps vs X x with
  | false =>
    exact walkGentlestPlan n A cap ps AV capv vs X x AU cq cu w h hm hv hmv hu hmu [] 0 false (by simp)
      (fun A cap AV capv AU cq w _ h hv _ _ _ _ => sgent_no1 n A cap ps AV capv vs X x AU cq cu w (fun w' hb => asked_v hq A cap AV capv w' (h.kept hb (Nat.le_refl _)) hm (hv.kept hb (Nat.le_refl _)) hmv))
      (fun A cap AV capv AU cq w _ h hv hcv hcm _ _ => gent_no1 n A cap ps AV capv vs X x AU cq cu w (fun w' hb => by
        have h7 := burst_any n A cap ps AV capv vs X x w' (h.kept hb (Nat.le_refl _)) hm (hv.kept hb (Nat.le_refl _)) hmv hcv hcm
        rwa [hq] at h7))
  | true =>
    cases hc : custB n cu with
    | false =>
      exact walkGentlestPlan n A cap ps AV capv vs X x AU cq cu w h hm hv hmv hu hmu [] 0 false (by simp)
        (fun A cap AV capv AU cq w _ h hv _ _ hu hul => sgent_no2 n A cap ps AV capv vs X x AU cq cu w (fun w' hb => asked_v hq A cap AV capv w' (h.kept hb (Nat.le_refl _)) hm (hv.kept hb (Nat.le_refl _)) hmv) hu hul hc)
        (fun A cap AV capv AU cq w _ h hv hcv hcm hu hul => gent_no2 n A cap ps AV capv vs X x AU cq cu w (fun w' hb => by
          have h7 := burst_any n A cap ps AV capv vs X x w' (h.kept hb (Nat.le_refl _)) hm (hv.kept hb (Nat.le_refl _)) hmv hcv hcm
          rwa [hq] at h7) hu hul hc)
    | true =>
      obtain ⟨hgv, hnx, i, hi⟩ := askB_of hq
      have hgd := goodV_of hgv
      obtain ⟨N, Y, rfl, rfl, hn1, hn2, hn3⟩ := node_of_good hnx
      have hN8 := hgd.1.2.1
      have hcn : cu ≠ [] := by
        rintro rfl
        have := (custB_of hc).1
        simp at this
        omega
      have hpe : harmP N ps vs Y cu = fun l => sumL cu (nodesL N (wetP ps vs Y l) false) := funext (fun Q => by simp [harmP, hcn])
      obtain ⟨ok, P, hP, hr⟩ := res_ex vs (ascV_of hgd) (cutB ps vs Y i) (harmP N ps vs Y cu) (fun Q => harmP_pos (custB_of hc).2 Q)
      have hr2 := hr
      rw [hpe] at hr2
      have hlP : P.length ≤ 1000 := by
        rcases hr with ⟨_, hpl, _⟩ | ⟨_, rfl, _⟩
        · exact Nat.le_trans (pl_len (ascV_of hgd) hgd.2.1 hpl) (by omega)
        · simp
      exact walkGentlestPlan N A cap ps AV capv vs Y x AU cq cu w h hm hv hmv hu hmu P hP ok hlP
        (fun A cap AV capv AU cq w _ h hv _ _ hu hul => sgent_yes N Y i A cap ps AV capv vs x AU cq cu w (fun w' hb => asked_v hq A cap AV capv w' (h.kept hb (Nat.le_refl _)) hm (hv.kept hb (Nat.le_refl _)) hmv) hu hul hc h hv hgd (by omega) (by omega) hi P hP ok hr)
        (fun A cap AV capv AU cq w _ h hv hcv hcm hu hul => gent_yes N Y i A cap ps AV capv vs x AU cq cu w (fun w' hb => by
          have h7 := burst_any N A cap ps AV capv vs Y x w' (h.kept hb (Nat.le_refl _)) hm (hv.kept hb (Nat.le_refl _)) hmv hcv hcm
          rwa [hq] at h7) hu hul hc h hv hgd (by omega) hi P hP ok hr2)
end Go.Proofs.Ytbljmibaemgfeaa.S2

namespace Go.Proofs.Ytbljmibaemgfeaa.fnExactGentlestPlan
open Go.ChangeShapes Go.WideShapes Go.ChangeAt Go.RowKit P2 S2
set_option linter.unusedVariables false

theorem own : ownKnob Try.prog.godebug = none := by kernel_rfl
theorem laidOut : laidOutB Try.prog = true := by kernel_rfl

set_option maxRecDepth 100000 in
theorem lifted (os : Os) (started : os.Started) (H : Type) (enc : TypeId × Value → H) :
    ReturnsInHanded {} Try.checked os 6 .any (Rows.fnExactGentlestPlanSpec.pre6 enc Try.prog Try.f6 Rows.fnExactGentlestPlanRow.domain false) (Rows.fnExactGentlestPlanSpec.post enc Try.prog Try.f6 false true false false) := by
  refine returnsInHanded_of_change (C := Try.checked) own started (by kernel_rfl) Try.func6
    (ChangeSpec.witness6 (enc := enc) (C := Try.checked) false ⟨#[], #[.agg #[.int .i64 0, .slice none 0 0], .slice none 0 0, .int .i64 0, .int .i64 0, .slice none 0 0], []⟩ 8 (by kernel_rfl) (by kernel_rfl) (by kernel_rfl) (by kernel_rfl)) ?_
  intro W base args ds gs before hval0 hW hcnd _
  have hval : ∀ (j : Nat) t v, Try.f6.params[j]? = some t → args[j]? = some v → Value.okWide Try.prog W .any base t v := hval0
  have hW' := hW
  obtain ⟨p, q, hA0, hV, rfl, hfz, hnd⟩ := hW
  have hA : DataW.TrodAll enc Try.prog W 0 (fun _ => true) true Try.f6.params.toList args.toList ds p := hA0
  rw [Try.params6] at hA hval
  obtain ⟨v0, v1, v2, v3, v4, d0, d1, d2, d3, d4, p0, p1, p2, p3, p4, rfl, rfl, rfl, h0, h1, h2, h3, h4⟩ := trodAll_five hA
  obtain ⟨rfl, rfl⟩ := trodVars_none hV
  have k0 := h0
  have lt0 : ∀ x ∈ p0, x.block < W.heap.size := by obtain ⟨m, hm⟩ := k0; exact DataW.trod_lt m _ _ _ hm
  obtain ⟨n0, A0, cap0, ps0, rfl, at0, mx0⟩ := net_open (hval 0 24 v0 rfl rfl) h0
  have k1 := h1
  have lt1 : ∀ x ∈ p1, x.block < W.heap.size := by obtain ⟨m, hm⟩ := k1; exact DataW.trod_lt m _ _ _ hm
  obtain ⟨A1, cap1, vs1, rfl, at1, mx1⟩ := valvearg_open (hval 1 25 v1 rfl rfl) h1
  obtain ⟨a2, rfl, rfl, rfl, w2⟩ := open_int Try.underlying3 (hval 2 3 v2 rfl rfl) h2
  obtain ⟨a3, rfl, rfl, rfl, w3⟩ := open_int Try.underlying3 (hval 3 3 v3 rfl rfl) h3
  have k4 := h4
  have lt4 : ∀ x ∈ p4, x.block < W.heap.size := by obtain ⟨m, hm⟩ := k4; exact DataW.trod_lt m _ _ _ hm
  obtain ⟨A4, cap4, cu4, rfl, at4, mx4⟩ := intsarg_open (hval 4 26 v4 rfl rfl) h4
  clear hA0 hval0
  refine (law_gentle n0 A0 cap0 ps0 A1 cap1 vs1 a2 a3 A4 cap4 cu4 W at0 mx0 at1 mx1 at4 mx4).mono fun e W' ⟨he, bel⟩ => ?_
  subst he
  exact ⟨_, rfl, _, _, _, [], _, [], hW', trodAll_mk1 (shut_bool Try.underlying4 _), trodAll_mk5 (Below.trod laidOut (by kernel_rfl) (of_decide_eq_true (by kernel_rfl)) k0 bel lt0) (Below.trod laidOut (by kernel_rfl) (of_decide_eq_true (by kernel_rfl)) k1 bel lt1) (shut_int Try.underlying3 w2) (shut_int Try.underlying3 w3) (Below.trod laidOut (by kernel_rfl) (of_decide_eq_true (by kernel_rfl)) k4 bel lt4), rfl, bel.frame _, fun h => by cases h⟩

theorem proved : Rows.FnExactGentlestPlanSaid :=
  OpenClaim.holds_of_wide 6 Try.f6 rfl rfl rfl rfl rfl rfl rfl ⟨rfl, rfl, rfl, rfl, rfl⟩ rfl rfl rfl rfl rfl (by kernel_rfl) Try.func6 (by kernel_rfl)
    (of_decide_eq_true (by kernel_rfl)) (by unfold Func.isWrapper; first | (rw [if_pos (by decide +kernel)]; kernel_rfl) | (rw [if_neg (by decide +kernel)]; exact ⟨rfl, rfl⟩))
    (fun os started H enc _ => lifted os started H enc)
end Go.Proofs.Ytbljmibaemgfeaa.fnExactGentlestPlan
namespace Go.Proofs.Ytbljmibaemgfeaa
theorem FnExactGentlestPlan_holds : Rows.FnExactGentlestPlanSaid := fnExactGentlestPlan.proved
#print axioms FnExactGentlestPlan_holds
end Go.Proofs.Ytbljmibaemgfeaa
