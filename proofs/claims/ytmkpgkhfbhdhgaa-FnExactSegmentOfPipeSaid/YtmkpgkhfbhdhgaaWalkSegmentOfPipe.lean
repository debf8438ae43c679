/- The walk of the law FnExactSegmentOfPipe: contracts. Conditions: each theorem's own premises. -/
import Derived.Test.YtmkpgkhfbhdhgaaLawKit
import Derived.Deep.DeepCutAuto
namespace Go.Proofs.Ytmkpgkhfbhdhgaa.S2
open Go.RowKit P2 P4

set_option maxHeartbeats 16000000 in
set_option maxRecDepth 100000 in
theorem walkSegmentOfPipe (n : Int) (A : Option Addr) (cap : Nat) (ps : List Pp) (AV : Option Addr) (capv : Nat) (vs : List Vv) (x2 : Int) (w : World) (h : PAt w A ps) (hm : ps.length ≤ maxLen) (hv : VAt w AV vs) (hmv : vs.length ≤ maxLen) (L0 L1 : List Int) (ok : Bool) (hL0 : L0.length ≤ 1000) (hL1 : L1.length ≤ 1000)
    (hs : ∀ (A : Option Addr) (cap : Nat) (AV : Option Addr) (capv : Nat) (w : World), ps.length ≤ 1048576 → PAt w A ps → VAt w AV vs → vs.length ≤ capv → capv ≤ maxLen → Calls Try.prog 22 #[nv n A ps.length cap, .slice AV vs.length capv, .int .i64 x2] w (GivesA2 w L0 L1 ok))
    (hi : ∀ (A : Option Addr) (cap : Nat) (AV : Option Addr) (capv : Nat) (w : World), ps.length ≤ 1048576 → PAt w A ps → VAt w AV vs → vs.length ≤ capv → capv ≤ maxLen → Calls Try.prog 23 #[nv n A ps.length cap, .slice AV vs.length capv, .int .i64 x2] w (GivesI2 w L0 L1 ok)) :
    Calls Try.prog 4 #[nv n A ps.length cap, .slice AV vs.length capv, .int .i64 x2] w fun e w' => e = .returned (.bool true) ∧ Below w.heap.size w w' := by
  have HA := Lib.hid h
  have HM := Lib.hid hm
  have HS := Lib.hid hs
  have HI := Lib.hid hi
  have HV := Lib.hid hv
  have HMV := Lib.hid hmv
  clear h hm hs hi hv hmv
  go_enter Try.func4, Try.ntmps4
  go_wp2_with (go_at_call 14; refine (sznet_le n A ps.length cap _ HM.out).mono ?_; rintro e w1 ⟨⟨r, rfl, hr⟩, hb1⟩; refine Hid.out ?_)
  have hB1 : Below (w.heap.size + 1) (w.alloc (.cells #[.int .i64 n, .slice A ps.length cap] 24)) w1 := by simpa using hb1
  clear hb1
  obtain ⟨b0, b1⟩ := box2 hB1
  by_cases hr0 : r < 0
  · refine Lib.hid ?_
    go_wp2
    go_ret
    exact ⟨rfl, below_box hB1⟩
  have hlen : ps.length ≤ 1048576 := by rcases hr with h | h; exact absurd h hr0; exact h.2.2
  have hr9 : r ≤ 1048576 := by rcases hr with h | h; exact absurd h hr0; exact h.2.1
  clear hr
  refine Lib.hid ?_
  go_wp2_with (go_at_call 15; refine (szvalves_any AV vs.length capv r (by omega) hr9 _ HMV.out).mono ?_; rintro e w1x ⟨⟨r2, rfl, hr2⟩, hw⟩; replace hw := hw.symm; subst hw; refine Hid.out ?_)
  by_cases hr20 : r2 < 0
  · refine Lib.hid ?_
    go_wp2
    go_ret
    exact ⟨rfl, below_box hB1⟩
  have hlenv : vs.length ≤ 1048576 := by rcases hr2 with h | h; exact absurd h hr20; exact h.2.2
  clear hr2 hr9
  have hcm : vs.length ≤ maxLen := by unfold maxLen; omega
  have hz1 : w.heap.size < w1.heap.size := box_lt hB1
  refine Lib.hid ?_
  go_wp2_with (first | (go_at_call 17; refine (tonet_any n A cap ps _ (HA.out.kept (below_box hB1) (Nat.le_refl _)) hlen).mono ?_; rintro e w2 ⟨⟨ga, rfl, hga, hrowa⟩, hb2⟩; refine Hid.out ?_) | fail)
  have Xa_2 := Lib.hid hrowa
  have hla := hrowa.lt
  clear hrowa
  have hz2 := hb2.size
  have hB2 := on_call hB1 hb2
  clear b0 b1
  obtain ⟨b0, b1⟩ := box2 hB2
  clear hB1 hb2
  refine Lib.hid ?_
  go_wp2_with (first | (go_at_call 18; refine (tovalves_any AV capv vs _ (HV.out.kept (below_box hB2) (Nat.le_refl _)) hlenv).mono ?_; rintro e w3 ⟨⟨gb, rfl, hgb, hrowb⟩, hb3⟩; refine Hid.out ?_) | fail)
  have Zb_3 := Lib.hid hrowb
  have hlb := hrowb.lt
  clear hrowb
  have hz3 := hb3.size
  have hB3 := on_call hB2 hb3
  have Xa_3 := Lib.hid (Xa_2.out.kept hb3 (by omega))
  clear b0 b1
  obtain ⟨b0, b1⟩ := box2 hB3
  clear hB2 Xa_2 hb3
  refine Lib.hid ?_
  go_wp2_with (first | (go_at_call 22; refine (HS.out _ _ _ _ _ hlen Xa_3.out.at_ Zb_3.out.at_ (Nat.le_refl _) hcm).mono ?_; rintro e w4 ⟨gS0, oS0, cS0, gS1, oS1, cS1, rfl, hS0, hlS0, hS1, hlS1, hb4⟩; refine Hid.out ?_) | fail)
  have S0_4 := Lib.hid hS0
  clear hS0
  have S1_4 := Lib.hid hS1
  clear hS1
  clear Xa_3 Zb_3
  have hz4 := hb4.size
  have hB4 := on_call hB3 hb4
  clear b0 b1
  obtain ⟨b0, b1⟩ := box2 hB4
  clear hB3 hb4
  refine Lib.hid ?_
  go_wp2_with (first | (go_at_call 17; refine (tonet_any n A cap ps _ (HA.out.kept (below_box hB4) (Nat.le_refl _)) hlen).mono ?_; rintro e w5 ⟨⟨gx, rfl, hgx, hrowx⟩, hb5⟩; refine Hid.out ?_) | fail)
  have Xx_5 := Lib.hid hrowx
  have hlx := hrowx.lt
  clear hrowx
  have hz5 := hb5.size
  have hB5 := on_call hB4 hb5
  have S0_5 := Lib.hid (S0_4.out.low hb5 (by omega))
  have S1_5 := Lib.hid (S1_4.out.low hb5 (by omega))
  clear b0 b1
  obtain ⟨b0, b1⟩ := box2 hB5
  clear hB4 S0_4 S1_4 hb5
  have HBX := Lib.hid (show Below w5.heap.size w5 (w5.alloc (.cells #[.int .i64 n, .slice (some ⟨gx, 0, none⟩) ps.length ps.length] 31)) from (Below.refl _ _).alloc (Nat.le_refl _) _)
  have HBX2 := Lib.hid (on_call hB5 HBX.out)
  refine Lib.hid ?_
  go_wp2_with (first | (go_at_call 18; refine (tovalves_any AV capv vs _ (HV.out.kept (below_box HBX2.out) (Nat.le_refl _)) hlenv).mono ?_; rintro e w6 ⟨⟨gy, rfl, hgy, hrowy⟩, hbq⟩; refine Hid.out ?_) | fail)
  obtain ⟨y0_6, y1_6⟩ := box2 (w := w5) (by simpa using hbq)
  have hb6 := HBX.out.trans (hbq.mono (by simp))
  have Zy_6 := Lib.hid hrowy
  have hly := hrowy.lt
  have hzq := hbq.size
  simp at hzq hgy
  clear hrowy hbq HBX HBX2
  have hz6 := hb6.size
  have hB6 := on_call hB5 hb6
  have S0_6 := Lib.hid (S0_5.out.low hb6 (by omega))
  have S1_6 := Lib.hid (S1_5.out.low hb6 (by omega))
  have Xx_6 := Lib.hid (Xx_5.out.kept hb6 (by omega))
  clear b0 b1
  obtain ⟨b0, b1⟩ := box2 hB6
  clear hB5 S0_5 S1_5 Xx_5 hb6
  refine Lib.hid ?_
  go_wp2_with (first | (go_at_call 23; refine (HI.out _ _ _ _ _ hlen Xx_6.out.at_ Zy_6.out.at_ (Nat.le_refl _) hcm).mono ?_; rintro e w7 ⟨gI0, cI0, gI1, cI1, rfl, hgI0, hgI1, hgne, hO0, hO1, hb7⟩; refine Hid.out ?_) | fail)
  have O0_7 := Lib.hid hO0
  have hlI0 := iown_lt' hO0
  clear hO0
  have O1_7 := Lib.hid hO1
  have hlI1 := iown_lt' hO1
  clear hO1
  have hz7 := hb7.size
  have hB7 := on_call hB6 hb7
  have S0_7 := Lib.hid (S0_6.out.low hb7 (by omega))
  have S1_7 := Lib.hid (S1_6.out.low hb7 (by omega))
  have Xx_7 := Lib.hid (Xx_6.out.kept hb7 (by omega))
  have Zy_7 := Lib.hid (Zy_6.out.kept hb7 (by omega))
  have y0_7 := (hb7.cell (p := ⟨w5.heap.size, 0, none⟩) (by dsimp only; omega)).trans y0_6
  have y1_7 := (hb7.cell (p := ⟨w5.heap.size, 1, none⟩) (by dsimp only; omega)).trans y1_6
  clear b0 b1
  obtain ⟨b0, b1⟩ := box2 hB7
  clear hB6 S0_6 S1_6 Xx_6 Zy_6 y0_6 y1_6 hb7
  refine Lib.hid ?_
  go_wp2_with (first | (go_at_call 24; refine (eqints_same _ _ _ _ L0 w7 O0_7.out.iat S0_7.out (by omega)).mono ?_; rintro e w8 ⟨rfl, hb8⟩; refine Hid.out ?_) | fail)
  have hz8 := hb8.size
  have hB8 := on_call hB7 hb8
  have S0_8 := Lib.hid (S0_7.out.low hb8 (by omega))
  have S1_8 := Lib.hid (S1_7.out.low hb8 (by omega))
  have Xx_8 := Lib.hid (Xx_7.out.kept hb8 (by omega))
  have Zy_8 := Lib.hid (Zy_7.out.kept hb8 (by omega))
  have y0_8 := (hb8.cell (p := ⟨w5.heap.size, 0, none⟩) (by dsimp only; omega)).trans y0_7
  have y1_8 := (hb8.cell (p := ⟨w5.heap.size, 1, none⟩) (by dsimp only; omega)).trans y1_7
  have O0_8 := Lib.hid (O0_7.out.on hb8)
  have O1_8 := Lib.hid (O1_7.out.on hb8)
  clear b0 b1
  obtain ⟨b0, b1⟩ := box2 hB8
  clear hB7 S0_7 S1_7 Xx_7 Zy_7 y0_7 y1_7 O0_7 O1_7 hb8
  refine Lib.hid ?_
  go_wp2_with (first | (go_at_call 24; refine (eqints_same _ _ _ _ L1 w8 O1_8.out.iat S1_8.out (by omega)).mono ?_; rintro e w9 ⟨rfl, hb9⟩; refine Hid.out ?_) | fail)
  have hz9 := hb9.size
  have hB9 := on_call hB8 hb9
  have S0_9 := Lib.hid (S0_8.out.low hb9 (by omega))
  have S1_9 := Lib.hid (S1_8.out.low hb9 (by omega))
  have Xx_9 := Lib.hid (Xx_8.out.kept hb9 (by omega))
  have Zy_9 := Lib.hid (Zy_8.out.kept hb9 (by omega))
  have y0_9 := (hb9.cell (p := ⟨w5.heap.size, 0, none⟩) (by dsimp only; omega)).trans y0_8
  have y1_9 := (hb9.cell (p := ⟨w5.heap.size, 1, none⟩) (by dsimp only; omega)).trans y1_8
  have O0_9 := Lib.hid (O0_8.out.on hb9)
  have O1_9 := Lib.hid (O1_8.out.on hb9)
  clear b0 b1
  obtain ⟨b0, b1⟩ := box2 hB9
  clear hB8 S0_8 S1_8 Xx_8 Zy_8 y0_8 y1_8 O0_8 O1_8 hb9
  refine Lib.hid ?_
  go_upto_region 14 with (fail)
  go_cut [73] (fun st wx => st = .bool false ∧ Hid (Below w9.heap.size w9 wx))
  case first =>
    have hA7 := Lib.hid (HA.out.kept (below_box hB9) (Nat.le_refl _))
    have hat7 := Lib.hid Xx_9.out.at_
    have hx4 : w5.heap.size < w9.heap.size := by omega
    go_region_with (first
      | (go_at_call 17; refine (tonet_any n A cap ps w9.drew hA7.out hlen).mono ?_; rintro e wqa ⟨⟨gqa, rfl, hgqa, hrowqa⟩, hbqa⟩; have HBqa := Lib.hid hbqa; have hatqa := Lib.hid hrowqa.at_; have hatqb := Lib.hid (PAt.kept (w := w9.drew) hat7.out hbqa (Nat.le_refl _)); have z0 := (hbqa.cell (p := ⟨w5.heap.size, 0, none⟩) hx4).trans y0_9; have z1 := (hbqa.cell (p := ⟨w5.heap.size, 1, none⟩) hx4).trans y1_9; clear hgqa hrowqa hbqa)
      | (go_at_call 20; refine (eqnet_same n _ _ _ _ ps wqa hatqb.out hatqa.out hlen).mono ?_; rintro e wqb ⟨rfl, hbqb⟩))
    all_goals
      go_wp2_with fail
      go_meet
      exact ⟨rfl, Lib.hid ((Below.refl w9.heap.size w9).drew.trans (HBqa.out.trans (hbqb.mono HBqa.out.size)))⟩
  case rest =>
    obtain ⟨rfl, hbc⟩ := hcut
    obtain ⟨w10, hwb⟩ : ∃ w10, w10 = wc := ⟨_, rfl⟩
    subst hwb
    have hb10 := hbc.out
    clear hbc
    have hz10 := hb10.size
    have hB10 := on_call hB9 hb10
    have S0_10 := Lib.hid (S0_9.out.low hb10 (by omega))
    have S1_10 := Lib.hid (S1_9.out.low hb10 (by omega))
    have Xx_10 := Lib.hid (Xx_9.out.kept hb10 (by omega))
    have Zy_10 := Lib.hid (Zy_9.out.kept hb10 (by omega))
    have y0_10 := (hb10.cell (p := ⟨w5.heap.size, 0, none⟩) (by dsimp only; omega)).trans y0_9
    have y1_10 := (hb10.cell (p := ⟨w5.heap.size, 1, none⟩) (by dsimp only; omega)).trans y1_9
    have O0_10 := Lib.hid (O0_9.out.on hb10)
    have O1_10 := Lib.hid (O1_9.out.on hb10)
    clear b0 b1
    obtain ⟨b0, b1⟩ := box2 hB10
    clear hB9 S0_9 S1_9 Xx_9 Zy_9 y0_9 y1_9 O0_9 O1_9 hb10
    refine Lib.hid ?_
    go_wp2_with (first | (go_at_call 18; refine (tovalves_any AV capv vs _ (HV.out.kept (below_box hB10) (Nat.le_refl _)) hlenv).mono ?_; rintro e w11 ⟨⟨gu, rfl, hgu, hrowu⟩, hb11⟩; refine Hid.out ?_) | fail)
    have Zu_11 := Lib.hid hrowu
    have hlu := hrowu.lt
    clear hrowu
    have hz11 := hb11.size
    have hB11 := on_call hB10 hb11
    have S0_11 := Lib.hid (S0_10.out.low hb11 (by omega))
    have S1_11 := Lib.hid (S1_10.out.low hb11 (by omega))
    have Xx_11 := Lib.hid (Xx_10.out.kept hb11 (by omega))
    have Zy_11 := Lib.hid (Zy_10.out.kept hb11 (by omega))
    have y0_11 := (hb11.cell (p := ⟨w5.heap.size, 0, none⟩) (by dsimp only; omega)).trans y0_10
    have y1_11 := (hb11.cell (p := ⟨w5.heap.size, 1, none⟩) (by dsimp only; omega)).trans y1_10
    have O0_11 := Lib.hid (O0_10.out.on hb11)
    have O1_11 := Lib.hid (O1_10.out.on hb11)
    clear b0 b1
    obtain ⟨b0, b1⟩ := box2 hB11
    clear hB10 S0_10 S1_10 Xx_10 Zy_10 y0_10 y1_10 O0_10 O1_10 hb11
    refine Lib.hid ?_
    go_wp2_with (first | (go_at_call 21; refine (eqvalves_same _ _ _ _ vs w11 Zy_11.out.at_ Zu_11.out.at_ hlenv).mono ?_; rintro e w12 ⟨rfl, hb12⟩; refine Hid.out ?_) | fail)
    have hz12 := hb12.size
    have hB12 := on_call hB11 hb12
    have S0_12 := Lib.hid (S0_11.out.low hb12 (by omega))
    have S1_12 := Lib.hid (S1_11.out.low hb12 (by omega))
    have Xx_12 := Lib.hid (Xx_11.out.kept hb12 (by omega))
    have Zy_12 := Lib.hid (Zy_11.out.kept hb12 (by omega))
    have y0_12 := (hb12.cell (p := ⟨w5.heap.size, 0, none⟩) (by dsimp only; omega)).trans y0_11
    have y1_12 := (hb12.cell (p := ⟨w5.heap.size, 1, none⟩) (by dsimp only; omega)).trans y1_11
    have O0_12 := Lib.hid (O0_11.out.on hb12)
    have O1_12 := Lib.hid (O1_11.out.on hb12)
    clear b0 b1
    obtain ⟨b0, b1⟩ := box2 hB12
    clear hB11 S0_11 S1_11 Xx_11 Zy_11 y0_11 y1_11 O0_11 O1_11 hb12
    refine Lib.hid ?_
    go_wp2_with (first | (go_at_call 25; refine (marknetk_any n gx 1 ps w12 Xx_12.out hlen (by omega)).mono ?_; rintro e w13 ⟨rfl, hg13⟩; refine Hid.out ?_) | fail)
    have hz13 := hg13.size
    have hB13 := hB12.grown hg13 (by omega) (fun k hk => by simp at hk; omega)
    have S0_13 := Lib.hid (S0_12.out.far hg13 (by omega))
    have S1_13 := Lib.hid (S1_12.out.far hg13 (by omega))
    have Zy_13 := Lib.hid (Zy_12.out.far hg13 (by omega))
    have O0_13 := Lib.hid (O0_12.out.far hg13 (by omega))
    have O1_13 := Lib.hid (O1_12.out.far hg13 (by omega))
    clear b0 b1
    obtain ⟨b0, b1⟩ := box2 hB13
    clear hB12 S0_12 S1_12 Zy_12 O0_12 O1_12 hg13
    refine Lib.hid ?_
    go_wp2_with (first | (go_at_call 26; refine (markvrow_i gy _ vs w13 Zy_13.out hlenv (by omega) (by omega)).mono ?_; rintro e w14 ⟨rfl, hg14⟩; refine Hid.out ?_) | fail)
    have hz14 := hg14.size
    have hB14 := hB13.grown hg14 (by omega) (fun k hk => by simp at hk; omega)
    have S0_14 := Lib.hid (S0_13.out.far hg14 (by omega))
    have S1_14 := Lib.hid (S1_13.out.far hg14 (by omega))
    have O0_14 := Lib.hid (O0_13.out.far hg14 (by omega))
    have O1_14 := Lib.hid (O1_13.out.far hg14 (by omega))
    clear b0 b1
    obtain ⟨b0, b1⟩ := box2 hB14
    clear hB13 S0_13 S1_13 O0_13 O1_13 hg14
    refine Lib.hid ?_
    go_wp2_with (first | (go_at_call 24; refine (eqints_same _ _ _ _ L0 w14 O0_14.out.iat S0_14.out (by omega)).mono ?_; rintro e w15 ⟨rfl, hb15⟩; refine Hid.out ?_) | fail)
    have hz15 := hb15.size
    have hB15 := on_call hB14 hb15
    have S0_15 := Lib.hid (S0_14.out.low hb15 (by omega))
    have S1_15 := Lib.hid (S1_14.out.low hb15 (by omega))
    have O0_15 := Lib.hid (O0_14.out.on hb15)
    have O1_15 := Lib.hid (O1_14.out.on hb15)
    clear b0 b1
    obtain ⟨b0, b1⟩ := box2 hB15
    clear hB14 S0_14 S1_14 O0_14 O1_14 hb15
    refine Lib.hid ?_
    go_wp2_with (first | (go_at_call 24; refine (eqints_same _ _ _ _ L1 w15 O1_15.out.iat S1_15.out (by omega)).mono ?_; rintro e w16 ⟨rfl, hb16⟩; refine Hid.out ?_) | fail)
    have hz16 := hb16.size
    have hB16 := on_call hB15 hb16
    have S0_16 := Lib.hid (S0_15.out.low hb16 (by omega))
    have S1_16 := Lib.hid (S1_15.out.low hb16 (by omega))
    have O0_16 := Lib.hid (O0_15.out.on hb16)
    have O1_16 := Lib.hid (O1_15.out.on hb16)
    clear b0 b1
    obtain ⟨b0, b1⟩ := box2 hB16
    clear hB15 S0_15 S1_15 O0_15 O1_15 hb16
    refine Lib.hid ?_
    go_wp2_with (first | (go_at_call 27; refine (markints_i _ gI0 cI0 (1) _ L0 w16 O0_16.out (by omega) (by omega) (by omega)).mono ?_; rintro e w17 ⟨rfl, ho17, hg17⟩; refine Hid.out ?_) | fail)
    have SM0_17 := Lib.hid ho17.iat_marks
    clear ho17
    have hz17 := hg17.size
    have hB17 := hB16.grown hg17 (by omega) (fun k hk => by simp at hk; omega)
    have S0_17 := Lib.hid (S0_16.out.far hg17 (by omega))
    have S1_17 := Lib.hid (S1_16.out.far hg17 (by omega))
    have O1_17 := Lib.hid (O1_16.out.far hg17 (by omega))
    clear b0 b1
    obtain ⟨b0, b1⟩ := box2 hB17
    clear hB16 S0_16 S1_16 O1_16 hg17
    refine Lib.hid ?_
    go_wp2_with (first | (go_at_call 27; refine (markints_i _ gI1 cI1 (1 + L0.length) _ L1 w17 O1_17.out (by omega) (by omega) (by omega)).mono ?_; rintro e w18 ⟨rfl, ho18, hg18⟩; refine Hid.out ?_) | fail)
    have SM1_18 := Lib.hid ho18.iat_marks
    clear ho18
    have hz18 := hg18.size
    have hB18 := hB17.grown hg18 (by omega) (fun k hk => by simp at hk; omega)
    have S0_18 := Lib.hid (S0_17.out.far hg18 (by omega))
    have S1_18 := Lib.hid (S1_17.out.far hg18 (by omega))
    have SM0_18 := Lib.hid (SM0_17.out.far hg18 (by omega))
    clear b0 b1
    obtain ⟨b0, b1⟩ := box2 hB18
    clear hB17 S0_17 S1_17 SM0_17 hg18
    refine Lib.hid ?_
    go_wp2_with (first | (go_at_call 28; refine (heldints_i _ _ (1) L0.length _ w18 SM0_18.out (by omega) (by omega) (by omega)).mono ?_; rintro e w19 ⟨rfl, hb19⟩; refine Hid.out ?_) | fail)
    have hz19 := hb19.size
    have hB19 := on_call hB18 hb19
    have S0_19 := Lib.hid (S0_18.out.low hb19 (by omega))
    have S1_19 := Lib.hid (S1_18.out.low hb19 (by omega))
    have SM0_19 := Lib.hid (SM0_18.out.low hb19 (by omega))
    have SM1_19 := Lib.hid (SM1_18.out.low hb19 (by omega))
    clear b0 b1
    obtain ⟨b0, b1⟩ := box2 hB19
    clear hB18 S0_18 S1_18 SM0_18 SM1_18 hb19
    refine Lib.hid ?_
    go_wp2_with (first | (go_at_call 28; refine (heldints_i _ _ (1 + L0.length) L1.length _ w19 SM1_19.out (by omega) (by omega) (by omega)).mono ?_; rintro e w20 ⟨rfl, hb20⟩; refine Hid.out ?_) | fail)
    have hz20 := hb20.size
    have hB20 := on_call hB19 hb20
    have S0_20 := Lib.hid (S0_19.out.low hb20 (by omega))
    have S1_20 := Lib.hid (S1_19.out.low hb20 (by omega))
    have SM0_20 := Lib.hid (SM0_19.out.low hb20 (by omega))
    have SM1_20 := Lib.hid (SM1_19.out.low hb20 (by omega))
    clear b0 b1
    obtain ⟨b0, b1⟩ := box2 hB20
    clear hB19 S0_19 S1_19 SM0_19 SM1_19 hb20
    refine Lib.hid ?_
    go_wp2_with (first | (go_at_call 17; refine (tonet_any n A cap ps _ (HA.out.kept (below_box hB20) (Nat.le_refl _)) hlen).mono ?_; rintro e w21 ⟨⟨gc, rfl, hgc, hrowc⟩, hb21⟩; refine Hid.out ?_) | fail)
    have Xc_21 := Lib.hid hrowc
    have hlc := hrowc.lt
    clear hrowc
    have hz21 := hb21.size
    have hB21 := on_call hB20 hb21
    have S0_21 := Lib.hid (S0_20.out.low hb21 (by omega))
    have S1_21 := Lib.hid (S1_20.out.low hb21 (by omega))
    have SM0_21 := Lib.hid (SM0_20.out.low hb21 (by omega))
    have SM1_21 := Lib.hid (SM1_20.out.low hb21 (by omega))
    clear b0 b1
    obtain ⟨b0, b1⟩ := box2 hB21
    clear hB20 S0_20 S1_20 SM0_20 SM1_20 hb21
    refine Lib.hid ?_
    go_wp2_with (first | (go_at_call 18; refine (tovalves_any AV capv vs _ (HV.out.kept (below_box hB21) (Nat.le_refl _)) hlenv).mono ?_; rintro e w22 ⟨⟨gd, rfl, hgd, hrowd⟩, hb22⟩; refine Hid.out ?_) | fail)
    have Zd_22 := Lib.hid hrowd
    have hld := hrowd.lt
    clear hrowd
    have hz22 := hb22.size
    have hB22 := on_call hB21 hb22
    have S0_22 := Lib.hid (S0_21.out.low hb22 (by omega))
    have S1_22 := Lib.hid (S1_21.out.low hb22 (by omega))
    have SM0_22 := Lib.hid (SM0_21.out.low hb22 (by omega))
    have SM1_22 := Lib.hid (SM1_21.out.low hb22 (by omega))
    have Xc_22 := Lib.hid (Xc_21.out.kept hb22 (by omega))
    clear b0 b1
    obtain ⟨b0, b1⟩ := box2 hB22
    clear hB21 S0_21 S1_21 SM0_21 SM1_21 Xc_21 hb22
    refine Lib.hid ?_
    go_wp2_with (first | (go_at_call 23; refine (HI.out _ _ _ _ _ hlen Xc_22.out.at_ Zd_22.out.at_ (Nat.le_refl _) hcm).mono ?_; rintro e w23 ⟨gJ0, cJ0, gJ1, cJ1, rfl, hgJ0, hgJ1, hgneJ, hO0, hO1, hb23⟩; refine Hid.out ?_) | fail)
    have O0_23 := Lib.hid hO0
    clear hO0
    have O1_23 := Lib.hid hO1
    clear hO1
    have hz23 := hb23.size
    have hB23 := on_call hB22 hb23
    have S0_23 := Lib.hid (S0_22.out.low hb23 (by omega))
    have S1_23 := Lib.hid (S1_22.out.low hb23 (by omega))
    have SM0_23 := Lib.hid (SM0_22.out.low hb23 (by omega))
    have SM1_23 := Lib.hid (SM1_22.out.low hb23 (by omega))
    clear b0 b1
    obtain ⟨b0, b1⟩ := box2 hB23
    clear hB22 S0_22 S1_22 SM0_22 SM1_22 hb23
    refine Lib.hid ?_
    go_wp2_with (first | (go_at_call 24; refine (eqints_same _ _ _ _ L0 w23 O0_23.out.iat S0_23.out (by omega)).mono ?_; rintro e w24 ⟨rfl, hb24⟩; refine Hid.out ?_) | fail)
    have hz24 := hb24.size
    have hB24 := on_call hB23 hb24
    have S0_24 := Lib.hid (S0_23.out.low hb24 (by omega))
    have S1_24 := Lib.hid (S1_23.out.low hb24 (by omega))
    have SM0_24 := Lib.hid (SM0_23.out.low hb24 (by omega))
    have SM1_24 := Lib.hid (SM1_23.out.low hb24 (by omega))
    have O0_24 := Lib.hid (O0_23.out.on hb24)
    have O1_24 := Lib.hid (O1_23.out.on hb24)
    clear b0 b1
    obtain ⟨b0, b1⟩ := box2 hB24
    clear hB23 S0_23 S1_23 SM0_23 SM1_23 O0_23 O1_23 hb24
    refine Lib.hid ?_
    go_wp2_with (first | (go_at_call 24; refine (eqints_same _ _ _ _ L1 w24 O1_24.out.iat S1_24.out (by omega)).mono ?_; rintro e w25 ⟨rfl, hb25⟩; refine Hid.out ?_) | fail)
    have hz25 := hb25.size
    have hB25 := on_call hB24 hb25
    have S0_25 := Lib.hid (S0_24.out.low hb25 (by omega))
    have S1_25 := Lib.hid (S1_24.out.low hb25 (by omega))
    have SM0_25 := Lib.hid (SM0_24.out.low hb25 (by omega))
    have SM1_25 := Lib.hid (SM1_24.out.low hb25 (by omega))
    have O0_25 := Lib.hid (O0_24.out.on hb25)
    have O1_25 := Lib.hid (O1_24.out.on hb25)
    clear b0 b1
    obtain ⟨b0, b1⟩ := box2 hB25
    clear hB24 S0_24 S1_24 SM0_24 SM1_24 O0_24 O1_24 hb25
    refine Lib.hid ?_
    go_wp2_with (first | (go_at_call 28; refine (heldints_i _ _ (1) L0.length _ w25 SM0_25.out (by omega) (by omega) (by omega)).mono ?_; rintro e w26 ⟨rfl, hb26⟩; refine Hid.out ?_) | fail)
    have hz26 := hb26.size
    have hB26 := on_call hB25 hb26
    have S0_26 := Lib.hid (S0_25.out.low hb26 (by omega))
    have S1_26 := Lib.hid (S1_25.out.low hb26 (by omega))
    have SM0_26 := Lib.hid (SM0_25.out.low hb26 (by omega))
    have SM1_26 := Lib.hid (SM1_25.out.low hb26 (by omega))
    have O0_26 := Lib.hid (O0_25.out.on hb26)
    have O1_26 := Lib.hid (O1_25.out.on hb26)
    clear b0 b1
    obtain ⟨b0, b1⟩ := box2 hB26
    clear hB25 S0_25 S1_25 SM0_25 SM1_25 O0_25 O1_25 hb26
    refine Lib.hid ?_
    go_wp2_with (first | (go_at_call 28; refine (heldints_i _ _ (1 + L0.length) L1.length _ w26 SM1_26.out (by omega) (by omega) (by omega)).mono ?_; rintro e w27 ⟨rfl, hb27⟩; refine Hid.out ?_) | fail)
    have hz27 := hb27.size
    have hB27 := on_call hB26 hb27
    have S0_27 := Lib.hid (S0_26.out.low hb27 (by omega))
    have S1_27 := Lib.hid (S1_26.out.low hb27 (by omega))
    have SM0_27 := Lib.hid (SM0_26.out.low hb27 (by omega))
    have SM1_27 := Lib.hid (SM1_26.out.low hb27 (by omega))
    have O0_27 := Lib.hid (O0_26.out.on hb27)
    have O1_27 := Lib.hid (O1_26.out.on hb27)
    clear b0 b1
    obtain ⟨b0, b1⟩ := box2 hB27
    clear hB26 S0_26 S1_26 SM0_26 SM1_26 O0_26 O1_26 hb27
    refine Lib.hid ?_
    go_wp2_with fail
    go_ret
    exact ⟨rfl, below_box hB27⟩
end Go.Proofs.Ytmkpgkhfbhdhgaa.S2
