/- The law FnExactSegmentPlan returns true for every network, valves, source and pipe and leaves its arguments as they were. No conditions. -/
import Derived.Test.YtbljmibaemgfeaaKPa
import Derived.Deep.DeepCutAuto
import Derived.Test.YtbljmibaemgfeaaKPg
import Derived.Test.YtbljmibaemgfeaaRows
import Derived.Test.YtbljmibaemgfeaaOpenOne
import Derived.Test.YtbljmibaemgfeaaValOpen
import Derived.WalkKit
import Derived.ProofKit
import Derived.OpenShut
import Derived.ChangeOld
import Derived.Below
namespace Go.Proofs.Ytbljmibaemgfeaa.S2
open Go.RowKit P2 P4

set_option maxHeartbeats 16000000 in
set_option maxRecDepth 100000 in
theorem walkSegmentPlan (n : Int) (A : Option Addr) (cap : Nat) (ps : List Pp) (AV : Option Addr) (capv : Nat) (vs : List Vv) (x2 : Int) (x3 : Int) (w : World) (h : PAt w A ps) (hm : ps.length ≤ maxLen) (hv : VAt w AV vs) (hmv : vs.length ≤ maxLen) (L0 : List Int) (ok : Bool) (hL0 : L0.length ≤ 1000)
    (hs : ∀ (A : Option Addr) (cap : Nat) (AV : Option Addr) (capv : Nat) (w : World), ps.length ≤ 1048576 → PAt w A ps → VAt w AV vs → vs.length ≤ capv → capv ≤ maxLen → Calls Try.prog 35 #[nv n A ps.length cap, .slice AV vs.length capv, .int .i64 x2, .int .i64 x3] w (GivesA w L0 ok))
    (hi : ∀ (A : Option Addr) (cap : Nat) (AV : Option Addr) (capv : Nat) (w : World), ps.length ≤ 1048576 → PAt w A ps → VAt w AV vs → vs.length ≤ capv → capv ≤ maxLen → Calls Try.prog 36 #[nv n A ps.length cap, .slice AV vs.length capv, .int .i64 x2, .int .i64 x3] w (GivesI w L0 ok)) :
    Calls Try.prog 7 #[nv n A ps.length cap, .slice AV vs.length capv, .int .i64 x2, .int .i64 x3] w fun e w' => e = .returned (.bool true) ∧ Below w.heap.size w w' := by
  have HA := Lib.hid h
  have HM := Lib.hid hm
  have HS := Lib.hid hs
  have HI := Lib.hid hi
  have HV := Lib.hid hv
  have HMV := Lib.hid hmv
  clear h hm hs hi hv hmv
  go_enter Try.func7, Try.ntmps7
  go_wp2_with (go_at_call 15; refine (sznet_le n A ps.length cap _ HM.out).mono ?_; rintro e w1 ⟨⟨r, rfl, hr⟩, hb1⟩; refine Hid.out ?_)
  have hB1 : Below (w.heap.size + 1) (w.alloc (.cells #[.int .i64 n, .slice A ps.length cap] 24)) w1 := by simpa using hb1
  clear hb1
  obtain ⟨b0, b1⟩ := box2 hB1
  by_cases hr0 : r < 0
  · refine Lib.hid ?_
    go_wp2
    go_ret
    exact ⟨rfl, below_box hB1⟩
  have hlen : ps.length ≤ 1048576 := by rcases hr with h | h; exact absurd h hr0; exact h.2.2
  have hr9 : r ≤ 1048576 := by rcases hr with h | h; exact absurd h hr0; exact h.2.1
  clear hr
  refine Lib.hid ?_
  go_wp2_with (go_at_call 16; refine (szvalves_any AV vs.length capv r (by omega) hr9 _ HMV.out).mono ?_; rintro e w1x ⟨⟨r2, rfl, hr2⟩, hw⟩; replace hw := hw.symm; subst hw; refine Hid.out ?_)
  by_cases hr20 : r2 < 0
  · refine Lib.hid ?_
    go_wp2
    go_ret
    exact ⟨rfl, below_box hB1⟩
  have hlenv : vs.length ≤ 1048576 := by rcases hr2 with h | h; exact absurd h hr20; exact h.2.2
  clear hr2 hr9
  have hcm : vs.length ≤ maxLen := by unfold maxLen; omega
  have hz1 : w.heap.size < w1.heap.size := box_lt hB1
  refine Lib.hid ?_
  go_wp2_with (first | (go_at_call 18; refine (tonet_any n A cap ps _ (HA.out.kept (below_box hB1) (Nat.le_refl _)) hlen).mono ?_; rintro e w2 ⟨⟨ga, rfl, hga, hrowa⟩, hb2⟩; refine Hid.out ?_) | fail)
  have Xa_2 := Lib.hid hrowa
  have hla := hrowa.lt
  clear hrowa
  have hz2 := hb2.size
  have hB2 := on_call hB1 hb2
  clear b0 b1
  obtain ⟨b0, b1⟩ := box2 hB2
  clear hB1 hb2
  refine Lib.hid ?_
  go_wp2_with (first | (go_at_call 19; refine (tovalves_any AV capv vs _ (HV.out.kept (below_box hB2) (Nat.le_refl _)) hlenv).mono ?_; rintro e w3 ⟨⟨gb, rfl, hgb, hrowb⟩, hb3⟩; refine Hid.out ?_) | fail)
  have Zb_3 := Lib.hid hrowb
  have hlb := hrowb.lt
  clear hrowb
  have hz3 := hb3.size
  have hB3 := on_call hB2 hb3
  have Xa_3 := Lib.hid (Xa_2.out.kept hb3 (by omega))
  clear b0 b1
  obtain ⟨b0, b1⟩ := box2 hB3
  clear hB2 Xa_2 hb3
  refine Lib.hid ?_
  go_wp2_with (first | (go_at_call 35; refine (HS.out _ _ _ _ _ hlen Xa_3.out.at_ Zb_3.out.at_ (Nat.le_refl _) hcm).mono ?_; rintro e w4 ⟨gS0, oS0, cS0, rfl, hgS0, hS0, hb4, hlS0⟩; refine Hid.out ?_) | fail)
  have S0_4 := Lib.hid hS0
  clear hS0
  clear Xa_3 Zb_3
  have hz4 := hb4.size
  have hB4 := on_call hB3 hb4
  clear b0 b1
  obtain ⟨b0, b1⟩ := box2 hB4
  clear hB3 hb4
  refine Lib.hid ?_
  go_wp2_with (first | (go_at_call 18; refine (tonet_any n A cap ps _ (HA.out.kept (below_box hB4) (Nat.le_refl _)) hlen).mono ?_; rintro e w5 ⟨⟨gx, rfl, hgx, hrowx⟩, hb5⟩; refine Hid.out ?_) | fail)
  have Xx_5 := Lib.hid hrowx
  have hlx := hrowx.lt
  clear hrowx
  have hz5 := hb5.size
  have hB5 := on_call hB4 hb5
  have S0_5 := Lib.hid (S0_4.out.low hb5 (by omega))
  clear b0 b1
  obtain ⟨b0, b1⟩ := box2 hB5
  clear hB4 S0_4 hb5
  have HBX := Lib.hid (show Below w5.heap.size w5 (w5.alloc (.cells #[.int .i64 n, .slice (some ⟨gx, 0, none⟩) ps.length ps.length] 32)) from (Below.refl _ _).alloc (Nat.le_refl _) _)
  have HBX2 := Lib.hid (on_call hB5 HBX.out)
  refine Lib.hid ?_
  go_wp2_with (first | (go_at_call 19; refine (tovalves_any AV capv vs _ (HV.out.kept (below_box HBX2.out) (Nat.le_refl _)) hlenv).mono ?_; rintro e w6 ⟨⟨gy, rfl, hgy, hrowy⟩, hbq⟩; refine Hid.out ?_) | fail)
  obtain ⟨y0_6, y1_6⟩ := box2 (w := w5) (by simpa using hbq)
  have hb6 := HBX.out.trans (hbq.mono (by simp))
  have Zy_6 := Lib.hid hrowy
  have hly := hrowy.lt
  have hzq := hbq.size
  simp at hzq hgy
  clear hrowy hbq HBX HBX2
  have hz6 := hb6.size
  have hB6 := on_call hB5 hb6
  have S0_6 := Lib.hid (S0_5.out.low hb6 (by omega))
  have Xx_6 := Lib.hid (Xx_5.out.kept hb6 (by omega))
  clear b0 b1
  obtain ⟨b0, b1⟩ := box2 hB6
  clear hB5 S0_5 Xx_5 hb6
  refine Lib.hid ?_
  go_wp2_with (first | (go_at_call 36; refine (HI.out _ _ _ _ _ hlen Xx_6.out.at_ Zy_6.out.at_ (Nat.le_refl _) hcm).mono ?_; rintro e w7 ⟨gI0, cI0, rfl, hgI0, hO0, hb7⟩; refine Hid.out ?_) | fail)
  have O0_7 := Lib.hid hO0
  have hlI0 := iown_lt' hO0
  clear hO0
  have hz7 := hb7.size
  have hB7 := on_call hB6 hb7
  have S0_7 := Lib.hid (S0_6.out.low hb7 (by omega))
  have Xx_7 := Lib.hid (Xx_6.out.kept hb7 (by omega))
  have Zy_7 := Lib.hid (Zy_6.out.kept hb7 (by omega))
  have y0_7 := (hb7.cell (p := ⟨w5.heap.size, 0, none⟩) (by dsimp only; omega)).trans y0_6
  have y1_7 := (hb7.cell (p := ⟨w5.heap.size, 1, none⟩) (by dsimp only; omega)).trans y1_6
  clear b0 b1
  obtain ⟨b0, b1⟩ := box2 hB7
  clear hB6 S0_6 Xx_6 Zy_6 y0_6 y1_6 hb7
  refine Lib.hid ?_
  go_wp2_with (first | (go_at_call 24; refine (eqints_same _ _ _ _ L0 w7 O0_7.out.iat S0_7.out (by omega)).mono ?_; rintro e w8 ⟨rfl, hb8⟩; refine Hid.out ?_) | fail)
  have hz8 := hb8.size
  have hB8 := on_call hB7 hb8
  have S0_8 := Lib.hid (S0_7.out.low hb8 (by omega))
  have Xx_8 := Lib.hid (Xx_7.out.kept hb8 (by omega))
  have Zy_8 := Lib.hid (Zy_7.out.kept hb8 (by omega))
  have y0_8 := (hb8.cell (p := ⟨w5.heap.size, 0, none⟩) (by dsimp only; omega)).trans y0_7
  have y1_8 := (hb8.cell (p := ⟨w5.heap.size, 1, none⟩) (by dsimp only; omega)).trans y1_7
  have O0_8 := Lib.hid (O0_7.out.on hb8)
  clear b0 b1
  obtain ⟨b0, b1⟩ := box2 hB8
  clear hB7 S0_7 Xx_7 Zy_7 y0_7 y1_7 O0_7 hb8
  refine Lib.hid ?_
  go_upto_region 14 with (fail)
  go_cut [66] (fun st wx => st = .bool false ∧ Hid (Below w8.heap.size w8 wx))
  case first =>
    have hA7 := Lib.hid (HA.out.kept (below_box hB8) (Nat.le_refl _))
    have hat7 := Lib.hid Xx_8.out.at_
    have hx4 : w5.heap.size < w8.heap.size := by omega
    go_region_with (first
      | (go_at_call 18; refine (tonet_any n A cap ps w8.drew hA7.out hlen).mono ?_; rintro e wqa ⟨⟨gqa, rfl, hgqa, hrowqa⟩, hbqa⟩; have HBqa := Lib.hid hbqa; have hatqa := Lib.hid hrowqa.at_; have hatqb := Lib.hid (PAt.kept (w := w8.drew) hat7.out hbqa (Nat.le_refl _)); have z0 := (hbqa.cell (p := ⟨w5.heap.size, 0, none⟩) hx4).trans y0_8; have z1 := (hbqa.cell (p := ⟨w5.heap.size, 1, none⟩) hx4).trans y1_8; clear hgqa hrowqa hbqa)
      | (go_at_call 22; refine (eqnet_same n _ _ _ _ ps wqa hatqb.out hatqa.out hlen).mono ?_; rintro e wqb ⟨rfl, hbqb⟩))
    all_goals
      go_wp2_with fail
      go_meet
      exact ⟨rfl, Lib.hid ((Below.refl w8.heap.size w8).drew.trans (HBqa.out.trans (hbqb.mono HBqa.out.size)))⟩
  case rest =>
    obtain ⟨rfl, hbc⟩ := hcut
    obtain ⟨w9, hwb⟩ : ∃ w9, w9 = wc := ⟨_, rfl⟩
    subst hwb
    have hb9 := hbc.out
    clear hbc
    have hz9 := hb9.size
    have hB9 := on_call hB8 hb9
    have S0_9 := Lib.hid (S0_8.out.low hb9 (by omega))
    have Xx_9 := Lib.hid (Xx_8.out.kept hb9 (by omega))
    have Zy_9 := Lib.hid (Zy_8.out.kept hb9 (by omega))
    have y0_9 := (hb9.cell (p := ⟨w5.heap.size, 0, none⟩) (by dsimp only; omega)).trans y0_8
    have y1_9 := (hb9.cell (p := ⟨w5.heap.size, 1, none⟩) (by dsimp only; omega)).trans y1_8
    have O0_9 := Lib.hid (O0_8.out.on hb9)
    clear b0 b1
    obtain ⟨b0, b1⟩ := box2 hB9
    clear hB8 S0_8 Xx_8 Zy_8 y0_8 y1_8 O0_8 hb9
    refine Lib.hid ?_
    go_wp2_with (first | (go_at_call 19; refine (tovalves_any AV capv vs _ (HV.out.kept (below_box hB9) (Nat.le_refl _)) hlenv).mono ?_; rintro e w10 ⟨⟨gu, rfl, hgu, hrowu⟩, hb10⟩; refine Hid.out ?_) | fail)
    have Zu_10 := Lib.hid hrowu
    have hlu := hrowu.lt
    clear hrowu
    have hz10 := hb10.size
    have hB10 := on_call hB9 hb10
    have S0_10 := Lib.hid (S0_9.out.low hb10 (by omega))
    have Xx_10 := Lib.hid (Xx_9.out.kept hb10 (by omega))
    have Zy_10 := Lib.hid (Zy_9.out.kept hb10 (by omega))
    have y0_10 := (hb10.cell (p := ⟨w5.heap.size, 0, none⟩) (by dsimp only; omega)).trans y0_9
    have y1_10 := (hb10.cell (p := ⟨w5.heap.size, 1, none⟩) (by dsimp only; omega)).trans y1_9
    have O0_10 := Lib.hid (O0_9.out.on hb10)
    clear b0 b1
    obtain ⟨b0, b1⟩ := box2 hB10
    clear hB9 S0_9 Xx_9 Zy_9 y0_9 y1_9 O0_9 hb10
    refine Lib.hid ?_
    go_wp2_with (first | (go_at_call 23; refine (eqvalves_same _ _ _ _ vs w10 Zy_10.out.at_ Zu_10.out.at_ hlenv).mono ?_; rintro e w11 ⟨rfl, hb11⟩; refine Hid.out ?_) | fail)
    have hz11 := hb11.size
    have hB11 := on_call hB10 hb11
    have S0_11 := Lib.hid (S0_10.out.low hb11 (by omega))
    have Xx_11 := Lib.hid (Xx_10.out.kept hb11 (by omega))
    have Zy_11 := Lib.hid (Zy_10.out.kept hb11 (by omega))
    have y0_11 := (hb11.cell (p := ⟨w5.heap.size, 0, none⟩) (by dsimp only; omega)).trans y0_10
    have y1_11 := (hb11.cell (p := ⟨w5.heap.size, 1, none⟩) (by dsimp only; omega)).trans y1_10
    have O0_11 := Lib.hid (O0_10.out.on hb11)
    clear b0 b1
    obtain ⟨b0, b1⟩ := box2 hB11
    clear hB10 S0_10 Xx_10 Zy_10 y0_10 y1_10 O0_10 hb11
    refine Lib.hid ?_
    go_wp2_with (first | (go_at_call 27; refine (marknetk_any n gx 1 ps w11 Xx_11.out hlen (by omega)).mono ?_; rintro e w12 ⟨rfl, hg12⟩; refine Hid.out ?_) | fail)
    have hz12 := hg12.size
    have hB12 := hB11.grown hg12 (by omega) (fun k hk => by simp at hk; omega)
    have S0_12 := Lib.hid (S0_11.out.far hg12 (by omega))
    have Zy_12 := Lib.hid (Zy_11.out.far hg12 (by omega))
    have O0_12 := Lib.hid (O0_11.out.far hg12 (by omega))
    clear b0 b1
    obtain ⟨b0, b1⟩ := box2 hB12
    clear hB11 S0_11 Zy_11 O0_11 hg12
    refine Lib.hid ?_
    go_wp2_with (first | (go_at_call 28; refine (markvrow_i gy _ vs w12 Zy_12.out hlenv (by omega) (by omega)).mono ?_; rintro e w13 ⟨rfl, hg13⟩; refine Hid.out ?_) | fail)
    have hz13 := hg13.size
    have hB13 := hB12.grown hg13 (by omega) (fun k hk => by simp at hk; omega)
    have S0_13 := Lib.hid (S0_12.out.far hg13 (by omega))
    have O0_13 := Lib.hid (O0_12.out.far hg13 (by omega))
    clear b0 b1
    obtain ⟨b0, b1⟩ := box2 hB13
    clear hB12 S0_12 O0_12 hg13
    refine Lib.hid ?_
    go_wp2_with (first | (go_at_call 24; refine (eqints_same _ _ _ _ L0 w13 O0_13.out.iat S0_13.out (by omega)).mono ?_; rintro e w14 ⟨rfl, hb14⟩; refine Hid.out ?_) | fail)
    have hz14 := hb14.size
    have hB14 := on_call hB13 hb14
    have S0_14 := Lib.hid (S0_13.out.low hb14 (by omega))
    have O0_14 := Lib.hid (O0_13.out.on hb14)
    clear b0 b1
    obtain ⟨b0, b1⟩ := box2 hB14
    clear hB13 S0_13 O0_13 hb14
    refine Lib.hid ?_
    go_wp2_with (first | (go_at_call 29; refine (markints_i _ gI0 cI0 (1) _ L0 w14 O0_14.out (by omega) (by omega) (by omega)).mono ?_; rintro e w15 ⟨rfl, ho15, hg15⟩; refine Hid.out ?_) | fail)
    have SM0_15 := Lib.hid ho15.iat_marks
    clear ho15
    have hz15 := hg15.size
    have hB15 := hB14.grown hg15 (by omega) (fun k hk => by simp at hk; omega)
    have S0_15 := Lib.hid (S0_14.out.far hg15 (by omega))
    clear b0 b1
    obtain ⟨b0, b1⟩ := box2 hB15
    clear hB14 S0_14 hg15
    refine Lib.hid ?_
    go_wp2_with (first | (go_at_call 30; refine (heldints_i _ _ (1) L0.length _ w15 SM0_15.out (by omega) (by omega) (by omega)).mono ?_; rintro e w16 ⟨rfl, hb16⟩; refine Hid.out ?_) | fail)
    have hz16 := hb16.size
    have hB16 := on_call hB15 hb16
    have S0_16 := Lib.hid (S0_15.out.low hb16 (by omega))
    have SM0_16 := Lib.hid (SM0_15.out.low hb16 (by omega))
    clear b0 b1
    obtain ⟨b0, b1⟩ := box2 hB16
    clear hB15 S0_15 SM0_15 hb16
    refine Lib.hid ?_
    go_wp2_with (first | (go_at_call 18; refine (tonet_any n A cap ps _ (HA.out.kept (below_box hB16) (Nat.le_refl _)) hlen).mono ?_; rintro e w17 ⟨⟨gc, rfl, hgc, hrowc⟩, hb17⟩; refine Hid.out ?_) | fail)
    have Xc_17 := Lib.hid hrowc
    have hlc := hrowc.lt
    clear hrowc
    have hz17 := hb17.size
    have hB17 := on_call hB16 hb17
    have S0_17 := Lib.hid (S0_16.out.low hb17 (by omega))
    have SM0_17 := Lib.hid (SM0_16.out.low hb17 (by omega))
    clear b0 b1
    obtain ⟨b0, b1⟩ := box2 hB17
    clear hB16 S0_16 SM0_16 hb17
    refine Lib.hid ?_
    go_wp2_with (first | (go_at_call 19; refine (tovalves_any AV capv vs _ (HV.out.kept (below_box hB17) (Nat.le_refl _)) hlenv).mono ?_; rintro e w18 ⟨⟨gd, rfl, hgd, hrowd⟩, hb18⟩; refine Hid.out ?_) | fail)
    have Zd_18 := Lib.hid hrowd
    have hld := hrowd.lt
    clear hrowd
    have hz18 := hb18.size
    have hB18 := on_call hB17 hb18
    have S0_18 := Lib.hid (S0_17.out.low hb18 (by omega))
    have SM0_18 := Lib.hid (SM0_17.out.low hb18 (by omega))
    have Xc_18 := Lib.hid (Xc_17.out.kept hb18 (by omega))
    clear b0 b1
    obtain ⟨b0, b1⟩ := box2 hB18
    clear hB17 S0_17 SM0_17 Xc_17 hb18
    refine Lib.hid ?_
    go_wp2_with (first | (go_at_call 36; refine (HI.out _ _ _ _ _ hlen Xc_18.out.at_ Zd_18.out.at_ (Nat.le_refl _) hcm).mono ?_; rintro e w19 ⟨gJ0, cJ0, rfl, hgJ0, hO0, hb19⟩; refine Hid.out ?_) | fail)
    have O0_19 := Lib.hid hO0
    clear hO0
    have hz19 := hb19.size
    have hB19 := on_call hB18 hb19
    have S0_19 := Lib.hid (S0_18.out.low hb19 (by omega))
    have SM0_19 := Lib.hid (SM0_18.out.low hb19 (by omega))
    clear b0 b1
    obtain ⟨b0, b1⟩ := box2 hB19
    clear hB18 S0_18 SM0_18 hb19
    refine Lib.hid ?_
    go_wp2_with (first | (go_at_call 24; refine (eqints_same _ _ _ _ L0 w19 O0_19.out.iat S0_19.out (by omega)).mono ?_; rintro e w20 ⟨rfl, hb20⟩; refine Hid.out ?_) | fail)
    have hz20 := hb20.size
    have hB20 := on_call hB19 hb20
    have S0_20 := Lib.hid (S0_19.out.low hb20 (by omega))
    have SM0_20 := Lib.hid (SM0_19.out.low hb20 (by omega))
    have O0_20 := Lib.hid (O0_19.out.on hb20)
    clear b0 b1
    obtain ⟨b0, b1⟩ := box2 hB20
    clear hB19 S0_19 SM0_19 O0_19 hb20
    refine Lib.hid ?_
    go_wp2_with (first | (go_at_call 30; refine (heldints_i _ _ (1) L0.length _ w20 SM0_20.out (by omega) (by omega) (by omega)).mono ?_; rintro e w21 ⟨rfl, hb21⟩; refine Hid.out ?_) | fail)
    have hz21 := hb21.size
    have hB21 := on_call hB20 hb21
    have S0_21 := Lib.hid (S0_20.out.low hb21 (by omega))
    have SM0_21 := Lib.hid (SM0_20.out.low hb21 (by omega))
    have O0_21 := Lib.hid (O0_20.out.on hb21)
    clear b0 b1
    obtain ⟨b0, b1⟩ := box2 hB21
    clear hB20 S0_20 SM0_20 O0_20 hb21
    refine Lib.hid ?_
    go_wp2_with fail
    go_ret
    exact ⟨rfl, below_box hB21⟩
end Go.Proofs.Ytbljmibaemgfeaa.S2

namespace Go.Proofs.Ytbljmibaemgfeaa.S2
open Go.RowKit P2 P4
theorem law_sgp (n : Int) (A : Option Addr) (cap : Nat) (ps : List Pp) (AV : Option Addr) (capv : Nat) (vs : List Vv) (X x : Int) (w : World) (h : PAt w A ps) (hm : ps.length ≤ maxLen) (hv : VAt w AV vs) (hmv : vs.length ≤ maxLen) :
    Calls Try.prog 7 #[nv n A ps.length cap, .slice AV vs.length capv, .int .i64 X, .int .i64 x] w fun e w' => e = .returned (.bool true) ∧ Below w.heap.size w w' := by
  have hsno : ∀ (hq : askB n ps vs X x = false) (A : Option Addr) (cap : Nat) (AV : Option Addr) (capv : Nat) (w : World), PAt w A ps → VAt w AV vs → Calls Try.prog 35 #[nv n A ps.length cap, .slice AV vs.length capv, .int .i64 X, .int .i64 x] w (GivesA w [] false) :=
    fun hq A cap AV capv w h hv => ssegp5_no n A cap ps AV capv vs X x w (fun w' hb => asked_v hq A cap AV capv w' (h.kept hb (Nat.le_refl _)) hm (hv.kept hb (Nat.le_refl _)) hmv)
  cases hg : goodV n ps vs with
  | false =>
    exact walkSegmentPlan n A cap ps AV capv vs X x w h hm hv hmv [] false (by simp)
      (fun A cap AV capv w _ h hv _ _ => hsno (askB_no (fun hh => by rw [hg] at hh; cases hh.1)) A cap AV capv w h hv)
      (fun A cap AV capv w _ h hv hc hcm => sgp_no n A cap ps AV capv vs X x w (fun w0 hb0 => around_no n A cap ps AV capv vs x w0 (fun w' hb => segp_no1 n A cap ps AV capv vs x w' (h.kept (hb0.trans (hb.mono hb0.size)) (Nat.le_refl _)) hm (hv.kept (hb0.trans (hb.mono hb0.size)) (Nat.le_refl _)) hmv hc hcm hg)))
  | true =>
    have hgd := goodV_of hg
    have ha := ascV_of hgd
    by_cases hx : ∃ i, At ps x i
    · obtain ⟨i, hi⟩ := hx
      cases hnx : nodeB n ps X with
      | false =>
        have hqq : askB n ps vs X x = false := askB_no (fun hh => by rw [hnx] at hh; cases hh.2.1)
        obtain ⟨N, rfl⟩ : ∃ N : Nat, n = (N : Int) := ⟨n.toNat, by have := hgd.1.1; omega⟩
        exact walkSegmentPlan N A cap ps AV capv vs X x w h hm hv hmv [] false (by simp)
          (fun A cap AV capv w _ h hv _ _ => hsno hqq A cap AV capv w h hv)
          (fun A cap AV capv w _ h hv hc hcm => by
            have h7 := sgp_yes N A cap ps AV capv vs X x w (coB ps vs (one (9 + i))) false hv hgd.2.1 ha
              (fun w0 hb0 => around_yes N A cap ps AV capv vs x _ w0 (h.kept hb0 (Nat.le_refl _)) (hv.kept hb0 (Nat.le_refl _)) hgd (fun w' hb => segp_yes N A cap ps AV capv vs x w' (h.kept (hb0.trans (hb.mono hb0.size)) (Nat.le_refl _)) hm (hv.kept (hb0.trans (hb.mono hb0.size)) (Nat.le_refl _)) hmv hc hcm hg i hi))
              (fun AC cc w0 hb0 hco => isplan_of es0 false N A cap ps AV capv vs X x AC cc _ w0 (fun w' hb => wplan_no1 N A cap ps AV capv vs X x AC cc _ w' (h.kept (hb0.trans (hb.mono hb0.size)) (Nat.le_refl _)) hm (hv.kept (hb0.trans (hb.mono hb0.size)) (Nat.le_refl _)) hmv hc hcm hqq))
            exact h7)
      | true =>
        have hqq : askB n ps vs X x = true := askB_mk ⟨hg, hnx, i, hi⟩
        obtain ⟨N, Y, rfl, rfl, hn1, hn2, hn3⟩ := node_of_good hnx
        have hN8 := hgd.1.2.1
        have hpl := seg_pl (ps := ps) (coB ps vs (one (9 + i))) ha
        have hal : (arndL ps vs (coB ps vs (one (9 + i)))).length ≤ 10 := Nat.le_trans (sel_len _ _) hgd.2.1
        have hsl : ((arndL ps vs (coB ps vs (one (9 + i)))).filter fun y => hasB (openL vs) y).length ≤ 10 := Nat.le_trans (List.length_filter_le _ _) hal
        have hlen5 : (if cutB ps vs Y i ((arndL ps vs (coB ps vs (one (9 + i)))).filter fun y => hasB (openL vs) y) = true then ((arndL ps vs (coB ps vs (one (9 + i)))).filter fun y => hasB (openL vs) y) else []).length ≤ 1000 := by
          split
          · omega
          · simp
        have hse := seg_same (ps := ps) (coB ps vs (one (9 + i))) ha
        exact walkSegmentPlan N A cap ps AV capv vs Y x w h hm hv hmv (if cutB ps vs Y i ((arndL ps vs (coB ps vs (one (9 + i)))).filter fun y => hasB (openL vs) y) = true then ((arndL ps vs (coB ps vs (one (9 + i)))).filter fun y => hasB (openL vs) y) else []) (cutB ps vs Y i ((arndL ps vs (coB ps vs (one (9 + i)))).filter fun y => hasB (openL vs) y)) hlen5
          (fun A cap AV capv w _ h hv _ _ => ssegp5_yes N Y i A cap ps AV capv vs x w (fun w' hb => asked_v hqq A cap AV capv w' (h.kept hb (Nat.le_refl _)) hm (hv.kept hb (Nat.le_refl _)) hmv) h hv hg (by omega) (by omega) hi)
          (fun A cap AV capv w _ h hv hc hcm => by
            have h7 := sgp_yes N A cap ps AV capv vs Y x w (coB ps vs (one (9 + i))) (cutB ps vs Y i ((arndL ps vs (coB ps vs (one (9 + i)))).filter fun y => hasB (openL vs) y)) hv hgd.2.1 ha
              (fun w0 hb0 => around_yes N A cap ps AV capv vs x _ w0 (h.kept hb0 (Nat.le_refl _)) (hv.kept hb0 (Nat.le_refl _)) hgd (fun w' hb => segp_yes N A cap ps AV capv vs x w' (h.kept (hb0.trans (hb.mono hb0.size)) (Nat.le_refl _)) hm (hv.kept (hb0.trans (hb.mono hb0.size)) (Nat.le_refl _)) hmv hc hcm hg i hi))
              (fun AC cc w0 hb0 hco => by
                rw [hse] at hco ⊢
                exact isplan_of (wetP ps vs Y ((arndL ps vs (coB ps vs (one (9 + i)))).filter fun y => hasB (openL vs) y)) _ N A cap ps AV capv vs Y x AC cc _ w0 (fun w' hb => wplan_yes N Y i A cap ps AV capv vs x AC cc _ w' (h.kept (hb0.trans (hb.mono hb0.size)) (Nat.le_refl _)) hm (hv.kept (hb0.trans (hb.mono hb0.size)) (Nat.le_refl _)) hmv hc hcm (hco.kept hb (Nat.le_refl _)) (by omega) hqq hi (plB_mk hpl)))
            rw [hse] at h7
            exact h7)
    · have hno : ∀ i, i < ps.length → (pAt ps i).id ≠ x := fun i hi he => hx ⟨i, hi, he⟩
      exact walkSegmentPlan n A cap ps AV capv vs X x w h hm hv hmv [] false (by simp)
        (fun A cap AV capv w _ h hv _ _ => hsno (askB_no (fun hh => hx hh.2.2)) A cap AV capv w h hv)
        (fun A cap AV capv w _ h hv hc hcm => sgp_no n A cap ps AV capv vs X x w (fun w0 hb0 => around_no n A cap ps AV capv vs x w0 (fun w' hb => segp_no2 n A cap ps AV capv vs x w' (h.kept (hb0.trans (hb.mono hb0.size)) (Nat.le_refl _)) hm (hv.kept (hb0.trans (hb.mono hb0.size)) (Nat.le_refl _)) hmv hc hcm hg hno)))
end Go.Proofs.Ytbljmibaemgfeaa.S2

namespace Go.Proofs.Ytbljmibaemgfeaa.fnExactSegmentPlan
open Go.ChangeShapes Go.WideShapes Go.ChangeAt Go.RowKit P2 S2
set_option linter.unusedVariables false

theorem own : ownKnob Try.prog.godebug = none := by kernel_rfl
theorem laidOut : laidOutB Try.prog = true := by kernel_rfl

set_option maxRecDepth 100000 in
theorem lifted (os : Os) (started : os.Started) (H : Type) (enc : TypeId × Value → H) :
    ReturnsInHanded {} Try.checked os 7 .any (Rows.fnExactSegmentPlanSpec.pre6 enc Try.prog Try.f7 Rows.fnExactSegmentPlanRow.domain false) (Rows.fnExactSegmentPlanSpec.post enc Try.prog Try.f7 false true false false) := by
  refine returnsInHanded_of_change (C := Try.checked) own started (by kernel_rfl) Try.func7
    (ChangeSpec.witness6 (enc := enc) (C := Try.checked) false ⟨#[], #[.agg #[.int .i64 0, .slice none 0 0], .slice none 0 0, .int .i64 0, .int .i64 0], []⟩ 8 (by kernel_rfl) (by kernel_rfl) (by kernel_rfl) (by kernel_rfl)) ?_
  intro W base args ds gs before hval0 hW hcnd _
  have hval : ∀ (j : Nat) t v, Try.f7.params[j]? = some t → args[j]? = some v → Value.okWide Try.prog W .any base t v := hval0
  have hW' := hW
  obtain ⟨p, q, hA0, hV, rfl, hfz, hnd⟩ := hW
  have hA : DataW.TrodAll enc Try.prog W 0 (fun _ => true) true Try.f7.params.toList args.toList ds p := hA0
  rw [Try.params7] at hA hval
  obtain ⟨v0, v1, v2, v3, d0, d1, d2, d3, p0, p1, p2, p3, rfl, rfl, rfl, h0, h1, h2, h3⟩ := trodAll_four hA
  obtain ⟨rfl, rfl⟩ := trodVars_none hV
  have k0 := h0
  have lt0 : ∀ x ∈ p0, x.block < W.heap.size := by obtain ⟨m, hm⟩ := k0; exact DataW.trod_lt m _ _ _ hm
  obtain ⟨n0, A0, cap0, ps0, rfl, at0, mx0⟩ := net_open (hval 0 24 v0 rfl rfl) h0
  have k1 := h1
  have lt1 : ∀ x ∈ p1, x.block < W.heap.size := by obtain ⟨m, hm⟩ := k1; exact DataW.trod_lt m _ _ _ hm
  obtain ⟨A1, cap1, vs1, rfl, at1, mx1⟩ := valvearg_open (hval 1 25 v1 rfl rfl) h1
  obtain ⟨a2, rfl, rfl, rfl, w2⟩ := open_int Try.underlying3 (hval 2 3 v2 rfl rfl) h2
  obtain ⟨a3, rfl, rfl, rfl, w3⟩ := open_int Try.underlying3 (hval 3 3 v3 rfl rfl) h3
  clear hA0 hval0
  refine (law_sgp n0 A0 cap0 ps0 A1 cap1 vs1 a2 a3 W at0 mx0 at1 mx1).mono fun e W' ⟨he, bel⟩ => ?_
  subst he
  exact ⟨_, rfl, _, _, _, [], _, [], hW', trodAll_mk1 (shut_bool Try.underlying4 _), trodAll_mk4 (Below.trod laidOut (by kernel_rfl) (of_decide_eq_true (by kernel_rfl)) k0 bel lt0) (Below.trod laidOut (by kernel_rfl) (of_decide_eq_true (by kernel_rfl)) k1 bel lt1) (shut_int Try.underlying3 w2) (shut_int Try.underlying3 w3), rfl, bel.frame _, fun h => by cases h⟩

theorem proved : Rows.FnExactSegmentPlanSaid :=
  OpenClaim.holds_of_wide 7 Try.f7 rfl rfl rfl rfl rfl rfl rfl ⟨rfl, rfl, rfl, rfl, rfl⟩ rfl rfl rfl rfl rfl (by kernel_rfl) Try.func7 (by kernel_rfl)
    (of_decide_eq_true (by kernel_rfl)) (by unfold Func.isWrapper; first | (rw [if_pos (by decide +kernel)]; kernel_rfl) | (rw [if_neg (by decide +kernel)]; exact ⟨rfl, rfl⟩))
    (fun os started H enc _ => lifted os started H enc)
end Go.Proofs.Ytbljmibaemgfeaa.fnExactSegmentPlan
namespace Go.Proofs.Ytbljmibaemgfeaa
theorem FnExactSegmentPlan_holds : Rows.FnExactSegmentPlanSaid := fnExactSegmentPlan.proved
#print axioms FnExactSegmentPlan_holds
end Go.Proofs.Ytbljmibaemgfeaa
