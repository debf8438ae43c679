/- The walk of the law FnExactCountSegments: contracts. Conditions: each theorem's own premises. -/
import Derived.Test.YtmkpgkhfbhdhgaaLawKit
import Derived.Deep.DeepCutAuto
namespace Go.Proofs.Ytmkpgkhfbhdhgaa.S2
open Go.RowKit P2 P4

set_option maxHeartbeats 16000000 in
set_option maxRecDepth 100000 in
theorem walkCountSegments (n : Int) (A : Option Addr) (cap : Nat) (ps : List Pp) (AV : Option Addr) (capv : Nat) (vs : List Vv) (w : World) (h : PAt w A ps) (hm : ps.length ≤ maxLen) (hv : VAt w AV vs) (hmv : vs.length ≤ maxLen) (cv : Int) (ok : Bool)
    (hs : ∀ (A : Option Addr) (cap : Nat) (AV : Option Addr) (capv : Nat) (w : World), ps.length ≤ 1048576 → PAt w A ps → VAt w AV vs → vs.length ≤ capv → capv ≤ maxLen → Calls Try.prog 31 #[nv n A ps.length cap, .slice AV vs.length capv] w fun e w' => e = .returned (.tuple #[.int .i64 cv, .bool ok]) ∧ Below w.heap.size w w')
    (hi : ∀ (A : Option Addr) (cap : Nat) (AV : Option Addr) (capv : Nat) (w : World), ps.length ≤ 1048576 → PAt w A ps → VAt w AV vs → vs.length ≤ capv → capv ≤ maxLen → Calls Try.prog 32 #[nv n A ps.length cap, .slice AV vs.length capv] w fun e w' => e = .returned (.tuple #[.int .i64 cv, .bool ok]) ∧ Below w.heap.size w w') :
    Calls Try.prog 6 #[nv n A ps.length cap, .slice AV vs.length capv] w fun e w' => e = .returned (.bool true) ∧ Below w.heap.size w w' := by
  have HA := Lib.hid h
  have HM := Lib.hid hm
  have HS := Lib.hid hs
  have HI := Lib.hid hi
  have HV := Lib.hid hv
  have HMV := Lib.hid hmv
  clear h hm hs hi hv hmv
  go_enter Try.func6, Try.ntmps6
  go_wp2_with (go_at_call 14; refine (sznet_le n A ps.length cap _ HM.out).mono ?_; rintro e w1 ⟨⟨r, rfl, hr⟩, hb1⟩; refine Hid.out ?_)
  have hB1 : Below (w.heap.size + 1) (w.alloc (.cells #[.int .i64 n, .slice A ps.length cap] 24)) w1 := by simpa using hb1
  clear hb1
  obtain ⟨b0, b1⟩ := box2 hB1
  by_cases hr0 : r < 0
  · refine Lib.hid ?_
    go_wp2
    go_ret
    exact ⟨rfl, below_box hB1⟩
  have hlen : ps.length ≤ 1048576 := by rcases hr with h | h; exact absurd h hr0; exact h.2.2
  have hr9 : r ≤ 1048576 := by rcases hr with h | h; exact absurd h hr0; exact h.2.1
  clear hr
  refine Lib.hid ?_
  go_wp2_with (go_at_call 15; refine (szvalves_any AV vs.length capv r (by omega) hr9 _ HMV.out).mono ?_; rintro e w1x ⟨⟨r2, rfl, hr2⟩, hw⟩; replace hw := hw.symm; subst hw; refine Hid.out ?_)
  by_cases hr20 : r2 < 0
  · refine Lib.hid ?_
    go_wp2
    go_ret
    exact ⟨rfl, below_box hB1⟩
  have hlenv : vs.length ≤ 1048576 := by rcases hr2 with h | h; exact absurd h hr20; exact h.2.2
  clear hr2 hr9
  have hcm : vs.length ≤ maxLen := by unfold maxLen; omega
  have hz1 : w.heap.size < w1.heap.size := box_lt hB1
  refine Lib.hid ?_
  go_wp2_with (first | (go_at_call 17; refine (tonet_any n A cap ps _ (HA.out.kept (below_box hB1) (Nat.le_refl _)) hlen).mono ?_; rintro e w2 ⟨⟨ga, rfl, hga, hrowa⟩, hb2⟩; refine Hid.out ?_) | fail)
  have Xa_2 := Lib.hid hrowa
  have hla := hrowa.lt
  clear hrowa
  have hz2 := hb2.size
  have hB2 := on_call hB1 hb2
  clear b0 b1
  obtain ⟨b0, b1⟩ := box2 hB2
  clear hB1 hb2
  refine Lib.hid ?_
  go_wp2_with (first | (go_at_call 18; refine (tovalves_any AV capv vs _ (HV.out.kept (below_box hB2) (Nat.le_refl _)) hlenv).mono ?_; rintro e w3 ⟨⟨gb, rfl, hgb, hrowb⟩, hb3⟩; refine Hid.out ?_) | fail)
  have Zb_3 := Lib.hid hrowb
  have hlb := hrowb.lt
  clear hrowb
  have hz3 := hb3.size
  have hB3 := on_call hB2 hb3
  have Xa_3 := Lib.hid (Xa_2.out.kept hb3 (by omega))
  clear b0 b1
  obtain ⟨b0, b1⟩ := box2 hB3
  clear hB2 Xa_2 hb3
  refine Lib.hid ?_
  go_wp2_with (first | (go_at_call 31; refine (HS.out _ _ _ _ _ hlen Xa_3.out.at_ Zb_3.out.at_ (Nat.le_refl _) hcm).mono ?_; rintro e w4 ⟨rfl, hb4⟩; refine Hid.out ?_) | fail)
  clear Xa_3 Zb_3
  have hz4 := hb4.size
  have hB4 := on_call hB3 hb4
  clear b0 b1
  obtain ⟨b0, b1⟩ := box2 hB4
  clear hB3 hb4
  refine Lib.hid ?_
  go_wp2_with (first | (go_at_call 17; refine (tonet_any n A cap ps _ (HA.out.kept (below_box hB4) (Nat.le_refl _)) hlen).mono ?_; rintro e w5 ⟨⟨gx, rfl, hgx, hrowx⟩, hb5⟩; refine Hid.out ?_) | fail)
  have Xx_5 := Lib.hid hrowx
  have hlx := hrowx.lt
  clear hrowx
  have hz5 := hb5.size
  have hB5 := on_call hB4 hb5
  clear b0 b1
  obtain ⟨b0, b1⟩ := box2 hB5
  clear hB4 hb5
  have HBX := Lib.hid (show Below w5.heap.size w5 (w5.alloc (.cells #[.int .i64 n, .slice (some ⟨gx, 0, none⟩) ps.length ps.length] 31)) from (Below.refl _ _).alloc (Nat.le_refl _) _)
  have HBX2 := Lib.hid (on_call hB5 HBX.out)
  refine Lib.hid ?_
  go_wp2_with (first | (go_at_call 18; refine (tovalves_any AV capv vs _ (HV.out.kept (below_box HBX2.out) (Nat.le_refl _)) hlenv).mono ?_; rintro e w6 ⟨⟨gy, rfl, hgy, hrowy⟩, hbq⟩; refine Hid.out ?_) | fail)
  obtain ⟨y0_6, y1_6⟩ := box2 (w := w5) (by simpa using hbq)
  have hb6 := HBX.out.trans (hbq.mono (by simp))
  have Zy_6 := Lib.hid hrowy
  have hly := hrowy.lt
  have hzq := hbq.size
  simp at hzq hgy
  clear hrowy hbq HBX HBX2
  have hz6 := hb6.size
  have hB6 := on_call hB5 hb6
  have Xx_6 := Lib.hid (Xx_5.out.kept hb6 (by omega))
  clear b0 b1
  obtain ⟨b0, b1⟩ := box2 hB6
  clear hB5 Xx_5 hb6
  refine Lib.hid ?_
  go_wp2_with (first | (go_at_call 32; refine (HI.out _ _ _ _ _ hlen Xx_6.out.at_ Zy_6.out.at_ (Nat.le_refl _) hcm).mono ?_; rintro e w7 ⟨rfl, hb7⟩; refine Hid.out ?_) | fail)
  have hz7 := hb7.size
  have hB7 := on_call hB6 hb7
  have Xx_7 := Lib.hid (Xx_6.out.kept hb7 (by omega))
  have Zy_7 := Lib.hid (Zy_6.out.kept hb7 (by omega))
  have y0_7 := (hb7.cell (p := ⟨w5.heap.size, 0, none⟩) (by dsimp only; omega)).trans y0_6
  have y1_7 := (hb7.cell (p := ⟨w5.heap.size, 1, none⟩) (by dsimp only; omega)).trans y1_6
  clear b0 b1
  obtain ⟨b0, b1⟩ := box2 hB7
  clear hB6 Xx_6 Zy_6 y0_6 y1_6 hb7
  refine Lib.hid ?_
  go_upto_region 14 with (fail)
  go_cut [52] (fun st wx => st = .bool false ∧ Hid (Below w7.heap.size w7 wx))
  case first =>
    have hA7 := Lib.hid (HA.out.kept (below_box hB7) (Nat.le_refl _))
    have hat7 := Lib.hid Xx_7.out.at_
    have hx4 : w5.heap.size < w7.heap.size := by omega
    go_region_with (first
      | (go_at_call 17; refine (tonet_any n A cap ps w7.drew hA7.out hlen).mono ?_; rintro e wqa ⟨⟨gqa, rfl, hgqa, hrowqa⟩, hbqa⟩; have HBqa := Lib.hid hbqa; have hatqa := Lib.hid hrowqa.at_; have hatqb := Lib.hid (PAt.kept (w := w7.drew) hat7.out hbqa (Nat.le_refl _)); have z0 := (hbqa.cell (p := ⟨w5.heap.size, 0, none⟩) hx4).trans y0_7; have z1 := (hbqa.cell (p := ⟨w5.heap.size, 1, none⟩) hx4).trans y1_7; clear hgqa hrowqa hbqa)
      | (go_at_call 20; refine (eqnet_same n _ _ _ _ ps wqa hatqb.out hatqa.out hlen).mono ?_; rintro e wqb ⟨rfl, hbqb⟩))
    all_goals
      go_wp2_with fail
      go_meet
      exact ⟨rfl, Lib.hid ((Below.refl w7.heap.size w7).drew.trans (HBqa.out.trans (hbqb.mono HBqa.out.size)))⟩
  case rest =>
    obtain ⟨rfl, hbc⟩ := hcut
    obtain ⟨w8, hwb⟩ : ∃ w8, w8 = wc := ⟨_, rfl⟩
    subst hwb
    have hb8 := hbc.out
    clear hbc
    have hz8 := hb8.size
    have hB8 := on_call hB7 hb8
    have Xx_8 := Lib.hid (Xx_7.out.kept hb8 (by omega))
    have Zy_8 := Lib.hid (Zy_7.out.kept hb8 (by omega))
    have y0_8 := (hb8.cell (p := ⟨w5.heap.size, 0, none⟩) (by dsimp only; omega)).trans y0_7
    have y1_8 := (hb8.cell (p := ⟨w5.heap.size, 1, none⟩) (by dsimp only; omega)).trans y1_7
    clear b0 b1
    obtain ⟨b0, b1⟩ := box2 hB8
    clear hB7 Xx_7 Zy_7 y0_7 y1_7 hb8
    refine Lib.hid ?_
    go_wp2_with (first | (go_at_call 18; refine (tovalves_any AV capv vs _ (HV.out.kept (below_box hB8) (Nat.le_refl _)) hlenv).mono ?_; rintro e w9 ⟨⟨gu, rfl, hgu, hrowu⟩, hb9⟩; refine Hid.out ?_) | fail)
    have Zu_9 := Lib.hid hrowu
    have hlu := hrowu.lt
    clear hrowu
    have hz9 := hb9.size
    have hB9 := on_call hB8 hb9
    have Xx_9 := Lib.hid (Xx_8.out.kept hb9 (by omega))
    have Zy_9 := Lib.hid (Zy_8.out.kept hb9 (by omega))
    have y0_9 := (hb9.cell (p := ⟨w5.heap.size, 0, none⟩) (by dsimp only; omega)).trans y0_8
    have y1_9 := (hb9.cell (p := ⟨w5.heap.size, 1, none⟩) (by dsimp only; omega)).trans y1_8
    clear b0 b1
    obtain ⟨b0, b1⟩ := box2 hB9
    clear hB8 Xx_8 Zy_8 y0_8 y1_8 hb9
    refine Lib.hid ?_
    go_wp2_with (first | (go_at_call 21; refine (eqvalves_same _ _ _ _ vs w9 Zy_9.out.at_ Zu_9.out.at_ hlenv).mono ?_; rintro e w10 ⟨rfl, hb10⟩; refine Hid.out ?_) | fail)
    have hz10 := hb10.size
    have hB10 := on_call hB9 hb10
    have Xx_10 := Lib.hid (Xx_9.out.kept hb10 (by omega))
    have Zy_10 := Lib.hid (Zy_9.out.kept hb10 (by omega))
    have y0_10 := (hb10.cell (p := ⟨w5.heap.size, 0, none⟩) (by dsimp only; omega)).trans y0_9
    have y1_10 := (hb10.cell (p := ⟨w5.heap.size, 1, none⟩) (by dsimp only; omega)).trans y1_9
    clear b0 b1
    obtain ⟨b0, b1⟩ := box2 hB10
    clear hB9 Xx_9 Zy_9 y0_9 y1_9 hb10
    refine Lib.hid ?_
    go_wp2_with fail
    go_ret
    exact ⟨rfl, below_box hB10⟩
end Go.Proofs.Ytmkpgkhfbhdhgaa.S2
