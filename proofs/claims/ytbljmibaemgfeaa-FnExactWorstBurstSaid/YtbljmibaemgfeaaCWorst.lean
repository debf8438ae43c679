/- The law FnExactWorstBurst returns true for every network, valves, source and customers and leaves its arguments as they were. No conditions. -/
import Derived.Test.YtbljmibaemgfeaaKPa
import Derived.Deep.DeepCutAuto
import Derived.Test.YtbljmibaemgfeaaKPf
import Derived.Test.YtbljmibaemgfeaaRows
import Derived.Test.YtbljmibaemgfeaaOpenOne
import Derived.Test.YtbljmibaemgfeaaValOpen
import Derived.WalkKit
import Derived.ProofKit
import Derived.OpenShut
import Derived.ChangeOld
import Derived.Below
namespace Go.Proofs.Ytbljmibaemgfeaa.S2
open Go.RowKit P2 P4

set_option maxHeartbeats 16000000 in
set_option maxRecDepth 100000 in
theorem walkWorstBurst (n : Int) (A : Option Addr) (cap : Nat) (ps : List Pp) (AV : Option Addr) (capv : Nat) (vs : List Vv) (x2 : Int) (AC3 : Option Addr) (cc3 : Nat) (cu3 : List Int) (w : World) (h : PAt w A ps) (hm : ps.length ≤ maxLen) (hv : VAt w AV vs) (hmv : vs.length ≤ maxLen) (hc3 : IAt w AC3 cu3) (hmc3 : cu3.length ≤ maxLen) (cv dv : Int) (ok : Bool)
    (hs : ∀ (A : Option Addr) (cap : Nat) (AV : Option Addr) (capv : Nat) (AC3 : Option Addr) (cc3 : Nat) (w : World), ps.length ≤ 1048576 → PAt w A ps → VAt w AV vs → vs.length ≤ capv → capv ≤ maxLen → IAt w AC3 cu3 → cu3.length ≤ 1048576 → Calls Try.prog 39 #[nv n A ps.length cap, .slice AV vs.length capv, .int .i64 x2, .slice AC3 cu3.length cc3] w fun e w' => e = .returned (.tuple #[.int .i64 cv, .int .i64 dv, .bool ok]) ∧ Below w.heap.size w w')
    (hi : ∀ (A : Option Addr) (cap : Nat) (AV : Option Addr) (capv : Nat) (AC3 : Option Addr) (cc3 : Nat) (w : World), ps.length ≤ 1048576 → PAt w A ps → VAt w AV vs → vs.length ≤ capv → capv ≤ maxLen → IAt w AC3 cu3 → cu3.length ≤ 1048576 → Calls Try.prog 40 #[nv n A ps.length cap, .slice AV vs.length capv, .int .i64 x2, .slice AC3 cu3.length cc3] w fun e w' => e = .returned (.tuple #[.int .i64 cv, .int .i64 dv, .bool ok]) ∧ Below w.heap.size w w') :
    Calls Try.prog 9 #[nv n A ps.length cap, .slice AV vs.length capv, .int .i64 x2, .slice AC3 cu3.length cc3] w fun e w' => e = .returned (.bool true) ∧ Below w.heap.size w w' := by
  have HA := Lib.hid h
  have HM := Lib.hid hm
  have HS := Lib.hid hs
  have HI := Lib.hid hi
  have HV := Lib.hid hv
  have HMV := Lib.hid hmv
  have HC3 := Lib.hid hc3
  have HMC3 := Lib.hid hmc3
  clear h hm hs hi hv hmv hc3 hmc3
  by_cases hci3 : 1048576 < cu3.length
  · have hlm3 : cu3.length ≤ 9223372036854775807 := by have := HMC3.out; unfold maxLen at this; omega
    go_enter Try.func9, Try.ntmps9
    go_wp2
    go_ret
    exact ⟨rfl, (Below.refl w.heap.size w).alloc (Nat.le_refl _) _⟩
  have hcl3 : cu3.length ≤ 1048576 := by omega
  clear hci3
  go_enter Try.func9, Try.ntmps9
  go_wp2_with (go_at_call 15; refine (sznet_le n A ps.length cap _ HM.out).mono ?_; rintro e w1 ⟨⟨r, rfl, hr⟩, hb1⟩; refine Hid.out ?_)
  have hB1 : Below (w.heap.size + 1) (w.alloc (.cells #[.int .i64 n, .slice A ps.length cap] 24)) w1 := by simpa using hb1
  clear hb1
  obtain ⟨b0, b1⟩ := box2 hB1
  by_cases hr0 : r < 0
  · refine Lib.hid ?_
    go_wp2
    go_ret
    exact ⟨rfl, below_box hB1⟩
  have hlen : ps.length ≤ 1048576 := by rcases hr with h | h; exact absurd h hr0; exact h.2.2
  have hr9 : r ≤ 1048576 := by rcases hr with h | h; exact absurd h hr0; exact h.2.1
  clear hr
  refine Lib.hid ?_
  go_wp2_with (go_at_call 16; refine (szvalves_any AV vs.length capv r (by omega) hr9 _ HMV.out).mono ?_; rintro e w1x ⟨⟨r2, rfl, hr2⟩, hw⟩; replace hw := hw.symm; subst hw; refine Hid.out ?_)
  by_cases hr20 : r2 < 0
  · refine Lib.hid ?_
    go_wp2
    go_ret
    exact ⟨rfl, below_box hB1⟩
  have hlenv : vs.length ≤ 1048576 := by rcases hr2 with h | h; exact absurd h hr20; exact h.2.2
  clear hr2 hr9
  have hcm : vs.length ≤ maxLen := by unfold maxLen; omega
  have hz1 : w.heap.size < w1.heap.size := box_lt hB1
  refine Lib.hid ?_
  go_wp2_with (first | (go_at_call 18; refine (tonet_any n A cap ps _ (HA.out.kept (below_box hB1) (Nat.le_refl _)) hlen).mono ?_; rintro e w2 ⟨⟨ga, rfl, hga, hrowa⟩, hb2⟩; refine Hid.out ?_) | fail)
  have Xa_2 := Lib.hid hrowa
  have hla := hrowa.lt
  clear hrowa
  have hz2 := hb2.size
  have hB2 := on_call hB1 hb2
  clear b0 b1
  obtain ⟨b0, b1⟩ := box2 hB2
  clear hB1 hb2
  refine Lib.hid ?_
  go_wp2_with (first | (go_at_call 19; refine (tovalves_any AV capv vs _ (HV.out.kept (below_box hB2) (Nat.le_refl _)) hlenv).mono ?_; rintro e w3 ⟨⟨gb, rfl, hgb, hrowb⟩, hb3⟩; refine Hid.out ?_) | fail)
  have Zb_3 := Lib.hid hrowb
  have hlb := hrowb.lt
  clear hrowb
  have hz3 := hb3.size
  have hB3 := on_call hB2 hb3
  have Xa_3 := Lib.hid (Xa_2.out.kept hb3 (by omega))
  clear b0 b1
  obtain ⟨b0, b1⟩ := box2 hB3
  clear hB2 Xa_2 hb3
  refine Lib.hid ?_
  go_wp2_with (first | (go_at_call 20; refine (toints_any AC3 cc3 cu3 _ (HC3.out.kept (below_box hB3) (Nat.le_refl _)) hcl3).mono ?_; rintro e w4 ⟨⟨ge3, rfl, hge3, hOe3⟩, hb4⟩; refine Hid.out ?_) | fail)
  have Oe3_4 := Lib.hid hOe3
  have hle3 := iown_lt' hOe3
  clear hOe3
  have hz4 := hb4.size
  have hB4 := on_call hB3 hb4
  have Xa_4 := Lib.hid (Xa_3.out.kept hb4 (by omega))
  have Zb_4 := Lib.hid (Zb_3.out.kept hb4 (by omega))
  clear b0 b1
  obtain ⟨b0, b1⟩ := box2 hB4
  clear hB3 Xa_3 Zb_3 hb4
  refine Lib.hid ?_
  go_wp2_with (first | (go_at_call 39; refine (HS.out _ _ _ _ _ _ _ hlen Xa_4.out.at_ Zb_4.out.at_ (Nat.le_refl _) hcm Oe3_4.out.iat hcl3).mono ?_; rintro e w5 ⟨rfl, hb5⟩; refine Hid.out ?_) | fail)
  clear Xa_4 Zb_4 Oe3_4
  have hz5 := hb5.size
  have hB5 := on_call hB4 hb5
  clear b0 b1
  obtain ⟨b0, b1⟩ := box2 hB5
  clear hB4 hb5
  refine Lib.hid ?_
  go_wp2_with (first | (go_at_call 18; refine (tonet_any n A cap ps _ (HA.out.kept (below_box hB5) (Nat.le_refl _)) hlen).mono ?_; rintro e w6 ⟨⟨gx, rfl, hgx, hrowx⟩, hb6⟩; refine Hid.out ?_) | fail)
  have Xx_6 := Lib.hid hrowx
  have hlx := hrowx.lt
  clear hrowx
  have hz6 := hb6.size
  have hB6 := on_call hB5 hb6
  clear b0 b1
  obtain ⟨b0, b1⟩ := box2 hB6
  clear hB5 hb6
  have HBX := Lib.hid (show Below w6.heap.size w6 (w6.alloc (.cells #[.int .i64 n, .slice (some ⟨gx, 0, none⟩) ps.length ps.length] 32)) from (Below.refl _ _).alloc (Nat.le_refl _) _)
  have HBX2 := Lib.hid (on_call hB6 HBX.out)
  refine Lib.hid ?_
  go_wp2_with (first | (go_at_call 19; refine (tovalves_any AV capv vs _ (HV.out.kept (below_box HBX2.out) (Nat.le_refl _)) hlenv).mono ?_; rintro e w7 ⟨⟨gy, rfl, hgy, hrowy⟩, hbq⟩; refine Hid.out ?_) | fail)
  obtain ⟨y0_7, y1_7⟩ := box2 (w := w6) (by simpa using hbq)
  have hb7 := HBX.out.trans (hbq.mono (by simp))
  have Zy_7 := Lib.hid hrowy
  have hly := hrowy.lt
  have hzq := hbq.size
  simp at hzq hgy
  clear hrowy hbq HBX HBX2
  have hz7 := hb7.size
  have hB7 := on_call hB6 hb7
  have Xx_7 := Lib.hid (Xx_6.out.kept hb7 (by omega))
  clear b0 b1
  obtain ⟨b0, b1⟩ := box2 hB7
  clear hB6 Xx_6 hb7
  refine Lib.hid ?_
  go_wp2_with (first | (go_at_call 20; refine (toints_any AC3 cc3 cu3 _ (HC3.out.kept (below_box hB7) (Nat.le_refl _)) hcl3).mono ?_; rintro e w8 ⟨⟨gz3, rfl, hgz3, hOz3⟩, hb8⟩; refine Hid.out ?_) | fail)
  have Oz3_8 := Lib.hid hOz3
  have hlz3 := iown_lt' hOz3
  clear hOz3
  have hz8 := hb8.size
  have hB8 := on_call hB7 hb8
  have Xx_8 := Lib.hid (Xx_7.out.kept hb8 (by omega))
  have Zy_8 := Lib.hid (Zy_7.out.kept hb8 (by omega))
  have y0_8 := (hb8.cell (p := ⟨w6.heap.size, 0, none⟩) (by dsimp only; omega)).trans y0_7
  have y1_8 := (hb8.cell (p := ⟨w6.heap.size, 1, none⟩) (by dsimp only; omega)).trans y1_7
  clear b0 b1
  obtain ⟨b0, b1⟩ := box2 hB8
  clear hB7 Xx_7 Zy_7 y0_7 y1_7 hb8
  refine Lib.hid ?_
  go_wp2_with (first | (go_at_call 40; refine (HI.out _ _ _ _ _ _ _ hlen Xx_8.out.at_ Zy_8.out.at_ (Nat.le_refl _) hcm Oz3_8.out.iat hcl3).mono ?_; rintro e w9 ⟨rfl, hb9⟩; refine Hid.out ?_) | fail)
  have hz9 := hb9.size
  have hB9 := on_call hB8 hb9
  have Xx_9 := Lib.hid (Xx_8.out.kept hb9 (by omega))
  have Zy_9 := Lib.hid (Zy_8.out.kept hb9 (by omega))
  have y0_9 := (hb9.cell (p := ⟨w6.heap.size, 0, none⟩) (by dsimp only; omega)).trans y0_8
  have y1_9 := (hb9.cell (p := ⟨w6.heap.size, 1, none⟩) (by dsimp only; omega)).trans y1_8
  have Oz3_9 := Lib.hid (Oz3_8.out.on hb9)
  clear b0 b1
  obtain ⟨b0, b1⟩ := box2 hB9
  clear hB8 Xx_8 Zy_8 y0_8 y1_8 Oz3_8 hb9
  refine Lib.hid ?_
  go_upto_region 17 with (fail)
  go_cut [76] (fun st wx => st = .bool false ∧ Hid (Below w9.heap.size w9 wx))
  case first =>
    have hA7 := Lib.hid (HA.out.kept (below_box hB9) (Nat.le_refl _))
    have hat7 := Lib.hid Xx_9.out.at_
    have hx4 : w6.heap.size < w9.heap.size := by omega
    go_region_with (first
      | (go_at_call 18; refine (tonet_any n A cap ps w9.drew hA7.out hlen).mono ?_; rintro e wqa ⟨⟨gqa, rfl, hgqa, hrowqa⟩, hbqa⟩; have HBqa := Lib.hid hbqa; have hatqa := Lib.hid hrowqa.at_; have hatqb := Lib.hid (PAt.kept (w := w9.drew) hat7.out hbqa (Nat.le_refl _)); have z0 := (hbqa.cell (p := ⟨w6.heap.size, 0, none⟩) hx4).trans y0_9; have z1 := (hbqa.cell (p := ⟨w6.heap.size, 1, none⟩) hx4).trans y1_9; clear hgqa hrowqa hbqa)
      | (go_at_call 22; refine (eqnet_same n _ _ _ _ ps wqa hatqb.out hatqa.out hlen).mono ?_; rintro e wqb ⟨rfl, hbqb⟩))
    all_goals
      go_wp2_with fail
      go_meet
      exact ⟨rfl, Lib.hid ((Below.refl w9.heap.size w9).drew.trans (HBqa.out.trans (hbqb.mono HBqa.out.size)))⟩
  case rest =>
    obtain ⟨rfl, hbc⟩ := hcut
    obtain ⟨w10, hwb⟩ : ∃ w10, w10 = wc := ⟨_, rfl⟩
    subst hwb
    have hb10 := hbc.out
    clear hbc
    have hz10 := hb10.size
    have hB10 := on_call hB9 hb10
    have Xx_10 := Lib.hid (Xx_9.out.kept hb10 (by omega))
    have Zy_10 := Lib.hid (Zy_9.out.kept hb10 (by omega))
    have y0_10 := (hb10.cell (p := ⟨w6.heap.size, 0, none⟩) (by dsimp only; omega)).trans y0_9
    have y1_10 := (hb10.cell (p := ⟨w6.heap.size, 1, none⟩) (by dsimp only; omega)).trans y1_9
    have Oz3_10 := Lib.hid (Oz3_9.out.on hb10)
    clear b0 b1
    obtain ⟨b0, b1⟩ := box2 hB10
    clear hB9 Xx_9 Zy_9 y0_9 y1_9 Oz3_9 hb10
    refine Lib.hid ?_
    go_wp2_with (first | (go_at_call 19; refine (tovalves_any AV capv vs _ (HV.out.kept (below_box hB10) (Nat.le_refl _)) hlenv).mono ?_; rintro e w11 ⟨⟨gu, rfl, hgu, hrowu⟩, hb11⟩; refine Hid.out ?_) | fail)
    have Zu_11 := Lib.hid hrowu
    have hlu := hrowu.lt
    clear hrowu
    have hz11 := hb11.size
    have hB11 := on_call hB10 hb11
    have Xx_11 := Lib.hid (Xx_10.out.kept hb11 (by omega))
    have Zy_11 := Lib.hid (Zy_10.out.kept hb11 (by omega))
    have y0_11 := (hb11.cell (p := ⟨w6.heap.size, 0, none⟩) (by dsimp only; omega)).trans y0_10
    have y1_11 := (hb11.cell (p := ⟨w6.heap.size, 1, none⟩) (by dsimp only; omega)).trans y1_10
    have Oz3_11 := Lib.hid (Oz3_10.out.on hb11)
    clear b0 b1
    obtain ⟨b0, b1⟩ := box2 hB11
    clear hB10 Xx_10 Zy_10 y0_10 y1_10 Oz3_10 hb11
    refine Lib.hid ?_
    go_wp2_with (first | (go_at_call 23; refine (eqvalves_same _ _ _ _ vs w11 Zy_11.out.at_ Zu_11.out.at_ hlenv).mono ?_; rintro e w12 ⟨rfl, hb12⟩; refine Hid.out ?_) | fail)
    have hz12 := hb12.size
    have hB12 := on_call hB11 hb12
    have Xx_12 := Lib.hid (Xx_11.out.kept hb12 (by omega))
    have Zy_12 := Lib.hid (Zy_11.out.kept hb12 (by omega))
    have y0_12 := (hb12.cell (p := ⟨w6.heap.size, 0, none⟩) (by dsimp only; omega)).trans y0_11
    have y1_12 := (hb12.cell (p := ⟨w6.heap.size, 1, none⟩) (by dsimp only; omega)).trans y1_11
    have Oz3_12 := Lib.hid (Oz3_11.out.on hb12)
    clear b0 b1
    obtain ⟨b0, b1⟩ := box2 hB12
    clear hB11 Xx_11 Zy_11 y0_11 y1_11 Oz3_11 hb12
    refine Lib.hid ?_
    go_wp2_with (first | (go_at_call 20; refine (toints_any AC3 cc3 cu3 _ (HC3.out.kept (below_box hB12) (Nat.le_refl _)) hcl3).mono ?_; rintro e w13 ⟨⟨gv3, rfl, hgv3, hOv3⟩, hb13⟩; refine Hid.out ?_) | fail)
    have Ov3_13 := Lib.hid hOv3
    have hlv3 := iown_lt' hOv3
    clear hOv3
    have hz13 := hb13.size
    have hB13 := on_call hB12 hb13
    have Xx_13 := Lib.hid (Xx_12.out.kept hb13 (by omega))
    have Zy_13 := Lib.hid (Zy_12.out.kept hb13 (by omega))
    have y0_13 := (hb13.cell (p := ⟨w6.heap.size, 0, none⟩) (by dsimp only; omega)).trans y0_12
    have y1_13 := (hb13.cell (p := ⟨w6.heap.size, 1, none⟩) (by dsimp only; omega)).trans y1_12
    have Oz3_13 := Lib.hid (Oz3_12.out.on hb13)
    clear b0 b1
    obtain ⟨b0, b1⟩ := box2 hB13
    clear hB12 Xx_12 Zy_12 y0_12 y1_12 Oz3_12 hb13
    refine Lib.hid ?_
    go_wp2_with (first | (go_at_call 24; refine (eqints_same _ _ _ _ cu3 w13 Oz3_13.out.iat Ov3_13.out.iat hcl3).mono ?_; rintro e w14 ⟨rfl, hb14⟩; refine Hid.out ?_) | fail)
    have hz14 := hb14.size
    have hB14 := on_call hB13 hb14
    have Xx_14 := Lib.hid (Xx_13.out.kept hb14 (by omega))
    have Zy_14 := Lib.hid (Zy_13.out.kept hb14 (by omega))
    have y0_14 := (hb14.cell (p := ⟨w6.heap.size, 0, none⟩) (by dsimp only; omega)).trans y0_13
    have y1_14 := (hb14.cell (p := ⟨w6.heap.size, 1, none⟩) (by dsimp only; omega)).trans y1_13
    have Oz3_14 := Lib.hid (Oz3_13.out.on hb14)
    clear b0 b1
    obtain ⟨b0, b1⟩ := box2 hB14
    clear hB13 Xx_13 Zy_13 y0_13 y1_13 Oz3_13 hb14
    refine Lib.hid ?_
    go_wp2_with fail
    go_ret
    exact ⟨rfl, below_box hB14⟩
end Go.Proofs.Ytbljmibaemgfeaa.S2

namespace Go.Proofs.Ytbljmibaemgfeaa.S2
open Go.RowKit P2 P4
theorem law_worst (n : Int) (A : Option Addr) (cap : Nat) (ps : List Pp) (AV : Option Addr) (capv : Nat) (vs : List Vv) (X : Int) (AU : Option Addr) (cq : Nat) (cu : List Int) (w : World) (h : PAt w A ps) (hm : ps.length ≤ maxLen) (hv : VAt w AV vs) (hmv : vs.length ≤ maxLen) (hu : IAt w AU cu) (hmu : cu.length ≤ maxLen) :
    Calls Try.prog 9 #[nv n A ps.length cap, .slice AV vs.length capv, .int .i64 X, .slice AU cu.length cq] w fun e w' => e = .returned (.bool true) ∧ Below w.heap.size w w' := by
  have hno : ∀ (hq : ∀ x, askB n ps vs X x = false) (A : Option Addr) (cap : Nat) (AV : Option Addr) (capv : Nat) (AU : Option Addr) (cq : Nat) (w : World), ps.length ≤ 1048576 → PAt w A ps → VAt w AV vs → vs.length ≤ capv → capv ≤ maxLen → Calls Try.prog 40 #[nv n A ps.length cap, .slice AV vs.length capv, .int .i64 X, .slice AU cu.length cq] w fun e w' => e = .returned (.tuple #[.int .i64 0, .int .i64 0, .bool false]) ∧ Below w.heap.size w w' := by
    intro hq A cap AV capv AU cq w hl h hv hcv hcm
    have h7 := worst_any n A cap ps AV capv vs X AU cq cu w h hl (fun _ => []) (fun _ => 0) (fun _ => false) (fun k hk w' hb => gent_no1 n A cap ps AV capv vs X (pAt ps k).id AU cq cu w' (fun w'' hb2 => by
      have h8 := burst_any n A cap ps AV capv vs X (pAt ps k).id w'' (h.kept (hb.trans (hb2.mono hb.size)) (Nat.le_refl _)) hm (hv.kept (hb.trans (hb2.mono hb.size)) (Nat.le_refl _)) hmv hcv hcm
      rwa [hq] at h8))
    rw [wTo_none ps _ _ (fun _ => rfl)] at h7
    exact h7
  cases hgv : goodV n ps vs with
  | false =>
    exact walkWorstBurst n A cap ps AV capv vs X AU cq cu w h hm hv hmv hu hmu 0 0 false
      (fun A cap AV capv AU cq w _ h hv _ _ _ _ => sworst_no1 n A cap ps AV capv vs X AU cq cu w h hm hv hmv hgv)
      (fun A cap AV capv AU cq w hl h hv hcv hcm _ _ => hno (fun x => askB_no (fun hh => by rw [hgv] at hh; cases hh.1)) A cap AV capv AU cq w hl h hv hcv hcm)
  | true =>
    cases hnx : nodeB n ps X with
    | false =>
      exact walkWorstBurst n A cap ps AV capv vs X AU cq cu w h hm hv hmv hu hmu 0 0 false
        (fun A cap AV capv AU cq w _ h hv _ _ _ _ => sworst_no2 n A cap ps AV capv vs X AU cq cu w h hm hv hmv hgv hnx)
        (fun A cap AV capv AU cq w hl h hv hcv hcm _ _ => hno (fun x => askB_no (fun hh => by rw [hnx] at hh; cases hh.2.1)) A cap AV capv AU cq w hl h hv hcv hcm)
    | true =>
      cases hc : custB n cu with
      | false =>
        exact walkWorstBurst n A cap ps AV capv vs X AU cq cu w h hm hv hmv hu hmu 0 0 false
          (fun A cap AV capv AU cq w _ h hv _ _ hu hul => sworst_no3 n A cap ps AV capv vs X AU cq cu w h hm hv hmv hgv hnx hu hul hc)
          (fun A cap AV capv AU cq w hl h hv hcv hcm hu hul => by
            have h7 := worst_any n A cap ps AV capv vs X AU cq cu w h hl (fun _ => []) (fun _ => 0) (fun _ => false) (fun k hk w' hb => gent_no2 n A cap ps AV capv vs X (pAt ps k).id AU cq cu w' (fun w'' hb2 => by
              have h8 := burst_any n A cap ps AV capv vs X (pAt ps k).id w'' (h.kept (hb.trans (hb2.mono hb.size)) (Nat.le_refl _)) hm (hv.kept (hb.trans (hb2.mono hb.size)) (Nat.le_refl _)) hmv hcv hcm
              rwa [askB_mk ⟨hgv, hnx, k, hk, rfl⟩] at h8) (hu.kept hb (Nat.le_refl _)) hul hc)
            rw [wTo_none ps _ _ (fun _ => rfl)] at h7
            exact h7)
      | true =>
        have hgd := goodV_of hgv
        have hnx2 := hnx
        obtain ⟨N, Y, rfl, rfl, hn1, hn2, hn3⟩ := node_of_good hnx2
        have hN8 := hgd.1.2.1
        have hcn : cu ≠ [] := by
          rintro rfl
          have := (custB_of hc).1
          simp at this
          omega
        have hpe : harmP N ps vs Y cu = fun l => sumL cu (nodesL N (wetP ps vs Y l) false) := funext (fun Q => by simp [harmP, hcn])
        have hex : ∀ k, ∃ t : Bool × List Int × Int, Res vs (cutB ps vs Y k) (harmP N ps vs Y cu) t.1 t.2.1 t.2.2 := fun k => by
          obtain ⟨ok, P, hP, hr⟩ := res_ex vs (ascV_of hgd) (cutB ps vs Y k) (harmP N ps vs Y cu) (fun Q => harmP_pos (custB_of hc).2 Q)
          exact ⟨(ok, P, hP), hr⟩
        obtain ⟨T, hT⟩ := Classical.skolem.mp hex
        have hpos : ∀ k, (T k).1 = true → 0 ≤ (T k).2.2 := fun k hk => by
          rcases hT k with ⟨_, _, _, hh, _⟩ | ⟨hf, _⟩
          · rw [hh]; exact harmP_pos (custB_of hc).2 _
          · rw [hf] at hk; cases hk
        exact walkWorstBurst N A cap ps AV capv vs Y AU cq cu w h hm hv hmv hu hmu _ _ _
          (fun A cap AV capv AU cq w _ h hv _ _ hu hul => sworst_yes N Y A cap ps AV capv vs AU cq cu w h hm hv hmv hgv hnx hu hul hc (fun k => (T k).2.1) (fun k => (T k).2.2) (fun k => (T k).1) hpos
            (fun k hk w' hb => sbest_any N Y k A cap ps AV capv vs (pAt ps k).id AU cq cu w' (h.kept hb (Nat.le_refl _)) (hv.kept hb (Nat.le_refl _)) hgd (by omega) (by omega) ⟨hk, rfl⟩ (hu.kept hb (Nat.le_refl _)) (.inr (custB_of hc)) (T k).2.1 (T k).2.2 (T k).1 (hT k)))
          (fun A cap AV capv AU cq w hl h hv hcv hcm hu hul => worst_any N A cap ps AV capv vs Y AU cq cu w h hl (fun k => (T k).2.1) (fun k => (T k).2.2) (fun k => (T k).1)
            (fun k hk w' hb => gent_yes N Y k A cap ps AV capv vs (pAt ps k).id AU cq cu w' (fun w'' hb2 => by
              have h8 := burst_any N A cap ps AV capv vs Y (pAt ps k).id w'' (h.kept (hb.trans (hb2.mono hb.size)) (Nat.le_refl _)) hm (hv.kept (hb.trans (hb2.mono hb.size)) (Nat.le_refl _)) hmv hcv hcm
              rwa [askB_mk ⟨hgv, hnx, k, hk, rfl⟩] at h8) (hu.kept hb (Nat.le_refl _)) hul hc (h.kept hb (Nat.le_refl _)) (hv.kept hb (Nat.le_refl _)) hgd (by omega) ⟨hk, rfl⟩ (T k).2.1 (T k).2.2 (T k).1 (by have h9 := hT k; rw [hpe] at h9; exact h9)))
end Go.Proofs.Ytbljmibaemgfeaa.S2

namespace Go.Proofs.Ytbljmibaemgfeaa.fnExactWorstBurst
open Go.ChangeShapes Go.WideShapes Go.ChangeAt Go.RowKit P2 S2
set_option linter.unusedVariables false

theorem own : ownKnob Try.prog.godebug = none := by kernel_rfl
theorem laidOut : laidOutB Try.prog = true := by kernel_rfl

set_option maxRecDepth 100000 in
theorem lifted (os : Os) (started : os.Started) (H : Type) (enc : TypeId × Value → H) :
    ReturnsInHanded {} Try.checked os 9 .any (Rows.fnExactWorstBurstSpec.pre6 enc Try.prog Try.f9 Rows.fnExactWorstBurstRow.domain false) (Rows.fnExactWorstBurstSpec.post enc Try.prog Try.f9 false true false false) := by
  refine returnsInHanded_of_change (C := Try.checked) own started (by kernel_rfl) Try.func9
    (ChangeSpec.witness6 (enc := enc) (C := Try.checked) false ⟨#[], #[.agg #[.int .i64 0, .slice none 0 0], .slice none 0 0, .int .i64 0, .slice none 0 0], []⟩ 8 (by kernel_rfl) (by kernel_rfl) (by kernel_rfl) (by kernel_rfl)) ?_
  intro W base args ds gs before hval0 hW hcnd _
  have hval : ∀ (j : Nat) t v, Try.f9.params[j]? = some t → args[j]? = some v → Value.okWide Try.prog W .any base t v := hval0
  have hW' := hW
  obtain ⟨p, q, hA0, hV, rfl, hfz, hnd⟩ := hW
  have hA : DataW.TrodAll enc Try.prog W 0 (fun _ => true) true Try.f9.params.toList args.toList ds p := hA0
  rw [Try.params9] at hA hval
  obtain ⟨v0, v1, v2, v3, d0, d1, d2, d3, p0, p1, p2, p3, rfl, rfl, rfl, h0, h1, h2, h3⟩ := trodAll_four hA
  obtain ⟨rfl, rfl⟩ := trodVars_none hV
  have k0 := h0
  have lt0 : ∀ x ∈ p0, x.block < W.heap.size := by obtain ⟨m, hm⟩ := k0; exact DataW.trod_lt m _ _ _ hm
  obtain ⟨n0, A0, cap0, ps0, rfl, at0, mx0⟩ := net_open (hval 0 24 v0 rfl rfl) h0
  have k1 := h1
  have lt1 : ∀ x ∈ p1, x.block < W.heap.size := by obtain ⟨m, hm⟩ := k1; exact DataW.trod_lt m _ _ _ hm
  obtain ⟨A1, cap1, vs1, rfl, at1, mx1⟩ := valvearg_open (hval 1 25 v1 rfl rfl) h1
  obtain ⟨a2, rfl, rfl, rfl, w2⟩ := open_int Try.underlying3 (hval 2 3 v2 rfl rfl) h2
  have k3 := h3
  have lt3 : ∀ x ∈ p3, x.block < W.heap.size := by obtain ⟨m, hm⟩ := k3; exact DataW.trod_lt m _ _ _ hm
  obtain ⟨A3, cap3, cu3, rfl, at3, mx3⟩ := intsarg_open (hval 3 26 v3 rfl rfl) h3
  clear hA0 hval0
  refine (law_worst n0 A0 cap0 ps0 A1 cap1 vs1 a2 A3 cap3 cu3 W at0 mx0 at1 mx1 at3 mx3).mono fun e W' ⟨he, bel⟩ => ?_
  subst he
  exact ⟨_, rfl, _, _, _, [], _, [], hW', trodAll_mk1 (shut_bool Try.underlying4 _), trodAll_mk4 (Below.trod laidOut (by kernel_rfl) (of_decide_eq_true (by kernel_rfl)) k0 bel lt0) (Below.trod laidOut (by kernel_rfl) (of_decide_eq_true (by kernel_rfl)) k1 bel lt1) (shut_int Try.underlying3 w2) (Below.trod laidOut (by kernel_rfl) (of_decide_eq_true (by kernel_rfl)) k3 bel lt3), rfl, bel.frame _, fun h => by cases h⟩

theorem proved : Rows.FnExactWorstBurstSaid :=
  OpenClaim.holds_of_wide 9 Try.f9 rfl rfl rfl rfl rfl rfl rfl ⟨rfl, rfl, rfl, rfl, rfl⟩ rfl rfl rfl rfl rfl (by kernel_rfl) Try.func9 (by kernel_rfl)
    (of_decide_eq_true (by kernel_rfl)) (by unfold Func.isWrapper; first | (rw [if_pos (by decide +kernel)]; kernel_rfl) | (rw [if_neg (by decide +kernel)]; exact ⟨rfl, rfl⟩))
    (fun os started H enc _ => lifted os started H enc)
end Go.Proofs.Ytbljmibaemgfeaa.fnExactWorstBurst
namespace Go.Proofs.Ytbljmibaemgfeaa
theorem FnExactWorstBurst_holds : Rows.FnExactWorstBurstSaid := fnExactWorstBurst.proved
#print axioms FnExactWorstBurst_holds
end Go.Proofs.Ytbljmibaemgfeaa
