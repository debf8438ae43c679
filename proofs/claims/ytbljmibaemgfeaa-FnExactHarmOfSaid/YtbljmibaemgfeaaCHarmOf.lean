/- The law FnExactHarmOf returns true for every network, valves, source, pipe, list and customers and leaves its arguments as they were. No conditions. -/
import Derived.Test.YtbljmibaemgfeaaKPa
import Derived.Deep.DeepCutAuto
import Derived.Test.YtbljmibaemgfeaaKPb
import Derived.Test.YtbljmibaemgfeaaKPc
import Derived.Test.YtbljmibaemgfeaaKPd
import Derived.Test.YtbljmibaemgfeaaRows
import Derived.Test.YtbljmibaemgfeaaOpenOne
import Derived.Test.YtbljmibaemgfeaaValOpen
import Derived.WalkKit
import Derived.ProofKit
import Derived.OpenShut
import Derived.ChangeOld
import Derived.Below
namespace Go.Proofs.Ytbljmibaemgfeaa.S2
open Go.RowKit P2 P4

set_option maxHeartbeats 16000000 in
set_option maxRecDepth 100000 in
theorem walkIsPlan (n : Int) (A : Option Addr) (cap : Nat) (ps : List Pp) (AV : Option Addr) (capv : Nat) (vs : List Vv) (x2 : Int) (x3 : Int) (AC4 : Option Addr) (cc4 : Nat) (cu4 : List Int) (w : World) (h : PAt w A ps) (hm : ps.length ≤ maxLen) (hv : VAt w AV vs) (hmv : vs.length ≤ maxLen) (hc4 : IAt w AC4 cu4) (hmc4 : cu4.length ≤ maxLen) (bv : Bool)
    (hs : ∀ (A : Option Addr) (cap : Nat) (AV : Option Addr) (capv : Nat) (AC4 : Option Addr) (cc4 : Nat) (w : World), ps.length ≤ 1048576 → PAt w A ps → VAt w AV vs → vs.length ≤ capv → capv ≤ maxLen → IAt w AC4 cu4 → cu4.length ≤ 1048576 → Calls Try.prog 17 #[nv n A ps.length cap, .slice AV vs.length capv, .int .i64 x2, .int .i64 x3, .slice AC4 cu4.length cc4] w fun e w' => e = .returned (.bool bv) ∧ Below w.heap.size w w')
    (hi : ∀ (A : Option Addr) (cap : Nat) (AV : Option Addr) (capv : Nat) (AC4 : Option Addr) (cc4 : Nat) (w : World), ps.length ≤ 1048576 → PAt w A ps → VAt w AV vs → vs.length ≤ capv → capv ≤ maxLen → IAt w AC4 cu4 → cu4.length ≤ 1048576 → Calls Try.prog 21 #[nv n A ps.length cap, .slice AV vs.length capv, .int .i64 x2, .int .i64 x3, .slice AC4 cu4.length cc4] w fun e w' => e = .returned (.bool bv) ∧ Below w.heap.size w w') :
    Calls Try.prog 3 #[nv n A ps.length cap, .slice AV vs.length capv, .int .i64 x2, .int .i64 x3, .slice AC4 cu4.length cc4] w fun e w' => e = .returned (.bool true) ∧ Below w.heap.size w w' := by
  have HA := Lib.hid h
  have HM := Lib.hid hm
  have HS := Lib.hid hs
  have HI := Lib.hid hi
  have HV := Lib.hid hv
  have HMV := Lib.hid hmv
  have HC4 := Lib.hid hc4
  have HMC4 := Lib.hid hmc4
  clear h hm hs hi hv hmv hc4 hmc4
  by_cases hci4 : 1048576 < cu4.length
  · have hlm4 : cu4.length ≤ 9223372036854775807 := by have := HMC4.out; unfold maxLen at this; omega
    go_enter Try.func3, Try.ntmps3
    go_wp2
    go_ret
    exact ⟨rfl, (Below.refl w.heap.size w).alloc (Nat.le_refl _) _⟩
  have hcl4 : cu4.length ≤ 1048576 := by omega
  clear hci4
  go_enter Try.func3, Try.ntmps3
  go_wp2_with (go_at_call 15; refine (sznet_le n A ps.length cap _ HM.out).mono ?_; rintro e w1 ⟨⟨r, rfl, hr⟩, hb1⟩; refine Hid.out ?_)
  have hB1 : Below (w.heap.size + 1) (w.alloc (.cells #[.int .i64 n, .slice A ps.length cap] 24)) w1 := by simpa using hb1
  clear hb1
  obtain ⟨b0, b1⟩ := box2 hB1
  by_cases hr0 : r < 0
  · refine Lib.hid ?_
    go_wp2
    go_ret
    exact ⟨rfl, below_box hB1⟩
  have hlen : ps.length ≤ 1048576 := by rcases hr with h | h; exact absurd h hr0; exact h.2.2
  have hr9 : r ≤ 1048576 := by rcases hr with h | h; exact absurd h hr0; exact h.2.1
  clear hr
  refine Lib.hid ?_
  go_wp2_with (go_at_call 16; refine (szvalves_any AV vs.length capv r (by omega) hr9 _ HMV.out).mono ?_; rintro e w1x ⟨⟨r2, rfl, hr2⟩, hw⟩; replace hw := hw.symm; subst hw; refine Hid.out ?_)
  by_cases hr20 : r2 < 0
  · refine Lib.hid ?_
    go_wp2
    go_ret
    exact ⟨rfl, below_box hB1⟩
  have hlenv : vs.length ≤ 1048576 := by rcases hr2 with h | h; exact absurd h hr20; exact h.2.2
  clear hr2 hr9
  have hcm : vs.length ≤ maxLen := by unfold maxLen; omega
  have hz1 : w.heap.size < w1.heap.size := box_lt hB1
  refine Lib.hid ?_
  go_wp2_with (first | (go_at_call 18; refine (tonet_any n A cap ps _ (HA.out.kept (below_box hB1) (Nat.le_refl _)) hlen).mono ?_; rintro e w2 ⟨⟨ga, rfl, hga, hrowa⟩, hb2⟩; refine Hid.out ?_) | fail)
  have Xa_2 := Lib.hid hrowa
  have hla := hrowa.lt
  clear hrowa
  have hz2 := hb2.size
  have hB2 := on_call hB1 hb2
  clear b0 b1
  obtain ⟨b0, b1⟩ := box2 hB2
  clear hB1 hb2
  refine Lib.hid ?_
  go_wp2_with (first | (go_at_call 19; refine (tovalves_any AV capv vs _ (HV.out.kept (below_box hB2) (Nat.le_refl _)) hlenv).mono ?_; rintro e w3 ⟨⟨gb, rfl, hgb, hrowb⟩, hb3⟩; refine Hid.out ?_) | fail)
  have Zb_3 := Lib.hid hrowb
  have hlb := hrowb.lt
  clear hrowb
  have hz3 := hb3.size
  have hB3 := on_call hB2 hb3
  have Xa_3 := Lib.hid (Xa_2.out.kept hb3 (by omega))
  clear b0 b1
  obtain ⟨b0, b1⟩ := box2 hB3
  clear hB2 Xa_2 hb3
  refine Lib.hid ?_
  go_wp2_with (first | (go_at_call 20; refine (toints_any AC4 cc4 cu4 _ (HC4.out.kept (below_box hB3) (Nat.le_refl _)) hcl4).mono ?_; rintro e w4 ⟨⟨ge4, rfl, hge4, hOe4⟩, hb4⟩; refine Hid.out ?_) | fail)
  have Oe4_4 := Lib.hid hOe4
  have hle4 := iown_lt' hOe4
  clear hOe4
  have hz4 := hb4.size
  have hB4 := on_call hB3 hb4
  have Xa_4 := Lib.hid (Xa_3.out.kept hb4 (by omega))
  have Zb_4 := Lib.hid (Zb_3.out.kept hb4 (by omega))
  clear b0 b1
  obtain ⟨b0, b1⟩ := box2 hB4
  clear hB3 Xa_3 Zb_3 hb4
  refine Lib.hid ?_
  go_wp2_with (first | (go_at_call 17; refine (HS.out _ _ _ _ _ _ _ hlen Xa_4.out.at_ Zb_4.out.at_ (Nat.le_refl _) hcm Oe4_4.out.iat hcl4).mono ?_; rintro e w5 ⟨rfl, hb5⟩; refine Hid.out ?_) | fail)
  clear Xa_4 Zb_4 Oe4_4
  have hz5 := hb5.size
  have hB5 := on_call hB4 hb5
  clear b0 b1
  obtain ⟨b0, b1⟩ := box2 hB5
  clear hB4 hb5
  refine Lib.hid ?_
  go_wp2_with (first | (go_at_call 18; refine (tonet_any n A cap ps _ (HA.out.kept (below_box hB5) (Nat.le_refl _)) hlen).mono ?_; rintro e w6 ⟨⟨gx, rfl, hgx, hrowx⟩, hb6⟩; refine Hid.out ?_) | fail)
  have Xx_6 := Lib.hid hrowx
  have hlx := hrowx.lt
  clear hrowx
  have hz6 := hb6.size
  have hB6 := on_call hB5 hb6
  clear b0 b1
  obtain ⟨b0, b1⟩ := box2 hB6
  clear hB5 hb6
  have HBX := Lib.hid (show Below w6.heap.size w6 (w6.alloc (.cells #[.int .i64 n, .slice (some ⟨gx, 0, none⟩) ps.length ps.length] 32)) from (Below.refl _ _).alloc (Nat.le_refl _) _)
  have HBX2 := Lib.hid (on_call hB6 HBX.out)
  refine Lib.hid ?_
  go_wp2_with (first | (go_at_call 19; refine (tovalves_any AV capv vs _ (HV.out.kept (below_box HBX2.out) (Nat.le_refl _)) hlenv).mono ?_; rintro e w7 ⟨⟨gy, rfl, hgy, hrowy⟩, hbq⟩; refine Hid.out ?_) | fail)
  obtain ⟨y0_7, y1_7⟩ := box2 (w := w6) (by simpa using hbq)
  have hb7 := HBX.out.trans (hbq.mono (by simp))
  have Zy_7 := Lib.hid hrowy
  have hly := hrowy.lt
  have hzq := hbq.size
  simp at hzq hgy
  clear hrowy hbq HBX HBX2
  have hz7 := hb7.size
  have hB7 := on_call hB6 hb7
  have Xx_7 := Lib.hid (Xx_6.out.kept hb7 (by omega))
  clear b0 b1
  obtain ⟨b0, b1⟩ := box2 hB7
  clear hB6 Xx_6 hb7
  refine Lib.hid ?_
  go_wp2_with (first | (go_at_call 20; refine (toints_any AC4 cc4 cu4 _ (HC4.out.kept (below_box hB7) (Nat.le_refl _)) hcl4).mono ?_; rintro e w8 ⟨⟨gz4, rfl, hgz4, hOz4⟩, hb8⟩; refine Hid.out ?_) | fail)
  have Oz4_8 := Lib.hid hOz4
  have hlz4 := iown_lt' hOz4
  clear hOz4
  have hz8 := hb8.size
  have hB8 := on_call hB7 hb8
  have Xx_8 := Lib.hid (Xx_7.out.kept hb8 (by omega))
  have Zy_8 := Lib.hid (Zy_7.out.kept hb8 (by omega))
  have y0_8 := (hb8.cell (p := ⟨w6.heap.size, 0, none⟩) (by dsimp only; omega)).trans y0_7
  have y1_8 := (hb8.cell (p := ⟨w6.heap.size, 1, none⟩) (by dsimp only; omega)).trans y1_7
  clear b0 b1
  obtain ⟨b0, b1⟩ := box2 hB8
  clear hB7 Xx_7 Zy_7 y0_7 y1_7 hb8
  refine Lib.hid ?_
  go_wp2_with (first | (go_at_call 21; refine (HI.out _ _ _ _ _ _ _ hlen Xx_8.out.at_ Zy_8.out.at_ (Nat.le_refl _) hcm Oz4_8.out.iat hcl4).mono ?_; rintro e w9 ⟨rfl, hb9⟩; refine Hid.out ?_) | fail)
  have hz9 := hb9.size
  have hB9 := on_call hB8 hb9
  have Xx_9 := Lib.hid (Xx_8.out.kept hb9 (by omega))
  have Zy_9 := Lib.hid (Zy_8.out.kept hb9 (by omega))
  have y0_9 := (hb9.cell (p := ⟨w6.heap.size, 0, none⟩) (by dsimp only; omega)).trans y0_8
  have y1_9 := (hb9.cell (p := ⟨w6.heap.size, 1, none⟩) (by dsimp only; omega)).trans y1_8
  have Oz4_9 := Lib.hid (Oz4_8.out.on hb9)
  clear b0 b1
  obtain ⟨b0, b1⟩ := box2 hB9
  clear hB8 Xx_8 Zy_8 y0_8 y1_8 Oz4_8 hb9
  refine Lib.hid ?_
  go_upto_region 17 with (fail)
  go_cut [58] (fun st wx => st = .bool false ∧ Hid (Below w9.heap.size w9 wx))
  case first =>
    have hA7 := Lib.hid (HA.out.kept (below_box hB9) (Nat.le_refl _))
    have hat7 := Lib.hid Xx_9.out.at_
    have hx4 : w6.heap.size < w9.heap.size := by omega
    go_region_with (first
      | (go_at_call 18; refine (tonet_any n A cap ps w9.drew hA7.out hlen).mono ?_; rintro e wqa ⟨⟨gqa, rfl, hgqa, hrowqa⟩, hbqa⟩; have HBqa := Lib.hid hbqa; have hatqa := Lib.hid hrowqa.at_; have hatqb := Lib.hid (PAt.kept (w := w9.drew) hat7.out hbqa (Nat.le_refl _)); have z0 := (hbqa.cell (p := ⟨w6.heap.size, 0, none⟩) hx4).trans y0_9; have z1 := (hbqa.cell (p := ⟨w6.heap.size, 1, none⟩) hx4).trans y1_9; clear hgqa hrowqa hbqa)
      | (go_at_call 22; refine (eqnet_same n _ _ _ _ ps wqa hatqb.out hatqa.out hlen).mono ?_; rintro e wqb ⟨rfl, hbqb⟩))
    all_goals
      go_wp2_with fail
      go_meet
      exact ⟨rfl, Lib.hid ((Below.refl w9.heap.size w9).drew.trans (HBqa.out.trans (hbqb.mono HBqa.out.size)))⟩
  case rest =>
    obtain ⟨rfl, hbc⟩ := hcut
    obtain ⟨w10, hwb⟩ : ∃ w10, w10 = wc := ⟨_, rfl⟩
    subst hwb
    have hb10 := hbc.out
    clear hbc
    have hz10 := hb10.size
    have hB10 := on_call hB9 hb10
    have Xx_10 := Lib.hid (Xx_9.out.kept hb10 (by omega))
    have Zy_10 := Lib.hid (Zy_9.out.kept hb10 (by omega))
    have y0_10 := (hb10.cell (p := ⟨w6.heap.size, 0, none⟩) (by dsimp only; omega)).trans y0_9
    have y1_10 := (hb10.cell (p := ⟨w6.heap.size, 1, none⟩) (by dsimp only; omega)).trans y1_9
    have Oz4_10 := Lib.hid (Oz4_9.out.on hb10)
    clear b0 b1
    obtain ⟨b0, b1⟩ := box2 hB10
    clear hB9 Xx_9 Zy_9 y0_9 y1_9 Oz4_9 hb10
    refine Lib.hid ?_
    go_wp2_with (first | (go_at_call 19; refine (tovalves_any AV capv vs _ (HV.out.kept (below_box hB10) (Nat.le_refl _)) hlenv).mono ?_; rintro e w11 ⟨⟨gu, rfl, hgu, hrowu⟩, hb11⟩; refine Hid.out ?_) | fail)
    have Zu_11 := Lib.hid hrowu
    have hlu := hrowu.lt
    clear hrowu
    have hz11 := hb11.size
    have hB11 := on_call hB10 hb11
    have Xx_11 := Lib.hid (Xx_10.out.kept hb11 (by omega))
    have Zy_11 := Lib.hid (Zy_10.out.kept hb11 (by omega))
    have y0_11 := (hb11.cell (p := ⟨w6.heap.size, 0, none⟩) (by dsimp only; omega)).trans y0_10
    have y1_11 := (hb11.cell (p := ⟨w6.heap.size, 1, none⟩) (by dsimp only; omega)).trans y1_10
    have Oz4_11 := Lib.hid (Oz4_10.out.on hb11)
    clear b0 b1
    obtain ⟨b0, b1⟩ := box2 hB11
    clear hB10 Xx_10 Zy_10 y0_10 y1_10 Oz4_10 hb11
    refine Lib.hid ?_
    go_wp2_with (first | (go_at_call 23; refine (eqvalves_same _ _ _ _ vs w11 Zy_11.out.at_ Zu_11.out.at_ hlenv).mono ?_; rintro e w12 ⟨rfl, hb12⟩; refine Hid.out ?_) | fail)
    have hz12 := hb12.size
    have hB12 := on_call hB11 hb12
    have Xx_12 := Lib.hid (Xx_11.out.kept hb12 (by omega))
    have Zy_12 := Lib.hid (Zy_11.out.kept hb12 (by omega))
    have y0_12 := (hb12.cell (p := ⟨w6.heap.size, 0, none⟩) (by dsimp only; omega)).trans y0_11
    have y1_12 := (hb12.cell (p := ⟨w6.heap.size, 1, none⟩) (by dsimp only; omega)).trans y1_11
    have Oz4_12 := Lib.hid (Oz4_11.out.on hb12)
    clear b0 b1
    obtain ⟨b0, b1⟩ := box2 hB12
    clear hB11 Xx_11 Zy_11 y0_11 y1_11 Oz4_11 hb12
    refine Lib.hid ?_
    go_wp2_with (first | (go_at_call 20; refine (toints_any AC4 cc4 cu4 _ (HC4.out.kept (below_box hB12) (Nat.le_refl _)) hcl4).mono ?_; rintro e w13 ⟨⟨gv4, rfl, hgv4, hOv4⟩, hb13⟩; refine Hid.out ?_) | fail)
    have Ov4_13 := Lib.hid hOv4
    have hlv4 := iown_lt' hOv4
    clear hOv4
    have hz13 := hb13.size
    have hB13 := on_call hB12 hb13
    have Xx_13 := Lib.hid (Xx_12.out.kept hb13 (by omega))
    have Zy_13 := Lib.hid (Zy_12.out.kept hb13 (by omega))
    have y0_13 := (hb13.cell (p := ⟨w6.heap.size, 0, none⟩) (by dsimp only; omega)).trans y0_12
    have y1_13 := (hb13.cell (p := ⟨w6.heap.size, 1, none⟩) (by dsimp only; omega)).trans y1_12
    have Oz4_13 := Lib.hid (Oz4_12.out.on hb13)
    clear b0 b1
    obtain ⟨b0, b1⟩ := box2 hB13
    clear hB12 Xx_12 Zy_12 y0_12 y1_12 Oz4_12 hb13
    refine Lib.hid ?_
    go_wp2_with (first | (go_at_call 24; refine (eqints_same _ _ _ _ cu4 w13 Oz4_13.out.iat Ov4_13.out.iat hcl4).mono ?_; rintro e w14 ⟨rfl, hb14⟩; refine Hid.out ?_) | fail)
    have hz14 := hb14.size
    have hB14 := on_call hB13 hb14
    have Xx_14 := Lib.hid (Xx_13.out.kept hb14 (by omega))
    have Zy_14 := Lib.hid (Zy_13.out.kept hb14 (by omega))
    have y0_14 := (hb14.cell (p := ⟨w6.heap.size, 0, none⟩) (by dsimp only; omega)).trans y0_13
    have y1_14 := (hb14.cell (p := ⟨w6.heap.size, 1, none⟩) (by dsimp only; omega)).trans y1_13
    have Oz4_14 := Lib.hid (Oz4_13.out.on hb14)
    clear b0 b1
    obtain ⟨b0, b1⟩ := box2 hB14
    clear hB13 Xx_13 Zy_13 y0_13 y1_13 Oz4_13 hb14
    refine Lib.hid ?_
    go_wp2_with fail
    go_ret
    exact ⟨rfl, below_box hB14⟩
end Go.Proofs.Ytbljmibaemgfeaa.S2

namespace Go.Proofs.Ytbljmibaemgfeaa.S2
open Go.RowKit P2 P4
/-- Whether a list is a plan, for the two sides. -/
def PlanV (n : Int) (ps : List Pp) (vs : List Vv) (X x : Int) (l : List Int) (v : Bool) : Prop :=
  (askB n ps vs X x = false ∧ v = false) ∨ (askB n ps vs X x = true ∧ plB vs l = false ∧ v = false) ∨
  (askB n ps vs X x = true ∧ plB vs l = true ∧ ∃ N Y i : Nat, n = (N : Int) ∧ X = (Y : Int) ∧ At ps x i ∧ v = cutB ps vs Y i l)
theorem planV_ex (n : Int) (ps : List Pp) (vs : List Vv) (X x : Int) (l : List Int) : ∃ v, PlanV n ps vs X x l v := by
  cases hq : askB n ps vs X x with
  | false => exact ⟨false, .inl ⟨hq, rfl⟩⟩
  | true =>
    cases hp : plB vs l with
    | false => exact ⟨false, .inr (.inl ⟨hq, hp, rfl⟩)⟩
    | true =>
      obtain ⟨_, hx, i, hi⟩ := askB_of hq
      obtain ⟨N, Y, rfl, rfl, _, _, _⟩ := node_of_good hx
      exact ⟨_, .inr (.inr ⟨hq, hp, N, Y, i, rfl, rfl, hi, rfl⟩)⟩
theorem splan_v {n : Int} {ps : List Pp} {vs : List Vv} {X x : Int} {l : List Int} {v : Bool} (hp : PlanV n ps vs X x l v) (A : Option Addr) (cap : Nat) (AV : Option Addr) (capv : Nat) (AC : Option Addr) (cc : Nat) (w : World) (h : PAt w A ps) (hm : ps.length ≤ maxLen) (hv : VAt w AV vs) (hmv : vs.length ≤ maxLen) (hc : IAt w AC l) (hcl : l.length ≤ 1048576) :
    Calls Try.prog 80 #[nv n A ps.length cap, .slice AV vs.length capv, .int .i64 X, .int .i64 x, .slice AC l.length cc] w fun e w' => e = .returned (.bool v) ∧ Below w.heap.size w w' := by
  rcases hp with ⟨hq, rfl⟩ | ⟨hq, hp, rfl⟩ | ⟨hq, hp, N, Y, i, rfl, rfl, hi, rfl⟩
  · exact splan_no1 n A cap ps AV capv vs X x AC cc l w h hm hv hmv hq
  · cases hr : risB l 1 99 with
    | false => exact splan_no2 n A cap ps AV capv vs X x AC cc l w h hm hv hmv hc hcl hq hr
    | true =>
      obtain ⟨_, hx, i, hi⟩ := askB_of hq
      obtain ⟨N, Y, rfl, rfl, _, _, _⟩ := node_of_good hx
      have h7 := splan_in i N Y A cap ps AV capv vs x AC cc l w h hm hv hmv hc hcl hq hi hr
      rwa [hp, Bool.false_and] at h7
  · have hr : risB l 1 99 = true := risB_mk (ris_of_pl (goodV_of (askB_of hq).1) (plB_of hp))
    have h7 := splan_in i N Y A cap ps AV capv vs x AC cc l w h hm hv hmv hc hcl hq hi hr
    rwa [hp, Bool.true_and] at h7
theorem wplan_v {n : Int} {ps : List Pp} {vs : List Vv} {X x : Int} {l : List Int} {v : Bool} (hp : PlanV n ps vs X x l v) : ∃ s, ∀ (A : Option Addr) (cap : Nat) (AV : Option Addr) (capv : Nat) (AC : Option Addr) (cc : Nat) (w : World) (_ : PAt w A ps) (_ : ps.length ≤ maxLen) (_ : VAt w AV vs) (_ : vs.length ≤ maxLen) (_ : vs.length ≤ capv) (_ : capv ≤ maxLen) (_ : IAt w AC l) (_ : l.length ≤ 1048576),
    Calls Try.prog 82 #[nv n A ps.length cap, .slice AV vs.length capv, .int .i64 X, .int .i64 x, .slice AC l.length cc] w (GivesE w s v) := by
  rcases hp with ⟨hq, rfl⟩ | ⟨hq, hp, rfl⟩ | ⟨hq, hp, N, Y, i, rfl, rfl, hi, rfl⟩
  · exact ⟨es0, fun A cap AV capv AC cc w h hm hv hmv hcv hcm _ _ => wplan_no1 n A cap ps AV capv vs X x AC cc l w h hm hv hmv hcv hcm hq⟩
  · exact ⟨es0, fun A cap AV capv AC cc w h hm hv hmv hcv hcm hc hcl => wplan_no2 n A cap ps AV capv vs X x AC cc l w h hm hv hmv hcv hcm hc hcl hq hp⟩
  · exact ⟨_, fun A cap AV capv AC cc w h hm hv hmv hcv hcm hc hcl => wplan_yes N Y i A cap ps AV capv vs x AC cc l w h hm hv hmv hcv hcm hc hcl hq hi hp⟩
theorem law_isplan (n : Int) (A : Option Addr) (cap : Nat) (ps : List Pp) (AV : Option Addr) (capv : Nat) (vs : List Vv) (X x : Int) (AC : Option Addr) (cc : Nat) (l : List Int) (w : World) (h : PAt w A ps) (hm : ps.length ≤ maxLen) (hv : VAt w AV vs) (hmv : vs.length ≤ maxLen) (hc : IAt w AC l) (hmc : l.length ≤ maxLen) :
    Calls Try.prog 3 #[nv n A ps.length cap, .slice AV vs.length capv, .int .i64 X, .int .i64 x, .slice AC l.length cc] w fun e w' => e = .returned (.bool true) ∧ Below w.heap.size w w' := by
  obtain ⟨v, hp⟩ := planV_ex n ps vs X x l
  obtain ⟨s, hs⟩ := wplan_v hp
  exact walkIsPlan n A cap ps AV capv vs X x AC cc l w h hm hv hmv hc hmc v
    (fun A cap AV capv AC cc w _ h hv _ _ hc hcl => sisplan_of v n A cap ps AV capv vs X x AC cc l w (fun w' hb => splan_v hp A cap AV capv AC cc w' (h.kept hb (Nat.le_refl _)) hm (hv.kept hb (Nat.le_refl _)) hmv (hc.kept hb (Nat.le_refl _)) hcl))
    (fun A cap AV capv AC cc w _ h hv hcv hcm hc hcl => isplan_of s v n A cap ps AV capv vs X x AC cc l w (fun w' hb => hs A cap AV capv AC cc w' (h.kept hb (Nat.le_refl _)) hm (hv.kept hb (Nat.le_refl _)) hmv hcv hcm (hc.kept hb (Nat.le_refl _)) hcl))
end Go.Proofs.Ytbljmibaemgfeaa.S2

namespace Go.Proofs.Ytbljmibaemgfeaa.S2
open Go.RowKit P2 P4

set_option maxHeartbeats 16000000 in
set_option maxRecDepth 100000 in
theorem walkHarmOf (n : Int) (A : Option Addr) (cap : Nat) (ps : List Pp) (AV : Option Addr) (capv : Nat) (vs : List Vv) (x2 : Int) (x3 : Int) (AC4 : Option Addr) (cc4 : Nat) (cu4 : List Int) (AC5 : Option Addr) (cc5 : Nat) (cu5 : List Int) (w : World) (h : PAt w A ps) (hm : ps.length ≤ maxLen) (hv : VAt w AV vs) (hmv : vs.length ≤ maxLen) (hc4 : IAt w AC4 cu4) (hmc4 : cu4.length ≤ maxLen) (hc5 : IAt w AC5 cu5) (hmc5 : cu5.length ≤ maxLen) (cv : Int) (ok : Bool)
    (hs : ∀ (A : Option Addr) (cap : Nat) (AV : Option Addr) (capv : Nat) (AC4 : Option Addr) (cc4 : Nat) (AC5 : Option Addr) (cc5 : Nat) (w : World), ps.length ≤ 1048576 → PAt w A ps → VAt w AV vs → vs.length ≤ capv → capv ≤ maxLen → IAt w AC4 cu4 → cu4.length ≤ 1048576 → IAt w AC5 cu5 → cu5.length ≤ 1048576 → Calls Try.prog 31 #[nv n A ps.length cap, .slice AV vs.length capv, .int .i64 x2, .int .i64 x3, .slice AC4 cu4.length cc4, .slice AC5 cu5.length cc5] w fun e w' => e = .returned (.tuple #[.int .i64 cv, .bool ok]) ∧ Below w.heap.size w w')
    (hi : ∀ (A : Option Addr) (cap : Nat) (AV : Option Addr) (capv : Nat) (AC4 : Option Addr) (cc4 : Nat) (AC5 : Option Addr) (cc5 : Nat) (w : World), ps.length ≤ 1048576 → PAt w A ps → VAt w AV vs → vs.length ≤ capv → capv ≤ maxLen → IAt w AC4 cu4 → cu4.length ≤ 1048576 → IAt w AC5 cu5 → cu5.length ≤ 1048576 → Calls Try.prog 32 #[nv n A ps.length cap, .slice AV vs.length capv, .int .i64 x2, .int .i64 x3, .slice AC4 cu4.length cc4, .slice AC5 cu5.length cc5] w fun e w' => e = .returned (.tuple #[.int .i64 cv, .bool ok]) ∧ Below w.heap.size w w') :
    Calls Try.prog 5 #[nv n A ps.length cap, .slice AV vs.length capv, .int .i64 x2, .int .i64 x3, .slice AC4 cu4.length cc4, .slice AC5 cu5.length cc5] w fun e w' => e = .returned (.bool true) ∧ Below w.heap.size w w' := by
  have HA := Lib.hid h
  have HM := Lib.hid hm
  have HS := Lib.hid hs
  have HI := Lib.hid hi
  have HV := Lib.hid hv
  have HMV := Lib.hid hmv
  have HC4 := Lib.hid hc4
  have HMC4 := Lib.hid hmc4
  have HC5 := Lib.hid hc5
  have HMC5 := Lib.hid hmc5
  clear h hm hs hi hv hmv hc4 hmc4 hc5 hmc5
  by_cases hci4 : 1048576 < cu4.length
  · have hlm4 : cu4.length ≤ 9223372036854775807 := by have := HMC4.out; unfold maxLen at this; omega
    go_enter Try.func5, Try.ntmps5
    go_wp2
    go_ret
    exact ⟨rfl, (Below.refl w.heap.size w).alloc (Nat.le_refl _) _⟩
  have hcl4 : cu4.length ≤ 1048576 := by omega
  clear hci4
  by_cases hci5 : 1048576 < cu5.length
  · have hlm5 : cu5.length ≤ 9223372036854775807 := by have := HMC5.out; unfold maxLen at this; omega
    go_enter Try.func5, Try.ntmps5
    go_wp2
    go_ret
    exact ⟨rfl, (Below.refl w.heap.size w).alloc (Nat.le_refl _) _⟩
  have hcl5 : cu5.length ≤ 1048576 := by omega
  clear hci5
  go_enter Try.func5, Try.ntmps5
  go_wp2_with (go_at_call 15; refine (sznet_le n A ps.length cap _ HM.out).mono ?_; rintro e w1 ⟨⟨r, rfl, hr⟩, hb1⟩; refine Hid.out ?_)
  have hB1 : Below (w.heap.size + 1) (w.alloc (.cells #[.int .i64 n, .slice A ps.length cap] 24)) w1 := by simpa using hb1
  clear hb1
  obtain ⟨b0, b1⟩ := box2 hB1
  by_cases hr0 : r < 0
  · refine Lib.hid ?_
    go_wp2
    go_ret
    exact ⟨rfl, below_box hB1⟩
  have hlen : ps.length ≤ 1048576 := by rcases hr with h | h; exact absurd h hr0; exact h.2.2
  have hr9 : r ≤ 1048576 := by rcases hr with h | h; exact absurd h hr0; exact h.2.1
  clear hr
  refine Lib.hid ?_
  go_wp2_with (go_at_call 16; refine (szvalves_any AV vs.length capv r (by omega) hr9 _ HMV.out).mono ?_; rintro e w1x ⟨⟨r2, rfl, hr2⟩, hw⟩; replace hw := hw.symm; subst hw; refine Hid.out ?_)
  by_cases hr20 : r2 < 0
  · refine Lib.hid ?_
    go_wp2
    go_ret
    exact ⟨rfl, below_box hB1⟩
  have hlenv : vs.length ≤ 1048576 := by rcases hr2 with h | h; exact absurd h hr20; exact h.2.2
  clear hr2 hr9
  have hcm : vs.length ≤ maxLen := by unfold maxLen; omega
  have hz1 : w.heap.size < w1.heap.size := box_lt hB1
  refine Lib.hid ?_
  go_wp2_with (first | (go_at_call 18; refine (tonet_any n A cap ps _ (HA.out.kept (below_box hB1) (Nat.le_refl _)) hlen).mono ?_; rintro e w2 ⟨⟨ga, rfl, hga, hrowa⟩, hb2⟩; refine Hid.out ?_) | fail)
  have Xa_2 := Lib.hid hrowa
  have hla := hrowa.lt
  clear hrowa
  have hz2 := hb2.size
  have hB2 := on_call hB1 hb2
  clear b0 b1
  obtain ⟨b0, b1⟩ := box2 hB2
  clear hB1 hb2
  refine Lib.hid ?_
  go_wp2_with (first | (go_at_call 19; refine (tovalves_any AV capv vs _ (HV.out.kept (below_box hB2) (Nat.le_refl _)) hlenv).mono ?_; rintro e w3 ⟨⟨gb, rfl, hgb, hrowb⟩, hb3⟩; refine Hid.out ?_) | fail)
  have Zb_3 := Lib.hid hrowb
  have hlb := hrowb.lt
  clear hrowb
  have hz3 := hb3.size
  have hB3 := on_call hB2 hb3
  have Xa_3 := Lib.hid (Xa_2.out.kept hb3 (by omega))
  clear b0 b1
  obtain ⟨b0, b1⟩ := box2 hB3
  clear hB2 Xa_2 hb3
  refine Lib.hid ?_
  go_wp2_with (first | (go_at_call 20; refine (toints_any AC4 cc4 cu4 _ (HC4.out.kept (below_box hB3) (Nat.le_refl _)) hcl4).mono ?_; rintro e w4 ⟨⟨ge4, rfl, hge4, hOe4⟩, hb4⟩; refine Hid.out ?_) | fail)
  have Oe4_4 := Lib.hid hOe4
  have hle4 := iown_lt' hOe4
  clear hOe4
  have hz4 := hb4.size
  have hB4 := on_call hB3 hb4
  have Xa_4 := Lib.hid (Xa_3.out.kept hb4 (by omega))
  have Zb_4 := Lib.hid (Zb_3.out.kept hb4 (by omega))
  clear b0 b1
  obtain ⟨b0, b1⟩ := box2 hB4
  clear hB3 Xa_3 Zb_3 hb4
  refine Lib.hid ?_
  go_wp2_with (first | (go_at_call 20; refine (toints_any AC5 cc5 cu5 _ (HC5.out.kept (below_box hB4) (Nat.le_refl _)) hcl5).mono ?_; rintro e w5 ⟨⟨ge5, rfl, hge5, hOe5⟩, hb5⟩; refine Hid.out ?_) | fail)
  have Oe5_5 := Lib.hid hOe5
  have hle5 := iown_lt' hOe5
  clear hOe5
  have hz5 := hb5.size
  have hB5 := on_call hB4 hb5
  have Xa_5 := Lib.hid (Xa_4.out.kept hb5 (by omega))
  have Zb_5 := Lib.hid (Zb_4.out.kept hb5 (by omega))
  have Oe4_5 := Lib.hid (Oe4_4.out.on hb5)
  clear b0 b1
  obtain ⟨b0, b1⟩ := box2 hB5
  clear hB4 Xa_4 Zb_4 Oe4_4 hb5
  refine Lib.hid ?_
  go_wp2_with (first | (go_at_call 31; refine (HS.out _ _ _ _ _ _ _ _ _ hlen Xa_5.out.at_ Zb_5.out.at_ (Nat.le_refl _) hcm Oe4_5.out.iat hcl4 Oe5_5.out.iat hcl5).mono ?_; rintro e w6 ⟨rfl, hb6⟩; refine Hid.out ?_) | fail)
  clear Xa_5 Zb_5 Oe4_5 Oe5_5
  have hz6 := hb6.size
  have hB6 := on_call hB5 hb6
  clear b0 b1
  obtain ⟨b0, b1⟩ := box2 hB6
  clear hB5 hb6
  refine Lib.hid ?_
  go_wp2_with (first | (go_at_call 18; refine (tonet_any n A cap ps _ (HA.out.kept (below_box hB6) (Nat.le_refl _)) hlen).mono ?_; rintro e w7 ⟨⟨gx, rfl, hgx, hrowx⟩, hb7⟩; refine Hid.out ?_) | fail)
  have Xx_7 := Lib.hid hrowx
  have hlx := hrowx.lt
  clear hrowx
  have hz7 := hb7.size
  have hB7 := on_call hB6 hb7
  clear b0 b1
  obtain ⟨b0, b1⟩ := box2 hB7
  clear hB6 hb7
  have HBX := Lib.hid (show Below w7.heap.size w7 (w7.alloc (.cells #[.int .i64 n, .slice (some ⟨gx, 0, none⟩) ps.length ps.length] 32)) from (Below.refl _ _).alloc (Nat.le_refl _) _)
  have HBX2 := Lib.hid (on_call hB7 HBX.out)
  refine Lib.hid ?_
  go_wp2_with (first | (go_at_call 19; refine (tovalves_any AV capv vs _ (HV.out.kept (below_box HBX2.out) (Nat.le_refl _)) hlenv).mono ?_; rintro e w8 ⟨⟨gy, rfl, hgy, hrowy⟩, hbq⟩; refine Hid.out ?_) | fail)
  obtain ⟨y0_8, y1_8⟩ := box2 (w := w7) (by simpa using hbq)
  have hb8 := HBX.out.trans (hbq.mono (by simp))
  have Zy_8 := Lib.hid hrowy
  have hly := hrowy.lt
  have hzq := hbq.size
  simp at hzq hgy
  clear hrowy hbq HBX HBX2
  have hz8 := hb8.size
  have hB8 := on_call hB7 hb8
  have Xx_8 := Lib.hid (Xx_7.out.kept hb8 (by omega))
  clear b0 b1
  obtain ⟨b0, b1⟩ := box2 hB8
  clear hB7 Xx_7 hb8
  refine Lib.hid ?_
  go_wp2_with (first | (go_at_call 20; refine (toints_any AC4 cc4 cu4 _ (HC4.out.kept (below_box hB8) (Nat.le_refl _)) hcl4).mono ?_; rintro e w9 ⟨⟨gz4, rfl, hgz4, hOz4⟩, hb9⟩; refine Hid.out ?_) | fail)
  have Oz4_9 := Lib.hid hOz4
  have hlz4 := iown_lt' hOz4
  clear hOz4
  have hz9 := hb9.size
  have hB9 := on_call hB8 hb9
  have Xx_9 := Lib.hid (Xx_8.out.kept hb9 (by omega))
  have Zy_9 := Lib.hid (Zy_8.out.kept hb9 (by omega))
  have y0_9 := (hb9.cell (p := ⟨w7.heap.size, 0, none⟩) (by dsimp only; omega)).trans y0_8
  have y1_9 := (hb9.cell (p := ⟨w7.heap.size, 1, none⟩) (by dsimp only; omega)).trans y1_8
  clear b0 b1
  obtain ⟨b0, b1⟩ := box2 hB9
  clear hB8 Xx_8 Zy_8 y0_8 y1_8 hb9
  refine Lib.hid ?_
  go_wp2_with (first | (go_at_call 20; refine (toints_any AC5 cc5 cu5 _ (HC5.out.kept (below_box hB9) (Nat.le_refl _)) hcl5).mono ?_; rintro e w10 ⟨⟨gz5, rfl, hgz5, hOz5⟩, hb10⟩; refine Hid.out ?_) | fail)
  have Oz5_10 := Lib.hid hOz5
  have hlz5 := iown_lt' hOz5
  clear hOz5
  have hz10 := hb10.size
  have hB10 := on_call hB9 hb10
  have Xx_10 := Lib.hid (Xx_9.out.kept hb10 (by omega))
  have Zy_10 := Lib.hid (Zy_9.out.kept hb10 (by omega))
  have y0_10 := (hb10.cell (p := ⟨w7.heap.size, 0, none⟩) (by dsimp only; omega)).trans y0_9
  have y1_10 := (hb10.cell (p := ⟨w7.heap.size, 1, none⟩) (by dsimp only; omega)).trans y1_9
  have Oz4_10 := Lib.hid (Oz4_9.out.on hb10)
  clear b0 b1
  obtain ⟨b0, b1⟩ := box2 hB10
  clear hB9 Xx_9 Zy_9 y0_9 y1_9 Oz4_9 hb10
  refine Lib.hid ?_
  go_wp2_with (first | (go_at_call 32; refine (HI.out _ _ _ _ _ _ _ _ _ hlen Xx_10.out.at_ Zy_10.out.at_ (Nat.le_refl _) hcm Oz4_10.out.iat hcl4 Oz5_10.out.iat hcl5).mono ?_; rintro e w11 ⟨rfl, hb11⟩; refine Hid.out ?_) | fail)
  have hz11 := hb11.size
  have hB11 := on_call hB10 hb11
  have Xx_11 := Lib.hid (Xx_10.out.kept hb11 (by omega))
  have Zy_11 := Lib.hid (Zy_10.out.kept hb11 (by omega))
  have y0_11 := (hb11.cell (p := ⟨w7.heap.size, 0, none⟩) (by dsimp only; omega)).trans y0_10
  have y1_11 := (hb11.cell (p := ⟨w7.heap.size, 1, none⟩) (by dsimp only; omega)).trans y1_10
  have Oz4_11 := Lib.hid (Oz4_10.out.on hb11)
  have Oz5_11 := Lib.hid (Oz5_10.out.on hb11)
  clear b0 b1
  obtain ⟨b0, b1⟩ := box2 hB11
  clear hB10 Xx_10 Zy_10 y0_10 y1_10 Oz4_10 Oz5_10 hb11
  refine Lib.hid ?_
  go_upto_region 20 with (fail)
  go_cut [82] (fun st wx => st = .bool false ∧ Hid (Below w11.heap.size w11 wx))
  case first =>
    have hA7 := Lib.hid (HA.out.kept (below_box hB11) (Nat.le_refl _))
    have hat7 := Lib.hid Xx_11.out.at_
    have hx4 : w7.heap.size < w11.heap.size := by omega
    go_region_with (first
      | (go_at_call 18; refine (tonet_any n A cap ps w11.drew hA7.out hlen).mono ?_; rintro e wqa ⟨⟨gqa, rfl, hgqa, hrowqa⟩, hbqa⟩; have HBqa := Lib.hid hbqa; have hatqa := Lib.hid hrowqa.at_; have hatqb := Lib.hid (PAt.kept (w := w11.drew) hat7.out hbqa (Nat.le_refl _)); have z0 := (hbqa.cell (p := ⟨w7.heap.size, 0, none⟩) hx4).trans y0_11; have z1 := (hbqa.cell (p := ⟨w7.heap.size, 1, none⟩) hx4).trans y1_11; clear hgqa hrowqa hbqa)
      | (go_at_call 22; refine (eqnet_same n _ _ _ _ ps wqa hatqb.out hatqa.out hlen).mono ?_; rintro e wqb ⟨rfl, hbqb⟩))
    all_goals
      go_wp2_with fail
      go_meet
      exact ⟨rfl, Lib.hid ((Below.refl w11.heap.size w11).drew.trans (HBqa.out.trans (hbqb.mono HBqa.out.size)))⟩
  case rest =>
    obtain ⟨rfl, hbc⟩ := hcut
    obtain ⟨w12, hwb⟩ : ∃ w12, w12 = wc := ⟨_, rfl⟩
    subst hwb
    have hb12 := hbc.out
    clear hbc
    have hz12 := hb12.size
    have hB12 := on_call hB11 hb12
    have Xx_12 := Lib.hid (Xx_11.out.kept hb12 (by omega))
    have Zy_12 := Lib.hid (Zy_11.out.kept hb12 (by omega))
    have y0_12 := (hb12.cell (p := ⟨w7.heap.size, 0, none⟩) (by dsimp only; omega)).trans y0_11
    have y1_12 := (hb12.cell (p := ⟨w7.heap.size, 1, none⟩) (by dsimp only; omega)).trans y1_11
    have Oz4_12 := Lib.hid (Oz4_11.out.on hb12)
    have Oz5_12 := Lib.hid (Oz5_11.out.on hb12)
    clear b0 b1
    obtain ⟨b0, b1⟩ := box2 hB12
    clear hB11 Xx_11 Zy_11 y0_11 y1_11 Oz4_11 Oz5_11 hb12
    refine Lib.hid ?_
    go_wp2_with (first | (go_at_call 19; refine (tovalves_any AV capv vs _ (HV.out.kept (below_box hB12) (Nat.le_refl _)) hlenv).mono ?_; rintro e w13 ⟨⟨gu, rfl, hgu, hrowu⟩, hb13⟩; refine Hid.out ?_) | fail)
    have Zu_13 := Lib.hid hrowu
    have hlu := hrowu.lt
    clear hrowu
    have hz13 := hb13.size
    have hB13 := on_call hB12 hb13
    have Xx_13 := Lib.hid (Xx_12.out.kept hb13 (by omega))
    have Zy_13 := Lib.hid (Zy_12.out.kept hb13 (by omega))
    have y0_13 := (hb13.cell (p := ⟨w7.heap.size, 0, none⟩) (by dsimp only; omega)).trans y0_12
    have y1_13 := (hb13.cell (p := ⟨w7.heap.size, 1, none⟩) (by dsimp only; omega)).trans y1_12
    have Oz4_13 := Lib.hid (Oz4_12.out.on hb13)
    have Oz5_13 := Lib.hid (Oz5_12.out.on hb13)
    clear b0 b1
    obtain ⟨b0, b1⟩ := box2 hB13
    clear hB12 Xx_12 Zy_12 y0_12 y1_12 Oz4_12 Oz5_12 hb13
    refine Lib.hid ?_
    go_wp2_with (first | (go_at_call 23; refine (eqvalves_same _ _ _ _ vs w13 Zy_13.out.at_ Zu_13.out.at_ hlenv).mono ?_; rintro e w14 ⟨rfl, hb14⟩; refine Hid.out ?_) | fail)
    have hz14 := hb14.size
    have hB14 := on_call hB13 hb14
    have Xx_14 := Lib.hid (Xx_13.out.kept hb14 (by omega))
    have Zy_14 := Lib.hid (Zy_13.out.kept hb14 (by omega))
    have y0_14 := (hb14.cell (p := ⟨w7.heap.size, 0, none⟩) (by dsimp only; omega)).trans y0_13
    have y1_14 := (hb14.cell (p := ⟨w7.heap.size, 1, none⟩) (by dsimp only; omega)).trans y1_13
    have Oz4_14 := Lib.hid (Oz4_13.out.on hb14)
    have Oz5_14 := Lib.hid (Oz5_13.out.on hb14)
    clear b0 b1
    obtain ⟨b0, b1⟩ := box2 hB14
    clear hB13 Xx_13 Zy_13 y0_13 y1_13 Oz4_13 Oz5_13 hb14
    refine Lib.hid ?_
    go_wp2_with (first | (go_at_call 20; refine (toints_any AC4 cc4 cu4 _ (HC4.out.kept (below_box hB14) (Nat.le_refl _)) hcl4).mono ?_; rintro e w15 ⟨⟨gv4, rfl, hgv4, hOv4⟩, hb15⟩; refine Hid.out ?_) | fail)
    have Ov4_15 := Lib.hid hOv4
    have hlv4 := iown_lt' hOv4
    clear hOv4
    have hz15 := hb15.size
    have hB15 := on_call hB14 hb15
    have Xx_15 := Lib.hid (Xx_14.out.kept hb15 (by omega))
    have Zy_15 := Lib.hid (Zy_14.out.kept hb15 (by omega))
    have y0_15 := (hb15.cell (p := ⟨w7.heap.size, 0, none⟩) (by dsimp only; omega)).trans y0_14
    have y1_15 := (hb15.cell (p := ⟨w7.heap.size, 1, none⟩) (by dsimp only; omega)).trans y1_14
    have Oz4_15 := Lib.hid (Oz4_14.out.on hb15)
    have Oz5_15 := Lib.hid (Oz5_14.out.on hb15)
    clear b0 b1
    obtain ⟨b0, b1⟩ := box2 hB15
    clear hB14 Xx_14 Zy_14 y0_14 y1_14 Oz4_14 Oz5_14 hb15
    refine Lib.hid ?_
    go_wp2_with (first | (go_at_call 24; refine (eqints_same _ _ _ _ cu4 w15 Oz4_15.out.iat Ov4_15.out.iat hcl4).mono ?_; rintro e w16 ⟨rfl, hb16⟩; refine Hid.out ?_) | fail)
    have hz16 := hb16.size
    have hB16 := on_call hB15 hb16
    have Xx_16 := Lib.hid (Xx_15.out.kept hb16 (by omega))
    have Zy_16 := Lib.hid (Zy_15.out.kept hb16 (by omega))
    have y0_16 := (hb16.cell (p := ⟨w7.heap.size, 0, none⟩) (by dsimp only; omega)).trans y0_15
    have y1_16 := (hb16.cell (p := ⟨w7.heap.size, 1, none⟩) (by dsimp only; omega)).trans y1_15
    have Oz4_16 := Lib.hid (Oz4_15.out.on hb16)
    have Oz5_16 := Lib.hid (Oz5_15.out.on hb16)
    clear b0 b1
    obtain ⟨b0, b1⟩ := box2 hB16
    clear hB15 Xx_15 Zy_15 y0_15 y1_15 Oz4_15 Oz5_15 hb16
    refine Lib.hid ?_
    go_wp2_with (first | (go_at_call 20; refine (toints_any AC5 cc5 cu5 _ (HC5.out.kept (below_box hB16) (Nat.le_refl _)) hcl5).mono ?_; rintro e w17 ⟨⟨gv5, rfl, hgv5, hOv5⟩, hb17⟩; refine Hid.out ?_) | fail)
    have Ov5_17 := Lib.hid hOv5
    have hlv5 := iown_lt' hOv5
    clear hOv5
    have hz17 := hb17.size
    have hB17 := on_call hB16 hb17
    have Xx_17 := Lib.hid (Xx_16.out.kept hb17 (by omega))
    have Zy_17 := Lib.hid (Zy_16.out.kept hb17 (by omega))
    have y0_17 := (hb17.cell (p := ⟨w7.heap.size, 0, none⟩) (by dsimp only; omega)).trans y0_16
    have y1_17 := (hb17.cell (p := ⟨w7.heap.size, 1, none⟩) (by dsimp only; omega)).trans y1_16
    have Oz4_17 := Lib.hid (Oz4_16.out.on hb17)
    have Oz5_17 := Lib.hid (Oz5_16.out.on hb17)
    clear b0 b1
    obtain ⟨b0, b1⟩ := box2 hB17
    clear hB16 Xx_16 Zy_16 y0_16 y1_16 Oz4_16 Oz5_16 hb17
    refine Lib.hid ?_
    go_wp2_with (first | (go_at_call 24; refine (eqints_same _ _ _ _ cu5 w17 Oz5_17.out.iat Ov5_17.out.iat hcl5).mono ?_; rintro e w18 ⟨rfl, hb18⟩; refine Hid.out ?_) | fail)
    have hz18 := hb18.size
    have hB18 := on_call hB17 hb18
    have Xx_18 := Lib.hid (Xx_17.out.kept hb18 (by omega))
    have Zy_18 := Lib.hid (Zy_17.out.kept hb18 (by omega))
    have y0_18 := (hb18.cell (p := ⟨w7.heap.size, 0, none⟩) (by dsimp only; omega)).trans y0_17
    have y1_18 := (hb18.cell (p := ⟨w7.heap.size, 1, none⟩) (by dsimp only; omega)).trans y1_17
    have Oz4_18 := Lib.hid (Oz4_17.out.on hb18)
    have Oz5_18 := Lib.hid (Oz5_17.out.on hb18)
    clear b0 b1
    obtain ⟨b0, b1⟩ := box2 hB18
    clear hB17 Xx_17 Zy_17 y0_17 y1_17 Oz4_17 Oz5_17 hb18
    refine Lib.hid ?_
    go_wp2_with fail
    go_ret
    exact ⟨rfl, below_box hB18⟩
end Go.Proofs.Ytbljmibaemgfeaa.S2

namespace Go.Proofs.Ytbljmibaemgfeaa.S2
open Go.RowKit Go.Sort P2 P4

set_option maxHeartbeats 2000000 in
set_option maxRecDepth 100000 in
theorem sharmof_no1 (n : Int) (A : Option Addr) (cap : Nat) (ps : List Pp) (AV : Option Addr) (capv : Nat) (vs : List Vv) (X x : Int) (AC : Option Addr) (cc : Nat) (l : List Int) (AU : Option Addr) (cq : Nat) (cu : List Int) (w : World) (hs : ∀ w', Below w.heap.size w w' → Calls Try.prog 80 #[nv n A ps.length cap, .slice AV vs.length capv, .int .i64 X, .int .i64 x, .slice AC l.length cc] w' fun e w'' => e = .returned (.bool false) ∧ Below w'.heap.size w' w'')  :
    Calls Try.prog 31 #[nv n A ps.length cap, .slice AV vs.length capv, .int .i64 X, .int .i64 x, .slice AC l.length cc, .slice AU cu.length cq] w fun e w' => e = .returned (.tuple #[.int .i64 0, .bool false]) ∧ Below w.heap.size w w' := by
  have HS := Lib.hid hs
  clear hs
  have HB0 := Lib.hid (show Below w.heap.size w (w.alloc (.cells #[.int .i64 n, .slice A ps.length cap] 32)) from (Below.refl _ _).alloc (Nat.le_refl _) _)
  go_enter Try.func31, Try.ntmps31
  go_wp2_with (first
    | (go_at_call 80; refine (HS.out _ HB0.out).mono ?_; rintro e w1 ⟨rfl, hb1⟩; have HB1 := Lib.hid (HB0.out.trans (hb1.mono (by simp))); have hb1' : Below (w.heap.size + 1) (w.alloc (.cells #[.int .i64 n, .slice A ps.length cap] 32)) w1 := (by simpa using hb1); have HX1 := Lib.hid hb1'; obtain ⟨b0, b1⟩ := box2 hb1'; clear hb1 hb1'))
  go_ret2
  exact ⟨rfl, HB1.out⟩

set_option maxHeartbeats 2000000 in
set_option maxRecDepth 100000 in
theorem sharmof_no2 (n : Int) (A : Option Addr) (cap : Nat) (ps : List Pp) (AV : Option Addr) (capv : Nat) (vs : List Vv) (X x : Int) (AC : Option Addr) (cc : Nat) (l : List Int) (AU : Option Addr) (cq : Nat) (cu : List Int) (w : World) (hs : ∀ w', Below w.heap.size w w' → Calls Try.prog 80 #[nv n A ps.length cap, .slice AV vs.length capv, .int .i64 X, .int .i64 x, .slice AC l.length cc] w' fun e w'' => e = .returned (.bool true) ∧ Below w'.heap.size w' w'') (hu : IAt w AU cu) (hul : cu.length ≤ 1048576) (hq : custB n cu = false) :
    Calls Try.prog 31 #[nv n A ps.length cap, .slice AV vs.length capv, .int .i64 X, .int .i64 x, .slice AC l.length cc, .slice AU cu.length cq] w fun e w' => e = .returned (.tuple #[.int .i64 0, .bool false]) ∧ Below w.heap.size w w' := by
  have HS := Lib.hid hs
  have HC := Lib.hid (fun w' (hb : Below w.heap.size w w') => scust_v hq A ps.length cap AU cq w' (hu.kept hb (Nat.le_refl _)) hul)
  clear hs hu hul hq
  have HB0 := Lib.hid (show Below w.heap.size w (w.alloc (.cells #[.int .i64 n, .slice A ps.length cap] 32)) from (Below.refl _ _).alloc (Nat.le_refl _) _)
  go_enter Try.func31, Try.ntmps31
  go_wp2_with (first
    | (go_at_call 80; refine (HS.out _ HB0.out).mono ?_; rintro e w1 ⟨rfl, hb1⟩; have HB1 := Lib.hid (HB0.out.trans (hb1.mono (by simp))); have hb1' : Below (w.heap.size + 1) (w.alloc (.cells #[.int .i64 n, .slice A ps.length cap] 32)) w1 := (by simpa using hb1); have HX1 := Lib.hid hb1'; obtain ⟨b0, b1⟩ := box2 hb1'; clear hb1 hb1')
    | (go_at_call 91; refine (HC.out _ HB1.out).mono ?_; rintro e w2 ⟨rfl, hb2⟩; have HB2 := Lib.hid (HB1.out.trans (hb2.mono HB1.out.size)); have hx2 := on_call HX1.out hb2; clear b0 b1; obtain ⟨b0, b1⟩ := box2 hx2; clear hb2 hx2))
  go_ret2
  exact ⟨rfl, HB2.out⟩

set_option maxHeartbeats 2000000 in
set_option maxRecDepth 100000 in
theorem sharmof_yes (N Y : Nat) (A : Option Addr) (cap : Nat) (ps : List Pp) (AV : Option Addr) (capv : Nat) (vs : List Vv) (x : Int) (AC : Option Addr) (cc : Nat) (l : List Int) (AU : Option Addr) (cq : Nat) (cu : List Int) (w : World) (hs : ∀ w', Below w.heap.size w w' → Calls Try.prog 80 #[nv N A ps.length cap, .slice AV vs.length capv, .int .i64 (Y : Int), .int .i64 x, .slice AC l.length cc] w' fun e w'' => e = .returned (.bool true) ∧ Below w'.heap.size w' w'') (hu : IAt w AU cu) (hul : cu.length ≤ 1048576) (hq : custB N cu = true) (h : PAt w A ps) (hv : VAt w AV vs) (hg : P2.Good N ps) (hvl : vs.length ≤ 10) (hx1 : 1 ≤ Y) (hx2 : Y ≤ N) (hc : IAt w AC l) (hcl : l.length ≤ 1048576) :
    Calls Try.prog 31 #[nv N A ps.length cap, .slice AV vs.length capv, .int .i64 (Y : Int), .int .i64 x, .slice AC l.length cc, .slice AU cu.length cq] w fun e w' => e = .returned (.tuple #[.int .i64 (sumL cu (nodesL N (wetP ps vs Y l) false)), .bool true]) ∧ Below w.heap.size w w' := by
  have HS := Lib.hid hs
  have HC := Lib.hid (fun w' (hb : Below w.heap.size w w') => scust_v hq A ps.length cap AU cq w' (hu.kept hb (Nat.le_refl _)) hul)
  have HH := Lib.hid (fun w' (hb : Below w.heap.size w w') => sharm_any N Y A cap ps AV capv vs AC cc l AU cq cu w' (h.kept hb (Nat.le_refl _)) (hv.kept hb (Nat.le_refl _)) hg hvl hx1 hx2 (hc.kept hb (Nat.le_refl _)) hcl (hu.kept hb (Nat.le_refl _)) (custB_of hq))
  clear hs hu hul hq h hv hg hc hcl
  have HB0 := Lib.hid (show Below w.heap.size w (w.alloc (.cells #[.int .i64 (N : Int), .slice A ps.length cap] 32)) from (Below.refl _ _).alloc (Nat.le_refl _) _)
  go_enter Try.func31, Try.ntmps31
  go_wp2_with (first
    | (go_at_call 80; refine (HS.out _ HB0.out).mono ?_; rintro e w1 ⟨rfl, hb1⟩; have HB1 := Lib.hid (HB0.out.trans (hb1.mono (by simp))); have hb1' : Below (w.heap.size + 1) (w.alloc (.cells #[.int .i64 (N : Int), .slice A ps.length cap] 32)) w1 := (by simpa using hb1); have HX1 := Lib.hid hb1'; obtain ⟨b0, b1⟩ := box2 hb1'; clear hb1 hb1')
    | (go_at_call 91; refine (HC.out _ HB1.out).mono ?_; rintro e w2 ⟨rfl, hb2⟩; have HB2 := Lib.hid (HB1.out.trans (hb2.mono HB1.out.size)); have hx2 := on_call HX1.out hb2; clear b0 b1; obtain ⟨b0, b1⟩ := box2 hx2; clear hb2 hx2)
    | (go_at_call 92; refine (HH.out _ HB2.out).mono ?_; rintro e w3 ⟨rfl, hb3⟩; have HB3 := Lib.hid (HB2.out.trans (hb3.mono HB2.out.size)); clear hb3))
  go_ret2
  exact ⟨rfl, HB3.out⟩

theorem law_harmof (n : Int) (A : Option Addr) (cap : Nat) (ps : List Pp) (AV : Option Addr) (capv : Nat) (vs : List Vv) (X x : Int) (AC : Option Addr) (cc : Nat) (l : List Int) (AU : Option Addr) (cq : Nat) (cu : List Int) (w : World) (h : PAt w A ps) (hm : ps.length ≤ maxLen) (hv : VAt w AV vs) (hmv : vs.length ≤ maxLen) (hc : IAt w AC l) (hmc : l.length ≤ maxLen) (hu : IAt w AU cu) (hmu : cu.length ≤ maxLen) :
    Calls Try.prog 5 #[nv n A ps.length cap, .slice AV vs.length capv, .int .i64 X, .int .i64 x, .slice AC l.length cc, .slice AU cu.length cq] w fun e w' => e = .returned (.bool true) ∧ Below w.heap.size w w' := by
  obtain ⟨v, hp⟩ := planV_ex n ps vs X x l
  cases v with
  | false =>
    obtain ⟨s, hs⟩ := wplan_v hp
    exact walkHarmOf n A cap ps AV capv vs X x AC cc l AU cq cu w h hm hv hmv hc hmc hu hmu 0 false
      (fun A cap AV capv AC cc AU cq w _ h hv _ _ hc hcl _ _ => sharmof_no1 n A cap ps AV capv vs X x AC cc l AU cq cu w (fun w' hb => splan_v hp A cap AV capv AC cc w' (h.kept hb (Nat.le_refl _)) hm (hv.kept hb (Nat.le_refl _)) hmv (hc.kept hb (Nat.le_refl _)) hcl))
      (fun A cap AV capv AC cc AU cq w _ h hv hcv hcm hc hcl _ _ => harmof_no1 s n A cap ps AV capv vs X x AC cc l AU cq cu w (fun w' hb => hs A cap AV capv AC cc w' (h.kept hb (Nat.le_refl _)) hm (hv.kept hb (Nat.le_refl _)) hmv hcv hcm (hc.kept hb (Nat.le_refl _)) hcl))
  | true =>
    cases hq : custB n cu with
    | false =>
      obtain ⟨s, hs⟩ := wplan_v hp
      exact walkHarmOf n A cap ps AV capv vs X x AC cc l AU cq cu w h hm hv hmv hc hmc hu hmu 0 false
        (fun A cap AV capv AC cc AU cq w _ h hv _ _ hc hcl hu hul => sharmof_no2 n A cap ps AV capv vs X x AC cc l AU cq cu w (fun w' hb => splan_v hp A cap AV capv AC cc w' (h.kept hb (Nat.le_refl _)) hm (hv.kept hb (Nat.le_refl _)) hmv (hc.kept hb (Nat.le_refl _)) hcl) hu hul hq)
        (fun A cap AV capv AC cc AU cq w _ h hv hcv hcm hc hcl hu hul => harmof_no2 s n A cap ps AV capv vs X x AC cc l AU cq cu w (fun w' hb => hs A cap AV capv AC cc w' (h.kept hb (Nat.le_refl _)) hm (hv.kept hb (Nat.le_refl _)) hmv hcv hcm (hc.kept hb (Nat.le_refl _)) hcl) hu hul hq)
    | true =>
      have hp2 := hp
      rcases hp with ⟨_, hf⟩ | ⟨_, _, hf⟩ | ⟨hqq, hpl, N, Y, i, rfl, rfl, hi, hcut⟩
      · cases hf
      · cases hf
      · have hgd := goodV_of (askB_of hqq).1
        have hnx := nodeB_of (askB_of hqq).2.1
        exact walkHarmOf N A cap ps AV capv vs Y x AC cc l AU cq cu w h hm hv hmv hc hmc hu hmu (sumL cu (nodesL N (wetP ps vs Y l) false)) true
          (fun A cap AV capv AC cc AU cq w _ h hv _ _ hc hcl hu hul => sharmof_yes N Y A cap ps AV capv vs x AC cc l AU cq cu w (fun w' hb => splan_v hp2 A cap AV capv AC cc w' (h.kept hb (Nat.le_refl _)) hm (hv.kept hb (Nat.le_refl _)) hmv (hc.kept hb (Nat.le_refl _)) hcl) hu hul hq h hv hgd.1 hgd.2.1 (by have := hnx.2.1; omega) (by have := hnx.2.2; omega) hc hcl)
          (fun A cap AV capv AC cc AU cq w _ h hv hcv hcm hc hcl hu hul => harmof_yes (wetP ps vs Y l) N A cap ps AV capv vs Y x AC cc l AU cq cu w (fun w' hb => by
            have h7 := wplan_yes N Y i A cap ps AV capv vs x AC cc l w' (h.kept hb (Nat.le_refl _)) hm (hv.kept hb (Nat.le_refl _)) hmv hcv hcm (hc.kept hb (Nat.le_refl _)) hcl hqq hi hpl
            rwa [← hcut] at h7) h hgd.1 hu hul hq)
end Go.Proofs.Ytbljmibaemgfeaa.S2

namespace Go.Proofs.Ytbljmibaemgfeaa.fnExactHarmOf
open Go.ChangeShapes Go.WideShapes Go.ChangeAt Go.RowKit P2 S2
set_option linter.unusedVariables false

theorem own : ownKnob Try.prog.godebug = none := by kernel_rfl
theorem laidOut : laidOutB Try.prog = true := by kernel_rfl

set_option maxRecDepth 100000 in
theorem lifted (os : Os) (started : os.Started) (H : Type) (enc : TypeId × Value → H) :
    ReturnsInHanded {} Try.checked os 5 .any (Rows.fnExactHarmOfSpec.pre6 enc Try.prog Try.f5 Rows.fnExactHarmOfRow.domain false) (Rows.fnExactHarmOfSpec.post enc Try.prog Try.f5 false true false false) := by
  refine returnsInHanded_of_change (C := Try.checked) own started (by kernel_rfl) Try.func5
    (ChangeSpec.witness6 (enc := enc) (C := Try.checked) false ⟨#[], #[.agg #[.int .i64 0, .slice none 0 0], .slice none 0 0, .int .i64 0, .int .i64 0, .slice none 0 0, .slice none 0 0], []⟩ 8 (by kernel_rfl) (by kernel_rfl) (by kernel_rfl) (by kernel_rfl)) ?_
  intro W base args ds gs before hval0 hW hcnd _
  have hval : ∀ (j : Nat) t v, Try.f5.params[j]? = some t → args[j]? = some v → Value.okWide Try.prog W .any base t v := hval0
  have hW' := hW
  obtain ⟨p, q, hA0, hV, rfl, hfz, hnd⟩ := hW
  have hA : DataW.TrodAll enc Try.prog W 0 (fun _ => true) true Try.f5.params.toList args.toList ds p := hA0
  rw [Try.params5] at hA hval
  obtain ⟨v0, v1, v2, v3, v4, v5, d0, d1, d2, d3, d4, d5, p0, p1, p2, p3, p4, p5, rfl, rfl, rfl, h0, h1, h2, h3, h4, h5⟩ := trodAll_six hA
  obtain ⟨rfl, rfl⟩ := trodVars_none hV
  have k0 := h0
  have lt0 : ∀ x ∈ p0, x.block < W.heap.size := by obtain ⟨m, hm⟩ := k0; exact DataW.trod_lt m _ _ _ hm
  obtain ⟨n0, A0, cap0, ps0, rfl, at0, mx0⟩ := net_open (hval 0 24 v0 rfl rfl) h0
  have k1 := h1
  have lt1 : ∀ x ∈ p1, x.block < W.heap.size := by obtain ⟨m, hm⟩ := k1; exact DataW.trod_lt m _ _ _ hm
  obtain ⟨A1, cap1, vs1, rfl, at1, mx1⟩ := valvearg_open (hval 1 25 v1 rfl rfl) h1
  obtain ⟨a2, rfl, rfl, rfl, w2⟩ := open_int Try.underlying3 (hval 2 3 v2 rfl rfl) h2
  obtain ⟨a3, rfl, rfl, rfl, w3⟩ := open_int Try.underlying3 (hval 3 3 v3 rfl rfl) h3
  have k4 := h4
  have lt4 : ∀ x ∈ p4, x.block < W.heap.size := by obtain ⟨m, hm⟩ := k4; exact DataW.trod_lt m _ _ _ hm
  obtain ⟨A4, cap4, cu4, rfl, at4, mx4⟩ := intsarg_open (hval 4 26 v4 rfl rfl) h4
  have k5 := h5
  have lt5 : ∀ x ∈ p5, x.block < W.heap.size := by obtain ⟨m, hm⟩ := k5; exact DataW.trod_lt m _ _ _ hm
  obtain ⟨A5, cap5, cu5, rfl, at5, mx5⟩ := intsarg_open (hval 5 26 v5 rfl rfl) h5
  clear hA0 hval0
  refine (law_harmof n0 A0 cap0 ps0 A1 cap1 vs1 a2 a3 A4 cap4 cu4 A5 cap5 cu5 W at0 mx0 at1 mx1 at4 mx4 at5 mx5).mono fun e W' ⟨he, bel⟩ => ?_
  subst he
  exact ⟨_, rfl, _, _, _, [], _, [], hW', trodAll_mk1 (shut_bool Try.underlying4 _), trodAll_mk6 (Below.trod laidOut (by kernel_rfl) (of_decide_eq_true (by kernel_rfl)) k0 bel lt0) (Below.trod laidOut (by kernel_rfl) (of_decide_eq_true (by kernel_rfl)) k1 bel lt1) (shut_int Try.underlying3 w2) (shut_int Try.underlying3 w3) (Below.trod laidOut (by kernel_rfl) (of_decide_eq_true (by kernel_rfl)) k4 bel lt4) (Below.trod laidOut (by kernel_rfl) (of_decide_eq_true (by kernel_rfl)) k5 bel lt5), rfl, bel.frame _, fun h => by cases h⟩

theorem proved : Rows.FnExactHarmOfSaid :=
  OpenClaim.holds_of_wide 5 Try.f5 rfl rfl rfl rfl rfl rfl rfl ⟨rfl, rfl, rfl, rfl, rfl⟩ rfl rfl rfl rfl rfl (by kernel_rfl) Try.func5 (by kernel_rfl)
    (of_decide_eq_true (by kernel_rfl)) (by unfold Func.isWrapper; first | (rw [if_pos (by decide +kernel)]; kernel_rfl) | (rw [if_neg (by decide +kernel)]; exact ⟨rfl, rfl⟩))
    (fun os started H enc _ => lifted os started H enc)
end Go.Proofs.Ytbljmibaemgfeaa.fnExactHarmOf
namespace Go.Proofs.Ytbljmibaemgfeaa
theorem FnExactHarmOf_holds : Rows.FnExactHarmOfSaid := fnExactHarmOf.proved
#print axioms FnExactHarmOf_holds
end Go.Proofs.Ytbljmibaemgfeaa
