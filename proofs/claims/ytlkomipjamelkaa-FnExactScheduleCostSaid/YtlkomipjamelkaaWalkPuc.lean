/- The walk of the law FnExactScheduleCost: contracts. Conditions: each theorem's own premises. -/
import Derived.Test.YtlkomipjamelkaaPuGood
import Derived.Deep.DeepCutAuto
import Derived.Deep.RegionLaw
namespace Go.Proofs.Ytlkomipjamelkaa.S13
open Go.RowKit P11 S11 P13

set_option maxHeartbeats 16000000 in
set_option maxRecDepth 100000 in
theorem walkScheduleCost (p : Pg) (A : Option Addr) (c : Nat) (A2 : Option Addr) (c2 : Nat) (AC1 : Option Addr) (cc1 : Nat) (cu1 : List Int) (w : World) (hx : IAt w A p.xs) (hy : IAt w A2 p.ys) (hmx : p.xs.length ≤ maxLen) (hmy : p.ys.length ≤ maxLen) (hc1 : IAt w AC1 cu1) (hmc1 : cu1.length ≤ maxLen) (sv0 : Int) (sv1 : Bool)
    (hs : ∀ (A : Option Addr) (c : Nat) (A2 : Option Addr) (c2 : Nat) (AC1 : Option Addr) (cc1 : Nat) (w : World), PAt w p A A2 → IAt w AC1 cu1 → cu1.length ≤ 1048576 → Calls Try.prog 20 #[pv p A c A2 c2, .slice AC1 cu1.length cc1] w (fun e w' => e = .returned (.tuple #[.int .i64 sv0, .bool sv1]) ∧ Below w.heap.size w w'))
    (hi : ∀ (A : Option Addr) (c : Nat) (A2 : Option Addr) (c2 : Nat) (AC1 : Option Addr) (cc1 : Nat) (w : World), PAt w p A A2 → IAt w AC1 cu1 → cu1.length ≤ 1048576 → Calls Try.prog 21 #[pv p A c A2 c2, .slice AC1 cu1.length cc1] w (fun e w' => e = .returned (.tuple #[.int .i64 sv0, .bool sv1]) ∧ Below w.heap.size w w')) :
    Calls Try.prog 5 #[pv p A c A2 c2, .slice AC1 cu1.length cc1] w fun e w' => e = .returned (.bool true) ∧ Below w.heap.size w w' := by
  have HS := Lib.hid hs
  have HI := Lib.hid hi
  have HX := Lib.hid hx
  have HY := Lib.hid hy
  have HMX := Lib.hid hmx
  have HMY := Lib.hid hmy
  have HC1 := Lib.hid hc1
  have HMC1 := Lib.hid hmc1
  clear hs hi hx hy hmx hmy hc1 hmc1
  by_cases hci1 : 1048576 < cu1.length
  · have hlm1 : cu1.length ≤ 9223372036854775807 := by have := HMC1.out; unfold maxLen at this; omega
    go_enter Try.func5, Try.ntmps5
    go_wp2
    go_ret
    exact ⟨rfl, alloc_below w _⟩
  have hcl1 : cu1.length ≤ 1048576 := by omega
  clear hci1
  go_enter Try.func5, Try.ntmps5
  refine Hid.out ?_
  have hB1 := alloc_below w (po 26 p A c A2 c2)
  have hz1 := hB1.size
  have hw0 := new_lt w (po 26 p A c A2 c2)
  have Qa_1 := Lib.hid (B6.new w 26 p A c A2 c2)
  obtain ⟨ba0, ba1, ba2, ba3, ba4, ba5⟩ := Qa_1.out.out
  refine Lib.hid ?_
  go_wp2_with (first | (go_at_call 11; refine (szpump_any p A c A2 c2 1048576 _ HMX.out HMY.out (by omega) (by omega)).mono ?_; rintro e w2 ⟨⟨r0, rfl, hr0⟩, hb2⟩; refine Hid.out ?_) | fail)
  clear ba0 ba1 ba2 ba3 ba4 ba5
  have hz2 := hb2.size
  have hB2 := hB1.trans (hb2.mono hB1.size)
  have Qa_2 := Lib.hid (Qa_1.out.kept hb2)
  clear hB1 Qa_1 hb2
  by_cases hr1 : r0 < 0
  · refine Lib.hid ?_
    go_wp2
    go_ret
    exact ⟨rfl, hB2⟩
  have hr2 : 0 ≤ r0 ∧ p.xs.length ≤ 1048576 ∧ p.ys.length ≤ 1048576 := by rcases hr0 with h | h; exact absurd h hr1; exact h
  obtain ⟨hr3, hxl, hyl⟩ := hr2
  have HPA : Hid (PAt w p A A2) := Lib.hid ⟨HX.out, HY.out, hxl, hyl⟩
  clear hr0
  obtain ⟨ba0, ba1, ba2, ba3, ba4, ba5⟩ := Qa_2.out.out
  refine Lib.hid ?_
  go_wp2_with (first | (go_at_call 13; refine (topump_any p A c A2 c2 _ (HPA.out.kept hB2)).mono ?_; rintro e w3 ⟨⟨gax, gay, rfl, hgax, hgay, hnea, hOax, hOay⟩, hb3⟩; refine Hid.out ?_) | fail)
  clear ba0 ba1 ba2 ba3 ba4 ba5
  have hz3 := hb3.size
  have hB3 := hB2.trans (hb3.mono hB2.size)
  have Qa_3 := Lib.hid (Qa_2.out.kept hb3)
  clear hB2 Qa_2 hb3
  have hlax := iown_lt' hOax
  have Iax_3 := Lib.hid hOax
  clear hOax
  have hlay := iown_lt' hOay
  have Iay_3 := Lib.hid hOay
  clear hOay
  obtain ⟨ba0, ba1, ba2, ba3, ba4, ba5⟩ := Qa_3.out.out
  refine Lib.hid ?_
  go_wp2_with (first | (go_at_call 17; refine (toints_any AC1 cc1 cu1 _ (HC1.out.kept hB3 (Nat.le_refl _)) hcl1).mono ?_; rintro e w4 ⟨⟨ge1, rfl, hge1, hOe1⟩, hb4⟩; refine Hid.out ?_) | fail)
  clear ba0 ba1 ba2 ba3 ba4 ba5
  have hz4 := hb4.size
  have hB4 := hB3.trans (hb4.mono hB3.size)
  have Qa_4 := Lib.hid (Qa_3.out.kept hb4)
  have Iax_4 := Lib.hid (Iax_3.out.on hb4)
  have Iay_4 := Lib.hid (Iay_3.out.on hb4)
  clear hB3 Qa_3 Iax_3 Iay_3 hb4
  have hle1 := iown_lt' hOe1
  have Ie1_4 := Lib.hid hOe1
  clear hOe1
  obtain ⟨ba0, ba1, ba2, ba3, ba4, ba5⟩ := Qa_4.out.out
  refine Lib.hid ?_
  go_wp2_with (first | (go_at_call 20; refine (HS.out _ _ _ _ _ _ _ ⟨Iax_4.out.iat, Iay_4.out.iat, hxl, hyl⟩ Ie1_4.out.iat hcl1).mono ?_; rintro e w5 ⟨rfl, hb5⟩; refine Hid.out ?_) | fail)
  clear ba0 ba1 ba2 ba3 ba4 ba5
  have hz5 := hb5.size
  have hB5 := hB4.trans (hb5.mono hB4.size)
  have Qa_5 := Lib.hid (Qa_4.out.kept hb5)
  have Iax_5 := Lib.hid (Iax_4.out.on hb5)
  have Iay_5 := Lib.hid (Iay_4.out.on hb5)
  have Ie1_5 := Lib.hid (Ie1_4.out.on hb5)
  clear hB4 Qa_4 Iax_4 Iay_4 Ie1_4 hb5
  clear Iax_5
  clear Iay_5
  clear Ie1_5
  obtain ⟨ba0, ba1, ba2, ba3, ba4, ba5⟩ := Qa_5.out.out
  refine Lib.hid ?_
  go_wp2_with (first | (go_at_call 13; refine (topump_any p A c A2 c2 _ (HPA.out.kept hB5)).mono ?_; rintro e w6 ⟨⟨gxx, gxy, rfl, hgxx, hgxy, hnex, hOxx, hOxy⟩, hb6⟩; refine Hid.out ?_) | fail)
  clear ba0 ba1 ba2 ba3 ba4 ba5
  have hz6 := hb6.size
  have hB6 := hB5.trans (hb6.mono hB5.size)
  have Qa_6 := Lib.hid (Qa_5.out.kept hb6)
  clear hB5 Qa_5 hb6
  have hlxx := iown_lt' hOxx
  have Ixx_6 := Lib.hid hOxx
  clear hOxx
  have hlxy := iown_lt' hOxy
  have Ixy_6 := Lib.hid hOxy
  clear hOxy
  have hb6b := alloc_below w6 (po 31 p (some ⟨gxx, 0, none⟩) p.xs.length (some ⟨gxy, 0, none⟩) p.ys.length)
  have Qn := Lib.hid (B6.new w6 31 p (some ⟨gxx, 0, none⟩) p.xs.length (some ⟨gxy, 0, none⟩) p.ys.length)
  have hzx := new_lt w6 (po 31 p (some ⟨gxx, 0, none⟩) p.xs.length (some ⟨gxy, 0, none⟩) p.ys.length)
  have hz6b := hb6b.size
  have hB6b := hB6.trans (hb6b.mono hB6.size)
  have Qa_6b := Lib.hid (Qa_6.out.kept hb6b)
  have Ixx_6b := Lib.hid (Ixx_6.out.on hb6b)
  have Ixy_6b := Lib.hid (Ixy_6.out.on hb6b)
  clear hB6 Qa_6 Ixx_6 Ixy_6 hb6b
  have Qx_6b := Qn
  clear Qn
  obtain ⟨ba0, ba1, ba2, ba3, ba4, ba5⟩ := Qa_6b.out.out
  obtain ⟨bx0, bx1, bx2, bx3, bx4, bx5⟩ := Qx_6b.out.out
  refine Lib.hid ?_
  go_wp2_with (first | (go_at_call 17; refine (toints_any AC1 cc1 cu1 _ (HC1.out.kept hB6b (Nat.le_refl _)) hcl1).mono ?_; rintro e w7 ⟨⟨gz1, rfl, hgz1, hOz1⟩, hb7⟩; refine Hid.out ?_) | fail)
  clear ba0 ba1 ba2 ba3 ba4 ba5 bx0 bx1 bx2 bx3 bx4 bx5
  have hz7 := hb7.size
  have hB7 := hB6b.trans (hb7.mono hB6b.size)
  have Qa_7 := Lib.hid (Qa_6b.out.kept hb7)
  have Ixx_7 := Lib.hid (Ixx_6b.out.on hb7)
  have Ixy_7 := Lib.hid (Ixy_6b.out.on hb7)
  have Qx_7 := Lib.hid (Qx_6b.out.kept hb7)
  clear hB6b Qa_6b Ixx_6b Ixy_6b Qx_6b hb7
  have hlz1 := iown_lt' hOz1
  have Iz1_7 := Lib.hid hOz1
  clear hOz1
  obtain ⟨ba0, ba1, ba2, ba3, ba4, ba5⟩ := Qa_7.out.out
  obtain ⟨bx0, bx1, bx2, bx3, bx4, bx5⟩ := Qx_7.out.out
  refine Lib.hid ?_
  go_wp2_with (first | (go_at_call 21; refine (HI.out _ _ _ _ _ _ _ ⟨Ixx_7.out.iat, Ixy_7.out.iat, hxl, hyl⟩ Iz1_7.out.iat hcl1).mono ?_; rintro e w8 ⟨rfl, hb8⟩; refine Hid.out ?_) | fail)
  clear ba0 ba1 ba2 ba3 ba4 ba5 bx0 bx1 bx2 bx3 bx4 bx5
  have hz8 := hb8.size
  have hB8 := hB7.trans (hb8.mono hB7.size)
  have Qa_8 := Lib.hid (Qa_7.out.kept hb8)
  have Ixx_8 := Lib.hid (Ixx_7.out.on hb8)
  have Ixy_8 := Lib.hid (Ixy_7.out.on hb8)
  have Qx_8 := Lib.hid (Qx_7.out.kept hb8)
  have Iz1_8 := Lib.hid (Iz1_7.out.on hb8)
  clear hB7 Qa_7 Ixx_7 Ixy_7 Qx_7 Iz1_7 hb8
  obtain ⟨ba0, ba1, ba2, ba3, ba4, ba5⟩ := Qa_8.out.out
  obtain ⟨bx0, bx1, bx2, bx3, bx4, bx5⟩ := Qx_8.out.out
  refine Lib.hid ?_
  go_upto_region 13 with (fail)
  go_cut [50] (fun st wx => st = .bool false ∧ Hid (Below w8.heap.size w8 wx))
  case first =>
    have hA7 := Lib.hid (show PAt w8.drew p A A2 from ⟨(HPA.out.kept hB8).x, (HPA.out.kept hB8).y, hxl, hyl⟩)
    have hat7 := Lib.hid (show PAt w8.drew p (some ⟨gxx, 0, none⟩) (some ⟨gxy, 0, none⟩) from ⟨Ixx_8.out.iat, Ixy_8.out.iat, hxl, hyl⟩)
    have hx4 : w6.heap.size < w8.heap.size := Qx_8.out.lt
    go_region_with (first
      | (go_at_call 13; refine (topump_any p A c A2 c2 w8.drew hA7.out).mono ?_; rintro e wqa ⟨⟨gq1, gq2, rfl, hq1, hq2, hq3, hs1, hs2⟩, hbqa⟩; have HBqa := Lib.hid hbqa; have hatqa := Lib.hid (show PAt wqa p _ _ from ⟨hs1.iat, hs2.iat, hxl, hyl⟩); have hatqb := Lib.hid (PAt.kept (w := w8.drew) hat7.out hbqa); have z9 := (Qx_8.out.kept (show Below w8.heap.size w8 wqa from (Below.refl w8.heap.size w8).drew.trans hbqa)).out; obtain ⟨z0, z1, z2, z3, z4, z5⟩ := z9; clear hq1 hq2 hs1 hs2 hbqa)
      | (go_at_call 15; refine (eqpump_same p _ _ _ _ _ _ _ _ wqa hatqb.out hatqa.out).mono ?_; rintro e wqb ⟨rfl, hbqb⟩))
    all_goals
      go_wp2_with fail
      go_meet
      exact ⟨rfl, Lib.hid ((Below.refl w8.heap.size w8).drew.trans (HBqa.out.trans (hbqb.mono HBqa.out.size)))⟩
  case rest =>
    clear ba0 ba1 ba2 ba3 ba4 ba5 bx0 bx1 bx2 bx3 bx4 bx5
    obtain ⟨rfl, hbc⟩ := hcut
    obtain ⟨w9, hwb⟩ : ∃ w9, w9 = wc := ⟨_, rfl⟩
    subst hwb
    have hb9 := hbc.out
    clear hbc
    have hz9 := hb9.size
    have hB9 := hB8.trans (hb9.mono hB8.size)
    have Qa_9 := Lib.hid (Qa_8.out.kept hb9)
    have Ixx_9 := Lib.hid (Ixx_8.out.on hb9)
    have Ixy_9 := Lib.hid (Ixy_8.out.on hb9)
    have Qx_9 := Lib.hid (Qx_8.out.kept hb9)
    have Iz1_9 := Lib.hid (Iz1_8.out.on hb9)
    clear hB8 Qa_8 Ixx_8 Ixy_8 Qx_8 Iz1_8 hb9
    obtain ⟨ba0, ba1, ba2, ba3, ba4, ba5⟩ := Qa_9.out.out
    obtain ⟨bx0, bx1, bx2, bx3, bx4, bx5⟩ := Qx_9.out.out
    refine Lib.hid ?_
    go_wp2_with (first | (go_at_call 17; refine (toints_any AC1 cc1 cu1 _ (HC1.out.kept hB9 (Nat.le_refl _)) hcl1).mono ?_; rintro e w10 ⟨⟨gu1, rfl, hgu1, hOu1⟩, hb10⟩; refine Hid.out ?_) | fail)
    clear ba0 ba1 ba2 ba3 ba4 ba5 bx0 bx1 bx2 bx3 bx4 bx5
    have hz10 := hb10.size
    have hB10 := hB9.trans (hb10.mono hB9.size)
    have Qa_10 := Lib.hid (Qa_9.out.kept hb10)
    have Ixx_10 := Lib.hid (Ixx_9.out.on hb10)
    have Ixy_10 := Lib.hid (Ixy_9.out.on hb10)
    have Qx_10 := Lib.hid (Qx_9.out.kept hb10)
    have Iz1_10 := Lib.hid (Iz1_9.out.on hb10)
    clear hB9 Qa_9 Ixx_9 Ixy_9 Qx_9 Iz1_9 hb10
    have hlu1 := iown_lt' hOu1
    have Iu1_10 := Lib.hid hOu1
    clear hOu1
    obtain ⟨ba0, ba1, ba2, ba3, ba4, ba5⟩ := Qa_10.out.out
    obtain ⟨bx0, bx1, bx2, bx3, bx4, bx5⟩ := Qx_10.out.out
    refine Lib.hid ?_
    go_wp2_with (first | (go_at_call 19; refine (eqints_same _ _ _ _ cu1 _ Iz1_10.out.iat Iu1_10.out.iat hcl1).mono ?_; rintro e w11 ⟨rfl, hb11⟩; refine Hid.out ?_) | fail)
    clear ba0 ba1 ba2 ba3 ba4 ba5 bx0 bx1 bx2 bx3 bx4 bx5
    have hz11 := hb11.size
    have hB11 := hB10.trans (hb11.mono hB10.size)
    have Qa_11 := Lib.hid (Qa_10.out.kept hb11)
    have Ixx_11 := Lib.hid (Ixx_10.out.on hb11)
    have Ixy_11 := Lib.hid (Ixy_10.out.on hb11)
    have Qx_11 := Lib.hid (Qx_10.out.kept hb11)
    have Iz1_11 := Lib.hid (Iz1_10.out.on hb11)
    have Iu1_11 := Lib.hid (Iu1_10.out.on hb11)
    clear hB10 Qa_10 Ixx_10 Ixy_10 Qx_10 Iz1_10 Iu1_10 hb11
    clear Iu1_11
    refine Lib.hid ?_
    go_wp2_with fail
    go_ret
    exact ⟨rfl, hB11⟩
end Go.Proofs.Ytlkomipjamelkaa.S13
