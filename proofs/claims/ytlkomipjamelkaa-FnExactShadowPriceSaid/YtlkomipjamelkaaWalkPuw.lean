/- The walk of the law FnExactShadowPrice: contracts. Conditions: each theorem's own premises. -/
import Derived.Test.YtlkomipjamelkaaPuGood
import Derived.Deep.DeepCutAuto
import Derived.Deep.RegionLaw
namespace Go.Proofs.Ytlkomipjamelkaa.S13
open Go.RowKit P11 S11 P13

set_option maxHeartbeats 16000000 in
set_option maxRecDepth 100000 in
theorem walkShadowPrice (p : Pg) (A : Option Addr) (c : Nat) (A2 : Option Addr) (c2 : Nat) (x1 : Int) (x2 : Int) (w : World) (hx : IAt w A p.xs) (hy : IAt w A2 p.ys) (hmx : p.xs.length ≤ maxLen) (hmy : p.ys.length ≤ maxLen) (sv0 : Int) (sv1 : Bool)
    (hs : ∀ (A : Option Addr) (c : Nat) (A2 : Option Addr) (c2 : Nat) (w : World), PAt w p A A2 → Calls Try.prog 33 #[pv p A c A2 c2, .int .i64 x1, .int .i64 x2] w (fun e w' => e = .returned (.tuple #[.int .i64 sv0, .bool sv1]) ∧ Below w.heap.size w w'))
    (hi : ∀ (A : Option Addr) (c : Nat) (A2 : Option Addr) (c2 : Nat) (w : World), PAt w p A A2 → Calls Try.prog 34 #[pv p A c A2 c2, .int .i64 x1, .int .i64 x2] w (fun e w' => e = .returned (.tuple #[.int .i64 sv0, .bool sv1]) ∧ Below w.heap.size w w')) :
    Calls Try.prog 10 #[pv p A c A2 c2, .int .i64 x1, .int .i64 x2] w fun e w' => e = .returned (.bool true) ∧ Below w.heap.size w w' := by
  have HS := Lib.hid hs
  have HI := Lib.hid hi
  have HX := Lib.hid hx
  have HY := Lib.hid hy
  have HMX := Lib.hid hmx
  have HMY := Lib.hid hmy
  clear hs hi hx hy hmx hmy
  go_enter Try.func10, Try.ntmps10
  refine Hid.out ?_
  have hB1 := alloc_below w (po 26 p A c A2 c2)
  have hz1 := hB1.size
  have hw0 := new_lt w (po 26 p A c A2 c2)
  have Qa_1 := Lib.hid (B6.new w 26 p A c A2 c2)
  obtain ⟨ba0, ba1, ba2, ba3, ba4, ba5⟩ := Qa_1.out.out
  refine Lib.hid ?_
  go_wp2_with (first | (go_at_call 11; refine (szpump_any p A c A2 c2 1048576 _ HMX.out HMY.out (by omega) (by omega)).mono ?_; rintro e w2 ⟨⟨r0, rfl, hr0⟩, hb2⟩; refine Hid.out ?_) | fail)
  clear ba0 ba1 ba2 ba3 ba4 ba5
  have hz2 := hb2.size
  have hB2 := hB1.trans (hb2.mono hB1.size)
  have Qa_2 := Lib.hid (Qa_1.out.kept hb2)
  clear hB1 Qa_1 hb2
  by_cases hr1 : r0 < 0
  · refine Lib.hid ?_
    go_wp2
    go_ret
    exact ⟨rfl, hB2⟩
  have hr2 : 0 ≤ r0 ∧ p.xs.length ≤ 1048576 ∧ p.ys.length ≤ 1048576 := by rcases hr0 with h | h; exact absurd h hr1; exact h
  obtain ⟨hr3, hxl, hyl⟩ := hr2
  have HPA : Hid (PAt w p A A2) := Lib.hid ⟨HX.out, HY.out, hxl, hyl⟩
  clear hr0
  obtain ⟨ba0, ba1, ba2, ba3, ba4, ba5⟩ := Qa_2.out.out
  refine Lib.hid ?_
  go_wp2_with (first | (go_at_call 13; refine (topump_any p A c A2 c2 _ (HPA.out.kept hB2)).mono ?_; rintro e w3 ⟨⟨gax, gay, rfl, hgax, hgay, hnea, hOax, hOay⟩, hb3⟩; refine Hid.out ?_) | fail)
  clear ba0 ba1 ba2 ba3 ba4 ba5
  have hz3 := hb3.size
  have hB3 := hB2.trans (hb3.mono hB2.size)
  have Qa_3 := Lib.hid (Qa_2.out.kept hb3)
  clear hB2 Qa_2 hb3
  have hlax := iown_lt' hOax
  have Iax_3 := Lib.hid hOax
  clear hOax
  have hlay := iown_lt' hOay
  have Iay_3 := Lib.hid hOay
  clear hOay
  obtain ⟨ba0, ba1, ba2, ba3, ba4, ba5⟩ := Qa_3.out.out
  refine Lib.hid ?_
  go_wp2_with (first | (go_at_call 33; refine (HS.out _ _ _ _ _ ⟨Iax_3.out.iat, Iay_3.out.iat, hxl, hyl⟩).mono ?_; rintro e w4 ⟨rfl, hb4⟩; refine Hid.out ?_) | fail)
  clear ba0 ba1 ba2 ba3 ba4 ba5
  have hz4 := hb4.size
  have hB4 := hB3.trans (hb4.mono hB3.size)
  have Qa_4 := Lib.hid (Qa_3.out.kept hb4)
  have Iax_4 := Lib.hid (Iax_3.out.on hb4)
  have Iay_4 := Lib.hid (Iay_3.out.on hb4)
  clear hB3 Qa_3 Iax_3 Iay_3 hb4
  clear Iax_4
  clear Iay_4
  obtain ⟨ba0, ba1, ba2, ba3, ba4, ba5⟩ := Qa_4.out.out
  refine Lib.hid ?_
  go_wp2_with (first | (go_at_call 13; refine (topump_any p A c A2 c2 _ (HPA.out.kept hB4)).mono ?_; rintro e w5 ⟨⟨gxx, gxy, rfl, hgxx, hgxy, hnex, hOxx, hOxy⟩, hb5⟩; refine Hid.out ?_) | fail)
  clear ba0 ba1 ba2 ba3 ba4 ba5
  have hz5 := hb5.size
  have hB5 := hB4.trans (hb5.mono hB4.size)
  have Qa_5 := Lib.hid (Qa_4.out.kept hb5)
  clear hB4 Qa_4 hb5
  have hlxx := iown_lt' hOxx
  have Ixx_5 := Lib.hid hOxx
  clear hOxx
  have hlxy := iown_lt' hOxy
  have Ixy_5 := Lib.hid hOxy
  clear hOxy
  have hb5b := alloc_below w5 (po 31 p (some ⟨gxx, 0, none⟩) p.xs.length (some ⟨gxy, 0, none⟩) p.ys.length)
  have Qn := Lib.hid (B6.new w5 31 p (some ⟨gxx, 0, none⟩) p.xs.length (some ⟨gxy, 0, none⟩) p.ys.length)
  have hzx := new_lt w5 (po 31 p (some ⟨gxx, 0, none⟩) p.xs.length (some ⟨gxy, 0, none⟩) p.ys.length)
  have hz5b := hb5b.size
  have hB5b := hB5.trans (hb5b.mono hB5.size)
  have Qa_5b := Lib.hid (Qa_5.out.kept hb5b)
  have Ixx_5b := Lib.hid (Ixx_5.out.on hb5b)
  have Ixy_5b := Lib.hid (Ixy_5.out.on hb5b)
  clear hB5 Qa_5 Ixx_5 Ixy_5 hb5b
  have Qx_5b := Qn
  clear Qn
  obtain ⟨ba0, ba1, ba2, ba3, ba4, ba5⟩ := Qa_5b.out.out
  obtain ⟨bx0, bx1, bx2, bx3, bx4, bx5⟩ := Qx_5b.out.out
  refine Lib.hid ?_
  go_wp2_with (first | (go_at_call 34; refine (HI.out _ _ _ _ _ ⟨Ixx_5b.out.iat, Ixy_5b.out.iat, hxl, hyl⟩).mono ?_; rintro e w6 ⟨rfl, hb6⟩; refine Hid.out ?_) | fail)
  clear ba0 ba1 ba2 ba3 ba4 ba5 bx0 bx1 bx2 bx3 bx4 bx5
  have hz6 := hb6.size
  have hB6 := hB5b.trans (hb6.mono hB5b.size)
  have Qa_6 := Lib.hid (Qa_5b.out.kept hb6)
  have Ixx_6 := Lib.hid (Ixx_5b.out.on hb6)
  have Ixy_6 := Lib.hid (Ixy_5b.out.on hb6)
  have Qx_6 := Lib.hid (Qx_5b.out.kept hb6)
  clear hB5b Qa_5b Ixx_5b Ixy_5b Qx_5b hb6
  obtain ⟨ba0, ba1, ba2, ba3, ba4, ba5⟩ := Qa_6.out.out
  obtain ⟨bx0, bx1, bx2, bx3, bx4, bx5⟩ := Qx_6.out.out
  refine Lib.hid ?_
  go_upto_region 10 with (fail)
  go_cut [47] (fun st wx => st = .bool false ∧ Hid (Below w6.heap.size w6 wx))
  case first =>
    have hA7 := Lib.hid (show PAt w6.drew p A A2 from ⟨(HPA.out.kept hB6).x, (HPA.out.kept hB6).y, hxl, hyl⟩)
    have hat7 := Lib.hid (show PAt w6.drew p (some ⟨gxx, 0, none⟩) (some ⟨gxy, 0, none⟩) from ⟨Ixx_6.out.iat, Ixy_6.out.iat, hxl, hyl⟩)
    have hx4 : w5.heap.size < w6.heap.size := Qx_6.out.lt
    go_region_with (first
      | (go_at_call 13; refine (topump_any p A c A2 c2 w6.drew hA7.out).mono ?_; rintro e wqa ⟨⟨gq1, gq2, rfl, hq1, hq2, hq3, hs1, hs2⟩, hbqa⟩; have HBqa := Lib.hid hbqa; have hatqa := Lib.hid (show PAt wqa p _ _ from ⟨hs1.iat, hs2.iat, hxl, hyl⟩); have hatqb := Lib.hid (PAt.kept (w := w6.drew) hat7.out hbqa); have z9 := (Qx_6.out.kept (show Below w6.heap.size w6 wqa from (Below.refl w6.heap.size w6).drew.trans hbqa)).out; obtain ⟨z0, z1, z2, z3, z4, z5⟩ := z9; clear hq1 hq2 hs1 hs2 hbqa)
      | (go_at_call 15; refine (eqpump_same p _ _ _ _ _ _ _ _ wqa hatqb.out hatqa.out).mono ?_; rintro e wqb ⟨rfl, hbqb⟩))
    all_goals
      go_wp2_with fail
      go_meet
      exact ⟨rfl, Lib.hid ((Below.refl w6.heap.size w6).drew.trans (HBqa.out.trans (hbqb.mono HBqa.out.size)))⟩
  case rest =>
    clear ba0 ba1 ba2 ba3 ba4 ba5 bx0 bx1 bx2 bx3 bx4 bx5
    obtain ⟨rfl, hbc⟩ := hcut
    obtain ⟨w7, hwb⟩ : ∃ w7, w7 = wc := ⟨_, rfl⟩
    subst hwb
    have hb7 := hbc.out
    clear hbc
    have hz7 := hb7.size
    have hB7 := hB6.trans (hb7.mono hB6.size)
    have Qa_7 := Lib.hid (Qa_6.out.kept hb7)
    have Ixx_7 := Lib.hid (Ixx_6.out.on hb7)
    have Ixy_7 := Lib.hid (Ixy_6.out.on hb7)
    have Qx_7 := Lib.hid (Qx_6.out.kept hb7)
    clear hB6 Qa_6 Ixx_6 Ixy_6 Qx_6 hb7
    refine Lib.hid ?_
    go_wp2_with fail
    go_ret
    exact ⟨rfl, hB7⟩
end Go.Proofs.Ytlkomipjamelkaa.S13
