/- The walk of the law FnExactCheapestSchedule: contracts. Conditions: each theorem's own premises. -/
import Derived.Test.YtlkomipjamelkaaPuGives
import Derived.Deep.DeepCutAuto
import Derived.Deep.RegionLaw
namespace Go.Proofs.Ytlkomipjamelkaa.S13
open Go.RowKit P11 S11 P13

set_option maxHeartbeats 16000000 in
set_option maxRecDepth 100000 in
theorem walkCheapestSchedule (p : Pg) (A : Option Addr) (c : Nat) (A2 : Option Addr) (c2 : Nat) (w : World) (hx : IAt w A p.xs) (hy : IAt w A2 p.ys) (hmx : p.xs.length ≤ maxLen) (hmy : p.ys.length ≤ maxLen) (I0 : List Int) (hI0 : I0.length ≤ 1000) (sv0 : Int) (sv1 : Bool)
    (hs : ∀ (A : Option Addr) (c : Nat) (A2 : Option Addr) (c2 : Nat) (w : World), PAt w p A A2 → Calls Try.prog 24 #[pv p A c A2 c2] w (GivesA3 w I0 sv0 sv1))
    (hi : ∀ (A : Option Addr) (c : Nat) (A2 : Option Addr) (c2 : Nat) (w : World), PAt w p A A2 → Calls Try.prog 25 #[pv p A c A2 c2] w (GivesI3 w I0 sv0 sv1)) :
    Calls Try.prog 7 #[pv p A c A2 c2] w fun e w' => e = .returned (.bool true) ∧ Below w.heap.size w w' := by
  have HS := Lib.hid hs
  have HI := Lib.hid hi
  have HX := Lib.hid hx
  have HY := Lib.hid hy
  have HMX := Lib.hid hmx
  have HMY := Lib.hid hmy
  clear hs hi hx hy hmx hmy
  go_enter Try.func7, Try.ntmps7
  refine Hid.out ?_
  have hB1 := alloc_below w (po 26 p A c A2 c2)
  have hz1 := hB1.size
  have hw0 := new_lt w (po 26 p A c A2 c2)
  have Qa_1 := Lib.hid (B6.new w 26 p A c A2 c2)
  obtain ⟨ba0, ba1, ba2, ba3, ba4, ba5⟩ := Qa_1.out.out
  refine Lib.hid ?_
  go_wp2_with (first | (go_at_call 11; refine (szpump_any p A c A2 c2 1048576 _ HMX.out HMY.out (by omega) (by omega)).mono ?_; rintro e w2 ⟨⟨r0, rfl, hr0⟩, hb2⟩; refine Hid.out ?_) | fail)
  clear ba0 ba1 ba2 ba3 ba4 ba5
  have hz2 : (w.alloc (po 26 p A c A2 c2)).heap.size ≤ w2.heap.size := hb2.size
  have hB2 := hB1.trans (hb2.mono hB1.size)
  have Qa_2 := Lib.hid (Qa_1.out.kept hb2)
  clear hB1 Qa_1 hb2
  by_cases hr1 : r0 < 0
  · refine Lib.hid ?_
    go_wp2
    go_ret
    exact ⟨rfl, hB2⟩
  have hr2 : 0 ≤ r0 ∧ p.xs.length ≤ 1048576 ∧ p.ys.length ≤ 1048576 := by rcases hr0 with h | h; exact absurd h hr1; exact h
  obtain ⟨hr3, hxl, hyl⟩ := hr2
  have HPA : Hid (PAt w p A A2) := Lib.hid ⟨HX.out, HY.out, hxl, hyl⟩
  clear hr0
  obtain ⟨ba0, ba1, ba2, ba3, ba4, ba5⟩ := Qa_2.out.out
  refine Lib.hid ?_
  go_wp2_with (first | (go_at_call 13; refine (topump_any p A c A2 c2 _ (HPA.out.kept hB2)).mono ?_; rintro e w3 ⟨⟨gax, gay, rfl, hgax, hgay, hnea, hOax, hOay⟩, hb3⟩; refine Hid.out ?_) | fail)
  clear ba0 ba1 ba2 ba3 ba4 ba5
  have hz3 : w2.heap.size ≤ w3.heap.size := hb3.size
  have hB3 := hB2.trans (hb3.mono hB2.size)
  have Qa_3 := Lib.hid (Qa_2.out.kept hb3)
  clear hB2 Qa_2 hb3
  have hlax := iown_lt' hOax
  have Iax_3 := Lib.hid hOax
  clear hOax
  have hlay := iown_lt' hOay
  have Iay_3 := Lib.hid hOay
  clear hOay
  obtain ⟨ba0, ba1, ba2, ba3, ba4, ba5⟩ := Qa_3.out.out
  refine Lib.hid ?_
  go_wp2_with (first | (go_at_call 24; refine (HS.out _ _ _ _ _ ⟨Iax_3.out.iat, Iay_3.out.iat, hxl, hyl⟩).mono ?_; rintro e w4 ⟨gS, oS, cS, rfl, hgS, hS, hb4, hlS⟩; refine Hid.out ?_) | fail)
  clear ba0 ba1 ba2 ba3 ba4 ba5
  have hz4 : w3.heap.size ≤ w4.heap.size := hb4.size
  have hB4 := hB3.trans (hb4.mono hB3.size)
  have Qa_4 := Lib.hid (Qa_3.out.kept hb4)
  have Iax_4 := Lib.hid (Iax_3.out.on hb4)
  have Iay_4 := Lib.hid (Iay_3.out.on hb4)
  clear hB3 Qa_3 Iax_3 Iay_3 hb4
  have Ls_4 := Lib.hid hS
  clear hS
  clear Iax_4
  clear Iay_4
  obtain ⟨ba0, ba1, ba2, ba3, ba4, ba5⟩ := Qa_4.out.out
  refine Lib.hid ?_
  go_wp2_with (first | (go_at_call 13; refine (topump_any p A c A2 c2 _ (HPA.out.kept hB4)).mono ?_; rintro e w5 ⟨⟨gxx, gxy, rfl, hgxx, hgxy, hnex, hOxx, hOxy⟩, hb5⟩; refine Hid.out ?_) | fail)
  clear ba0 ba1 ba2 ba3 ba4 ba5
  have hz5 : w4.heap.size ≤ w5.heap.size := hb5.size
  have hB5 := hB4.trans (hb5.mono hB4.size)
  have Qa_5 := Lib.hid (Qa_4.out.kept hb5)
  have Ls_5 := Lib.hid (Ls_4.out.low hb5 (by omega))
  clear hB4 Qa_4 Ls_4 hb5
  have hlxx := iown_lt' hOxx
  have Ixx_5 := Lib.hid hOxx
  clear hOxx
  have hlxy := iown_lt' hOxy
  have Ixy_5 := Lib.hid hOxy
  clear hOxy
  have hb5b := alloc_below w5 (po 31 p (some ⟨gxx, 0, none⟩) p.xs.length (some ⟨gxy, 0, none⟩) p.ys.length)
  have Qn := Lib.hid (B6.new w5 31 p (some ⟨gxx, 0, none⟩) p.xs.length (some ⟨gxy, 0, none⟩) p.ys.length)
  have hzx := new_lt w5 (po 31 p (some ⟨gxx, 0, none⟩) p.xs.length (some ⟨gxy, 0, none⟩) p.ys.length)
  have hz5b : w5.heap.size ≤ (w5.alloc (po 31 p (some ⟨gxx, 0, none⟩) p.xs.length (some ⟨gxy, 0, none⟩) p.ys.length)).heap.size := hb5b.size
  have hB5b := hB5.trans (hb5b.mono hB5.size)
  have Qa_5b := Lib.hid (Qa_5.out.kept hb5b)
  have Ls_5b := Lib.hid (Ls_5.out.low hb5b (by omega))
  have Ixx_5b := Lib.hid (Ixx_5.out.on hb5b)
  have Ixy_5b := Lib.hid (Ixy_5.out.on hb5b)
  clear hB5 Qa_5 Ls_5 Ixx_5 Ixy_5 hb5b
  have Qx_5b := Qn
  clear Qn
  obtain ⟨ba0, ba1, ba2, ba3, ba4, ba5⟩ := Qa_5b.out.out
  obtain ⟨bx0, bx1, bx2, bx3, bx4, bx5⟩ := Qx_5b.out.out
  refine Lib.hid ?_
  go_wp2_with (first | (go_at_call 25; refine (HI.out _ _ _ _ _ ⟨Ixx_5b.out.iat, Ixy_5b.out.iat, hxl, hyl⟩).mono ?_; rintro e w6 ⟨gIp, cIp, rfl, hgIp, hOp, hb6⟩; refine Hid.out ?_) | fail)
  clear ba0 ba1 ba2 ba3 ba4 ba5 bx0 bx1 bx2 bx3 bx4 bx5
  have hz6 : (w5.alloc (po 31 p (some ⟨gxx, 0, none⟩) p.xs.length (some ⟨gxy, 0, none⟩) p.ys.length)).heap.size ≤ w6.heap.size := hb6.size
  have hB6 := hB5b.trans (hb6.mono hB5b.size)
  have Qa_6 := Lib.hid (Qa_5b.out.kept hb6)
  have Ls_6 := Lib.hid (Ls_5b.out.low hb6 (by omega))
  have Ixx_6 := Lib.hid (Ixx_5b.out.on hb6)
  have Ixy_6 := Lib.hid (Ixy_5b.out.on hb6)
  have Qx_6 := Lib.hid (Qx_5b.out.kept hb6)
  clear hB5b Qa_5b Ls_5b Ixx_5b Ixy_5b Qx_5b hb6
  have hlIp := iown_lt' hOp
  have Ip_6 := Lib.hid hOp
  clear hOp
  obtain ⟨ba0, ba1, ba2, ba3, ba4, ba5⟩ := Qa_6.out.out
  obtain ⟨bx0, bx1, bx2, bx3, bx4, bx5⟩ := Qx_6.out.out
  refine Lib.hid ?_
  go_wp2_with (first | (go_at_call 19; refine (eqints_same _ _ _ _ I0 _ Ip_6.out.iat Ls_6.out (by omega)).mono ?_; rintro e w7 ⟨rfl, hb7⟩; refine Hid.out ?_) | fail)
  clear ba0 ba1 ba2 ba3 ba4 ba5 bx0 bx1 bx2 bx3 bx4 bx5
  have hz7 : w6.heap.size ≤ w7.heap.size := hb7.size
  have hB7 := hB6.trans (hb7.mono hB6.size)
  have Qa_7 := Lib.hid (Qa_6.out.kept hb7)
  have Ls_7 := Lib.hid (Ls_6.out.low hb7 (by omega))
  have Ixx_7 := Lib.hid (Ixx_6.out.on hb7)
  have Ixy_7 := Lib.hid (Ixy_6.out.on hb7)
  have Qx_7 := Lib.hid (Qx_6.out.kept hb7)
  have Ip_7 := Lib.hid (Ip_6.out.on hb7)
  clear hB6 Qa_6 Ls_6 Ixx_6 Ixy_6 Qx_6 Ip_6 hb7
  obtain ⟨ba0, ba1, ba2, ba3, ba4, ba5⟩ := Qa_7.out.out
  obtain ⟨bx0, bx1, bx2, bx3, bx4, bx5⟩ := Qx_7.out.out
  refine Lib.hid ?_
  go_upto_region 10 with (fail)
  go_cut [55] (fun st wx => st = .bool false ∧ Hid (Below w7.heap.size w7 wx))
  case first =>
    have hA7 := Lib.hid (show PAt w7.drew p A A2 from ⟨(HPA.out.kept hB7).x, (HPA.out.kept hB7).y, hxl, hyl⟩)
    have hat7 := Lib.hid (show PAt w7.drew p (some ⟨gxx, 0, none⟩) (some ⟨gxy, 0, none⟩) from ⟨Ixx_7.out.iat, Ixy_7.out.iat, hxl, hyl⟩)
    have hx4 : w5.heap.size < w7.heap.size := Qx_7.out.lt
    go_region_with (first
      | (go_at_call 13; refine (topump_any p A c A2 c2 w7.drew hA7.out).mono ?_; rintro e wqa ⟨⟨gq1, gq2, rfl, hq1, hq2, hq3, hs1, hs2⟩, hbqa⟩; have HBqa := Lib.hid hbqa; have hatqa := Lib.hid (show PAt wqa p _ _ from ⟨hs1.iat, hs2.iat, hxl, hyl⟩); have hatqb := Lib.hid (PAt.kept (w := w7.drew) hat7.out hbqa); have z9 := (Qx_7.out.kept (show Below w7.heap.size w7 wqa from (Below.refl w7.heap.size w7).drew.trans hbqa)).out; obtain ⟨z0, z1, z2, z3, z4, z5⟩ := z9; clear hq1 hq2 hs1 hs2 hbqa)
      | (go_at_call 15; refine (eqpump_same p _ _ _ _ _ _ _ _ wqa hatqb.out hatqa.out).mono ?_; rintro e wqb ⟨rfl, hbqb⟩))
    all_goals
      go_wp2_with fail
      go_meet
      exact ⟨rfl, Lib.hid ((Below.refl w7.heap.size w7).drew.trans (HBqa.out.trans (hbqb.mono HBqa.out.size)))⟩
  case rest =>
    clear ba0 ba1 ba2 ba3 ba4 ba5 bx0 bx1 bx2 bx3 bx4 bx5
    obtain ⟨rfl, hbc⟩ := hcut
    obtain ⟨w8, hwb⟩ : ∃ w8, w8 = wc := ⟨_, rfl⟩
    subst hwb
    have hb8 := hbc.out
    clear hbc
    have hz8 : w7.heap.size ≤ w8.heap.size := hb8.size
    have hB8 := hB7.trans (hb8.mono hB7.size)
    have Qa_8 := Lib.hid (Qa_7.out.kept hb8)
    have Ls_8 := Lib.hid (Ls_7.out.low hb8 (by omega))
    have Ixx_8 := Lib.hid (Ixx_7.out.on hb8)
    have Ixy_8 := Lib.hid (Ixy_7.out.on hb8)
    have Qx_8 := Lib.hid (Qx_7.out.kept hb8)
    have Ip_8 := Lib.hid (Ip_7.out.on hb8)
    clear hB7 Qa_7 Ls_7 Ixx_7 Ixy_7 Qx_7 Ip_7 hb8
    have HX9 := Ixx_8
    have HY9 := Ixy_8
    clear Ixx_8
    clear Ixy_8
    obtain ⟨ba0, ba1, ba2, ba3, ba4, ba5⟩ := Qa_8.out.out
    obtain ⟨bx0, bx1, bx2, bx3, bx4, bx5⟩ := Qx_8.out.out
    refine Lib.hid ?_
    go_wp2_with (first | (go_at_call 26; refine (markpump_i _ gxx gxy _ _ 1 (1) p _ HX9.out HY9.out hnex hxl hyl (by omega) (by omega)).mono ?_; rintro e w9 ⟨rfl, w9m, hg9m, hg9⟩; refine Hid.out ?_) | fail)
    clear ba0 ba1 ba2 ba3 ba4 ba5 bx0 bx1 bx2 bx3 bx4 bx5
    have hz9m : w8.heap.size ≤ w9m.heap.size := hg9m.size
    have hB9m := hB8.grown hg9m (by omega) (fun k hk => by simp at hk; omega)
    have Qa_9m := Lib.hid (Qa_8.out.far hg9m (by omega))
    have Ls_9m := Lib.hid (Ls_8.out.far hg9m (by omega))
    have Qx_9m := Lib.hid (Qx_8.out.far hg9m (by omega))
    have Ip_9m := Lib.hid (Ip_8.out.far hg9m (by omega))
    clear hB8 Qa_8 Ls_8 Qx_8 Ip_8 hg9m
    have hz9 : w9m.heap.size ≤ w9.heap.size := hg9.size
    have hB9 := hB9m.grown hg9 (by omega) (fun k hk => by simp at hk; omega)
    have Qa_9 := Lib.hid (Qa_9m.out.far hg9 (by omega))
    have Ls_9 := Lib.hid (Ls_9m.out.far hg9 (by omega))
    have Qx_9 := Lib.hid (Qx_9m.out.far hg9 (by omega))
    have Ip_9 := Lib.hid (Ip_9m.out.far hg9 (by omega))
    clear hB9m Qa_9m Ls_9m Qx_9m Ip_9m hg9
    clear HX9 HY9
    clear Qx_9
    have hk9 : ¬ ((1 : Int) + (p.xs.length : Int) + (p.ys.length : Int) < 0) := by omega
    obtain ⟨ba0, ba1, ba2, ba3, ba4, ba5⟩ := Qa_9.out.out
    refine Lib.hid ?_
    go_wp2_with (first | (go_at_call 19; refine (eqints_same _ _ _ _ I0 _ Ip_9.out.iat Ls_9.out (by omega)).mono ?_; rintro e w10 ⟨rfl, hb10⟩; refine Hid.out ?_) | fail)
    clear ba0 ba1 ba2 ba3 ba4 ba5
    have hz10 : w9.heap.size ≤ w10.heap.size := hb10.size
    have hB10 := hB9.trans (hb10.mono hB9.size)
    have Qa_10 := Lib.hid (Qa_9.out.kept hb10)
    have Ls_10 := Lib.hid (Ls_9.out.low hb10 (by omega))
    have Ip_10 := Lib.hid (Ip_9.out.on hb10)
    clear hB9 Qa_9 Ls_9 Ip_9 hb10
    have HOJ := Ip_10
    clear Ip_10
    obtain ⟨ba0, ba1, ba2, ba3, ba4, ba5⟩ := Qa_10.out.out
    refine Lib.hid ?_
    go_wp2_with (first | (go_at_call 27; refine (markints_i _ gIp cIp (1) _ I0 _ HOJ.out (by omega) (by omega) (by omega)).mono ?_; rintro e w11 ⟨rfl, hM, hg11⟩; refine Hid.out ?_) | fail)
    clear ba0 ba1 ba2 ba3 ba4 ba5
    have hz11 : w10.heap.size ≤ w11.heap.size := hg11.size
    have hB11 := hB10.grown hg11 (by omega) (fun k hk => by simp at hk; omega)
    have Qa_11 := Lib.hid (Qa_10.out.far hg11 (by omega))
    have Ls_11 := Lib.hid (Ls_10.out.far hg11 (by omega))
    clear hB10 Qa_10 Ls_10 hg11
    have LK_11 := Lib.hid hM.iat_marks
    clear hM
    obtain ⟨ba0, ba1, ba2, ba3, ba4, ba5⟩ := Qa_11.out.out
    refine Lib.hid ?_
    go_wp2_with (first | (go_at_call 28; refine (heldints_i _ _ (1) I0.length _ _ LK_11.out (by omega) (by omega) (by omega)).mono ?_; rintro e w12 ⟨rfl, hb12⟩; refine Hid.out ?_) | fail)
    clear ba0 ba1 ba2 ba3 ba4 ba5
    have hz12 : w11.heap.size ≤ w12.heap.size := hb12.size
    have hB12 := hB11.trans (hb12.mono hB11.size)
    have Qa_12 := Lib.hid (Qa_11.out.kept hb12)
    have Ls_12 := Lib.hid (Ls_11.out.low hb12 (by omega))
    have LK_12 := Lib.hid (LK_11.out.low hb12 (by omega))
    clear hB11 Qa_11 Ls_11 LK_11 hb12
    obtain ⟨ba0, ba1, ba2, ba3, ba4, ba5⟩ := Qa_12.out.out
    refine Lib.hid ?_
    go_wp2_with (first | (go_at_call 13; refine (topump_any p A c A2 c2 _ (HPA.out.kept hB12)).mono ?_; rintro e w13 ⟨⟨gvx, gvy, rfl, hgvx, hgvy, hnev, hOvx, hOvy⟩, hb13⟩; refine Hid.out ?_) | fail)
    clear ba0 ba1 ba2 ba3 ba4 ba5
    have hz13 : w12.heap.size ≤ w13.heap.size := hb13.size
    have hB13 := hB12.trans (hb13.mono hB12.size)
    have Qa_13 := Lib.hid (Qa_12.out.kept hb13)
    have Ls_13 := Lib.hid (Ls_12.out.low hb13 (by omega))
    have LK_13 := Lib.hid (LK_12.out.low hb13 (by omega))
    clear hB12 Qa_12 Ls_12 LK_12 hb13
    have hlvx := iown_lt' hOvx
    have Ivx_13 := Lib.hid hOvx
    clear hOvx
    have hlvy := iown_lt' hOvy
    have Ivy_13 := Lib.hid hOvy
    clear hOvy
    obtain ⟨ba0, ba1, ba2, ba3, ba4, ba5⟩ := Qa_13.out.out
    refine Lib.hid ?_
    go_wp2_with (first | (go_at_call 25; refine (HI.out _ _ _ _ _ ⟨Ivx_13.out.iat, Ivy_13.out.iat, hxl, hyl⟩).mono ?_; rintro e w14 ⟨gIh, cIh, rfl, hgIh, hOh, hb14⟩; refine Hid.out ?_) | fail)
    clear ba0 ba1 ba2 ba3 ba4 ba5
    have hz14 : w13.heap.size ≤ w14.heap.size := hb14.size
    have hB14 := hB13.trans (hb14.mono hB13.size)
    have Qa_14 := Lib.hid (Qa_13.out.kept hb14)
    have Ls_14 := Lib.hid (Ls_13.out.low hb14 (by omega))
    have LK_14 := Lib.hid (LK_13.out.low hb14 (by omega))
    have Ivx_14 := Lib.hid (Ivx_13.out.on hb14)
    have Ivy_14 := Lib.hid (Ivy_13.out.on hb14)
    clear hB13 Qa_13 Ls_13 LK_13 Ivx_13 Ivy_13 hb14
    have hlIh := iown_lt' hOh
    have Ih_14 := Lib.hid hOh
    clear hOh
    clear Ivx_14
    clear Ivy_14
    obtain ⟨ba0, ba1, ba2, ba3, ba4, ba5⟩ := Qa_14.out.out
    refine Lib.hid ?_
    go_wp2_with (first | (go_at_call 19; refine (eqints_same _ _ _ _ I0 _ Ih_14.out.iat Ls_14.out (by omega)).mono ?_; rintro e w15 ⟨rfl, hb15⟩; refine Hid.out ?_) | fail)
    clear ba0 ba1 ba2 ba3 ba4 ba5
    have hz15 : w14.heap.size ≤ w15.heap.size := hb15.size
    have hB15 := hB14.trans (hb15.mono hB14.size)
    have Qa_15 := Lib.hid (Qa_14.out.kept hb15)
    have Ls_15 := Lib.hid (Ls_14.out.low hb15 (by omega))
    have LK_15 := Lib.hid (LK_14.out.low hb15 (by omega))
    have Ih_15 := Lib.hid (Ih_14.out.on hb15)
    clear hB14 Qa_14 Ls_14 LK_14 Ih_14 hb15
    obtain ⟨ba0, ba1, ba2, ba3, ba4, ba5⟩ := Qa_15.out.out
    refine Lib.hid ?_
    go_wp2_with (first | (go_at_call 28; refine (heldints_i _ _ (1) I0.length _ _ LK_15.out (by omega) (by omega) (by omega)).mono ?_; rintro e w16 ⟨rfl, hb16⟩; refine Hid.out ?_) | fail)
    clear ba0 ba1 ba2 ba3 ba4 ba5
    have hz16 : w15.heap.size ≤ w16.heap.size := hb16.size
    have hB16 := hB15.trans (hb16.mono hB15.size)
    have Qa_16 := Lib.hid (Qa_15.out.kept hb16)
    have Ls_16 := Lib.hid (Ls_15.out.low hb16 (by omega))
    have LK_16 := Lib.hid (LK_15.out.low hb16 (by omega))
    have Ih_16 := Lib.hid (Ih_15.out.on hb16)
    clear hB15 Qa_15 Ls_15 LK_15 Ih_15 hb16
    refine Lib.hid ?_
    go_wp2_with fail
    go_ret
    exact ⟨rfl, hB16⟩
end Go.Proofs.Ytlkomipjamelkaa.S13
