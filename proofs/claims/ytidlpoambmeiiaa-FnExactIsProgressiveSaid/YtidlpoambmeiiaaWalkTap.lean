/- The walk of the law FnExactIsProgressive: contracts. Conditions: each theorem's own premises. -/
import Derived.Test.YtidlpoambmeiiaaTaLaw
import Derived.Deep.DeepCutAuto
import Derived.Deep.RegionLaw
import Derived.Deep.RegionHeld3
namespace Go.Proofs.Ytidlpoambmeiiaa.S14
open Go.RowKit P14

set_option maxHeartbeats 16000000 in
set_option maxRecDepth 100000 in
theorem walkIsProgressive (t0 : Ta) (A0 : Option Addr) (c0 : Nat) (w : World) (hx0 : CAt w A0 t0.bs) (hm0 : t0.bs.length ≤ maxLen) (sv0 : Bool) (sv1 : Bool)
    (hs : ∀ (A0 : Option Addr) (c0 : Nat) (w : World), TAt w t0 A0 → Calls Try.prog 28 #[tv t0 A0 c0] w (fun e w' => e = .returned (.tuple #[.bool sv0, .bool sv1]) ∧ Below w.heap.size w w'))
    (hi : ∀ (A0 : Option Addr) (c0 : Nat) (w : World), TAt w t0 A0 → Calls Try.prog 29 #[tv t0 A0 c0] w (fun e w' => e = .returned (.tuple #[.bool sv0, .bool sv1]) ∧ Below w.heap.size w w')) :
    Calls Try.prog 8 #[tv t0 A0 c0] w fun e w' => e = .returned (.bool true) ∧ Below w.heap.size w w' := by
  have HS := Lib.hid hs
  have HI := Lib.hid hi
  have HX0 := Lib.hid hx0
  have HM0 := Lib.hid hm0
  clear hs hi hx0 hm0
  go_enter Try.func8, Try.ntmps8
  refine Hid.out ?_
  have hB0 := Below.refl w.heap.size w
  have hb0b := alloc_below w (tb 24 t0 A0 c0)
  have Qn := B2.new w 24 t0 A0 c0
  have hzxa0 := new_lt w (tb 24 t0 A0 c0)
  replace Qn := Lib.hid Qn
  have hz0b : w.heap.size ≤ (w.alloc (tb 24 t0 A0 c0)).heap.size := hb0b.size
  have hB0b := hB0.trans (hb0b.mono hB0.size)
  clear hB0 hb0b
  have Qa0_0b := Qn
  clear Qn
  obtain ⟨ba0l, ba00, ba01, _⟩ := Qa0_0b.out
  refine Lib.hid ?_
  go_wp2_with (first | (go_at_call 15; refine (sztar_any t0 A0 c0 1048576 _ HM0.out (by omega) (by omega)).mono ?_; rintro e w1 ⟨⟨r0, rfl, hr0⟩, hb1⟩; refine Hid.out ?_) | fail)
  clear ba0l ba00 ba01
  have hz1 : (w.alloc (tb 24 t0 A0 c0)).heap.size ≤ w1.heap.size := hb1.size
  have hB1 := hB0b.trans (hb1.mono hB0b.size)
  have Qa0_1 := Lib.hid (Qa0_0b.out.kept hb1)
  clear hB0b Qa0_0b hb1
  by_cases hr01 : r0 < 0
  · refine Lib.hid ?_
    go_wp2
    go_ret
    exact ⟨rfl, hB1⟩
  have hr02 : 0 ≤ r0 ∧ r0 ≤ 1048576 ∧ t0.bs.length ≤ 1048576 := by rcases hr0 with h | h; exact absurd h hr01; exact h
  obtain ⟨hr03, hr04, hl0⟩ := hr02
  have HP0 : Hid (TAt w t0 A0) := Lib.hid ⟨HX0.out, hl0⟩
  clear hr0
  obtain ⟨ba0l, ba00, ba01, _⟩ := Qa0_1.out
  refine Lib.hid ?_
  go_wp2_with (first | (go_at_call 17; refine (totar_any t0 A0 c0 _ (HP0.out.kept hB1)).mono ?_; rintro e w2 ⟨⟨ga0, rfl, hga0, hOa0⟩, hb2⟩; refine Hid.out ?_) | fail)
  clear ba0l ba00 ba01
  have hz2 : w1.heap.size ≤ w2.heap.size := hb2.size
  have hB2 := hB1.trans (hb2.mono hB1.size)
  have Qa0_2 := Lib.hid (Qa0_1.out.kept hb2)
  clear hB1 Qa0_1 hb2
  have hla0 := hOa0.lt
  have Ca0_2 := Lib.hid hOa0
  clear hOa0
  obtain ⟨ba0l, ba00, ba01, _⟩ := Qa0_2.out
  refine Lib.hid ?_
  go_wp2_with (first | (go_at_call 28; refine (HS.out _ _ _ ⟨Ca0_2.out.at_, hl0⟩).mono ?_; rintro e w3 ⟨rfl, hb3⟩; refine Hid.out ?_) | fail)
  clear ba0l ba00 ba01
  have hz3 : w2.heap.size ≤ w3.heap.size := hb3.size
  have hB3 := hB2.trans (hb3.mono hB2.size)
  have Qa0_3 := Lib.hid (Qa0_2.out.kept hb3)
  have Ca0_3 := Lib.hid (CRow.kept Ca0_2.out hb3 Ca0_2.out.lt)
  clear hB2 Qa0_2 Ca0_2 hb3
  clear Ca0_3
  obtain ⟨ba0l, ba00, ba01, _⟩ := Qa0_3.out
  refine Lib.hid ?_
  go_wp2_with (first | (go_at_call 17; refine (totar_any t0 A0 c0 _ (HP0.out.kept hB3)).mono ?_; rintro e w4 ⟨⟨gx0, rfl, hgx0, hOx0⟩, hb4⟩; refine Hid.out ?_) | fail)
  clear ba0l ba00 ba01
  have hz4 : w3.heap.size ≤ w4.heap.size := hb4.size
  have hB4 := hB3.trans (hb4.mono hB3.size)
  have Qa0_4 := Lib.hid (Qa0_3.out.kept hb4)
  clear hB3 Qa0_3 hb4
  have hlx0 := hOx0.lt
  have Cx0_4 := Lib.hid hOx0
  clear hOx0
  have hb4b := alloc_below w4 (tb 29 t0 (some ⟨gx0, 0, none⟩) t0.bs.length)
  have Qn := B2.new w4 29 t0 (some ⟨gx0, 0, none⟩) t0.bs.length
  have hzxx0 := new_lt w4 (tb 29 t0 (some ⟨gx0, 0, none⟩) t0.bs.length)
  replace Qn := Lib.hid Qn
  have hz4b : w4.heap.size ≤ (w4.alloc (tb 29 t0 (some ⟨gx0, 0, none⟩) t0.bs.length)).heap.size := hb4b.size
  have hB4b := hB4.trans (hb4b.mono hB4.size)
  have Qa0_4b := Lib.hid (Qa0_4.out.kept hb4b)
  have Cx0_4b := Lib.hid (CRow.kept Cx0_4.out hb4b Cx0_4.out.lt)
  clear hB4 Qa0_4 Cx0_4 hb4b
  have Qx0_4b := Qn
  clear Qn
  obtain ⟨ba0l, ba00, ba01, _⟩ := Qa0_4b.out
  obtain ⟨bx0l, bx00, bx01, _⟩ := Qx0_4b.out
  refine Lib.hid ?_
  go_wp2_with (first | (go_at_call 29; refine (HI.out _ _ _ ⟨Cx0_4b.out.at_, hl0⟩).mono ?_; rintro e w5 ⟨rfl, hb5⟩; refine Hid.out ?_) | fail)
  clear ba0l ba00 ba01 bx0l bx00 bx01
  have hz5 : (w4.alloc (tb 29 t0 (some ⟨gx0, 0, none⟩) t0.bs.length)).heap.size ≤ w5.heap.size := hb5.size
  have hB5 := hB4b.trans (hb5.mono hB4b.size)
  have Qa0_5 := Lib.hid (Qa0_4b.out.kept hb5)
  have Cx0_5 := Lib.hid (CRow.kept Cx0_4b.out hb5 Cx0_4b.out.lt)
  have Qx0_5 := Lib.hid (Qx0_4b.out.kept hb5)
  clear hB4b Qa0_4b Cx0_4b Qx0_4b hb5
  obtain ⟨ba0l, ba00, ba01, _⟩ := Qa0_5.out
  obtain ⟨bx0l, bx00, bx01, _⟩ := Qx0_5.out
  refine Lib.hid ?_
  go_upto_region 10 with (fail)
  go_cut [39] (fun st wx => st = .bool false ∧ Hid (Below w5.heap.size w5 wx))
  case first =>
    have hA7 := Lib.hid (show TAt w5.drew t0 A0 from ⟨(HP0.out.kept hB5).x, hl0⟩)
    have hat7 := Lib.hid (show TAt w5.drew t0 (some ⟨gx0, 0, none⟩) from ⟨Cx0_5.out.at_, hl0⟩)
    go_region_with (first
      | (go_at_call 17; refine (totar_any t0 A0 c0 w5.drew hA7.out).mono ?_; rintro e wqa ⟨⟨gq1, rfl, hq1, hs1⟩, hbqa⟩; have HBqa := Lib.hid hbqa; have hatqa := Lib.hid (show TAt wqa t0 _ from ⟨hs1.at_, hl0⟩); have hatqb := Lib.hid (TAt.kept (w := w5.drew) hat7.out hbqa); have z9 := (Qx0_5.out.kept (show Below w5.heap.size w5 wqa from (Below.refl w5.heap.size w5).drew.trans hbqa)); obtain ⟨_, z0, z1, _⟩ := z9; clear hq1 hs1 hbqa)
      | (go_at_call 19; refine (eqtar_same t0 _ _ _ _ wqa hatqb.out hatqa.out).mono ?_; rintro e wqb ⟨rfl, hbqb⟩))
    all_goals
      go_wp2_with fail
      go_meet
      exact ⟨rfl, Lib.hid ((Below.refl w5.heap.size w5).drew.trans (HBqa.out.trans (hbqb.mono HBqa.out.size)))⟩
  case rest =>
    clear ba0l ba00 ba01 bx0l bx00 bx01
    obtain ⟨rfl, hbc⟩ := hcut
    obtain ⟨w6, hwb⟩ : ∃ w6, w6 = wc := ⟨_, rfl⟩
    subst hwb
    have hb6 := hbc.out
    clear hbc
    have hz6 : w5.heap.size ≤ w6.heap.size := hb6.size
    have hB6 := hB5.trans (hb6.mono hB5.size)
    have Qa0_6 := Lib.hid (Qa0_5.out.kept hb6)
    have Cx0_6 := Lib.hid (CRow.kept Cx0_5.out hb6 Cx0_5.out.lt)
    have Qx0_6 := Lib.hid (Qx0_5.out.kept hb6)
    clear hB5 Qa0_5 Cx0_5 Qx0_5 hb6
    refine Lib.hid ?_
    go_wp2_with fail
    go_ret
    exact ⟨rfl, hB6⟩
end Go.Proofs.Ytidlpoambmeiiaa.S14
