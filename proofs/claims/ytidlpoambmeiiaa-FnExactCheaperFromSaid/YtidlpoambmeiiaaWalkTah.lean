/- The walk of the law FnExactCheaperFrom: contracts. Conditions: each theorem's own premises. -/
import Derived.Test.YtidlpoambmeiiaaTaLaw
import Derived.Deep.DeepCutAuto
import Derived.Deep.RegionLaw
import Derived.Deep.RegionHeld3
namespace Go.Proofs.Ytidlpoambmeiiaa.S14
open Go.RowKit P14

set_option maxHeartbeats 16000000 in
set_option maxRecDepth 100000 in
theorem walkCheaperFrom (t0 : Ta) (A0 : Option Addr) (c0 : Nat) (t1 : Ta) (A1 : Option Addr) (c1 : Nat) (w : World) (hx0 : CAt w A0 t0.bs) (hm0 : t0.bs.length ≤ maxLen) (hx1 : CAt w A1 t1.bs) (hm1 : t1.bs.length ≤ maxLen) (sv0 : Int) (sv1 : Bool)
    (hs : ∀ (A0 : Option Addr) (c0 : Nat) (A1 : Option Addr) (c1 : Nat) (w : World), TAt w t0 A0 → TAt w t1 A1 → Calls Try.prog 30 #[tv t0 A0 c0, tv t1 A1 c1] w (fun e w' => e = .returned (.tuple #[.int .i64 sv0, .bool sv1]) ∧ Below w.heap.size w w'))
    (hi : ∀ (A0 : Option Addr) (c0 : Nat) (A1 : Option Addr) (c1 : Nat) (w : World), TAt w t0 A0 → TAt w t1 A1 → Calls Try.prog 31 #[tv t0 A0 c0, tv t1 A1 c1] w (fun e w' => e = .returned (.tuple #[.int .i64 sv0, .bool sv1]) ∧ Below w.heap.size w w')) :
    Calls Try.prog 9 #[tv t0 A0 c0, tv t1 A1 c1] w fun e w' => e = .returned (.bool true) ∧ Below w.heap.size w w' := by
  have HS := Lib.hid hs
  have HI := Lib.hid hi
  have HX0 := Lib.hid hx0
  have HM0 := Lib.hid hm0
  have HX1 := Lib.hid hx1
  have HM1 := Lib.hid hm1
  clear hs hi hx0 hm0 hx1 hm1
  go_enter Try.func9, Try.ntmps9
  refine Hid.out ?_
  have hB0 := Below.refl w.heap.size w
  have hb0b := alloc_below w (tb 24 t0 A0 c0)
  have Qn := B2.new w 24 t0 A0 c0
  have hzxa0 := new_lt w (tb 24 t0 A0 c0)
  replace Qn := Lib.hid Qn
  have hz0b : w.heap.size ≤ (w.alloc (tb 24 t0 A0 c0)).heap.size := hb0b.size
  have hB0b := hB0.trans (hb0b.mono hB0.size)
  clear hB0 hb0b
  have Qa0_0b := Qn
  clear Qn
  have hb0bb := alloc_below (w.alloc (tb 24 t0 A0 c0)) (tb 24 t1 A1 c1)
  have Qn := B2.new (w.alloc (tb 24 t0 A0 c0)) 24 t1 A1 c1
  have hzxa1 := new_lt (w.alloc (tb 24 t0 A0 c0)) (tb 24 t1 A1 c1)
  rw [alloc_size] at Qn hzxa1
  replace Qn := Lib.hid Qn
  have hz0bb : (w.alloc (tb 24 t0 A0 c0)).heap.size ≤ ((w.alloc (tb 24 t0 A0 c0)).alloc (tb 24 t1 A1 c1)).heap.size := hb0bb.size
  have hB0bb := hB0b.trans (hb0bb.mono hB0b.size)
  have Qa0_0bb := Lib.hid (Qa0_0b.out.kept hb0bb)
  clear hB0b Qa0_0b hb0bb
  have Qa1_0bb := Qn
  clear Qn
  obtain ⟨ba0l, ba00, ba01, _⟩ := Qa0_0bb.out
  obtain ⟨ba1l, ba10, ba11, _⟩ := Qa1_0bb.out
  refine Lib.hid ?_
  go_wp2_with (first | (go_at_call 15; refine (sztar_any t0 A0 c0 1048576 _ HM0.out (by omega) (by omega)).mono ?_; rintro e w1 ⟨⟨r0, rfl, hr0⟩, hb1⟩; refine Hid.out ?_) | fail)
  clear ba0l ba00 ba01 ba1l ba10 ba11
  have hz1 : ((w.alloc (tb 24 t0 A0 c0)).alloc (tb 24 t1 A1 c1)).heap.size ≤ w1.heap.size := hb1.size
  have hB1 := hB0bb.trans (hb1.mono hB0bb.size)
  have Qa0_1 := Lib.hid (Qa0_0bb.out.kept hb1)
  have Qa1_1 := Lib.hid (Qa1_0bb.out.kept hb1)
  clear hB0bb Qa0_0bb Qa1_0bb hb1
  by_cases hr01 : r0 < 0
  · refine Lib.hid ?_
    go_wp2
    go_ret
    exact ⟨rfl, hB1⟩
  have hr02 : 0 ≤ r0 ∧ r0 ≤ 1048576 ∧ t0.bs.length ≤ 1048576 := by rcases hr0 with h | h; exact absurd h hr01; exact h
  obtain ⟨hr03, hr04, hl0⟩ := hr02
  have HP0 : Hid (TAt w t0 A0) := Lib.hid ⟨HX0.out, hl0⟩
  clear hr0
  obtain ⟨ba0l, ba00, ba01, _⟩ := Qa0_1.out
  obtain ⟨ba1l, ba10, ba11, _⟩ := Qa1_1.out
  refine Lib.hid ?_
  go_wp2_with (first | (go_at_call 15; refine (sztar_any t1 A1 c1 r0 _ HM1.out (by omega) (by omega)).mono ?_; rintro e w2 ⟨⟨r1, rfl, hr1⟩, hb2⟩; refine Hid.out ?_) | fail)
  clear ba0l ba00 ba01 ba1l ba10 ba11
  have hz2 : w1.heap.size ≤ w2.heap.size := hb2.size
  have hB2 := hB1.trans (hb2.mono hB1.size)
  have Qa0_2 := Lib.hid (Qa0_1.out.kept hb2)
  have Qa1_2 := Lib.hid (Qa1_1.out.kept hb2)
  clear hB1 Qa0_1 Qa1_1 hb2
  by_cases hr11 : r1 < 0
  · refine Lib.hid ?_
    go_wp2
    go_ret
    exact ⟨rfl, hB2⟩
  have hr12 : 0 ≤ r1 ∧ r1 ≤ 1048576 ∧ t1.bs.length ≤ 1048576 := by rcases hr1 with h | h; exact absurd h hr11; exact h
  obtain ⟨hr13, hr14, hl1⟩ := hr12
  have HP1 : Hid (TAt w t1 A1) := Lib.hid ⟨HX1.out, hl1⟩
  clear hr1
  obtain ⟨ba0l, ba00, ba01, _⟩ := Qa0_2.out
  obtain ⟨ba1l, ba10, ba11, _⟩ := Qa1_2.out
  refine Lib.hid ?_
  go_upto_region 8 with (fail)
  go_cut [6, 7] (fun s t wx => s = .int .i64 sv0 ∧ t = .bool sv1 ∧ Hid (Below w2.heap.size w2 wx))
  case first =>
    have hA70 := Lib.hid (HP0.out.kept hB2)
    have hx0 : w.heap.size < w2.heap.size := ba0l
    have hA71 := Lib.hid (HP1.out.kept hB2)
    have hx1 : w.heap.size + 1 < w2.heap.size := ba1l
    refine wp_region_held_drew (S := fun w' => w'.cell? ⟨w.heap.size, 0, none⟩ = some (.int .i64 t0.fee) ∧ w'.cell? ⟨w.heap.size, 1, none⟩ = some (.slice A0 t0.bs.length c0) ∧ w'.cell? ⟨w.heap.size + 1, 0, none⟩ = some (.int .i64 t1.fee) ∧ w'.cell? ⟨w.heap.size + 1, 1, none⟩ = some (.slice A1 t1.bs.length c1)) (by kernel_rfl) (by exact ⟨ba00, ba01, ba10, ba11⟩) (fun hHeld => ?_)
    refine wpAnyH_take (i := 0) (v := tv t0 A0 c0) rfl (by kernel_rfl) (by kernel_rfl) (by kernel_rfl) (fun _ _ _ h => h) (Or.inl ⟨by kernel_rfl, ?_⟩) (by assumption) ?_
    · (intro w hSw; (try dsimp only at hSw); go_simp)
    simp only [Act.put, List.setIfInBounds_toArray]
    refine wpAnyH_take (i := 2) (v := tv t1 A1 c1) rfl (by kernel_rfl) (by kernel_rfl) (by kernel_rfl) (fun _ _ _ h => h) (Or.inl ⟨by kernel_rfl, ?_⟩) (by assumption) ?_
    · (intro w hSw; (try dsimp only at hSw); go_simp)
    simp only [Act.put]
    refine wpAnyH_ready (rs := [1]) (by kernel_rfl) (by simp) ?_
    refine AllReadyH.cons rfl (fun K hK => ?_) AllReadyH.nil
    go_simp
    go_at_call 17
    refine (totar_any t0 A0 c0 w2.drew (hA70.out.kept (Below.refl w2.heap.size w2).drew)).mono ?_
    rintro e wq1 ⟨⟨gq0, rfl, hgq0, hOq0⟩, hbq1⟩
    have HBq1 := Lib.hid ((Below.refl w2.heap.size w2).drew.trans hbq1)
    have y00q1 := (HBq1.out.cell (p := ⟨w.heap.size, 0, none⟩) hx0).trans ba00
    have y01q1 := (HBq1.out.cell (p := ⟨w.heap.size, 1, none⟩) hx0).trans ba01
    have y10q1 := (HBq1.out.cell (p := ⟨w.heap.size + 1, 0, none⟩) hx1).trans ba10
    have y11q1 := (HBq1.out.cell (p := ⟨w.heap.size + 1, 1, none⟩) hx1).trans ba11
    refine hK.out _ _ ⟨y00q1, y01q1, y10q1, y11q1⟩ (fun hHeld => ?_)
    clear hK K
    refine wpAnyH_ready (rs := [3]) (by kernel_rfl) (by simp) ?_
    refine AllReadyH.cons rfl (fun K hK => ?_) AllReadyH.nil
    go_simp
    go_at_call 17
    refine (totar_any t1 A1 c1 wq1 (hA71.out.kept HBq1.out)).mono ?_
    rintro e wq2 ⟨⟨gq1, rfl, hgq1, hOq1⟩, hbq2⟩
    have HBq2 := Lib.hid (HBq1.out.trans (hbq2.mono HBq1.out.size))
    have y00q2 := (HBq2.out.cell (p := ⟨w.heap.size, 0, none⟩) hx0).trans ba00
    have y01q2 := (HBq2.out.cell (p := ⟨w.heap.size, 1, none⟩) hx0).trans ba01
    have y10q2 := (HBq2.out.cell (p := ⟨w.heap.size + 1, 0, none⟩) hx1).trans ba10
    have y11q2 := (HBq2.out.cell (p := ⟨w.heap.size + 1, 1, none⟩) hx1).trans ba11
    refine hK.out _ _ ⟨y00q2, y01q2, y10q2, y11q2⟩ (fun hHeld => ?_)
    clear hK K
    have hOq0 := CRow.kept hOq0 hbq2 hOq0.lt
    refine wpAnyH_ready (rs := [4]) (by kernel_rfl) (by simp) ?_
    refine AllReadyH.cons rfl (fun K hK => ?_) AllReadyH.nil
    go_simp
    go_at_call 30
    refine (HS.out _ _ _ _ wq2 ⟨hOq0.at_, hl0⟩ ⟨hOq1.at_, hl1⟩).mono ?_
    rintro e wq3 ⟨rfl, hbq3⟩
    have HBq3 := Lib.hid (HBq2.out.trans (hbq3.mono HBq2.out.size))
    have y00q3 := (HBq3.out.cell (p := ⟨w.heap.size, 0, none⟩) hx0).trans ba00
    have y01q3 := (HBq3.out.cell (p := ⟨w.heap.size, 1, none⟩) hx0).trans ba01
    have y10q3 := (HBq3.out.cell (p := ⟨w.heap.size + 1, 0, none⟩) hx1).trans ba10
    have y11q3 := (HBq3.out.cell (p := ⟨w.heap.size + 1, 1, none⟩) hx1).trans ba11
    refine hK.out _ _ ⟨y00q3, y01q3, y10q3, y11q3⟩ (fun hHeld => ?_)
    clear hK K
    refine wpAnyH_take (i := 5) (v := .tuple #[.int .i64 sv0, .bool sv1]) rfl (by kernel_rfl) (by kernel_rfl) (by kernel_rfl) (fun _ _ _ h => h) (Or.inl ⟨by kernel_rfl, ?_⟩) (by assumption) ?_
    · (intro w hSw; (try dsimp only at hSw); go_simp)
    simp only [Act.put]
    refine wpAnyH_take (i := 6) (v := .int .i64 sv0) rfl (by kernel_rfl) (by kernel_rfl) (by kernel_rfl) (fun _ _ _ h => h) (Or.inl ⟨by kernel_rfl, ?_⟩) (by assumption) ?_
    · (intro w hSw; (try dsimp only at hSw); go_simp)
    simp only [Act.put]
    refine wpAnyH_take (i := 7) (v := .bool sv1) rfl (by kernel_rfl) (by kernel_rfl) (by kernel_rfl) (fun _ _ _ h => h) (Or.inl ⟨by kernel_rfl, ?_⟩) (by assumption) ?_
    · (intro w hSw; (try dsimp only at hSw); go_simp)
    simp only [Act.put]
    refine wpAnyH_ready (rs := [8]) (by kernel_rfl) (by simp) ?_
    refine AllReadyH.cons rfl (fun K hK => ?_) AllReadyH.nil
    go_simp
    refine hK.out _ _ (by first | assumption | go_keep) (fun hHeld => ?_)
    clear hK K
    refine wpAnyH_ready (rs := [9]) (by kernel_rfl) (by simp) ?_
    refine AllReadyH.cons rfl (fun K hK => ?_) AllReadyH.nil
    go_simp
    refine hK.out _ _ (by first | assumption | go_keep) (fun hHeld => ?_)
    clear hK K
    refine wpAnyH_done (by kernel_rfl) ?_ _
    go_wp2_with fail
    go_meet
    exact ⟨rfl, rfl, Lib.hid HBq3.out⟩
  case rest =>
    clear ba0l ba00 ba01 ba1l ba10 ba11
    obtain ⟨rfl, rfl, hbc⟩ := hcut
    obtain ⟨w3, hwb⟩ : ∃ w3, w3 = wc := ⟨_, rfl⟩
    subst hwb
    have hb3 := hbc.out
    clear hbc
    have hz3 : w2.heap.size ≤ w3.heap.size := hb3.size
    have hB3 := hB2.trans (hb3.mono hB2.size)
    have Qa0_3 := Lib.hid (Qa0_2.out.kept hb3)
    have Qa1_3 := Lib.hid (Qa1_2.out.kept hb3)
    clear hB2 Qa0_2 Qa1_2 hb3
    obtain ⟨ba0l, ba00, ba01, _⟩ := Qa0_3.out
    obtain ⟨ba1l, ba10, ba11, _⟩ := Qa1_3.out
    refine Lib.hid ?_
    go_wp2_with (first | (go_at_call 17; refine (totar_any t0 A0 c0 _ (HP0.out.kept hB3)).mono ?_; rintro e w4 ⟨⟨gx0, rfl, hgx0, hOx0⟩, hb4⟩; refine Hid.out ?_) | fail)
    clear ba0l ba00 ba01 ba1l ba10 ba11
    have hz4 : w3.heap.size ≤ w4.heap.size := hb4.size
    have hB4 := hB3.trans (hb4.mono hB3.size)
    have Qa0_4 := Lib.hid (Qa0_3.out.kept hb4)
    have Qa1_4 := Lib.hid (Qa1_3.out.kept hb4)
    clear hB3 Qa0_3 Qa1_3 hb4
    have hlx0 := hOx0.lt
    have Cx0_4 := Lib.hid hOx0
    clear hOx0
    have hb4b := alloc_below w4 (tb 29 t0 (some ⟨gx0, 0, none⟩) t0.bs.length)
    have Qn := B2.new w4 29 t0 (some ⟨gx0, 0, none⟩) t0.bs.length
    have hzxx0 := new_lt w4 (tb 29 t0 (some ⟨gx0, 0, none⟩) t0.bs.length)
    replace Qn := Lib.hid Qn
    have hz4b : w4.heap.size ≤ (w4.alloc (tb 29 t0 (some ⟨gx0, 0, none⟩) t0.bs.length)).heap.size := hb4b.size
    have hB4b := hB4.trans (hb4b.mono hB4.size)
    have Qa0_4b := Lib.hid (Qa0_4.out.kept hb4b)
    have Qa1_4b := Lib.hid (Qa1_4.out.kept hb4b)
    have Cx0_4b := Lib.hid (CRow.kept Cx0_4.out hb4b Cx0_4.out.lt)
    clear hB4 Qa0_4 Qa1_4 Cx0_4 hb4b
    have Qx0_4b := Qn
    clear Qn
    obtain ⟨ba0l, ba00, ba01, _⟩ := Qa0_4b.out
    obtain ⟨ba1l, ba10, ba11, _⟩ := Qa1_4b.out
    obtain ⟨bx0l, bx00, bx01, _⟩ := Qx0_4b.out
    refine Lib.hid ?_
    go_wp2_with (first | (go_at_call 17; refine (totar_any t1 A1 c1 _ (HP1.out.kept hB4b)).mono ?_; rintro e w5 ⟨⟨gx1, rfl, hgx1, hOx1⟩, hb5⟩; refine Hid.out ?_) | fail)
    clear ba0l ba00 ba01 ba1l ba10 ba11 bx0l bx00 bx01
    have hz5 : (w4.alloc (tb 29 t0 (some ⟨gx0, 0, none⟩) t0.bs.length)).heap.size ≤ w5.heap.size := hb5.size
    have hB5 := hB4b.trans (hb5.mono hB4b.size)
    have Qa0_5 := Lib.hid (Qa0_4b.out.kept hb5)
    have Qa1_5 := Lib.hid (Qa1_4b.out.kept hb5)
    have Cx0_5 := Lib.hid (CRow.kept Cx0_4b.out hb5 Cx0_4b.out.lt)
    have Qx0_5 := Lib.hid (Qx0_4b.out.kept hb5)
    clear hB4b Qa0_4b Qa1_4b Cx0_4b Qx0_4b hb5
    have hlx1 := hOx1.lt
    have Cx1_5 := Lib.hid hOx1
    clear hOx1
    have hb5b := alloc_below w5 (tb 29 t1 (some ⟨gx1, 0, none⟩) t1.bs.length)
    have Qn := B2.new w5 29 t1 (some ⟨gx1, 0, none⟩) t1.bs.length
    have hzxx1 := new_lt w5 (tb 29 t1 (some ⟨gx1, 0, none⟩) t1.bs.length)
    replace Qn := Lib.hid Qn
    have hz5b : w5.heap.size ≤ (w5.alloc (tb 29 t1 (some ⟨gx1, 0, none⟩) t1.bs.length)).heap.size := hb5b.size
    have hB5b := hB5.trans (hb5b.mono hB5.size)
    have Qa0_5b := Lib.hid (Qa0_5.out.kept hb5b)
    have Qa1_5b := Lib.hid (Qa1_5.out.kept hb5b)
    have Cx0_5b := Lib.hid (CRow.kept Cx0_5.out hb5b Cx0_5.out.lt)
    have Qx0_5b := Lib.hid (Qx0_5.out.kept hb5b)
    have Cx1_5b := Lib.hid (CRow.kept Cx1_5.out hb5b Cx1_5.out.lt)
    clear hB5 Qa0_5 Qa1_5 Cx0_5 Qx0_5 Cx1_5 hb5b
    have Qx1_5b := Qn
    clear Qn
    obtain ⟨ba0l, ba00, ba01, _⟩ := Qa0_5b.out
    obtain ⟨ba1l, ba10, ba11, _⟩ := Qa1_5b.out
    obtain ⟨bx0l, bx00, bx01, _⟩ := Qx0_5b.out
    obtain ⟨bx1l, bx10, bx11, _⟩ := Qx1_5b.out
    refine Lib.hid ?_
    go_wp2_with (first | (go_at_call 31; refine (HI.out _ _ _ _ _ ⟨Cx0_5b.out.at_, hl0⟩ ⟨Cx1_5b.out.at_, hl1⟩).mono ?_; rintro e w6 ⟨rfl, hb6⟩; refine Hid.out ?_) | fail)
    clear ba0l ba00 ba01 ba1l ba10 ba11 bx0l bx00 bx01 bx1l bx10 bx11
    have hz6 : (w5.alloc (tb 29 t1 (some ⟨gx1, 0, none⟩) t1.bs.length)).heap.size ≤ w6.heap.size := hb6.size
    have hB6 := hB5b.trans (hb6.mono hB5b.size)
    have Qa0_6 := Lib.hid (Qa0_5b.out.kept hb6)
    have Qa1_6 := Lib.hid (Qa1_5b.out.kept hb6)
    have Cx0_6 := Lib.hid (CRow.kept Cx0_5b.out hb6 Cx0_5b.out.lt)
    have Qx0_6 := Lib.hid (Qx0_5b.out.kept hb6)
    have Cx1_6 := Lib.hid (CRow.kept Cx1_5b.out hb6 Cx1_5b.out.lt)
    have Qx1_6 := Lib.hid (Qx1_5b.out.kept hb6)
    clear hB5b Qa0_5b Qa1_5b Cx0_5b Qx0_5b Cx1_5b Qx1_5b hb6
    obtain ⟨ba0l, ba00, ba01, _⟩ := Qa0_6.out
    obtain ⟨ba1l, ba10, ba11, _⟩ := Qa1_6.out
    obtain ⟨bx0l, bx00, bx01, _⟩ := Qx0_6.out
    obtain ⟨bx1l, bx10, bx11, _⟩ := Qx1_6.out
    refine Lib.hid ?_
    go_upto_region 14 with (fail)
    go_cut [52] (fun st wx => st = .bool false ∧ Hid (Below w6.heap.size w6 wx))
    case first =>
      have hA7 := Lib.hid (show TAt w6.drew t0 A0 from ⟨(HP0.out.kept hB6).x, hl0⟩)
      have hat7 := Lib.hid (show TAt w6.drew t0 (some ⟨gx0, 0, none⟩) from ⟨Cx0_6.out.at_, hl0⟩)
      go_region_with (first
        | (go_at_call 17; refine (totar_any t0 A0 c0 w6.drew hA7.out).mono ?_; rintro e wqa ⟨⟨gq1, rfl, hq1, hs1⟩, hbqa⟩; have HBqa := Lib.hid hbqa; have hatqa := Lib.hid (show TAt wqa t0 _ from ⟨hs1.at_, hl0⟩); have hatqb := Lib.hid (TAt.kept (w := w6.drew) hat7.out hbqa); have z9 := (Qx0_6.out.kept (show Below w6.heap.size w6 wqa from (Below.refl w6.heap.size w6).drew.trans hbqa)); obtain ⟨_, z0, z1, _⟩ := z9; clear hq1 hs1 hbqa)
        | (go_at_call 19; refine (eqtar_same t0 _ _ _ _ wqa hatqb.out hatqa.out).mono ?_; rintro e wqb ⟨rfl, hbqb⟩))
      all_goals
        go_wp2_with fail
        go_meet
        exact ⟨rfl, Lib.hid ((Below.refl w6.heap.size w6).drew.trans (HBqa.out.trans (hbqb.mono HBqa.out.size)))⟩
    case rest =>
      clear ba0l ba00 ba01 ba1l ba10 ba11 bx0l bx00 bx01 bx1l bx10 bx11
      obtain ⟨rfl, hbc⟩ := hcut
      obtain ⟨w7, hwb⟩ : ∃ w7, w7 = wc := ⟨_, rfl⟩
      subst hwb
      have hb7 := hbc.out
      clear hbc
      have hz7 : w6.heap.size ≤ w7.heap.size := hb7.size
      have hB7 := hB6.trans (hb7.mono hB6.size)
      have Qa0_7 := Lib.hid (Qa0_6.out.kept hb7)
      have Qa1_7 := Lib.hid (Qa1_6.out.kept hb7)
      have Cx0_7 := Lib.hid (CRow.kept Cx0_6.out hb7 Cx0_6.out.lt)
      have Qx0_7 := Lib.hid (Qx0_6.out.kept hb7)
      have Cx1_7 := Lib.hid (CRow.kept Cx1_6.out hb7 Cx1_6.out.lt)
      have Qx1_7 := Lib.hid (Qx1_6.out.kept hb7)
      clear hB6 Qa0_6 Qa1_6 Cx0_6 Qx0_6 Cx1_6 Qx1_6 hb7
      obtain ⟨ba0l, ba00, ba01, _⟩ := Qa0_7.out
      obtain ⟨ba1l, ba10, ba11, _⟩ := Qa1_7.out
      obtain ⟨bx0l, bx00, bx01, _⟩ := Qx0_7.out
      obtain ⟨bx1l, bx10, bx11, _⟩ := Qx1_7.out
      refine Lib.hid ?_
      go_upto_region 16 with (fail)
      go_cut [57] (fun st wx => st = .bool false ∧ Hid (Below w7.heap.size w7 wx))
      case first =>
        have hA7 := Lib.hid (show TAt w7.drew t1 A1 from ⟨(HP1.out.kept hB7).x, hl1⟩)
        have hat7 := Lib.hid (show TAt w7.drew t1 (some ⟨gx1, 0, none⟩) from ⟨Cx1_7.out.at_, hl1⟩)
        go_region_with (first
          | (go_at_call 17; refine (totar_any t1 A1 c1 w7.drew hA7.out).mono ?_; rintro e wqa ⟨⟨gq1, rfl, hq1, hs1⟩, hbqa⟩; have HBqa := Lib.hid hbqa; have hatqa := Lib.hid (show TAt wqa t1 _ from ⟨hs1.at_, hl1⟩); have hatqb := Lib.hid (TAt.kept (w := w7.drew) hat7.out hbqa); have z9 := (Qx1_7.out.kept (show Below w7.heap.size w7 wqa from (Below.refl w7.heap.size w7).drew.trans hbqa)); obtain ⟨_, z0, z1, _⟩ := z9; clear hq1 hs1 hbqa)
          | (go_at_call 19; refine (eqtar_same t1 _ _ _ _ wqa hatqb.out hatqa.out).mono ?_; rintro e wqb ⟨rfl, hbqb⟩))
        all_goals
          go_wp2_with fail
          go_meet
          exact ⟨rfl, Lib.hid ((Below.refl w7.heap.size w7).drew.trans (HBqa.out.trans (hbqb.mono HBqa.out.size)))⟩
      case rest =>
        clear ba0l ba00 ba01 ba1l ba10 ba11 bx0l bx00 bx01 bx1l bx10 bx11
        obtain ⟨rfl, hbc⟩ := hcut
        obtain ⟨w8, hwb⟩ : ∃ w8, w8 = wc := ⟨_, rfl⟩
        subst hwb
        have hb8 := hbc.out
        clear hbc
        have hz8 : w7.heap.size ≤ w8.heap.size := hb8.size
        have hB8 := hB7.trans (hb8.mono hB7.size)
        have Qa0_8 := Lib.hid (Qa0_7.out.kept hb8)
        have Qa1_8 := Lib.hid (Qa1_7.out.kept hb8)
        have Cx0_8 := Lib.hid (CRow.kept Cx0_7.out hb8 Cx0_7.out.lt)
        have Qx0_8 := Lib.hid (Qx0_7.out.kept hb8)
        have Cx1_8 := Lib.hid (CRow.kept Cx1_7.out hb8 Cx1_7.out.lt)
        have Qx1_8 := Lib.hid (Qx1_7.out.kept hb8)
        clear hB7 Qa0_7 Qa1_7 Cx0_7 Qx0_7 Cx1_7 Qx1_7 hb8
        refine Lib.hid ?_
        go_wp2_with fail
        go_ret
        exact ⟨rfl, hB8⟩
end Go.Proofs.Ytidlpoambmeiiaa.S14
