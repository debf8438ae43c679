/- The walk of the law FnExactFlattenProfile: contracts. Conditions: each theorem's own premises. -/
import Derived.Test.YtkgkeohnnpkahaaPfLaw
import Derived.Deep.DeepCutAuto
namespace Go.Proofs.Ytkgkeohnnpkahaa.S6
open Go.RowKit P6

set_option maxHeartbeats 16000000 in
set_option maxRecDepth 100000 in
theorem walkFlattenProfile (A0 : Option Addr) (c0 : Nat) (l0 : List Int) (x1 : Int) (w : World) (h0 : IAt w A0 l0) (hm0 : l0.length ≤ maxLen) (L0 : List Int) (ok : Bool) (hL0 : L0.length ≤ 1000)
    (hs : ∀ (A0 : Option Addr) (c0 : Nat) (w : World), IAt w A0 l0 → l0.length ≤ 1048576 → Calls Try.prog 24 #[dv A0 l0.length c0, .int .i64 x1] w (GivesPA w L0 ok))
    (hi : ∀ (A0 : Option Addr) (c0 : Nat) (w : World), IAt w A0 l0 → l0.length ≤ 1048576 → Calls Try.prog 23 #[dv A0 l0.length c0, .int .i64 x1] w (GivesPI w L0 ok)) :
    Calls Try.prog 12 #[dv A0 l0.length c0, .int .i64 x1] w fun e w' => e = .returned (.bool true) ∧ Below w.heap.size w w' := by
  have HS := Lib.hid hs
  have HI := Lib.hid hi
  have HA0 := Lib.hid h0
  have HM0 := Lib.hid hm0
  clear hs hi h0 hm0
  go_enter Try.func12, Try.ntmps12
  go_wp2_with (go_at_call 44; refine (szprof_any A0 l0.length c0 1048576 _ HM0.out (by omega) (by omega)).mono ?_; rintro e w1 ⟨⟨r0, rfl, hr0⟩, hb1⟩; refine Hid.out ?_)
  have hB1 : Below (w.heap.size + 1) (w.alloc (.cells #[.slice A0 l0.length c0] 49)) w1 := by simpa using hb1
  clear hb1
  have b0 := box1 hB1
  by_cases hr00 : r0 < 0
  · refine Lib.hid ?_
    go_wp2
    go_ret
    exact ⟨rfl, (below_box hB1)⟩
  have hlen0 : l0.length ≤ 1048576 := by rcases hr0 with h | h; exact absurd h hr00; exact h.2.2
  clear hr0
  have hz1 : w.heap.size < w1.heap.size := box_lt hB1
  refine Lib.hid ?_
  go_wp2_with (first | (go_at_call 46; refine (toprof_any A0 c0 l0 _ (HA0.out.kept (below_box hB1) (Nat.le_refl _)) hlen0).mono ?_; rintro e w2 ⟨⟨ga0, rfl, hga0, hOa0⟩, hb2⟩; refine Hid.out ?_) | fail)
  have hz2 := hb2.size
  have hB2 := on_base hB1 (by simp) hb2
  clear b0
  have b0 := box1 hB2
  clear hB1 hb2
  have Oa0_2 := Lib.hid hOa0
  have hla0 := iown_lt' hOa0
  clear hOa0
  refine Lib.hid ?_
  go_wp2_with (first | (go_at_call 24; refine (HS.out _ _ _ Oa0_2.out.iat hlen0).mono ?_; rintro e w3 ⟨gS0, oS0, cS0, rfl, hgS0, hS0, hb3, hlS0⟩; refine Hid.out ?_) | fail)
  have hz3 := hb3.size
  have hB3 := on_base hB2 (by simp) hb3
  have Oa0_3 := Lib.hid (Oa0_2.out.on hb3)
  clear b0
  have b0 := box1 hB3
  clear hB2 Oa0_2 hb3
  clear Oa0_3
  have S0_3 := Lib.hid hS0
  clear hS0
  have hb3a := alloc_below w3 (.cells #[.slice (some ⟨gS0, oS0, none⟩) L0.length cS0] 26)
  have hz3a := alloc_size w3 (.cells #[.slice (some ⟨gS0, oS0, none⟩) L0.length cS0] 26)
  have hB3a := on_base hB3 (by simp) hb3a
  have S0_3a := Lib.hid (S0_3.out.low hb3a (by omega))
  have hq0 : w.heap.size < w3.heap.size := by omega
  refine Lib.hid ?_
  go_wp2_with (first | (go_at_call 46; refine (toprof_any A0 c0 l0 _ (HA0.out.kept (below_box hB3a) (Nat.le_refl _)) hlen0).mono ?_; rintro e w4 ⟨⟨gx0, rfl, hgx0, hOx0⟩, hb4⟩; refine Hid.out ?_) | fail)
  replace hb4 : Below (w3.alloc (.cells #[.slice (some ⟨gS0, oS0, none⟩) L0.length cS0] 26)).heap.size (w3.alloc (.cells #[.slice (some ⟨gS0, oS0, none⟩) L0.length cS0] 26)) w4 := hb4
  have Cw0_4 := (hb4.cell (p := ⟨w3.heap.size, 0, none⟩) (by dsimp only; omega)).trans (box_at (w := w3))
  have hz4 := hb4.size
  have hB4 := on_base hB3a (by simp) hb4
  have S0_4 := Lib.hid (S0_3a.out.low hb4 (by omega))
  clear b0
  have b0 := box1 hB4
  clear hB3a S0_3a hb4
  clear hB3 S0_3 hq0 hb3a
  have Ox0_4 := Lib.hid hOx0
  have hlx0 := iown_lt' hOx0
  clear hOx0
  have hb4a := alloc_below w4 (.cells #[.slice (some ⟨gx0, 0, none⟩) l0.length l0.length] 26)
  have hz4a := alloc_size w4 (.cells #[.slice (some ⟨gx0, 0, none⟩) l0.length l0.length] 26)
  have hB4a := on_base hB4 (by simp) hb4a
  have S0_4a := Lib.hid (S0_4.out.low hb4a (by omega))
  have Cw0_4a := Lib.hid ((hb4a.cell (p := ⟨w3.heap.size, 0, none⟩) (by dsimp only; omega)).trans Cw0_4)
  have Ox0_4a := Lib.hid (Ox0_4.out.on hb4a)
  have hq0 : w.heap.size < w4.heap.size := by omega
  have hqw0 : w3.heap.size < w4.heap.size := by omega
  refine Lib.hid ?_
  go_wp2_with (first | (go_at_call 23; refine (HI.out _ _ _ Ox0_4a.out.iat hlen0).mono ?_; rintro e w5 ⟨gI, cgI, rfl, hgI, hO0, hb5⟩; refine Hid.out ?_) | fail)
  replace hb5 : Below (w4.alloc (.cells #[.slice (some ⟨gx0, 0, none⟩) l0.length l0.length] 26)).heap.size (w4.alloc (.cells #[.slice (some ⟨gx0, 0, none⟩) l0.length l0.length] 26)) w5 := hb5
  have Cx0_5 := (hb5.cell (p := ⟨w4.heap.size, 0, none⟩) (by dsimp only; omega)).trans (box_at (w := w4))
  have hz5 := hb5.size
  have hB5 := on_base hB4a (by simp) hb5
  have S0_5 := Lib.hid (S0_4a.out.low hb5 (by omega))
  have Cw0_5 := (hb5.cell (p := ⟨w3.heap.size, 0, none⟩) (by dsimp only; omega)).trans Cw0_4a.out
  have Ox0_5 := Lib.hid (Ox0_4a.out.on hb5)
  clear b0
  have b0 := box1 hB5
  clear hB4a S0_4a Cw0_4a Ox0_4a hb5
  clear hB4 S0_4 Cw0_4 Ox0_4 hq0 hqw0 hb4a
  have OgI_5 := Lib.hid hO0
  have hlgI := iown_lt' hO0
  clear hO0
  have hb5a := alloc_below w5 (.cells #[.slice (some ⟨gI, 0, none⟩) L0.length cgI] 26)
  have hz5a := alloc_size w5 (.cells #[.slice (some ⟨gI, 0, none⟩) L0.length cgI] 26)
  have hB5a := on_base hB5 (by simp) hb5a
  have S0_5a := Lib.hid (S0_5.out.low hb5a (by omega))
  have Cw0_5a := Lib.hid ((hb5a.cell (p := ⟨w3.heap.size, 0, none⟩) (by dsimp only; omega)).trans Cw0_5)
  have Ox0_5a := Lib.hid (Ox0_5.out.on hb5a)
  have Cx0_5a := Lib.hid ((hb5a.cell (p := ⟨w4.heap.size, 0, none⟩) (by dsimp only; omega)).trans Cx0_5)
  have OgI_5a := Lib.hid (OgI_5.out.on hb5a)
  have hq0 : w.heap.size < w5.heap.size := by omega
  have hqw0 : w3.heap.size < w5.heap.size := by omega
  have hqx0 : w4.heap.size < w5.heap.size := by omega
  refine Lib.hid ?_
  go_wp2_with (first | (go_at_call 47; refine (eqprof_same _ _ _ _ L0 _ OgI_5a.out.iat S0_5a.out (by omega)).mono ?_; rintro e w6 ⟨rfl, hb6⟩; refine Hid.out ?_) | fail)
  replace hb6 : Below (w5.alloc (.cells #[.slice (some ⟨gI, 0, none⟩) L0.length cgI] 26)).heap.size (w5.alloc (.cells #[.slice (some ⟨gI, 0, none⟩) L0.length cgI] 26)) w6 := hb6
  have Cg0_6 := (hb6.cell (p := ⟨w5.heap.size, 0, none⟩) (by dsimp only; omega)).trans (box_at (w := w5))
  have hz6 := hb6.size
  have hB6 := on_base hB5a (by simp) hb6
  have S0_6 := Lib.hid (S0_5a.out.low hb6 (by omega))
  have Cw0_6 := (hb6.cell (p := ⟨w3.heap.size, 0, none⟩) (by dsimp only; omega)).trans Cw0_5a.out
  have Ox0_6 := Lib.hid (Ox0_5a.out.on hb6)
  have Cx0_6 := (hb6.cell (p := ⟨w4.heap.size, 0, none⟩) (by dsimp only; omega)).trans Cx0_5a.out
  have OgI_6 := Lib.hid (OgI_5a.out.on hb6)
  clear b0
  have b0 := box1 hB6
  clear hB5a S0_5a Cw0_5a Ox0_5a Cx0_5a OgI_5a hb6
  clear hB5 S0_5 Cw0_5 Ox0_5 Cx0_5 OgI_5 hq0 hqw0 hqx0 hb5a
  refine Lib.hid ?_
  go_upto_region 10 with (fail)
  go_cut [49] (fun st wx => st = .bool false ∧ Hid (Below w6.heap.size w6 wx))
  case first =>
    have hA7 := Lib.hid (HA0.out.kept (below_box hB6) (Nat.le_refl _))
    have hat7 := Lib.hid Ox0_6.out.iat
    have hx4 : w4.heap.size < w6.heap.size := by omega
    go_region_with (first
      | (go_at_call 46; refine (toprof_any A0 c0 l0 w6.drew hA7.out hlen0).mono ?_; rintro e wqa ⟨⟨gqa, rfl, hgqa, hrowqa⟩, hbqa⟩; have HBqa := Lib.hid hbqa; have hatqa := Lib.hid hrowqa.iat; have hatqb := Lib.hid (IAt.kept (w := w6.drew) hat7.out hbqa (Nat.le_refl _)); have z0 := (hbqa.cell (p := ⟨w4.heap.size, 0, none⟩) hx4).trans Cx0_6; clear hgqa hrowqa hbqa)
      | (go_at_call 47; refine (eqprof_same _ _ _ _ l0 wqa hatqb.out hatqa.out hlen0).mono ?_; rintro e wqb ⟨rfl, hbqb⟩))
    all_goals
      go_wp2_with fail
      go_meet
      exact ⟨rfl, Lib.hid ((Below.refl w6.heap.size w6).drew.trans (HBqa.out.trans (hbqb.mono HBqa.out.size)))⟩
  case rest =>
    obtain ⟨rfl, hbc⟩ := hcut
    obtain ⟨w7, hwb⟩ : ∃ w7, w7 = wc := ⟨_, rfl⟩
    subst hwb
    have hb7 := hbc.out
    clear hbc
    have hz7 := hb7.size
    have hB7 := on_base hB6 (by simp) hb7
    have S0_7 := Lib.hid (S0_6.out.low hb7 (by omega))
    have Cw0_7 := (hb7.cell (p := ⟨w3.heap.size, 0, none⟩) (by dsimp only; omega)).trans Cw0_6
    have Ox0_7 := Lib.hid (Ox0_6.out.on hb7)
    have Cx0_7 := (hb7.cell (p := ⟨w4.heap.size, 0, none⟩) (by dsimp only; omega)).trans Cx0_6
    have OgI_7 := Lib.hid (OgI_6.out.on hb7)
    have Cg0_7 := (hb7.cell (p := ⟨w5.heap.size, 0, none⟩) (by dsimp only; omega)).trans Cg0_6
    clear b0
    have b0 := box1 hB7
    clear hB6 S0_6 Cw0_6 Ox0_6 Cx0_6 OgI_6 Cg0_6 hb7
    refine Lib.hid ?_
    go_wp2_with (first | (go_at_call 49; refine (markprof_i _ gx0 _ (1) _ l0 _ Ox0_7.out hlen0 (by omega) (by omega)).mono ?_; rintro e w8 ⟨rfl, _, hg8⟩; refine Hid.out ?_) | fail)
    have hz8 := hg8.size
    have hB8 := hB7.grown hg8 (by omega) (fun k hk => by simp at hk; omega)
    have S0_8 := Lib.hid (S0_7.out.far hg8 (by omega))
    have Cw0_8 := (hg8.cell_far ⟨w3.heap.size, 0, none⟩ (by dsimp only; omega) (by simp; omega)).trans Cw0_7
    have Cx0_8 := (hg8.cell_far ⟨w4.heap.size, 0, none⟩ (by dsimp only; omega) (by simp; omega)).trans Cx0_7
    have OgI_8 := Lib.hid (OgI_7.out.far hg8 (by omega))
    have Cg0_8 := (hg8.cell_far ⟨w5.heap.size, 0, none⟩ (by dsimp only; omega) (by simp; omega)).trans Cg0_7
    clear b0
    have b0 := box1 hB8
    clear hB7 S0_7 Cw0_7 Cx0_7 OgI_7 Cg0_7 hg8
    clear Ox0_7
    clear Cx0_8
    refine Lib.hid ?_
    go_wp2_with (first | (go_at_call 47; refine (eqprof_same _ _ _ _ L0 _ OgI_8.out.iat S0_8.out (by omega)).mono ?_; rintro e w9 ⟨rfl, hb9⟩; refine Hid.out ?_) | fail)
    have hz9 := hb9.size
    have hB9 := on_base hB8 (by simp) hb9
    have S0_9 := Lib.hid (S0_8.out.low hb9 (by omega))
    have Cw0_9 := (hb9.cell (p := ⟨w3.heap.size, 0, none⟩) (by dsimp only; omega)).trans Cw0_8
    have OgI_9 := Lib.hid (OgI_8.out.on hb9)
    have Cg0_9 := (hb9.cell (p := ⟨w5.heap.size, 0, none⟩) (by dsimp only; omega)).trans Cg0_8
    clear b0
    have b0 := box1 hB9
    clear hB8 S0_8 Cw0_8 OgI_8 Cg0_8 hb9
    refine Lib.hid ?_
    go_wp2_with (first | (go_at_call 49; refine (markprof_i _ gI _ 1 _ L0 _ OgI_9.out (by omega) (by omega) (by omega)).mono ?_; rintro e w10 ⟨rfl, ho10, hg10⟩; refine Hid.out ?_) | fail)
    have hz10 := hg10.size
    have hB10 := hB9.grown hg10 (by omega) (fun k hk => by simp at hk; omega)
    have S0_10 := Lib.hid (S0_9.out.far hg10 (by omega))
    have Cw0_10 := (hg10.cell_far ⟨w3.heap.size, 0, none⟩ (by dsimp only; omega) (by simp; omega)).trans Cw0_9
    have Cg0_10 := (hg10.cell_far ⟨w5.heap.size, 0, none⟩ (by dsimp only; omega) (by simp; omega)).trans Cg0_9
    clear b0
    have b0 := box1 hB10
    clear hB9 S0_9 Cw0_9 Cg0_9 hg10
    have SM_10 := Lib.hid ho10.iat_marks
    clear ho10 OgI_9
    refine Lib.hid ?_
    go_wp2_with (first | (go_at_call 50; refine (heldprof_i _ _ 1 L0.length _ _ SM_10.out (by omega) (by omega) (by omega)).mono ?_; rintro e w11 ⟨rfl, hb11⟩; refine Hid.out ?_) | fail)
    have hz11 := hb11.size
    have hB11 := on_base hB10 (by simp) hb11
    have S0_11 := Lib.hid (S0_10.out.low hb11 (by omega))
    have Cw0_11 := (hb11.cell (p := ⟨w3.heap.size, 0, none⟩) (by dsimp only; omega)).trans Cw0_10
    have Cg0_11 := (hb11.cell (p := ⟨w5.heap.size, 0, none⟩) (by dsimp only; omega)).trans Cg0_10
    have SM_11 := Lib.hid (SM_10.out.low hb11 (by omega))
    clear b0
    have b0 := box1 hB11
    clear hB10 S0_10 Cw0_10 Cg0_10 SM_10 hb11
    refine Lib.hid ?_
    go_wp2_with (first | (go_at_call 46; refine (toprof_any A0 c0 l0 _ (HA0.out.kept (below_box hB11) (Nat.le_refl _)) hlen0).mono ?_; rintro e w12 ⟨⟨gy0, rfl, hgy0, hOy0⟩, hb12⟩; refine Hid.out ?_) | fail)
    have hz12 := hb12.size
    have hB12 := on_base hB11 (by simp) hb12
    have S0_12 := Lib.hid (S0_11.out.low hb12 (by omega))
    have Cw0_12 := (hb12.cell (p := ⟨w3.heap.size, 0, none⟩) (by dsimp only; omega)).trans Cw0_11
    have Cg0_12 := (hb12.cell (p := ⟨w5.heap.size, 0, none⟩) (by dsimp only; omega)).trans Cg0_11
    have SM_12 := Lib.hid (SM_11.out.low hb12 (by omega))
    clear b0
    have b0 := box1 hB12
    clear hB11 S0_11 Cw0_11 Cg0_11 SM_11 hb12
    have Oy0_12 := Lib.hid hOy0
    have hly0 := iown_lt' hOy0
    clear hOy0
    refine Lib.hid ?_
    go_wp2_with (first | (go_at_call 23; refine (HI.out _ _ _ Oy0_12.out.iat hlen0).mono ?_; rintro e w13 ⟨gJ, cgJ, rfl, hgJ, hO0, hb13⟩; refine Hid.out ?_) | fail)
    have hz13 := hb13.size
    have hB13 := on_base hB12 (by simp) hb13
    have S0_13 := Lib.hid (S0_12.out.low hb13 (by omega))
    have Cw0_13 := (hb13.cell (p := ⟨w3.heap.size, 0, none⟩) (by dsimp only; omega)).trans Cw0_12
    have Cg0_13 := (hb13.cell (p := ⟨w5.heap.size, 0, none⟩) (by dsimp only; omega)).trans Cg0_12
    have SM_13 := Lib.hid (SM_12.out.low hb13 (by omega))
    have Oy0_13 := Lib.hid (Oy0_12.out.on hb13)
    clear b0
    have b0 := box1 hB13
    clear hB12 S0_12 Cw0_12 Cg0_12 SM_12 Oy0_12 hb13
    have OgJ_13 := Lib.hid hO0
    have hlgJ := iown_lt' hO0
    clear hO0
    have hb13a := alloc_below w13 (.cells #[.slice (some ⟨gJ, 0, none⟩) L0.length cgJ] 26)
    have hz13a := alloc_size w13 (.cells #[.slice (some ⟨gJ, 0, none⟩) L0.length cgJ] 26)
    have hB13a := on_base hB13 (by simp) hb13a
    have S0_13a := Lib.hid (S0_13.out.low hb13a (by omega))
    have Cw0_13a := Lib.hid ((hb13a.cell (p := ⟨w3.heap.size, 0, none⟩) (by dsimp only; omega)).trans Cw0_13)
    have Cg0_13a := Lib.hid ((hb13a.cell (p := ⟨w5.heap.size, 0, none⟩) (by dsimp only; omega)).trans Cg0_13)
    have SM_13a := Lib.hid (SM_13.out.low hb13a (by omega))
    have Oy0_13a := Lib.hid (Oy0_13.out.on hb13a)
    have OgJ_13a := Lib.hid (OgJ_13.out.on hb13a)
    have hq0 : w.heap.size < w13.heap.size := by omega
    have hqw0 : w3.heap.size < w13.heap.size := by omega
    have hqg0 : w5.heap.size < w13.heap.size := by omega
    refine Lib.hid ?_
    go_wp2_with (first | (go_at_call 47; refine (eqprof_same _ _ _ _ L0 _ OgJ_13a.out.iat S0_13a.out (by omega)).mono ?_; rintro e w14 ⟨rfl, hb14⟩; refine Hid.out ?_) | fail)
    replace hb14 : Below (w13.alloc (.cells #[.slice (some ⟨gJ, 0, none⟩) L0.length cgJ] 26)).heap.size (w13.alloc (.cells #[.slice (some ⟨gJ, 0, none⟩) L0.length cgJ] 26)) w14 := hb14
    have Ch0_14 := (hb14.cell (p := ⟨w13.heap.size, 0, none⟩) (by dsimp only; omega)).trans (box_at (w := w13))
    have hz14 := hb14.size
    have hB14 := on_base hB13a (by simp) hb14
    have S0_14 := Lib.hid (S0_13a.out.low hb14 (by omega))
    have Cw0_14 := (hb14.cell (p := ⟨w3.heap.size, 0, none⟩) (by dsimp only; omega)).trans Cw0_13a.out
    have Cg0_14 := (hb14.cell (p := ⟨w5.heap.size, 0, none⟩) (by dsimp only; omega)).trans Cg0_13a.out
    have SM_14 := Lib.hid (SM_13a.out.low hb14 (by omega))
    have Oy0_14 := Lib.hid (Oy0_13a.out.on hb14)
    have OgJ_14 := Lib.hid (OgJ_13a.out.on hb14)
    clear b0
    have b0 := box1 hB14
    clear hB13a S0_13a Cw0_13a Cg0_13a SM_13a Oy0_13a OgJ_13a hb14
    clear hB13 S0_13 Cw0_13 Cg0_13 SM_13 Oy0_13 OgJ_13 hq0 hqw0 hqg0 hb13a
    refine Lib.hid ?_
    go_wp2_with (first | (go_at_call 50; refine (heldprof_i _ _ 1 L0.length _ _ SM_14.out (by omega) (by omega) (by omega)).mono ?_; rintro e w15 ⟨rfl, hb15⟩; refine Hid.out ?_) | fail)
    have hz15 := hb15.size
    have hB15 := on_base hB14 (by simp) hb15
    have S0_15 := Lib.hid (S0_14.out.low hb15 (by omega))
    have Cw0_15 := (hb15.cell (p := ⟨w3.heap.size, 0, none⟩) (by dsimp only; omega)).trans Cw0_14
    have Cg0_15 := (hb15.cell (p := ⟨w5.heap.size, 0, none⟩) (by dsimp only; omega)).trans Cg0_14
    have SM_15 := Lib.hid (SM_14.out.low hb15 (by omega))
    have Oy0_15 := Lib.hid (Oy0_14.out.on hb15)
    have OgJ_15 := Lib.hid (OgJ_14.out.on hb15)
    have Ch0_15 := (hb15.cell (p := ⟨w13.heap.size, 0, none⟩) (by dsimp only; omega)).trans Ch0_14
    clear b0
    have b0 := box1 hB15
    clear hB14 S0_14 Cw0_14 Cg0_14 SM_14 Oy0_14 OgJ_14 Ch0_14 hb15
    refine Lib.hid ?_
    go_wp2_with fail
    go_ret
    exact ⟨rfl, (below_box hB15)⟩
end Go.Proofs.Ytkgkeohnnpkahaa.S6
