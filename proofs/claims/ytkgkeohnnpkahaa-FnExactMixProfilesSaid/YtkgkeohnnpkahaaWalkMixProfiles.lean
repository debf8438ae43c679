/- The walk of the law FnExactMixProfiles: contracts. Conditions: each theorem's own premises. -/
import Derived.Test.YtkgkeohnnpkahaaPfLaw
import Derived.Deep.DeepCutAuto
import Derived.Deep.RegionLaw
import Derived.Deep.RegionHeld3
namespace Go.Proofs.Ytkgkeohnnpkahaa.S6
open Go.RowKit P6

set_option maxHeartbeats 16000000 in
set_option maxRecDepth 100000 in
theorem walkMixProfiles (A0 : Option Addr) (c0 : Nat) (l0 : List Int) (A1 : Option Addr) (c1 : Nat) (l1 : List Int) (x2 : Int) (w : World) (h0 : IAt w A0 l0) (hm0 : l0.length ≤ maxLen) (h1 : IAt w A1 l1) (hm1 : l1.length ≤ maxLen) (L0 : List Int) (ok : Bool) (hL0 : L0.length ≤ 1000)
    (hs : ∀ (A0 : Option Addr) (c0 : Nat) (A1 : Option Addr) (c1 : Nat) (w : World), IAt w A0 l0 → l0.length ≤ 1048576 → IAt w A1 l1 → l1.length ≤ 1048576 → Calls Try.prog 39 #[dv A0 l0.length c0, dv A1 l1.length c1, .int .i64 x2] w (GivesA w L0 ok))
    (hi : ∀ (A0 : Option Addr) (c0 : Nat) (A1 : Option Addr) (c1 : Nat) (w : World), IAt w A0 l0 → l0.length ≤ 1048576 → IAt w A1 l1 → l1.length ≤ 1048576 → Calls Try.prog 38 #[dv A0 l0.length c0, dv A1 l1.length c1, .int .i64 x2] w (GivesI w L0 ok)) :
    Calls Try.prog 11 #[dv A0 l0.length c0, dv A1 l1.length c1, .int .i64 x2] w fun e w' => e = .returned (.bool true) ∧ Below w.heap.size w w' := by
  have HS := Lib.hid hs
  have HI := Lib.hid hi
  have HA0 := Lib.hid h0
  have HM0 := Lib.hid hm0
  have HA1 := Lib.hid h1
  have HM1 := Lib.hid hm1
  clear hs hi h0 hm0 h1 hm1
  go_enter Try.func11, Try.ntmps11
  go_wp2_with (go_at_call 44; refine (szprof_any A0 l0.length c0 1048576 _ HM0.out (by omega) (by omega)).mono ?_; rintro e w1 ⟨⟨r0, rfl, hr0⟩, hb1⟩; refine Hid.out ?_)
  have hB1 : Below (w.heap.size + 2) ((w.alloc (.cells #[.slice A0 l0.length c0] 49)).alloc (.cells #[.slice A1 l1.length c1] 49)) w1 := by simpa using hb1
  clear hb1
  obtain ⟨b0, b1⟩ := box21 hB1
  have hz1 : w.heap.size < w1.heap.size := by have := hB1.size; simp at this; omega
  have hz1x : w.heap.size + 1 < w1.heap.size := by have := hB1.size; simp at this; omega
  by_cases hr00 : r0 < 0
  · refine Lib.hid ?_
    go_wp2
    go_ret
    exact ⟨rfl, (under2 hB1)⟩
  have hlen0 : l0.length ≤ 1048576 := by rcases hr0 with h | h; exact absurd h hr00; exact h.2.2
  have hr09 : r0 ≤ 1048576 := by rcases hr0 with h | h; exact absurd h hr00; exact h.2.1
  clear hr0
  refine Lib.hid ?_
  go_wp2_with (first | (go_at_call 44; refine (szprof_any A1 l1.length c1 r0 _ HM1.out (by omega) (by omega)).mono ?_; rintro e w2 ⟨⟨r1, rfl, hr1⟩, hb2⟩; refine Hid.out ?_) | fail)
  have hz2 := hb2.size
  have hB2 := on_base hB1 (by simp) hb2
  clear b0 b1
  obtain ⟨b0, b1⟩ := box21 hB2
  clear hB1 hb2
  by_cases hr10 : r1 < 0
  · refine Lib.hid ?_
    go_wp2
    go_ret
    exact ⟨rfl, (under2 hB2)⟩
  have hlen1 : l1.length ≤ 1048576 := by rcases hr1 with h | h; exact absurd h hr10; exact h.2.2
  have hr19 : r1 ≤ 1048576 := by rcases hr1 with h | h; exact absurd h hr10; exact h.2.1
  clear hr1
  refine Lib.hid ?_
  go_upto_region 8 with (fail)
  go_cut [8, 9] (fun s t wx => ∃ g o c, s = .slice (some ⟨g, o, none⟩) L0.length c ∧ t = .bool ok ∧ w2.heap.size ≤ g ∧ Hid (IAt wx (some ⟨g, o, none⟩) L0) ∧ Hid (Below w2.heap.size w2 wx) ∧ g < wx.heap.size)
  case first =>
    have hA70 := Lib.hid (HA0.out.kept (under2 hB2) (Nat.le_refl _))
    have hA71 := Lib.hid (HA1.out.kept (under2 hB2) (Nat.le_refl _))
    have hx0 : w.heap.size < w2.heap.size := by omega
    have hx1 : w.heap.size + 1 < w2.heap.size := by omega
    refine wp_region_held_drew (S := fun w' => w'.cell? ⟨w.heap.size, 0, none⟩ = some (.slice A0 l0.length c0) ∧ w'.cell? ⟨w.heap.size + 1, 0, none⟩ = some (.slice A1 l1.length c1)) (by kernel_rfl) (by exact ⟨b0, b1⟩) (fun hHeld => ?_)
    refine wpAnyH_take (i := 0) (v := .agg #[.slice A0 l0.length c0]) rfl (by kernel_rfl) (by kernel_rfl) (by kernel_rfl) (fun _ _ _ h => h) (Or.inl ⟨by rfl, ?_⟩) (by assumption) ?_
    · (intro w hSw; (try dsimp only at hSw); go_simp)
    simp only [Act.put, List.setIfInBounds_toArray]
    refine wpAnyH_take (i := 2) (v := .agg #[.slice A1 l1.length c1]) rfl (by kernel_rfl) (by kernel_rfl) (by kernel_rfl) (fun _ _ _ h => h) (Or.inl ⟨by rfl, ?_⟩) (by assumption) ?_
    · (intro w hSw; (try dsimp only at hSw); go_simp)
    simp only [Act.put]
    refine wpAnyH_take (i := 4) (v := .int .i64 x2) rfl (by kernel_rfl) (by kernel_rfl) (by kernel_rfl) (fun _ _ _ h => h) (Or.inl ⟨by rfl, ?_⟩) (by assumption) ?_
    · (intro w hSw; (try dsimp only at hSw); go_simp)
    simp only [Act.put]
    refine wpAnyH_ready (rs := [1]) (by kernel_rfl) (by simp) ?_
    refine AllReadyH.cons rfl (fun K hK => ?_) AllReadyH.nil
    go_simp
    go_at_call 46
    refine (toprof_any A0 c0 l0 w2.drew (hA70.out.kept (Below.refl w2.heap.size w2).drew (Nat.le_refl _)) hlen0).mono ?_
    rintro e wq1 ⟨⟨gq0, rfl, hgq0, hOq0⟩, hbq1⟩
    have hlq0 := iown_lt' hOq0
    have HBq1 := Lib.hid ((Below.refl w2.heap.size w2).drew.trans hbq1)
    have zq1 := HBq1.out.size
    have y0q1 := (HBq1.out.cell (p := ⟨w.heap.size, 0, none⟩) hx0).trans b0
    have y1q1 := (HBq1.out.cell (p := ⟨w.heap.size + 1, 0, none⟩) hx1).trans b1
    refine hK.out _ _ ⟨y0q1, y1q1⟩ (fun hHeld => ?_)
    clear hK K
    refine wpAnyH_ready (rs := [3]) (by kernel_rfl) (by simp) ?_
    refine AllReadyH.cons rfl (fun K hK => ?_) AllReadyH.nil
    go_simp
    go_at_call 46
    refine (toprof_any A1 c1 l1 wq1 (hA71.out.kept HBq1.out (Nat.le_refl _)) hlen1).mono ?_
    rintro e wq2 ⟨⟨gq1, rfl, hgq1, hOq1⟩, hbq2⟩
    have hlq1 := iown_lt' hOq1
    have HBq2 := Lib.hid (HBq1.out.trans (hbq2.mono HBq1.out.size))
    have zq2 := HBq2.out.size
    have y0q2 := (HBq2.out.cell (p := ⟨w.heap.size, 0, none⟩) hx0).trans b0
    have y1q2 := (HBq2.out.cell (p := ⟨w.heap.size + 1, 0, none⟩) hx1).trans b1
    refine hK.out _ _ ⟨y0q2, y1q2⟩ (fun hHeld => ?_)
    clear hK K
    have hOq0 := hOq0.on hbq2
    refine wpAnyH_ready (rs := [5]) (by kernel_rfl) (by simp) ?_
    refine AllReadyH.cons rfl (fun K hK => ?_) AllReadyH.nil
    go_simp
    go_at_call 39
    refine (HS.out _ _ _ _ wq2 hOq0.iat hlen0 hOq1.iat hlen1).mono ?_
    rintro e wq3 ⟨gS0, oS0, cS0, rfl, hgS0, hS0, hbq3, hlS0⟩
    have HBq3 := Lib.hid (HBq2.out.trans (hbq3.mono HBq2.out.size))
    have y0q3 := (HBq3.out.cell (p := ⟨w.heap.size, 0, none⟩) hx0).trans b0
    have y1q3 := (HBq3.out.cell (p := ⟨w.heap.size + 1, 0, none⟩) hx1).trans b1
    refine hK.out _ _ ⟨y0q3, y1q3⟩ (fun hHeld => ?_)
    clear hK K
    refine wpAnyH_take (i := 6) (v := .tuple #[.slice (some ⟨gS0, oS0, none⟩) L0.length cS0, .bool ok]) rfl (by kernel_rfl) (by kernel_rfl) (by kernel_rfl) (fun _ _ _ h => h) (Or.inl ⟨by rfl, ?_⟩) (by assumption) ?_
    · (intro w hSw; (try dsimp only at hSw); go_simp)
    simp only [Act.put]
    refine wpAnyH_take (i := 7) (v := .slice (some ⟨gS0, oS0, none⟩) L0.length cS0) rfl (by kernel_rfl) (by kernel_rfl) (by kernel_rfl) (fun _ _ _ h => h) (Or.inl ⟨by rfl, ?_⟩) (by assumption) ?_
    · (intro w hSw; (try dsimp only at hSw); go_simp)
    simp only [Act.put]
    refine wpAnyH_take (i := 8) (v := .bool ok) rfl (by kernel_rfl) (by kernel_rfl) (by kernel_rfl) (fun _ _ _ h => h) (Or.inl ⟨by rfl, ?_⟩) (by assumption) ?_
    · (intro w hSw; (try dsimp only at hSw); go_simp)
    simp only [Act.put]
    refine wpAnyH_ready (rs := [9]) (by kernel_rfl) (by simp) ?_
    refine AllReadyH.cons rfl (fun K hK => ?_) AllReadyH.nil
    go_simp
    refine hK.out _ _ (by first | assumption | go_keep) (fun hHeld => ?_)
    clear hK K
    refine wpAnyH_ready (rs := [10]) (by kernel_rfl) (by simp) ?_
    refine AllReadyH.cons rfl (fun K hK => ?_) AllReadyH.nil
    go_simp
    refine hK.out _ _ (by first | assumption | go_keep) (fun hHeld => ?_)
    clear hK K
    refine wpAnyH_done (by kernel_rfl) ?_ _
    go_wp2_with fail
    go_meet
    exact ⟨gS0, oS0, cS0, rfl, rfl, by omega, Lib.hid hS0, Lib.hid HBq3.out, hlS0⟩
  case rest =>
    obtain ⟨gS0, oS0, cS0, rfl, rfl, hgS0, hS0, hbc, hlS0⟩ := hcut
    obtain ⟨w3, hwb⟩ : ∃ w3, w3 = wc := ⟨_, rfl⟩
    subst hwb
    have hb3 := hbc.out
    clear hbc
    have hz3 := hb3.size
    have hB3 := on_base hB2 (by simp) hb3
    clear b0 b1
    obtain ⟨b0, b1⟩ := box21 hB3
    clear hB2 hb3
    have S0_3 := hS0
    clear hS0
    refine Lib.hid ?_
    go_wp2_with (first | (go_at_call 46; refine (toprof_any A0 c0 l0 _ (HA0.out.kept (under2 hB3) (Nat.le_refl _)) hlen0).mono ?_; rintro e w4 ⟨⟨gx0, rfl, hgx0, hOx0⟩, hb4⟩; refine Hid.out ?_) | fail)
    have hz4 := hb4.size
    have hB4 := on_base hB3 (by simp) hb4
    have S0_4 := Lib.hid (S0_3.out.low hb4 (by omega))
    clear b0 b1
    obtain ⟨b0, b1⟩ := box21 hB4
    clear hB3 S0_3 hb4
    have Ox0_4 := Lib.hid hOx0
    have hlx0 := iown_lt' hOx0
    clear hOx0
    have hb4a := alloc_below w4 (.cells #[.slice (some ⟨gx0, 0, none⟩) l0.length l0.length] 26)
    have hz4a := alloc_size w4 (.cells #[.slice (some ⟨gx0, 0, none⟩) l0.length l0.length] 26)
    have hB4a := on_base hB4 (by simp) hb4a
    have S0_4a := Lib.hid (S0_4.out.low hb4a (by omega))
    have Ox0_4a := Lib.hid (Ox0_4.out.on hb4a)
    have hq0 : w.heap.size < w4.heap.size := by omega
    have hq1 : w.heap.size + 1 < w4.heap.size := by omega
    refine Lib.hid ?_
    go_wp2_with (first | (go_at_call 46; refine (toprof_any A1 c1 l1 _ (HA1.out.kept (under2 hB4a) (Nat.le_refl _)) hlen1).mono ?_; rintro e w5 ⟨⟨gx1, rfl, hgx1, hOx1⟩, hb5⟩; refine Hid.out ?_) | fail)
    replace hb5 : Below (w4.alloc (.cells #[.slice (some ⟨gx0, 0, none⟩) l0.length l0.length] 26)).heap.size (w4.alloc (.cells #[.slice (some ⟨gx0, 0, none⟩) l0.length l0.length] 26)) w5 := hb5
    have Cx0_5 := (hb5.cell (p := ⟨w4.heap.size, 0, none⟩) (by dsimp only; omega)).trans (box_at (w := w4))
    have hz5 := hb5.size
    have hB5 := on_base hB4a (by simp) hb5
    have S0_5 := Lib.hid (S0_4a.out.low hb5 (by omega))
    have Ox0_5 := Lib.hid (Ox0_4a.out.on hb5)
    clear b0 b1
    obtain ⟨b0, b1⟩ := box21 hB5
    clear hB4a S0_4a Ox0_4a hb5
    clear hB4 S0_4 Ox0_4 hq0 hq1 hb4a
    have Ox1_5 := Lib.hid hOx1
    have hlx1 := iown_lt' hOx1
    clear hOx1
    have hb5a := alloc_below w5 (.cells #[.slice (some ⟨gx1, 0, none⟩) l1.length l1.length] 26)
    have hz5a := alloc_size w5 (.cells #[.slice (some ⟨gx1, 0, none⟩) l1.length l1.length] 26)
    have hB5a := on_base hB5 (by simp) hb5a
    have S0_5a := Lib.hid (S0_5.out.low hb5a (by omega))
    have Ox0_5a := Lib.hid (Ox0_5.out.on hb5a)
    have Cx0_5a := Lib.hid ((hb5a.cell (p := ⟨w4.heap.size, 0, none⟩) (by dsimp only; omega)).trans Cx0_5)
    have Ox1_5a := Lib.hid (Ox1_5.out.on hb5a)
    have hq0 : w.heap.size < w5.heap.size := by omega
    have hq1 : w.heap.size + 1 < w5.heap.size := by omega
    have hqx0 : w4.heap.size < w5.heap.size := by omega
    refine Lib.hid ?_
    go_wp2_with (first | (go_at_call 38; refine (HI.out _ _ _ _ _ Ox0_5a.out.iat hlen0 Ox1_5a.out.iat hlen1).mono ?_; rintro e w6 ⟨gI, cgI, rfl, hgI, hO0, hb6⟩; refine Hid.out ?_) | fail)
    replace hb6 : Below (w5.alloc (.cells #[.slice (some ⟨gx1, 0, none⟩) l1.length l1.length] 26)).heap.size (w5.alloc (.cells #[.slice (some ⟨gx1, 0, none⟩) l1.length l1.length] 26)) w6 := hb6
    have Cx1_6 := (hb6.cell (p := ⟨w5.heap.size, 0, none⟩) (by dsimp only; omega)).trans (box_at (w := w5))
    have hz6 := hb6.size
    have hB6 := on_base hB5a (by simp) hb6
    have S0_6 := Lib.hid (S0_5a.out.low hb6 (by omega))
    have Ox0_6 := Lib.hid (Ox0_5a.out.on hb6)
    have Cx0_6 := (hb6.cell (p := ⟨w4.heap.size, 0, none⟩) (by dsimp only; omega)).trans Cx0_5a.out
    have Ox1_6 := Lib.hid (Ox1_5a.out.on hb6)
    clear b0 b1
    obtain ⟨b0, b1⟩ := box21 hB6
    clear hB5a S0_5a Ox0_5a Cx0_5a Ox1_5a hb6
    clear hB5 S0_5 Ox0_5 Cx0_5 Ox1_5 hq0 hq1 hqx0 hb5a
    have OgI_6 := Lib.hid hO0
    have hlgI := iown_lt' hO0
    clear hO0
    refine Lib.hid ?_
    go_wp2_with (first | (go_at_call 51; refine (eqints_same _ _ _ _ L0 _ OgI_6.out.iat S0_6.out (by omega)).mono ?_; rintro e w7 ⟨rfl, hb7⟩; refine Hid.out ?_) | fail)
    have hz7 := hb7.size
    have hB7 := on_base hB6 (by simp) hb7
    have S0_7 := Lib.hid (S0_6.out.low hb7 (by omega))
    have Ox0_7 := Lib.hid (Ox0_6.out.on hb7)
    have Cx0_7 := (hb7.cell (p := ⟨w4.heap.size, 0, none⟩) (by dsimp only; omega)).trans Cx0_6
    have Ox1_7 := Lib.hid (Ox1_6.out.on hb7)
    have Cx1_7 := (hb7.cell (p := ⟨w5.heap.size, 0, none⟩) (by dsimp only; omega)).trans Cx1_6
    have OgI_7 := Lib.hid (OgI_6.out.on hb7)
    clear b0 b1
    obtain ⟨b0, b1⟩ := box21 hB7
    clear hB6 S0_6 Ox0_6 Cx0_6 Ox1_6 Cx1_6 OgI_6 hb7
    refine Lib.hid ?_
    go_upto_region 14 with (fail)
    go_cut [62] (fun st wx => st = .bool false ∧ Hid (Below w7.heap.size w7 wx))
    case first =>
      have hA7 := Lib.hid (HA0.out.kept (under2 hB7) (Nat.le_refl _))
      have hat7 := Lib.hid Ox0_7.out.iat
      have hx4 : w4.heap.size < w7.heap.size := by omega
      go_region_with (first
        | (go_at_call 46; refine (toprof_any A0 c0 l0 w7.drew hA7.out hlen0).mono ?_; rintro e wqa ⟨⟨gqa, rfl, hgqa, hrowqa⟩, hbqa⟩; have HBqa := Lib.hid hbqa; have hatqa := Lib.hid hrowqa.iat; have hatqb := Lib.hid (IAt.kept (w := w7.drew) hat7.out hbqa (Nat.le_refl _)); have z0 := (hbqa.cell (p := ⟨w4.heap.size, 0, none⟩) hx4).trans Cx0_7; clear hgqa hrowqa hbqa)
        | (go_at_call 47; refine (eqprof_same _ _ _ _ l0 wqa hatqb.out hatqa.out hlen0).mono ?_; rintro e wqb ⟨rfl, hbqb⟩))
      all_goals
        go_wp2_with fail
        go_meet
        exact ⟨rfl, Lib.hid ((Below.refl w7.heap.size w7).drew.trans (HBqa.out.trans (hbqb.mono HBqa.out.size)))⟩
    case rest =>
      obtain ⟨rfl, hbc⟩ := hcut
      obtain ⟨w8, hwb⟩ : ∃ w8, w8 = wc := ⟨_, rfl⟩
      subst hwb
      have hb8 := hbc.out
      clear hbc
      have hz8 := hb8.size
      have hB8 := on_base hB7 (by simp) hb8
      have S0_8 := Lib.hid (S0_7.out.low hb8 (by omega))
      have Ox0_8 := Lib.hid (Ox0_7.out.on hb8)
      have Cx0_8 := (hb8.cell (p := ⟨w4.heap.size, 0, none⟩) (by dsimp only; omega)).trans Cx0_7
      have Ox1_8 := Lib.hid (Ox1_7.out.on hb8)
      have Cx1_8 := (hb8.cell (p := ⟨w5.heap.size, 0, none⟩) (by dsimp only; omega)).trans Cx1_7
      have OgI_8 := Lib.hid (OgI_7.out.on hb8)
      clear b0 b1
      obtain ⟨b0, b1⟩ := box21 hB8
      clear hB7 S0_7 Ox0_7 Cx0_7 Ox1_7 Cx1_7 OgI_7 hb8
      refine Lib.hid ?_
      go_upto_region 16 with (fail)
      go_cut [67] (fun st wx => st = .bool false ∧ Hid (Below w8.heap.size w8 wx))
      case first =>
        have hA7 := Lib.hid (HA1.out.kept (under2 hB8) (Nat.le_refl _))
        have hat7 := Lib.hid Ox1_8.out.iat
        have hx4 : w5.heap.size < w8.heap.size := by omega
        go_region_with (first
          | (go_at_call 46; refine (toprof_any A1 c1 l1 w8.drew hA7.out hlen1).mono ?_; rintro e wqa ⟨⟨gqa, rfl, hgqa, hrowqa⟩, hbqa⟩; have HBqa := Lib.hid hbqa; have hatqa := Lib.hid hrowqa.iat; have hatqb := Lib.hid (IAt.kept (w := w8.drew) hat7.out hbqa (Nat.le_refl _)); have z0 := (hbqa.cell (p := ⟨w5.heap.size, 0, none⟩) hx4).trans Cx1_8; clear hgqa hrowqa hbqa)
          | (go_at_call 47; refine (eqprof_same _ _ _ _ l1 wqa hatqb.out hatqa.out hlen1).mono ?_; rintro e wqb ⟨rfl, hbqb⟩))
        all_goals
          go_wp2_with fail
          go_meet
          exact ⟨rfl, Lib.hid ((Below.refl w8.heap.size w8).drew.trans (HBqa.out.trans (hbqb.mono HBqa.out.size)))⟩
      case rest =>
        obtain ⟨rfl, hbc⟩ := hcut
        obtain ⟨w9, hwb⟩ : ∃ w9, w9 = wc := ⟨_, rfl⟩
        subst hwb
        have hb9 := hbc.out
        clear hbc
        have hz9 := hb9.size
        have hB9 := on_base hB8 (by simp) hb9
        have S0_9 := Lib.hid (S0_8.out.low hb9 (by omega))
        have Ox0_9 := Lib.hid (Ox0_8.out.on hb9)
        have Cx0_9 := (hb9.cell (p := ⟨w4.heap.size, 0, none⟩) (by dsimp only; omega)).trans Cx0_8
        have Ox1_9 := Lib.hid (Ox1_8.out.on hb9)
        have Cx1_9 := (hb9.cell (p := ⟨w5.heap.size, 0, none⟩) (by dsimp only; omega)).trans Cx1_8
        have OgI_9 := Lib.hid (OgI_8.out.on hb9)
        clear b0 b1
        obtain ⟨b0, b1⟩ := box21 hB9
        clear hB8 S0_8 Ox0_8 Cx0_8 Ox1_8 Cx1_8 OgI_8 hb9
        refine Lib.hid ?_
        go_wp2_with (first | (go_at_call 49; refine (markprof_i _ gx0 _ (1) _ l0 _ Ox0_9.out hlen0 (by omega) (by omega)).mono ?_; rintro e w10 ⟨rfl, _, hg10⟩; refine Hid.out ?_) | fail)
        have hz10 := hg10.size
        have hB10 := hB9.grown hg10 (by omega) (fun k hk => by simp at hk; omega)
        have S0_10 := Lib.hid (S0_9.out.far hg10 (by omega))
        have Cx0_10 := (hg10.cell_far ⟨w4.heap.size, 0, none⟩ (by dsimp only; omega) (by simp; omega)).trans Cx0_9
        have Ox1_10 := Lib.hid (Ox1_9.out.far hg10 (by omega))
        have Cx1_10 := (hg10.cell_far ⟨w5.heap.size, 0, none⟩ (by dsimp only; omega) (by simp; omega)).trans Cx1_9
        have OgI_10 := Lib.hid (OgI_9.out.far hg10 (by omega))
        clear b0 b1
        obtain ⟨b0, b1⟩ := box21 hB10
        clear hB9 S0_9 Cx0_9 Ox1_9 Cx1_9 OgI_9 hg10
        clear Ox0_9
        clear Cx0_10
        refine Lib.hid ?_
        go_wp2_with (first | (go_at_call 49; refine (markprof_i _ gx1 _ (1 + l0.length) _ l1 _ Ox1_10.out hlen1 (by omega) (by omega)).mono ?_; rintro e w11 ⟨rfl, _, hg11⟩; refine Hid.out ?_) | fail)
        have hz11 := hg11.size
        have hB11 := hB10.grown hg11 (by omega) (fun k hk => by simp at hk; omega)
        have S0_11 := Lib.hid (S0_10.out.far hg11 (by omega))
        have Cx1_11 := (hg11.cell_far ⟨w5.heap.size, 0, none⟩ (by dsimp only; omega) (by simp; omega)).trans Cx1_10
        have OgI_11 := Lib.hid (OgI_10.out.far hg11 (by omega))
        clear b0 b1
        obtain ⟨b0, b1⟩ := box21 hB11
        clear hB10 S0_10 Cx1_10 OgI_10 hg11
        clear Ox1_10
        clear Cx1_11
        refine Lib.hid ?_
        go_wp2_with (first | (go_at_call 51; refine (eqints_same _ _ _ _ L0 _ OgI_11.out.iat S0_11.out (by omega)).mono ?_; rintro e w12 ⟨rfl, hb12⟩; refine Hid.out ?_) | fail)
        have hz12 := hb12.size
        have hB12 := on_base hB11 (by simp) hb12
        have S0_12 := Lib.hid (S0_11.out.low hb12 (by omega))
        have OgI_12 := Lib.hid (OgI_11.out.on hb12)
        clear b0 b1
        obtain ⟨b0, b1⟩ := box21 hB12
        clear hB11 S0_11 OgI_11 hb12
        refine Lib.hid ?_
        go_wp2_with (first | (go_at_call 52; refine (markints_i _ gI _ 1 _ L0 _ OgI_12.out (by omega) (by omega) (by omega)).mono ?_; rintro e w13 ⟨rfl, ho13, hg13⟩; refine Hid.out ?_) | fail)
        have hz13 := hg13.size
        have hB13 := hB12.grown hg13 (by omega) (fun k hk => by simp at hk; omega)
        have S0_13 := Lib.hid (S0_12.out.far hg13 (by omega))
        clear b0 b1
        obtain ⟨b0, b1⟩ := box21 hB13
        clear hB12 S0_12 hg13
        have SM_13 := Lib.hid ho13.iat_marks
        clear ho13 OgI_12
        refine Lib.hid ?_
        go_wp2_with (first | (go_at_call 53; refine (heldints_i _ _ 1 L0.length _ _ SM_13.out (by omega) (by omega) (by omega)).mono ?_; rintro e w14 ⟨rfl, hb14⟩; refine Hid.out ?_) | fail)
        have hz14 := hb14.size
        have hB14 := on_base hB13 (by simp) hb14
        have S0_14 := Lib.hid (S0_13.out.low hb14 (by omega))
        have SM_14 := Lib.hid (SM_13.out.low hb14 (by omega))
        clear b0 b1
        obtain ⟨b0, b1⟩ := box21 hB14
        clear hB13 S0_13 SM_13 hb14
        refine Lib.hid ?_
        go_upto_region 31 with (fail)
        go_cut [17, 18] (fun s t wx => ∃ g c, s = .slice (some ⟨g, 0, none⟩) L0.length c ∧ t = .bool ok ∧ w14.heap.size ≤ g ∧ Hid (IOwn wx w14.heap.size (.slice (some ⟨g, 0, none⟩) L0.length c) L0) ∧ Hid (Below w14.heap.size w14 wx))
        case first =>
          have hA70 := Lib.hid (HA0.out.kept (under2 hB14) (Nat.le_refl _))
          have hA71 := Lib.hid (HA1.out.kept (under2 hB14) (Nat.le_refl _))
          have hx0 : w.heap.size < w14.heap.size := by omega
          have hx1 : w.heap.size + 1 < w14.heap.size := by omega
          refine wp_region_held_drew (S := fun w' => w'.cell? ⟨w.heap.size, 0, none⟩ = some (.slice A0 l0.length c0) ∧ w'.cell? ⟨w.heap.size + 1, 0, none⟩ = some (.slice A1 l1.length c1)) (by kernel_rfl) (by exact ⟨b0, b1⟩) (fun hHeld => ?_)
          refine wpAnyH_take (i := 0) (v := .agg #[.slice A0 l0.length c0]) rfl (by kernel_rfl) (by kernel_rfl) (by kernel_rfl) (fun _ _ _ h => h) (Or.inl ⟨by rfl, ?_⟩) (by assumption) ?_
          · (intro w hSw; (try dsimp only at hSw); go_simp)
          simp only [Act.put, List.setIfInBounds_toArray]
          refine wpAnyH_take (i := 2) (v := .agg #[.slice A1 l1.length c1]) rfl (by kernel_rfl) (by kernel_rfl) (by kernel_rfl) (fun _ _ _ h => h) (Or.inl ⟨by rfl, ?_⟩) (by assumption) ?_
          · (intro w hSw; (try dsimp only at hSw); go_simp)
          simp only [Act.put]
          refine wpAnyH_take (i := 4) (v := .int .i64 x2) rfl (by kernel_rfl) (by kernel_rfl) (by kernel_rfl) (fun _ _ _ h => h) (Or.inl ⟨by rfl, ?_⟩) (by assumption) ?_
          · (intro w hSw; (try dsimp only at hSw); go_simp)
          simp only [Act.put]
          refine wpAnyH_ready (rs := [1]) (by kernel_rfl) (by simp) ?_
          refine AllReadyH.cons rfl (fun K hK => ?_) AllReadyH.nil
          go_simp
          go_at_call 46
          refine (toprof_any A0 c0 l0 w14.drew (hA70.out.kept (Below.refl w14.heap.size w14).drew (Nat.le_refl _)) hlen0).mono ?_
          rintro e wq1 ⟨⟨gq0, rfl, hgq0, hOq0⟩, hbq1⟩
          have hlq0 := iown_lt' hOq0
          have HBq1 := Lib.hid ((Below.refl w14.heap.size w14).drew.trans hbq1)
          have zq1 := HBq1.out.size
          have y0q1 := (HBq1.out.cell (p := ⟨w.heap.size, 0, none⟩) hx0).trans b0
          have y1q1 := (HBq1.out.cell (p := ⟨w.heap.size + 1, 0, none⟩) hx1).trans b1
          refine hK.out _ _ ⟨y0q1, y1q1⟩ (fun hHeld => ?_)
          clear hK K
          refine wpAnyH_ready (rs := [3]) (by kernel_rfl) (by simp) ?_
          refine AllReadyH.cons rfl (fun K hK => ?_) AllReadyH.nil
          go_simp
          go_at_call 46
          refine (toprof_any A1 c1 l1 wq1 (hA71.out.kept HBq1.out (Nat.le_refl _)) hlen1).mono ?_
          rintro e wq2 ⟨⟨gq1, rfl, hgq1, hOq1⟩, hbq2⟩
          have hlq1 := iown_lt' hOq1
          have HBq2 := Lib.hid (HBq1.out.trans (hbq2.mono HBq1.out.size))
          have zq2 := HBq2.out.size
          have y0q2 := (HBq2.out.cell (p := ⟨w.heap.size, 0, none⟩) hx0).trans b0
          have y1q2 := (HBq2.out.cell (p := ⟨w.heap.size + 1, 0, none⟩) hx1).trans b1
          refine hK.out _ _ ⟨y0q2, y1q2⟩ (fun hHeld => ?_)
          clear hK K
          have hOq0 := hOq0.on hbq2
          refine wpAnyH_ready (rs := [5]) (by kernel_rfl) (by simp) ?_
          refine AllReadyH.cons rfl (fun K hK => ?_) AllReadyH.nil
          go_simp
          go_at_call 38
          refine (HI.out _ _ _ _ wq2 hOq0.iat hlen0 hOq1.iat hlen1).mono ?_
          rintro e wq3 ⟨gI0, cI0, rfl, hgI0, hO0, hbq3⟩
          have HBq3 := Lib.hid (HBq2.out.trans (hbq3.mono HBq2.out.size))
          have y0q3 := (HBq3.out.cell (p := ⟨w.heap.size, 0, none⟩) hx0).trans b0
          have y1q3 := (HBq3.out.cell (p := ⟨w.heap.size + 1, 0, none⟩) hx1).trans b1
          refine hK.out _ _ ⟨y0q3, y1q3⟩ (fun hHeld => ?_)
          clear hK K
          refine wpAnyH_take (i := 6) (v := .tuple #[.slice (some ⟨gI0, 0, none⟩) L0.length cI0, .bool ok]) rfl (by kernel_rfl) (by kernel_rfl) (by kernel_rfl) (fun _ _ _ h => h) (Or.inl ⟨by rfl, ?_⟩) (by assumption) ?_
          · (intro w hSw; (try dsimp only at hSw); go_simp)
          simp only [Act.put]
          refine wpAnyH_take (i := 7) (v := .slice (some ⟨gI0, 0, none⟩) L0.length cI0) rfl (by kernel_rfl) (by kernel_rfl) (by kernel_rfl) (fun _ _ _ h => h) (Or.inl ⟨by rfl, ?_⟩) (by assumption) ?_
          · (intro w hSw; (try dsimp only at hSw); go_simp)
          simp only [Act.put]
          refine wpAnyH_take (i := 8) (v := .bool ok) rfl (by kernel_rfl) (by kernel_rfl) (by kernel_rfl) (fun _ _ _ h => h) (Or.inl ⟨by rfl, ?_⟩) (by assumption) ?_
          · (intro w hSw; (try dsimp only at hSw); go_simp)
          simp only [Act.put]
          refine wpAnyH_ready (rs := [9]) (by kernel_rfl) (by simp) ?_
          refine AllReadyH.cons rfl (fun K hK => ?_) AllReadyH.nil
          go_simp
          refine hK.out _ _ (by first | assumption | go_keep) (fun hHeld => ?_)
          clear hK K
          refine wpAnyH_ready (rs := [10]) (by kernel_rfl) (by simp) ?_
          refine AllReadyH.cons rfl (fun K hK => ?_) AllReadyH.nil
          go_simp
          refine hK.out _ _ (by first | assumption | go_keep) (fun hHeld => ?_)
          clear hK K
          refine wpAnyH_done (by kernel_rfl) ?_ _
          go_wp2_with fail
          go_meet
          exact ⟨gI0, cI0, rfl, rfl, by omega, Lib.hid (own_lower hO0 (by omega)), Lib.hid HBq3.out⟩
        case rest =>
          obtain ⟨gJ, cgJ, rfl, rfl, hgJ, hO0, hbc⟩ := hcut
          obtain ⟨w15, hwb⟩ : ∃ w15, w15 = wc := ⟨_, rfl⟩
          subst hwb
          have hb15 := hbc.out
          clear hbc
          have hz15 := hb15.size
          have hB15 := on_base hB14 (by simp) hb15
          have S0_15 := Lib.hid (S0_14.out.low hb15 (by omega))
          have SM_15 := Lib.hid (SM_14.out.low hb15 (by omega))
          clear b0 b1
          obtain ⟨b0, b1⟩ := box21 hB15
          clear hB14 S0_14 SM_14 hb15
          have OgJ_15 := hO0
          have hlgJ := iown_lt' hO0.out
          clear hO0
          refine Lib.hid ?_
          go_wp2_with (first | (go_at_call 51; refine (eqints_same _ _ _ _ L0 _ OgJ_15.out.iat S0_15.out (by omega)).mono ?_; rintro e w16 ⟨rfl, hb16⟩; refine Hid.out ?_) | fail)
          have hz16 := hb16.size
          have hB16 := on_base hB15 (by simp) hb16
          have S0_16 := Lib.hid (S0_15.out.low hb16 (by omega))
          have SM_16 := Lib.hid (SM_15.out.low hb16 (by omega))
          have OgJ_16 := Lib.hid (OgJ_15.out.on hb16)
          clear b0 b1
          obtain ⟨b0, b1⟩ := box21 hB16
          clear hB15 S0_15 SM_15 OgJ_15 hb16
          refine Lib.hid ?_
          go_wp2_with (first | (go_at_call 53; refine (heldints_i _ _ 1 L0.length _ _ SM_16.out (by omega) (by omega) (by omega)).mono ?_; rintro e w17 ⟨rfl, hb17⟩; refine Hid.out ?_) | fail)
          have hz17 := hb17.size
          have hB17 := on_base hB16 (by simp) hb17
          have S0_17 := Lib.hid (S0_16.out.low hb17 (by omega))
          have SM_17 := Lib.hid (SM_16.out.low hb17 (by omega))
          have OgJ_17 := Lib.hid (OgJ_16.out.on hb17)
          clear b0 b1
          obtain ⟨b0, b1⟩ := box21 hB17
          clear hB16 S0_16 SM_16 OgJ_16 hb17
          refine Lib.hid ?_
          go_wp2_with fail
          go_ret
          exact ⟨rfl, (under2 hB17)⟩
end Go.Proofs.Ytkgkeohnnpkahaa.S6
