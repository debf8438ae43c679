/- The walk of the law FnExactFlatProfile: contracts. Conditions: each theorem's own premises. -/
import Derived.Test.YtkgkeohnnpkahaaPfLaw
import Derived.Deep.DeepCutAuto
namespace Go.Proofs.Ytkgkeohnnpkahaa.S6
open Go.RowKit P6

set_option maxHeartbeats 16000000 in
set_option maxRecDepth 100000 in
theorem walkFlatProfile (w : World) (L0 : List Int) (hL0 : L0.length ≤ 1000)
    (hs : ∀ (w : World), Calls Try.prog 48 #[] w (GivesP1A w L0))
    (hi : ∀ (w : World), Calls Try.prog 30 #[] w (GivesP1I w L0)) :
    Calls Try.prog 6 #[] w fun e w' => e = .returned (.bool true) ∧ Below w.heap.size w w' := by
  have HS := Lib.hid hs
  have HI := Lib.hid hi
  clear hs hi
  go_enter Try.func6, Try.ntmps6
  have hB0 := Below.refl w.heap.size w
  refine Hid.out ?_
  refine Lib.hid ?_
  go_wp2_with (first | (go_at_call 48; refine (HS.out _).mono ?_; rintro e w1 ⟨gS0, oS0, cS0, rfl, hgS0, hS0, hb1, hlS0⟩; refine Hid.out ?_) | fail)
  have hz1 := hb1.size
  have hB1 := on_base hB0 (by simp) hb1
  clear hB0 hb1
  have S0_1 := Lib.hid hS0
  clear hS0
  have hb1a := alloc_below w1 (.cells #[.slice (some ⟨gS0, oS0, none⟩) L0.length cS0] 26)
  have hz1a := alloc_size w1 (.cells #[.slice (some ⟨gS0, oS0, none⟩) L0.length cS0] 26)
  have hB1a := on_base hB1 (by simp) hb1a
  have S0_1a := Lib.hid (S0_1.out.low hb1a (by omega))
  refine Lib.hid ?_
  go_wp2_with (first | (go_at_call 30; refine (HI.out _).mono ?_; rintro e w2 ⟨gI, cgI, rfl, hgI, hO0, hb2⟩; refine Hid.out ?_) | fail)
  replace hb2 : Below (w1.alloc (.cells #[.slice (some ⟨gS0, oS0, none⟩) L0.length cS0] 26)).heap.size (w1.alloc (.cells #[.slice (some ⟨gS0, oS0, none⟩) L0.length cS0] 26)) w2 := hb2
  have Cw0_2 := (hb2.cell (p := ⟨w1.heap.size, 0, none⟩) (by dsimp only; omega)).trans (box_at (w := w1))
  have hz2 := hb2.size
  have hB2 := on_base hB1a (by simp) hb2
  have S0_2 := Lib.hid (S0_1a.out.low hb2 (by omega))
  clear hB1a S0_1a hb2
  clear hB1 S0_1 hb1a
  have OgI_2 := Lib.hid hO0
  have hlgI := iown_lt' hO0
  clear hO0
  have hb2a := alloc_below w2 (.cells #[.slice (some ⟨gI, 0, none⟩) L0.length cgI] 26)
  have hz2a := alloc_size w2 (.cells #[.slice (some ⟨gI, 0, none⟩) L0.length cgI] 26)
  have hB2a := on_base hB2 (by simp) hb2a
  have S0_2a := Lib.hid (S0_2.out.low hb2a (by omega))
  have Cw0_2a := Lib.hid ((hb2a.cell (p := ⟨w1.heap.size, 0, none⟩) (by dsimp only; omega)).trans Cw0_2)
  have OgI_2a := Lib.hid (OgI_2.out.on hb2a)
  have hqw0 : w1.heap.size < w2.heap.size := by omega
  refine Lib.hid ?_
  go_wp2_with (first | (go_at_call 47; refine (eqprof_same _ _ _ _ L0 _ OgI_2a.out.iat S0_2a.out (by omega)).mono ?_; rintro e w3 ⟨rfl, hb3⟩; refine Hid.out ?_) | fail)
  replace hb3 : Below (w2.alloc (.cells #[.slice (some ⟨gI, 0, none⟩) L0.length cgI] 26)).heap.size (w2.alloc (.cells #[.slice (some ⟨gI, 0, none⟩) L0.length cgI] 26)) w3 := hb3
  have Cg0_3 := (hb3.cell (p := ⟨w2.heap.size, 0, none⟩) (by dsimp only; omega)).trans (box_at (w := w2))
  have hz3 := hb3.size
  have hB3 := on_base hB2a (by simp) hb3
  have S0_3 := Lib.hid (S0_2a.out.low hb3 (by omega))
  have Cw0_3 := (hb3.cell (p := ⟨w1.heap.size, 0, none⟩) (by dsimp only; omega)).trans Cw0_2a.out
  have OgI_3 := Lib.hid (OgI_2a.out.on hb3)
  clear hB2a S0_2a Cw0_2a OgI_2a hb3
  clear hB2 S0_2 Cw0_2 OgI_2 hqw0 hb2a
  refine Lib.hid ?_
  go_wp2_with (first | (go_at_call 49; refine (markprof_i _ gI _ 1 _ L0 _ OgI_3.out (by omega) (by omega) (by omega)).mono ?_; rintro e w4 ⟨rfl, ho4, hg4⟩; refine Hid.out ?_) | fail)
  have hz4 := hg4.size
  have hB4 := hB3.grown hg4 (by omega) (fun k hk => by simp at hk; omega)
  have S0_4 := Lib.hid (S0_3.out.far hg4 (by omega))
  have Cw0_4 := (hg4.cell_far ⟨w1.heap.size, 0, none⟩ (by dsimp only; omega) (by simp; omega)).trans Cw0_3
  have Cg0_4 := (hg4.cell_far ⟨w2.heap.size, 0, none⟩ (by dsimp only; omega) (by simp; omega)).trans Cg0_3
  clear hB3 S0_3 Cw0_3 Cg0_3 hg4
  have SM_4 := Lib.hid ho4.iat_marks
  clear ho4 OgI_3
  refine Lib.hid ?_
  go_wp2_with (first | (go_at_call 50; refine (heldprof_i _ _ 1 L0.length _ _ SM_4.out (by omega) (by omega) (by omega)).mono ?_; rintro e w5 ⟨rfl, hb5⟩; refine Hid.out ?_) | fail)
  have hz5 := hb5.size
  have hB5 := on_base hB4 (by simp) hb5
  have S0_5 := Lib.hid (S0_4.out.low hb5 (by omega))
  have Cw0_5 := (hb5.cell (p := ⟨w1.heap.size, 0, none⟩) (by dsimp only; omega)).trans Cw0_4
  have Cg0_5 := (hb5.cell (p := ⟨w2.heap.size, 0, none⟩) (by dsimp only; omega)).trans Cg0_4
  have SM_5 := Lib.hid (SM_4.out.low hb5 (by omega))
  clear hB4 S0_4 Cw0_4 Cg0_4 SM_4 hb5
  refine Lib.hid ?_
  go_wp2_with (first | (go_at_call 30; refine (HI.out _).mono ?_; rintro e w6 ⟨gJ, cgJ, rfl, hgJ, hO0, hb6⟩; refine Hid.out ?_) | fail)
  have hz6 := hb6.size
  have hB6 := on_base hB5 (by simp) hb6
  have S0_6 := Lib.hid (S0_5.out.low hb6 (by omega))
  have Cw0_6 := (hb6.cell (p := ⟨w1.heap.size, 0, none⟩) (by dsimp only; omega)).trans Cw0_5
  have Cg0_6 := (hb6.cell (p := ⟨w2.heap.size, 0, none⟩) (by dsimp only; omega)).trans Cg0_5
  have SM_6 := Lib.hid (SM_5.out.low hb6 (by omega))
  clear hB5 S0_5 Cw0_5 Cg0_5 SM_5 hb6
  have OgJ_6 := Lib.hid hO0
  have hlgJ := iown_lt' hO0
  clear hO0
  have hb6a := alloc_below w6 (.cells #[.slice (some ⟨gJ, 0, none⟩) L0.length cgJ] 26)
  have hz6a := alloc_size w6 (.cells #[.slice (some ⟨gJ, 0, none⟩) L0.length cgJ] 26)
  have hB6a := on_base hB6 (by simp) hb6a
  have S0_6a := Lib.hid (S0_6.out.low hb6a (by omega))
  have Cw0_6a := Lib.hid ((hb6a.cell (p := ⟨w1.heap.size, 0, none⟩) (by dsimp only; omega)).trans Cw0_6)
  have Cg0_6a := Lib.hid ((hb6a.cell (p := ⟨w2.heap.size, 0, none⟩) (by dsimp only; omega)).trans Cg0_6)
  have SM_6a := Lib.hid (SM_6.out.low hb6a (by omega))
  have OgJ_6a := Lib.hid (OgJ_6.out.on hb6a)
  have hqw0 : w1.heap.size < w6.heap.size := by omega
  have hqg0 : w2.heap.size < w6.heap.size := by omega
  refine Lib.hid ?_
  go_wp2_with (first | (go_at_call 47; refine (eqprof_same _ _ _ _ L0 _ OgJ_6a.out.iat S0_6a.out (by omega)).mono ?_; rintro e w7 ⟨rfl, hb7⟩; refine Hid.out ?_) | fail)
  replace hb7 : Below (w6.alloc (.cells #[.slice (some ⟨gJ, 0, none⟩) L0.length cgJ] 26)).heap.size (w6.alloc (.cells #[.slice (some ⟨gJ, 0, none⟩) L0.length cgJ] 26)) w7 := hb7
  have Ch0_7 := (hb7.cell (p := ⟨w6.heap.size, 0, none⟩) (by dsimp only; omega)).trans (box_at (w := w6))
  have hz7 := hb7.size
  have hB7 := on_base hB6a (by simp) hb7
  have S0_7 := Lib.hid (S0_6a.out.low hb7 (by omega))
  have Cw0_7 := (hb7.cell (p := ⟨w1.heap.size, 0, none⟩) (by dsimp only; omega)).trans Cw0_6a.out
  have Cg0_7 := (hb7.cell (p := ⟨w2.heap.size, 0, none⟩) (by dsimp only; omega)).trans Cg0_6a.out
  have SM_7 := Lib.hid (SM_6a.out.low hb7 (by omega))
  have OgJ_7 := Lib.hid (OgJ_6a.out.on hb7)
  clear hB6a S0_6a Cw0_6a Cg0_6a SM_6a OgJ_6a hb7
  clear hB6 S0_6 Cw0_6 Cg0_6 SM_6 OgJ_6 hqw0 hqg0 hb6a
  refine Lib.hid ?_
  go_wp2_with (first | (go_at_call 50; refine (heldprof_i _ _ 1 L0.length _ _ SM_7.out (by omega) (by omega) (by omega)).mono ?_; rintro e w8 ⟨rfl, hb8⟩; refine Hid.out ?_) | fail)
  have hz8 := hb8.size
  have hB8 := on_base hB7 (by simp) hb8
  have S0_8 := Lib.hid (S0_7.out.low hb8 (by omega))
  have Cw0_8 := (hb8.cell (p := ⟨w1.heap.size, 0, none⟩) (by dsimp only; omega)).trans Cw0_7
  have Cg0_8 := (hb8.cell (p := ⟨w2.heap.size, 0, none⟩) (by dsimp only; omega)).trans Cg0_7
  have SM_8 := Lib.hid (SM_7.out.low hb8 (by omega))
  have OgJ_8 := Lib.hid (OgJ_7.out.on hb8)
  have Ch0_8 := (hb8.cell (p := ⟨w6.heap.size, 0, none⟩) (by dsimp only; omega)).trans Ch0_7
  clear hB7 S0_7 Cw0_7 Cg0_7 SM_7 OgJ_7 Ch0_7 hb8
  refine Lib.hid ?_
  go_wp2_with fail
  go_ret
  exact ⟨rfl, hB8⟩
end Go.Proofs.Ytkgkeohnnpkahaa.S6
