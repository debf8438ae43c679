/- How the law FnUses draws its arguments: contracts. Conditions: each theorem's own premises. -/
import Derived.Test.YtkgkeohnnpkahaaPfDs
namespace Go.Proofs.Ytkgkeohnnpkahaa.S6
open Go.RowKit P6

set_option maxHeartbeats 8000000 in
set_option maxRecDepth 100000 in
theorem dmix_any (a : Option Addr) (n cap : Nat) (w : World) (hc : S1.Cd w.heap.size a n w) (hn : n ≤ 65536) :
    Calls Try.prog 37 #[.slice a n cap] w fun e w' => (∃ b off c l b' off' c' l' z, e = .returned (.tuple #[dv (some ⟨b, off, none⟩) l.length c, dv (some ⟨b', off', none⟩) l'.length c', .int .i64 z]) ∧ l.length ≤ 24 ∧ l'.length ≤ 24 ∧ IAt w' (some ⟨b, off, none⟩) l ∧ IAt w' (some ⟨b', off', none⟩) l') ∧ Below w.heap.size w w' := by
  have HS0 := Lib.hid (st_three cap hc hn)
  clear hc
  go_enter Try.func37, Try.ntmps37
  go_wp2_with fail
  refine (profile_any (w.heap.size + 2) (w.heap.size + 2) a n cap 0 _ (by omega) HS0.out (by simp)).mono ?_
  rintro e w2 ⟨⟨b, off, c, l, rfl, hb, hbl, hl, ha⟩, hs, hg⟩
  refine Hid.out ?_
  have HPB := Lib.hid (prof_box2 (c := c) hs hg hb hbl ha)
  obtain ⟨w3, hw3⟩ : ∃ w3, w3 = w2.alloc (.cells #[.slice (some ⟨b, off, none⟩) l.length c] 26) := ⟨_, rfl⟩
  rw [← hw3] at HPB
  obtain ⟨hs3, hB3, hco, hcr, hfr, hcq, hfq, ha3, hz2, hzb, hz3⟩ := HPB.out
  have hz3' : w2.heap.size < w3.heap.size := by omega
  have hwr3 : w.heap.size < w3.heap.size := by omega
  have hwq3 : w.heap.size + 1 < w3.heap.size := by omega
  have HS3 := Lib.hid hs3
  have HB3 := Lib.hid hB3
  have HA3 := Lib.hid ha3
  have HW3 := Lib.hid hw3
  clear hs hg hb ha HS0 HPB hs3 hB3 ha3 hw3 hz3
  refine Lib.hid ?_
  go_wp2_with fail
  rw [← HW3.out]
  have hz0 : w3.heap.size ≤ w3.drew.heap.size := Nat.le_refl _
  have hco0 : w3.drew.cell? ⟨w2.heap.size, 0, none⟩ = some (.slice (some ⟨b, off, none⟩) l.length c) := hco
  have hcr0 : w3.drew.cell? ⟨w.heap.size, 0, none⟩ = some (.slice none 0 0) := hcr
  have hfr0 : w3.drew.frozen? ⟨w.heap.size, 0, none⟩ = false := hfr
  have hcq0 : w3.drew.cell? ⟨w.heap.size + 1, 0, none⟩ = some (.slice none 0 0) := hcq
  have hfq0 : w3.drew.frozen? ⟨w.heap.size + 1, 0, none⟩ = false := hfq
  have HB0 := Lib.hid (HB3.out.trans (Below.refl _ _).drew)
  have HA0 := Lib.hid (HA3.out.kept (Below.refl _ _).drew (Nat.le_refl _))
  refine wp_region_held_drew (S := fun w' => w'.cell? ⟨w2.heap.size, 0, none⟩ = some (.slice (some ⟨b, off, none⟩) l.length c)) (by kernel_rfl) (by exact hco) (fun hHeld => ?_)
  refine wpAnyH_take (i := 0) (v := .agg #[.slice (some ⟨b, off, none⟩) l.length c]) rfl (by kernel_rfl) (by kernel_rfl) (by kernel_rfl) (fun _ _ _ h => h) (Or.inl ⟨by rfl, ?_⟩) (by assumption) ?_
  · (intro w hSw; (try dsimp only at hSw); go_simp)
  simp only [Act.put, List.setIfInBounds_toArray]
  refine wpAnyH_take (i := 1) (v := .pointer (some ⟨w.heap.size + 2, 0, none⟩)) rfl (by kernel_rfl) (by kernel_rfl) (by kernel_rfl) (fun _ _ _ h => h) (Or.inl ⟨by rfl, ?_⟩) (by assumption) ?_
  · (intro w hSw; (try dsimp only at hSw); go_simp)
  simp only [Act.put]
  refine wpAnyH_take (i := 3) (v := .pointer (some ⟨w.heap.size + 2, 0, none⟩)) rfl (by kernel_rfl) (by kernel_rfl) (by kernel_rfl) (fun _ _ _ h => h) (Or.inl ⟨by rfl, ?_⟩) (by assumption) ?_
  · (intro w hSw; (try dsimp only at hSw); go_simp)
  simp only [Act.put]
  refine wpAnyH_take (i := 5) (v := .pointer (some ⟨w.heap.size + 2, 0, none⟩)) rfl (by kernel_rfl) (by kernel_rfl) (by kernel_rfl) (fun _ _ _ h => h) (Or.inl ⟨by rfl, ?_⟩) (by assumption) ?_
  · (intro w hSw; (try dsimp only at hSw); go_simp)
  simp only [Act.put]
  refine wpAnyH_ready (rs := [2, 4]) (by kernel_rfl) (by simp) ?_
  refine AllReadyH.cons rfl (fun K hK => ?_) (AllReadyH.cons rfl (fun K hK => ?_) AllReadyH.nil)
  · go_simp
    go_at_call 54
    refine (profile_any (w.heap.size + 2) (w.heap.size + 2) a n cap (0 + 100) (w3.drew) (by omega) (HS3.out.other (Below.refl _ _).drew) (Nat.lt_of_lt_of_le (by omega) hz0)).mono ?_
    rintro e p1 ⟨⟨b', off', c', l', rfl, hb', hbl', hl', ha'⟩, hs1, hg⟩
    have hbz' := Nat.le_trans hz0 hb'
    have HX1 := Lib.hid ha'
    clear ha' hb' hbl'
    have hz1 := Nat.le_trans hz0 hg.size
    have hco1 := (hg.cell_far ⟨w2.heap.size, 0, none⟩ (Nat.lt_of_lt_of_le hz3' hz0) (by simp; omega)).trans hco0
    have hcr1 := (hg.cell_far ⟨w.heap.size, 0, none⟩ (Nat.lt_of_lt_of_le hwr3 hz0) (by simp)).trans hcr0
    have hfr1 := (World.frozen?_of_block (a := ⟨w.heap.size, 0, none⟩) (hg.block (w.heap.size) (Nat.lt_of_lt_of_le hwr3 hz0) (by simp))).trans hfr0
    have hcq1 := (hg.cell_far ⟨w.heap.size + 1, 0, none⟩ (Nat.lt_of_lt_of_le hwq3 hz0) (by simp)).trans hcq0
    have hfq1 := (World.frozen?_of_block (a := ⟨w.heap.size + 1, 0, none⟩) (hg.block (w.heap.size + 1) (Nat.lt_of_lt_of_le hwq3 hz0) (by simp))).trans hfq0
    have HB1 := Lib.hid (HB0.out.trans (S1.grown_below hg (by omega) (Nat.le_of_lt (Nat.lt_of_lt_of_le hwr3 hz0))))
    have HA1 := Lib.hid (iat_grown HA0.out hg (by omega))
    refine hK.out _ _ hco1 (fun hHeld => ?_)
    clear hK K hg
    refine wpAnyH_ready (rs := [4, 6]) (by kernel_rfl) (by simp) ?_
    refine AllReadyH.cons rfl (fun K hK => ?_) (AllReadyH.cons rfl (fun K hK => ?_) AllReadyH.nil)
    · go_simp
      refine hK.out _ _ (by first | assumption | go_keep) (fun hHeld => ?_)
      clear hK K
      have hz2 : w3.heap.size ≤ ((p1.alloc (.cells #[.int .i64 0, .int .i64 1, .int .i64 50, .int .i64 99, .int .i64 100, .int .i64 (-1), .int .i64 101] 3))).heap.size := by show w3.heap.size ≤ (p1.alloc _).heap.size; rw [alloc_size]; omega
      have hlb : w3.heap.size ≤ p1.heap.size := by omega
      have hzl2 : p1.heap.size < ((p1.alloc (.cells #[.int .i64 0, .int .i64 1, .int .i64 50, .int .i64 99, .int .i64 100, .int .i64 (-1), .int .i64 101] 3))).heap.size := by show p1.heap.size < (p1.alloc _).heap.size; rw [alloc_size]; omega
      have hco2 : ((p1.alloc (.cells #[.int .i64 0, .int .i64 1, .int .i64 50, .int .i64 99, .int .i64 100, .int .i64 (-1), .int .i64 101] 3))).cell? ⟨w2.heap.size, 0, none⟩ = some (.slice (some ⟨b, off, none⟩) l.length c) := (World.cell?_alloc_past (w := p1) (.cells #[.int .i64 0, .int .i64 1, .int .i64 50, .int .i64 99, .int .i64 100, .int .i64 (-1), .int .i64 101] 3) w2.heap.size 0 (by omega)).trans hco1
      have hcr2 : ((p1.alloc (.cells #[.int .i64 0, .int .i64 1, .int .i64 50, .int .i64 99, .int .i64 100, .int .i64 (-1), .int .i64 101] 3))).cell? ⟨w.heap.size, 0, none⟩ = some (.slice none 0 0) := (World.cell?_alloc_past (w := p1) (.cells #[.int .i64 0, .int .i64 1, .int .i64 50, .int .i64 99, .int .i64 100, .int .i64 (-1), .int .i64 101] 3) (w.heap.size) 0 (by omega)).trans hcr1
      have hfr2 : ((p1.alloc (.cells #[.int .i64 0, .int .i64 1, .int .i64 50, .int .i64 99, .int .i64 100, .int .i64 (-1), .int .i64 101] 3))).frozen? ⟨w.heap.size, 0, none⟩ = false := (World.frozen?_alloc_past (w := p1) (.cells #[.int .i64 0, .int .i64 1, .int .i64 50, .int .i64 99, .int .i64 100, .int .i64 (-1), .int .i64 101] 3) (w.heap.size) 0 (by omega)).trans hfr1
      have hcq2 : ((p1.alloc (.cells #[.int .i64 0, .int .i64 1, .int .i64 50, .int .i64 99, .int .i64 100, .int .i64 (-1), .int .i64 101] 3))).cell? ⟨w.heap.size + 1, 0, none⟩ = some (.slice none 0 0) := (World.cell?_alloc_past (w := p1) (.cells #[.int .i64 0, .int .i64 1, .int .i64 50, .int .i64 99, .int .i64 100, .int .i64 (-1), .int .i64 101] 3) (w.heap.size + 1) 0 (by omega)).trans hcq1
      have hfq2 : ((p1.alloc (.cells #[.int .i64 0, .int .i64 1, .int .i64 50, .int .i64 99, .int .i64 100, .int .i64 (-1), .int .i64 101] 3))).frozen? ⟨w.heap.size + 1, 0, none⟩ = false := (World.frozen?_alloc_past (w := p1) (.cells #[.int .i64 0, .int .i64 1, .int .i64 50, .int .i64 99, .int .i64 100, .int .i64 (-1), .int .i64 101] 3) (w.heap.size + 1) 0 (by omega)).trans hfq1
      have hs2 : S1.St (w.heap.size + 2) (w.heap.size + 2) a n cap (0 + 100 + 100) ((p1.alloc (.cells #[.int .i64 0, .int .i64 1, .int .i64 50, .int .i64 99, .int .i64 100, .int .i64 (-1), .int .i64 101] 3))) := S1.st_new hs1 _
      have HB2 := Lib.hid (show Below w.heap.size w ((p1.alloc (.cells #[.int .i64 0, .int .i64 1, .int .i64 50, .int .i64 99, .int .i64 100, .int .i64 (-1), .int .i64 101] 3))) from HB1.out.trans (((alloc_below p1 (.cells #[.int .i64 0, .int .i64 1, .int .i64 50, .int .i64 99, .int .i64 100, .int .i64 (-1), .int .i64 101] 3))).mono (by omega)))
      have HA2 := Lib.hid (show IAt ((p1.alloc (.cells #[.int .i64 0, .int .i64 1, .int .i64 50, .int .i64 99, .int .i64 100, .int .i64 (-1), .int .i64 101] 3))) (some ⟨b, off, none⟩) l from HA1.out.kept (alloc_below p1 (.cells #[.int .i64 0, .int .i64 1, .int .i64 50, .int .i64 99, .int .i64 100, .int .i64 (-1), .int .i64 101] 3)) (Nat.le_refl _))
      have ht0 : S1.Ti p1.heap.size [0, 1, 50, 99, 100, -1, 101] (p1.alloc (.cells #[.int .i64 0, .int .i64 1, .int .i64 50, .int .i64 99, .int .i64 100, .int .i64 (-1), .int .i64 101] 3)) := S1.ti_new p1 [0, 1, 50, 99, 100, -1, 101] 3
      have hti2 : S1.Ti p1.heap.size [0, 1, 50, 99, 100, -1, 101] ((p1.alloc (.cells #[.int .i64 0, .int .i64 1, .int .i64 50, .int .i64 99, .int .i64 100, .int .i64 (-1), .int .i64 101] 3))) := fun j hj => ht0 j hj
      clear ht0
      have HX2 := Lib.hid (show IAt ((p1.alloc (.cells #[.int .i64 0, .int .i64 1, .int .i64 50, .int .i64 99, .int .i64 100, .int .i64 (-1), .int .i64 101] 3))) (some ⟨b', off', none⟩) l' from HX1.out.kept (alloc_below p1 (.cells #[.int .i64 0, .int .i64 1, .int .i64 50, .int .i64 99, .int .i64 100, .int .i64 (-1), .int .i64 101] 3)) (Nat.le_refl _))
      refine wpAnyH_ready (rs := [6]) (by kernel_rfl) (by simp) ?_
      refine AllReadyH.cons rfl (fun K hK => ?_) AllReadyH.nil
      go_simp
      go_at_call 62
      refine (S1.pick_any (w.heap.size + 2) (w.heap.size + 2) a n cap (0 + 100 + 100) 24 ((p1.alloc (.cells #[.int .i64 0, .int .i64 1, .int .i64 50, .int .i64 99, .int .i64 100, .int .i64 (-1), .int .i64 101] 3))) (by omega) (by omega) (by omega) hs2).mono ?_
      rintro e p3 ⟨r0, rfl, hr0, hr1, hs3, hg⟩
      obtain ⟨t0, rfl⟩ : ∃ t : Nat, r0 = (t : Int) := ⟨r0.toNat, by omega⟩
      obtain ⟨d0, hd0⟩ : ∃ d : Nat, (t0 : Int) / 11 = (d : Int) := ⟨t0 / 11, by omega⟩
      have hdt : (t0 : Int).tdiv 11 = (d0 : Int) := by rw [Int.tdiv_eq_ediv_of_nonneg (by omega)]; exact hd0
      have hd02 : d0 ≤ 2 := by omega
      obtain ⟨N0, hN0⟩ : ∃ N : Nat, 5 + (d0 : Int) = (N : Int) := ⟨5 + d0, by omega⟩
      have hN00 : 1 ≤ N0 := by omega
      have hN01 : N0 ≤ 7 := by omega
      have hN02 : (N0 : Int) ≤ 7 := by omega
      have hN03 : (0 : Int) ≤ (N0 : Int) := by omega
      have hwd : IntKind.i64.wrap (d0 : Int) = (d0 : Int) := IntWalk.i64_in _ (by omega)
      have hwN : IntKind.i64.wrap (N0 : Int) = (N0 : Int) := IntWalk.i64_in _ (by omega)
      have hz3 := Nat.le_trans hz2 hg.size
      have hco3 := (hg.cell_far ⟨w2.heap.size, 0, none⟩ (Nat.lt_of_lt_of_le hz3' hz2) (by simp; omega)).trans hco2
      have hcr3 := (hg.cell_far ⟨w.heap.size, 0, none⟩ (Nat.lt_of_lt_of_le hwr3 hz2) (by simp)).trans hcr2
      have hfr3 := (World.frozen?_of_block (a := ⟨w.heap.size, 0, none⟩) (hg.block (w.heap.size) (Nat.lt_of_lt_of_le hwr3 hz2) (by simp))).trans hfr2
      have hcq3 := (hg.cell_far ⟨w.heap.size + 1, 0, none⟩ (Nat.lt_of_lt_of_le hwq3 hz2) (by simp)).trans hcq2
      have hfq3 := (World.frozen?_of_block (a := ⟨w.heap.size + 1, 0, none⟩) (hg.block (w.heap.size + 1) (Nat.lt_of_lt_of_le hwq3 hz2) (by simp))).trans hfq2
      have HB3 := Lib.hid (HB2.out.trans (S1.grown_below hg (by omega) (Nat.le_of_lt (Nat.lt_of_lt_of_le hwr3 hz2))))
      have HA3 := Lib.hid (iat_grown HA2.out hg (by omega))
      have hti3 := S1.ti_grown hti2 hg (by omega)
      have HX3 := Lib.hid (iat_grown HX2.out hg (by omega))
      refine hK.out _ _ hco3 (fun hHeld => ?_)
      clear hK K hg
      refine wpAnyH_take (i := 7) (v := .int .i64 (d0 : Int)) rfl (by kernel_rfl) (by kernel_rfl) (by kernel_rfl) (fun _ _ _ h => h) (Or.inl ⟨by rfl, ?_⟩) (by assumption) ?_
      · (intro w hSw; (try dsimp only at hSw); go_simp)
      simp only [Act.put]
      refine wpAnyH_take (i := 8) (v := .int .i64 (N0 : Int)) rfl (by kernel_rfl) (by kernel_rfl) (by kernel_rfl) (fun _ _ _ h => h) (Or.inl ⟨by rfl, ?_⟩) (by assumption) ?_
      · (intro w hSw; (try dsimp only at hSw); go_simp)
      simp only [Act.put]
      refine wpAnyH_take (i := 9) (v := .slice (some ⟨p1.heap.size, 0, none⟩) N0 7) rfl (by kernel_rfl) (by kernel_rfl) (by kernel_rfl) (fun _ _ _ h => h) (Or.inl ⟨by rfl, ?_⟩) (by assumption) ?_
      · (intro w hSw; (try dsimp only at hSw); go_simp)
      simp only [Act.put]
      refine wpAnyH_ready (rs := [10]) (by kernel_rfl) (by simp) ?_
      refine AllReadyH.cons rfl (fun K hK => ?_) AllReadyH.nil
      go_simp
      go_at_call 61
      refine (S1.among_any (w.heap.size + 2) (w.heap.size + 2) a n cap (0 + 100 + 100 + 2) (p1.heap.size) N0 7 (([0, 1, 50, 99, 100, -1, 101] : List Int).take N0) (p3) (by rw [List.length_take]; simp; omega) (by omega) (by rw [List.length_take]; simp; omega) (by rw [List.length_take]; simp; omega) hs3 (S1.ti_take hti3 (by simp; omega)) (by omega)).mono ?_
      rintro e p4 ⟨⟨z0, rfl⟩, hs4, hg⟩
      have hz4 := Nat.le_trans hz3 hg.size
      have hco4 := (hg.cell_far ⟨w2.heap.size, 0, none⟩ (Nat.lt_of_lt_of_le hz3' hz3) (by simp; omega)).trans hco3
      have hcr4 := (hg.cell_far ⟨w.heap.size, 0, none⟩ (Nat.lt_of_lt_of_le hwr3 hz3) (by simp)).trans hcr3
      have hfr4 := (World.frozen?_of_block (a := ⟨w.heap.size, 0, none⟩) (hg.block (w.heap.size) (Nat.lt_of_lt_of_le hwr3 hz3) (by simp))).trans hfr3
      have hcq4 := (hg.cell_far ⟨w.heap.size + 1, 0, none⟩ (Nat.lt_of_lt_of_le hwq3 hz3) (by simp)).trans hcq3
      have hfq4 := (World.frozen?_of_block (a := ⟨w.heap.size + 1, 0, none⟩) (hg.block (w.heap.size + 1) (Nat.lt_of_lt_of_le hwq3 hz3) (by simp))).trans hfq3
      have HB4 := Lib.hid (HB3.out.trans (S1.grown_below hg (by omega) (Nat.le_of_lt (Nat.lt_of_lt_of_le hwr3 hz3))))
      have HA4 := Lib.hid (iat_grown HA3.out hg (by omega))
      have HX4 := Lib.hid (iat_grown HX3.out hg (by omega))
      refine hK.out _ _ hco4 (fun hHeld => ?_)
      clear hK K hg
      refine wpAnyH_ready (rs := [11]) (by kernel_rfl) (by simp) ?_
      refine AllReadyH.cons rfl (fun K hK => ?_) AllReadyH.nil
      go_simp
      refine hK.out _ _ ((World.cell?_setCell_far _ ⟨w.heap.size, 0, none⟩ _ _ (by show w.heap.size ≠ w2.heap.size; omega)).trans hco4) (fun hHeld => ?_)
      clear hK K
      refine wpAnyH_ready (rs := [12]) (by kernel_rfl) (by simp) ?_
      refine AllReadyH.cons rfl (fun K hK => ?_) AllReadyH.nil
      go_simp
      refine hK.out _ _ ((World.cell?_setCell_far _ ⟨w.heap.size + 1, 0, none⟩ _ _ (by show w.heap.size + 1 ≠ w2.heap.size; omega)).trans ((World.cell?_setCell_far _ ⟨w.heap.size, 0, none⟩ _ _ (by show w.heap.size ≠ w2.heap.size; omega)).trans hco4)) (fun hHeld => ?_)
      clear hK K
      refine wpAnyH_ready (rs := [13]) (by kernel_rfl) (by simp) ?_
      refine AllReadyH.cons rfl (fun K hK => ?_) AllReadyH.nil
      go_simp
      refine hK.out _ _ (by first | assumption | go_keep) (fun hHeld => ?_)
      clear hK K
      refine wpAnyH_done (by kernel_rfl) ?_ _
      go_wp2_with fail
      refine bodyPost_ret (v := .tuple #[dv (some ⟨b, off, none⟩) l.length c, dv (some ⟨b', off', none⟩) l'.length c', .int .i64 z0]) (by simp [results, Try.results37, go_sem, hcr4, hcq4]) rfl ⟨⟨b, off, c, l, b', off', c', l', z0, rfl, hl, hl', ?_, ?_⟩, ?_⟩
      · exact far_iat' (far_iat HA4.out (by omega)) (by omega)
      · exact far_iat' (far_iat HX4.out (by omega)) (by omega)
      · exact (HB4.out.setCell (p := ⟨w.heap.size, 0, none⟩) (Nat.le_refl _) _).setCell (p := ⟨w.heap.size + 1, 0, none⟩) (by show w.heap.size ≤ w.heap.size + 1; omega) _
    · go_simp
      go_at_call 62
      refine (S1.pick_any (w.heap.size + 2) (w.heap.size + 2) a n cap (0 + 100 + 100) 24 (p1) (by omega) (by omega) (by omega) hs1).mono ?_
      rintro e p2 ⟨r0, rfl, hr0, hr1, hs2, hg⟩
      obtain ⟨t0, rfl⟩ : ∃ t : Nat, r0 = (t : Int) := ⟨r0.toNat, by omega⟩
      obtain ⟨d0, hd0⟩ : ∃ d : Nat, (t0 : Int) / 11 = (d : Int) := ⟨t0 / 11, by omega⟩
      have hdt : (t0 : Int).tdiv 11 = (d0 : Int) := by rw [Int.tdiv_eq_ediv_of_nonneg (by omega)]; exact hd0
      have hd02 : d0 ≤ 2 := by omega
      obtain ⟨N0, hN0⟩ : ∃ N : Nat, 5 + (d0 : Int) = (N : Int) := ⟨5 + d0, by omega⟩
      have hN00 : 1 ≤ N0 := by omega
      have hN01 : N0 ≤ 7 := by omega
      have hN02 : (N0 : Int) ≤ 7 := by omega
      have hN03 : (0 : Int) ≤ (N0 : Int) := by omega
      have hwd : IntKind.i64.wrap (d0 : Int) = (d0 : Int) := IntWalk.i64_in _ (by omega)
      have hwN : IntKind.i64.wrap (N0 : Int) = (N0 : Int) := IntWalk.i64_in _ (by omega)
      have hz2 := Nat.le_trans hz1 hg.size
      have hco2 := (hg.cell_far ⟨w2.heap.size, 0, none⟩ (Nat.lt_of_lt_of_le hz3' hz1) (by simp; omega)).trans hco1
      have hcr2 := (hg.cell_far ⟨w.heap.size, 0, none⟩ (Nat.lt_of_lt_of_le hwr3 hz1) (by simp)).trans hcr1
      have hfr2 := (World.frozen?_of_block (a := ⟨w.heap.size, 0, none⟩) (hg.block (w.heap.size) (Nat.lt_of_lt_of_le hwr3 hz1) (by simp))).trans hfr1
      have hcq2 := (hg.cell_far ⟨w.heap.size + 1, 0, none⟩ (Nat.lt_of_lt_of_le hwq3 hz1) (by simp)).trans hcq1
      have hfq2 := (World.frozen?_of_block (a := ⟨w.heap.size + 1, 0, none⟩) (hg.block (w.heap.size + 1) (Nat.lt_of_lt_of_le hwq3 hz1) (by simp))).trans hfq1
      have HB2 := Lib.hid (HB1.out.trans (S1.grown_below hg (by omega) (Nat.le_of_lt (Nat.lt_of_lt_of_le hwr3 hz1))))
      have HA2 := Lib.hid (iat_grown HA1.out hg (by omega))
      have HX2 := Lib.hid (iat_grown HX1.out hg (by omega))
      refine hK.out _ _ hco2 (fun hHeld => ?_)
      clear hK K hg
      refine wpAnyH_take (i := 7) (v := .int .i64 (d0 : Int)) rfl (by kernel_rfl) (by kernel_rfl) (by kernel_rfl) (fun _ _ _ h => h) (Or.inl ⟨by rfl, ?_⟩) (by assumption) ?_
      · (intro w hSw; (try dsimp only at hSw); go_simp)
      simp only [Act.put]
      refine wpAnyH_take (i := 8) (v := .int .i64 (N0 : Int)) rfl (by kernel_rfl) (by kernel_rfl) (by kernel_rfl) (fun _ _ _ h => h) (Or.inl ⟨by rfl, ?_⟩) (by assumption) ?_
      · (intro w hSw; (try dsimp only at hSw); go_simp)
      simp only [Act.put]
      refine wpAnyH_ready (rs := [4]) (by kernel_rfl) (by simp) ?_
      refine AllReadyH.cons rfl (fun K hK => ?_) AllReadyH.nil
      go_simp
      refine hK.out _ _ (by first | assumption | go_keep) (fun hHeld => ?_)
      clear hK K
      have hz3 : w3.heap.size ≤ ((p2.alloc (.cells #[.int .i64 0, .int .i64 1, .int .i64 50, .int .i64 99, .int .i64 100, .int .i64 (-1), .int .i64 101] 3))).heap.size := by show w3.heap.size ≤ (p2.alloc _).heap.size; rw [alloc_size]; omega
      have hlb : w3.heap.size ≤ p2.heap.size := by omega
      have hzl3 : p2.heap.size < ((p2.alloc (.cells #[.int .i64 0, .int .i64 1, .int .i64 50, .int .i64 99, .int .i64 100, .int .i64 (-1), .int .i64 101] 3))).heap.size := by show p2.heap.size < (p2.alloc _).heap.size; rw [alloc_size]; omega
      have hco3 : ((p2.alloc (.cells #[.int .i64 0, .int .i64 1, .int .i64 50, .int .i64 99, .int .i64 100, .int .i64 (-1), .int .i64 101] 3))).cell? ⟨w2.heap.size, 0, none⟩ = some (.slice (some ⟨b, off, none⟩) l.length c) := (World.cell?_alloc_past (w := p2) (.cells #[.int .i64 0, .int .i64 1, .int .i64 50, .int .i64 99, .int .i64 100, .int .i64 (-1), .int .i64 101] 3) w2.heap.size 0 (by omega)).trans hco2
      have hcr3 : ((p2.alloc (.cells #[.int .i64 0, .int .i64 1, .int .i64 50, .int .i64 99, .int .i64 100, .int .i64 (-1), .int .i64 101] 3))).cell? ⟨w.heap.size, 0, none⟩ = some (.slice none 0 0) := (World.cell?_alloc_past (w := p2) (.cells #[.int .i64 0, .int .i64 1, .int .i64 50, .int .i64 99, .int .i64 100, .int .i64 (-1), .int .i64 101] 3) (w.heap.size) 0 (by omega)).trans hcr2
      have hfr3 : ((p2.alloc (.cells #[.int .i64 0, .int .i64 1, .int .i64 50, .int .i64 99, .int .i64 100, .int .i64 (-1), .int .i64 101] 3))).frozen? ⟨w.heap.size, 0, none⟩ = false := (World.frozen?_alloc_past (w := p2) (.cells #[.int .i64 0, .int .i64 1, .int .i64 50, .int .i64 99, .int .i64 100, .int .i64 (-1), .int .i64 101] 3) (w.heap.size) 0 (by omega)).trans hfr2
      have hcq3 : ((p2.alloc (.cells #[.int .i64 0, .int .i64 1, .int .i64 50, .int .i64 99, .int .i64 100, .int .i64 (-1), .int .i64 101] 3))).cell? ⟨w.heap.size + 1, 0, none⟩ = some (.slice none 0 0) := (World.cell?_alloc_past (w := p2) (.cells #[.int .i64 0, .int .i64 1, .int .i64 50, .int .i64 99, .int .i64 100, .int .i64 (-1), .int .i64 101] 3) (w.heap.size + 1) 0 (by omega)).trans hcq2
      have hfq3 : ((p2.alloc (.cells #[.int .i64 0, .int .i64 1, .int .i64 50, .int .i64 99, .int .i64 100, .int .i64 (-1), .int .i64 101] 3))).frozen? ⟨w.heap.size + 1, 0, none⟩ = false := (World.frozen?_alloc_past (w := p2) (.cells #[.int .i64 0, .int .i64 1, .int .i64 50, .int .i64 99, .int .i64 100, .int .i64 (-1), .int .i64 101] 3) (w.heap.size + 1) 0 (by omega)).trans hfq2
      have hs3 : S1.St (w.heap.size + 2) (w.heap.size + 2) a n cap (0 + 100 + 100 + 2) ((p2.alloc (.cells #[.int .i64 0, .int .i64 1, .int .i64 50, .int .i64 99, .int .i64 100, .int .i64 (-1), .int .i64 101] 3))) := S1.st_new hs2 _
      have HB3 := Lib.hid (show Below w.heap.size w ((p2.alloc (.cells #[.int .i64 0, .int .i64 1, .int .i64 50, .int .i64 99, .int .i64 100, .int .i64 (-1), .int .i64 101] 3))) from HB2.out.trans (((alloc_below p2 (.cells #[.int .i64 0, .int .i64 1, .int .i64 50, .int .i64 99, .int .i64 100, .int .i64 (-1), .int .i64 101] 3))).mono (by omega)))
      have HA3 := Lib.hid (show IAt ((p2.alloc (.cells #[.int .i64 0, .int .i64 1, .int .i64 50, .int .i64 99, .int .i64 100, .int .i64 (-1), .int .i64 101] 3))) (some ⟨b, off, none⟩) l from HA2.out.kept (alloc_below p2 (.cells #[.int .i64 0, .int .i64 1, .int .i64 50, .int .i64 99, .int .i64 100, .int .i64 (-1), .int .i64 101] 3)) (Nat.le_refl _))
      have ht0 : S1.Ti p2.heap.size [0, 1, 50, 99, 100, -1, 101] (p2.alloc (.cells #[.int .i64 0, .int .i64 1, .int .i64 50, .int .i64 99, .int .i64 100, .int .i64 (-1), .int .i64 101] 3)) := S1.ti_new p2 [0, 1, 50, 99, 100, -1, 101] 3
      have hti3 : S1.Ti p2.heap.size [0, 1, 50, 99, 100, -1, 101] ((p2.alloc (.cells #[.int .i64 0, .int .i64 1, .int .i64 50, .int .i64 99, .int .i64 100, .int .i64 (-1), .int .i64 101] 3))) := fun j hj => ht0 j hj
      clear ht0
      have HX3 := Lib.hid (show IAt ((p2.alloc (.cells #[.int .i64 0, .int .i64 1, .int .i64 50, .int .i64 99, .int .i64 100, .int .i64 (-1), .int .i64 101] 3))) (some ⟨b', off', none⟩) l' from HX2.out.kept (alloc_below p2 (.cells #[.int .i64 0, .int .i64 1, .int .i64 50, .int .i64 99, .int .i64 100, .int .i64 (-1), .int .i64 101] 3)) (Nat.le_refl _))
      obtain ⟨pE, hpE⟩ : ∃ pE, pE = (p2.alloc (.cells #[.int .i64 0, .int .i64 1, .int .i64 50, .int .i64 99, .int .i64 100, .int .i64 (-1), .int .i64 101] 3)) := ⟨_, rfl⟩
      rw [← hpE] at hz3 hzl3 hco3 hcr3 hfr3 hcq3 hfq3 hs3 HB3 HA3 hti3 HX3
      have HPE := Lib.hid hpE
      clear hpE
      refine wpAnyH_take (i := 9) (v := .slice (some ⟨p2.heap.size, 0, none⟩) N0 7) rfl (by kernel_rfl) (by kernel_rfl) (by kernel_rfl) (fun _ _ _ h => h) (Or.inl ⟨by rfl, ?_⟩) (by assumption) ?_
      · (intro w hSw; (try dsimp only at hSw); go_simp)
      simp only [Act.put]
      refine wpAnyH_ready (rs := [10]) (by kernel_rfl) (by simp) ?_
      refine AllReadyH.cons rfl (fun K hK => ?_) AllReadyH.nil
      go_simp
      go_at_call 61
      rw [← HPE.out]
      refine (S1.among_any (w.heap.size + 2) (w.heap.size + 2) a n cap (0 + 100 + 100 + 2) (p2.heap.size) N0 7 (([0, 1, 50, 99, 100, -1, 101] : List Int).take N0) (pE) (by rw [List.length_take]; simp; omega) (by omega) (by rw [List.length_take]; simp; omega) (by rw [List.length_take]; simp; omega) hs3 (S1.ti_take hti3 (by simp; omega)) (by omega)).mono ?_
      rintro e p4 ⟨⟨z0, rfl⟩, hs4, hg⟩
      have hz4 := Nat.le_trans hz3 hg.size
      have hco4 := (hg.cell_far ⟨w2.heap.size, 0, none⟩ (Nat.lt_of_lt_of_le hz3' hz3) (by simp; omega)).trans hco3
      have hcr4 := (hg.cell_far ⟨w.heap.size, 0, none⟩ (Nat.lt_of_lt_of_le hwr3 hz3) (by simp)).trans hcr3
      have hfr4 := (World.frozen?_of_block (a := ⟨w.heap.size, 0, none⟩) (hg.block (w.heap.size) (Nat.lt_of_lt_of_le hwr3 hz3) (by simp))).trans hfr3
      have hcq4 := (hg.cell_far ⟨w.heap.size + 1, 0, none⟩ (Nat.lt_of_lt_of_le hwq3 hz3) (by simp)).trans hcq3
      have hfq4 := (World.frozen?_of_block (a := ⟨w.heap.size + 1, 0, none⟩) (hg.block (w.heap.size + 1) (Nat.lt_of_lt_of_le hwq3 hz3) (by simp))).trans hfq3
      have HB4 := Lib.hid (HB3.out.trans (S1.grown_below hg (by omega) (Nat.le_of_lt (Nat.lt_of_lt_of_le hwr3 hz3))))
      have HA4 := Lib.hid (iat_grown HA3.out hg (by omega))
      have HX4 := Lib.hid (iat_grown HX3.out hg (by omega))
      refine hK.out _ _ hco4 (fun hHeld => ?_)
      clear hK K hg
      refine wpAnyH_ready (rs := [11]) (by kernel_rfl) (by simp) ?_
      refine AllReadyH.cons rfl (fun K hK => ?_) AllReadyH.nil
      go_simp
      refine hK.out _ _ ((World.cell?_setCell_far _ ⟨w.heap.size, 0, none⟩ _ _ (by show w.heap.size ≠ w2.heap.size; omega)).trans hco4) (fun hHeld => ?_)
      clear hK K
      refine wpAnyH_ready (rs := [12]) (by kernel_rfl) (by simp) ?_
      refine AllReadyH.cons rfl (fun K hK => ?_) AllReadyH.nil
      go_simp
      refine hK.out _ _ ((World.cell?_setCell_far _ ⟨w.heap.size + 1, 0, none⟩ _ _ (by show w.heap.size + 1 ≠ w2.heap.size; omega)).trans ((World.cell?_setCell_far _ ⟨w.heap.size, 0, none⟩ _ _ (by show w.heap.size ≠ w2.heap.size; omega)).trans hco4)) (fun hHeld => ?_)
      clear hK K
      refine wpAnyH_ready (rs := [13]) (by kernel_rfl) (by simp) ?_
      refine AllReadyH.cons rfl (fun K hK => ?_) AllReadyH.nil
      go_simp
      refine hK.out _ _ (by first | assumption | go_keep) (fun hHeld => ?_)
      clear hK K
      refine wpAnyH_done (by kernel_rfl) ?_ _
      go_wp2_with fail
      refine bodyPost_ret (v := .tuple #[dv (some ⟨b, off, none⟩) l.length c, dv (some ⟨b', off', none⟩) l'.length c', .int .i64 z0]) (by simp [results, Try.results37, go_sem, hcr4, hcq4]) rfl ⟨⟨b, off, c, l, b', off', c', l', z0, rfl, hl, hl', ?_, ?_⟩, ?_⟩
      · exact far_iat' (far_iat HA4.out (by omega)) (by omega)
      · exact far_iat' (far_iat HX4.out (by omega)) (by omega)
      · exact (HB4.out.setCell (p := ⟨w.heap.size, 0, none⟩) (Nat.le_refl _) _).setCell (p := ⟨w.heap.size + 1, 0, none⟩) (by show w.heap.size ≤ w.heap.size + 1; omega) _
  · go_simp
    refine hK.out _ _ (by first | assumption | go_keep) (fun hHeld => ?_)
    clear hK K
    have hz1 : w3.heap.size ≤ ((w3.alloc (.cells #[.int .i64 0, .int .i64 1, .int .i64 50, .int .i64 99, .int .i64 100, .int .i64 (-1), .int .i64 101] 3)).drew).heap.size := by show w3.heap.size ≤ (w3.alloc _).heap.size; rw [alloc_size]; omega
    have hlb : w3.heap.size ≤ w3.heap.size := by omega
    have hzl1 : w3.heap.size < ((w3.alloc (.cells #[.int .i64 0, .int .i64 1, .int .i64 50, .int .i64 99, .int .i64 100, .int .i64 (-1), .int .i64 101] 3)).drew).heap.size := by show w3.heap.size < (w3.alloc _).heap.size; rw [alloc_size]; omega
    have hco1 : ((w3.alloc (.cells #[.int .i64 0, .int .i64 1, .int .i64 50, .int .i64 99, .int .i64 100, .int .i64 (-1), .int .i64 101] 3)).drew).cell? ⟨w2.heap.size, 0, none⟩ = some (.slice (some ⟨b, off, none⟩) l.length c) := (World.cell?_alloc_past (w := w3) (.cells #[.int .i64 0, .int .i64 1, .int .i64 50, .int .i64 99, .int .i64 100, .int .i64 (-1), .int .i64 101] 3) w2.heap.size 0 (by omega)).trans hco0
    have hcr1 : ((w3.alloc (.cells #[.int .i64 0, .int .i64 1, .int .i64 50, .int .i64 99, .int .i64 100, .int .i64 (-1), .int .i64 101] 3)).drew).cell? ⟨w.heap.size, 0, none⟩ = some (.slice none 0 0) := (World.cell?_alloc_past (w := w3) (.cells #[.int .i64 0, .int .i64 1, .int .i64 50, .int .i64 99, .int .i64 100, .int .i64 (-1), .int .i64 101] 3) (w.heap.size) 0 (by omega)).trans hcr0
    have hfr1 : ((w3.alloc (.cells #[.int .i64 0, .int .i64 1, .int .i64 50, .int .i64 99, .int .i64 100, .int .i64 (-1), .int .i64 101] 3)).drew).frozen? ⟨w.heap.size, 0, none⟩ = false := (World.frozen?_alloc_past (w := w3) (.cells #[.int .i64 0, .int .i64 1, .int .i64 50, .int .i64 99, .int .i64 100, .int .i64 (-1), .int .i64 101] 3) (w.heap.size) 0 (by omega)).trans hfr0
    have hcq1 : ((w3.alloc (.cells #[.int .i64 0, .int .i64 1, .int .i64 50, .int .i64 99, .int .i64 100, .int .i64 (-1), .int .i64 101] 3)).drew).cell? ⟨w.heap.size + 1, 0, none⟩ = some (.slice none 0 0) := (World.cell?_alloc_past (w := w3) (.cells #[.int .i64 0, .int .i64 1, .int .i64 50, .int .i64 99, .int .i64 100, .int .i64 (-1), .int .i64 101] 3) (w.heap.size + 1) 0 (by omega)).trans hcq0
    have hfq1 : ((w3.alloc (.cells #[.int .i64 0, .int .i64 1, .int .i64 50, .int .i64 99, .int .i64 100, .int .i64 (-1), .int .i64 101] 3)).drew).frozen? ⟨w.heap.size + 1, 0, none⟩ = false := (World.frozen?_alloc_past (w := w3) (.cells #[.int .i64 0, .int .i64 1, .int .i64 50, .int .i64 99, .int .i64 100, .int .i64 (-1), .int .i64 101] 3) (w.heap.size + 1) 0 (by omega)).trans hfq0
    have hs1 : S1.St (w.heap.size + 2) (w.heap.size + 2) a n cap (0 + 100) ((w3.alloc (.cells #[.int .i64 0, .int .i64 1, .int .i64 50, .int .i64 99, .int .i64 100, .int .i64 (-1), .int .i64 101] 3)).drew) := (S1.st_new HS3.out _).other (Below.refl _ _).drew
    have HB1 := Lib.hid (show Below w.heap.size w ((w3.alloc (.cells #[.int .i64 0, .int .i64 1, .int .i64 50, .int .i64 99, .int .i64 100, .int .i64 (-1), .int .i64 101] 3)).drew) from HB3.out.trans (((alloc_below w3 (.cells #[.int .i64 0, .int .i64 1, .int .i64 50, .int .i64 99, .int .i64 100, .int .i64 (-1), .int .i64 101] 3)).drew).mono (by omega)))
    have HA1 := Lib.hid (show IAt ((w3.alloc (.cells #[.int .i64 0, .int .i64 1, .int .i64 50, .int .i64 99, .int .i64 100, .int .i64 (-1), .int .i64 101] 3)).drew) (some ⟨b, off, none⟩) l from HA3.out.kept (alloc_below w3 (.cells #[.int .i64 0, .int .i64 1, .int .i64 50, .int .i64 99, .int .i64 100, .int .i64 (-1), .int .i64 101] 3)).drew (Nat.le_refl _))
    have ht0 : S1.Ti w3.heap.size [0, 1, 50, 99, 100, -1, 101] (w3.alloc (.cells #[.int .i64 0, .int .i64 1, .int .i64 50, .int .i64 99, .int .i64 100, .int .i64 (-1), .int .i64 101] 3)) := S1.ti_new w3 [0, 1, 50, 99, 100, -1, 101] 3
    have hti1 : S1.Ti w3.heap.size [0, 1, 50, 99, 100, -1, 101] ((w3.alloc (.cells #[.int .i64 0, .int .i64 1, .int .i64 50, .int .i64 99, .int .i64 100, .int .i64 (-1), .int .i64 101] 3)).drew) := fun j hj => ht0 j hj
    clear ht0
    refine wpAnyH_ready (rs := [2]) (by kernel_rfl) (by simp) ?_
    refine AllReadyH.cons rfl (fun K hK => ?_) AllReadyH.nil
    go_simp
    go_at_call 54
    refine (profile_any (w.heap.size + 2) (w.heap.size + 2) a n cap (0 + 100) ((w3.alloc (.cells #[.int .i64 0, .int .i64 1, .int .i64 50, .int .i64 99, .int .i64 100, .int .i64 (-1), .int .i64 101] 3)).drew) (by omega) hs1 (Nat.lt_of_lt_of_le (by omega) hz1)).mono ?_
    rintro e p2 ⟨⟨b', off', c', l', rfl, hb', hbl', hl', ha'⟩, hs2, hg⟩
    have hbz' := Nat.le_trans hz1 hb'
    have HX2 := Lib.hid ha'
    clear ha' hb' hbl'
    have hz2 := Nat.le_trans hz1 hg.size
    have hco2 := (hg.cell_far ⟨w2.heap.size, 0, none⟩ (Nat.lt_of_lt_of_le hz3' hz1) (by simp; omega)).trans hco1
    have hcr2 := (hg.cell_far ⟨w.heap.size, 0, none⟩ (Nat.lt_of_lt_of_le hwr3 hz1) (by simp)).trans hcr1
    have hfr2 := (World.frozen?_of_block (a := ⟨w.heap.size, 0, none⟩) (hg.block (w.heap.size) (Nat.lt_of_lt_of_le hwr3 hz1) (by simp))).trans hfr1
    have hcq2 := (hg.cell_far ⟨w.heap.size + 1, 0, none⟩ (Nat.lt_of_lt_of_le hwq3 hz1) (by simp)).trans hcq1
    have hfq2 := (World.frozen?_of_block (a := ⟨w.heap.size + 1, 0, none⟩) (hg.block (w.heap.size + 1) (Nat.lt_of_lt_of_le hwq3 hz1) (by simp))).trans hfq1
    have HB2 := Lib.hid (HB1.out.trans (S1.grown_below hg (by omega) (Nat.le_of_lt (Nat.lt_of_lt_of_le hwr3 hz1))))
    have HA2 := Lib.hid (iat_grown HA1.out hg (by omega))
    have hti2 := S1.ti_grown hti1 hg (by omega)
    refine hK.out _ _ hco2 (fun hHeld => ?_)
    clear hK K hg
    refine wpAnyH_ready (rs := [6]) (by kernel_rfl) (by simp) ?_
    refine AllReadyH.cons rfl (fun K hK => ?_) AllReadyH.nil
    go_simp
    go_at_call 62
    refine (S1.pick_any (w.heap.size + 2) (w.heap.size + 2) a n cap (0 + 100 + 100) 24 (p2) (by omega) (by omega) (by omega) hs2).mono ?_
    rintro e p3 ⟨r0, rfl, hr0, hr1, hs3, hg⟩
    obtain ⟨t0, rfl⟩ : ∃ t : Nat, r0 = (t : Int) := ⟨r0.toNat, by omega⟩
    obtain ⟨d0, hd0⟩ : ∃ d : Nat, (t0 : Int) / 11 = (d : Int) := ⟨t0 / 11, by omega⟩
    have hdt : (t0 : Int).tdiv 11 = (d0 : Int) := by rw [Int.tdiv_eq_ediv_of_nonneg (by omega)]; exact hd0
    have hd02 : d0 ≤ 2 := by omega
    obtain ⟨N0, hN0⟩ : ∃ N : Nat, 5 + (d0 : Int) = (N : Int) := ⟨5 + d0, by omega⟩
    have hN00 : 1 ≤ N0 := by omega
    have hN01 : N0 ≤ 7 := by omega
    have hN02 : (N0 : Int) ≤ 7 := by omega
    have hN03 : (0 : Int) ≤ (N0 : Int) := by omega
    have hwd : IntKind.i64.wrap (d0 : Int) = (d0 : Int) := IntWalk.i64_in _ (by omega)
    have hwN : IntKind.i64.wrap (N0 : Int) = (N0 : Int) := IntWalk.i64_in _ (by omega)
    have hz3 := Nat.le_trans hz2 hg.size
    have hco3 := (hg.cell_far ⟨w2.heap.size, 0, none⟩ (Nat.lt_of_lt_of_le hz3' hz2) (by simp; omega)).trans hco2
    have hcr3 := (hg.cell_far ⟨w.heap.size, 0, none⟩ (Nat.lt_of_lt_of_le hwr3 hz2) (by simp)).trans hcr2
    have hfr3 := (World.frozen?_of_block (a := ⟨w.heap.size, 0, none⟩) (hg.block (w.heap.size) (Nat.lt_of_lt_of_le hwr3 hz2) (by simp))).trans hfr2
    have hcq3 := (hg.cell_far ⟨w.heap.size + 1, 0, none⟩ (Nat.lt_of_lt_of_le hwq3 hz2) (by simp)).trans hcq2
    have hfq3 := (World.frozen?_of_block (a := ⟨w.heap.size + 1, 0, none⟩) (hg.block (w.heap.size + 1) (Nat.lt_of_lt_of_le hwq3 hz2) (by simp))).trans hfq2
    have HB3 := Lib.hid (HB2.out.trans (S1.grown_below hg (by omega) (Nat.le_of_lt (Nat.lt_of_lt_of_le hwr3 hz2))))
    have HA3 := Lib.hid (iat_grown HA2.out hg (by omega))
    have hti3 := S1.ti_grown hti2 hg (by omega)
    have HX3 := Lib.hid (iat_grown HX2.out hg (by omega))
    refine hK.out _ _ hco3 (fun hHeld => ?_)
    clear hK K hg
    refine wpAnyH_take (i := 7) (v := .int .i64 (d0 : Int)) rfl (by kernel_rfl) (by kernel_rfl) (by kernel_rfl) (fun _ _ _ h => h) (Or.inl ⟨by rfl, ?_⟩) (by assumption) ?_
    · (intro w hSw; (try dsimp only at hSw); go_simp)
    simp only [Act.put]
    refine wpAnyH_take (i := 8) (v := .int .i64 (N0 : Int)) rfl (by kernel_rfl) (by kernel_rfl) (by kernel_rfl) (fun _ _ _ h => h) (Or.inl ⟨by rfl, ?_⟩) (by assumption) ?_
    · (intro w hSw; (try dsimp only at hSw); go_simp)
    simp only [Act.put]
    refine wpAnyH_take (i := 9) (v := .slice (some ⟨w3.heap.size, 0, none⟩) N0 7) rfl (by kernel_rfl) (by kernel_rfl) (by kernel_rfl) (fun _ _ _ h => h) (Or.inl ⟨by rfl, ?_⟩) (by assumption) ?_
    · (intro w hSw; (try dsimp only at hSw); go_simp)
    simp only [Act.put]
    refine wpAnyH_ready (rs := [10]) (by kernel_rfl) (by simp) ?_
    refine AllReadyH.cons rfl (fun K hK => ?_) AllReadyH.nil
    go_simp
    go_at_call 61
    refine (S1.among_any (w.heap.size + 2) (w.heap.size + 2) a n cap (0 + 100 + 100 + 2) (w3.heap.size) N0 7 (([0, 1, 50, 99, 100, -1, 101] : List Int).take N0) (p3) (by rw [List.length_take]; simp; omega) (by omega) (by rw [List.length_take]; simp; omega) (by rw [List.length_take]; simp; omega) hs3 (S1.ti_take hti3 (by simp; omega)) (by omega)).mono ?_
    rintro e p4 ⟨⟨z0, rfl⟩, hs4, hg⟩
    have hz4 := Nat.le_trans hz3 hg.size
    have hco4 := (hg.cell_far ⟨w2.heap.size, 0, none⟩ (Nat.lt_of_lt_of_le hz3' hz3) (by simp; omega)).trans hco3
    have hcr4 := (hg.cell_far ⟨w.heap.size, 0, none⟩ (Nat.lt_of_lt_of_le hwr3 hz3) (by simp)).trans hcr3
    have hfr4 := (World.frozen?_of_block (a := ⟨w.heap.size, 0, none⟩) (hg.block (w.heap.size) (Nat.lt_of_lt_of_le hwr3 hz3) (by simp))).trans hfr3
    have hcq4 := (hg.cell_far ⟨w.heap.size + 1, 0, none⟩ (Nat.lt_of_lt_of_le hwq3 hz3) (by simp)).trans hcq3
    have hfq4 := (World.frozen?_of_block (a := ⟨w.heap.size + 1, 0, none⟩) (hg.block (w.heap.size + 1) (Nat.lt_of_lt_of_le hwq3 hz3) (by simp))).trans hfq3
    have HB4 := Lib.hid (HB3.out.trans (S1.grown_below hg (by omega) (Nat.le_of_lt (Nat.lt_of_lt_of_le hwr3 hz3))))
    have HA4 := Lib.hid (iat_grown HA3.out hg (by omega))
    have HX4 := Lib.hid (iat_grown HX3.out hg (by omega))
    refine hK.out _ _ hco4 (fun hHeld => ?_)
    clear hK K hg
    refine wpAnyH_ready (rs := [11]) (by kernel_rfl) (by simp) ?_
    refine AllReadyH.cons rfl (fun K hK => ?_) AllReadyH.nil
    go_simp
    refine hK.out _ _ ((World.cell?_setCell_far _ ⟨w.heap.size, 0, none⟩ _ _ (by show w.heap.size ≠ w2.heap.size; omega)).trans hco4) (fun hHeld => ?_)
    clear hK K
    refine wpAnyH_ready (rs := [12]) (by kernel_rfl) (by simp) ?_
    refine AllReadyH.cons rfl (fun K hK => ?_) AllReadyH.nil
    go_simp
    refine hK.out _ _ ((World.cell?_setCell_far _ ⟨w.heap.size + 1, 0, none⟩ _ _ (by show w.heap.size + 1 ≠ w2.heap.size; omega)).trans ((World.cell?_setCell_far _ ⟨w.heap.size, 0, none⟩ _ _ (by show w.heap.size ≠ w2.heap.size; omega)).trans hco4)) (fun hHeld => ?_)
    clear hK K
    refine wpAnyH_ready (rs := [13]) (by kernel_rfl) (by simp) ?_
    refine AllReadyH.cons rfl (fun K hK => ?_) AllReadyH.nil
    go_simp
    refine hK.out _ _ (by first | assumption | go_keep) (fun hHeld => ?_)
    clear hK K
    refine wpAnyH_done (by kernel_rfl) ?_ _
    go_wp2_with fail
    refine bodyPost_ret (v := .tuple #[dv (some ⟨b, off, none⟩) l.length c, dv (some ⟨b', off', none⟩) l'.length c', .int .i64 z0]) (by simp [results, Try.results37, go_sem, hcr4, hcq4]) rfl ⟨⟨b, off, c, l, b', off', c', l', z0, rfl, hl, hl', ?_, ?_⟩, ?_⟩
    · exact far_iat' (far_iat HA4.out (by omega)) (by omega)
    · exact far_iat' (far_iat HX4.out (by omega)) (by omega)
    · exact (HB4.out.setCell (p := ⟨w.heap.size, 0, none⟩) (Nat.le_refl _) _).setCell (p := ⟨w.heap.size + 1, 0, none⟩) (by show w.heap.size ≤ w.heap.size + 1; omega) _
end Go.Proofs.Ytkgkeohnnpkahaa.S6
