/- How the law FnUses draws its arguments: contracts. Conditions: each theorem's own premises. -/
import Derived.Test.YtkgkeohnnpkahaaPfDr
namespace Go.Proofs.Ytkgkeohnnpkahaa.S6
open Go.RowKit P6

set_option maxHeartbeats 4000000 in
set_option maxRecDepth 100000 in
theorem base6_any (B g : Nat) (a : Option Addr) (n cap KC : Nat) (w : World) (hK : KC ≤ 800000) (h : S1.St B g a n cap KC w) :
    Calls Try.prog 72 #[.pointer (some ⟨g, 0, none⟩)] w fun e w' => (∃ z : Int, e = .returned (.int .i64 z)) ∧ S1.St B g a n cap (KC + 4) w' ∧ w.grownBy w' (some g) := by
  have HS := Lib.hid h
  have hgl : g < w.heap.size := by obtain ⟨k, sd, hk, hg⟩ := h.cur; exact (Array.getElem?_eq_some_iff.1 hg).1
  clear h
  go_enter Try.func72, Try.ntmps72
  have hti := S1.ti_new w [0, 1, 50, 333, 100000, -1, 100001] 3
  go_wp2_with fail
  refine (S1.pick_any B g a n cap KC 24 _ (by omega) (by omega) (by omega) (S1.st_new HS.out _)).mono ?_
  rintro e p0 ⟨r0, rfl, hr0, hr1, hsp, hgp⟩
  obtain ⟨t0, rfl⟩ : ∃ t : Nat, r0 = (t : Int) := ⟨r0.toNat, by omega⟩
  obtain ⟨d0, hd0⟩ : ∃ d : Nat, (t0 : Int) / 11 = (d : Int) := ⟨t0 / 11, by omega⟩
  have hd02 : d0 ≤ 2 := by omega
  obtain ⟨N0, hN0⟩ : ∃ N : Nat, 5 + (d0 : Int) = (N : Int) := ⟨5 + d0, by omega⟩
  have hN00 : 1 ≤ N0 := by omega
  have hN01 : N0 ≤ 7 := by omega
  have htj := S1.ti_take (S1.ti_grown hti hgp (by omega)) (show N0 ≤ ([0, 1, 50, 333, 100000, -1, 100001] : List Int).length by simp; omega)
  have HG := Lib.hid (S1.grown_trans (World.grownBy_alloc w (.cells (([0, 1, 50, 333, 100000, -1, 100001] : List Int).map (Value.int .i64)).toArray 3) (some g)) hgp)
  go_wp2_with fail
  refine (S1.among_any B g a n cap (KC + 2) w.heap.size N0 7 (([0, 1, 50, 333, 100000, -1, 100001] : List Int).take N0) _ (by rw [List.length_take]; simp; omega) (by omega) (by rw [List.length_take]; simp; omega) (by rw [List.length_take]; simp; omega) hsp htj (by omega)).mono ?_
  rintro e q0 ⟨⟨z0, rfl⟩, hsq, hgq⟩
  have HS1 := Lib.hid hsq
  have HG1 := Lib.hid (S1.grown_trans HG.out hgq)
  clear hti htj hsp hgp hsq hgq HG HS hN0
  go_wp2_with fail
  go_ret
  exact ⟨⟨z0, rfl⟩, HS1.out, HG1.out⟩
theorem far_iat' {w : World} {b off r : Nat} {l : List Int} {v : Value} (h : IAt w (some ⟨b, off, none⟩) l) (hne : r ≠ b) : IAt (w.setCell ⟨r, 0, none⟩ v) (some ⟨b, off, none⟩) l := far_iat h hne
theorem st_three {w : World} {a : Option Addr} {n : Nat} (cap : Nat) (hc : S1.Cd w.heap.size a n w) (hn : n ≤ 65536) : S1.St (w.heap.size + 2) (w.heap.size + 2) a n cap 0 (((w.alloc (.cells #[.slice none 0 0] 26)).alloc (.cells #[.slice none 0 0] 26)).alloc (.cells #[.slice a n cap, .int .i64 0, .int .u64 0] 64)) := by
  have h := S1.st_start cap (hc.later (two_below w (.cells #[.slice none 0 0] 26) (.cells #[.slice none 0 0] 26)) (Nat.le_refl _)) hn
  simpa using h
theorem prof_box2 {w w2 : World} {a : Option Addr} {n cap K b off c : Nat} {l : List Int} (hs : S1.St (w.heap.size + 2) (w.heap.size + 2) a n cap K w2) (hg : (((w.alloc (.cells #[.slice none 0 0] 26)).alloc (.cells #[.slice none 0 0] 26)).alloc (.cells #[.slice a n cap, .int .i64 0, .int .u64 0] 64)).grownBy w2 (some (w.heap.size + 2)))
    (hb : (((w.alloc (.cells #[.slice none 0 0] 26)).alloc (.cells #[.slice none 0 0] 26)).alloc (.cells #[.slice a n cap, .int .i64 0, .int .u64 0] 64)).heap.size ≤ b) (_hbl : b < w2.heap.size) (ha : IAt w2 (some ⟨b, off, none⟩) l) :
    S1.St (w.heap.size + 2) (w.heap.size + 2) a n cap K (w2.alloc (.cells #[.slice (some ⟨b, off, none⟩) l.length c] 26)) ∧ Below w.heap.size w (w2.alloc (.cells #[.slice (some ⟨b, off, none⟩) l.length c] 26)) ∧ (w2.alloc (.cells #[.slice (some ⟨b, off, none⟩) l.length c] 26)).cell? ⟨w2.heap.size, 0, none⟩ = some (.slice (some ⟨b, off, none⟩) l.length c) ∧
    (w2.alloc (.cells #[.slice (some ⟨b, off, none⟩) l.length c] 26)).cell? ⟨w.heap.size, 0, none⟩ = some (.slice none 0 0) ∧ (w2.alloc (.cells #[.slice (some ⟨b, off, none⟩) l.length c] 26)).frozen? ⟨w.heap.size, 0, none⟩ = false ∧ (w2.alloc (.cells #[.slice (some ⟨b, off, none⟩) l.length c] 26)).cell? ⟨w.heap.size + 1, 0, none⟩ = some (.slice none 0 0) ∧ (w2.alloc (.cells #[.slice (some ⟨b, off, none⟩) l.length c] 26)).frozen? ⟨w.heap.size + 1, 0, none⟩ = false ∧
    IAt (w2.alloc (.cells #[.slice (some ⟨b, off, none⟩) l.length c] 26)) (some ⟨b, off, none⟩) l ∧ w.heap.size + 3 ≤ w2.heap.size ∧ w.heap.size + 3 ≤ b ∧ (w2.alloc (.cells #[.slice (some ⟨b, off, none⟩) l.length c] 26)).heap.size = w2.heap.size + 1 := by
  have hz := hg.size
  simp at hz hb
  obtain ⟨hq, e1, e2, e3, _⟩ := two_cells (w := w) (x := .slice none 0 0) (y := .slice none 0 0) (t := 26) (u := 26) (w1 := (((w.alloc (.cells #[.slice none 0 0] 26)).alloc (.cells #[.slice none 0 0] 26)).alloc (.cells #[.slice a n cap, .int .i64 0, .int .u64 0] 64))) (alloc_below _ _)
  have e4 : (((w.alloc (.cells #[.slice none 0 0] 26)).alloc (.cells #[.slice none 0 0] 26)).alloc (.cells #[.slice a n cap, .int .i64 0, .int .u64 0] 64)).frozen? ⟨w.heap.size, 0, none⟩ = false := by
    rw [World.frozen?_alloc_past (w := (w.alloc _).alloc _) _ _ _ (by simp; omega), World.frozen?_alloc_past (w := w.alloc _) _ _ _ (by simp)]; simp
  have hf : ∀ x, x < w.heap.size + 2 → (w2.alloc (.cells #[.slice (some ⟨b, off, none⟩) l.length c] 26)).cell? ⟨x, 0, none⟩ = (((w.alloc (.cells #[.slice none 0 0] 26)).alloc (.cells #[.slice none 0 0] 26)).alloc (.cells #[.slice a n cap, .int .i64 0, .int .u64 0] 64)).cell? ⟨x, 0, none⟩ ∧ (w2.alloc (.cells #[.slice (some ⟨b, off, none⟩) l.length c] 26)).frozen? ⟨x, 0, none⟩ = (((w.alloc (.cells #[.slice none 0 0] 26)).alloc (.cells #[.slice none 0 0] 26)).alloc (.cells #[.slice a n cap, .int .i64 0, .int .u64 0] 64)).frozen? ⟨x, 0, none⟩ := fun x hx => by
    have e := hg.block x (by simp; omega) (by simp; omega)
    exact ⟨(World.cell?_alloc_past _ _ _ (by omega)).trans (World.cell?_of_block (a := ⟨x, 0, none⟩) e), (World.frozen?_alloc_past _ _ _ (by omega)).trans (World.frozen?_of_block (a := ⟨x, 0, none⟩) e)⟩
  refine ⟨S1.st_new hs _, ?_, box_at, (hf _ (by omega)).1.trans e1, (hf _ (by omega)).2.trans e4, (hf _ (by omega)).1.trans e2, (hf _ (by omega)).2.trans e3, ha.kept (alloc_below _ _) (Nat.le_refl _), by omega, by omega, by simp⟩
  exact (((two_below w _ _).trans ((alloc_below _ _).mono (by simp; omega))).trans (S1.grown_below hg (by omega) (by simp; omega))).trans ((alloc_below _ _).mono (by omega))
set_option maxHeartbeats 4000000 in
set_option maxRecDepth 100000 in
theorem dsto_any (a : Option Addr) (n cap : Nat) (w : World) (hc : S1.Cd w.heap.size a n w) (hn : n ≤ 65536) :
    Calls Try.prog 34 #[.slice a n cap] w fun e w' => (∃ b off c l z0, e = .returned (.tuple #[dv (some ⟨b, off, none⟩) l.length c, .int .i64 z0]) ∧ l.length ≤ 24 ∧ IAt w' (some ⟨b, off, none⟩) l) ∧ Below w.heap.size w w' := by
  have HS0 := Lib.hid (st_two cap hc hn)
  clear hc
  go_enter Try.func34, Try.ntmps34
  go_wp2_with fail
  refine (profile_any (w.heap.size + 1) (w.heap.size + 1) a n cap 0 _ (by omega) HS0.out (by simp)).mono ?_
  rintro e w2 ⟨⟨b, off, c, l, rfl, hb, hbl, hl, ha⟩, hs, hg⟩
  refine Hid.out ?_
  have HPB := Lib.hid (prof_box (c := c) hs hg hb hbl ha)
  obtain ⟨w3, hw3⟩ : ∃ w3, w3 = w2.alloc (.cells #[.slice (some ⟨b, off, none⟩) l.length c] 26) := ⟨_, rfl⟩
  rw [← hw3] at HPB
  obtain ⟨hs3, hB3, hco, hcr, hfr, ha3, hz2, hzb, hz3⟩ := HPB.out
  have hz3' : w2.heap.size < w3.heap.size := by omega
  have hwr3 : w.heap.size < w3.heap.size := by omega
  have hwg3 : w.heap.size + 1 < w3.heap.size := by omega
  have HS3 := Lib.hid hs3
  have HB3 := Lib.hid hB3
  have HA3 := Lib.hid ha3
  have HW3 := Lib.hid hw3
  clear hs hg hb ha HS0 HPB hs3 hB3 ha3 hw3 hz3
  refine Lib.hid ?_
  go_wp2_with fail
  rw [← HW3.out]
  have hz0 : w3.heap.size ≤ w3.drew.heap.size := Nat.le_refl _
  have hco0 : w3.drew.cell? ⟨w2.heap.size, 0, none⟩ = some (.slice (some ⟨b, off, none⟩) l.length c) := hco
  have hcr0 : w3.drew.cell? ⟨w.heap.size, 0, none⟩ = some (.slice none 0 0) := hcr
  have hfr0 : w3.drew.frozen? ⟨w.heap.size, 0, none⟩ = false := hfr
  have HB0 := Lib.hid (HB3.out.trans (Below.refl _ _).drew)
  have HA0 := Lib.hid (HA3.out.kept (Below.refl _ _).drew (Nat.le_refl _))
  refine wp_region_held_drew (S := fun w' => w'.cell? ⟨w2.heap.size, 0, none⟩ = some (.slice (some ⟨b, off, none⟩) l.length c)) (by kernel_rfl) (by exact hco) (fun hHeld => ?_)
  refine wpAnyH_take (i := 0) (v := .agg #[.slice (some ⟨b, off, none⟩) l.length c]) rfl (by kernel_rfl) (by kernel_rfl) (by kernel_rfl) (fun _ _ _ h => h) (Or.inl ⟨by rfl, ?_⟩) (by assumption) ?_
  · (intro w hSw; (try dsimp only at hSw); go_simp)
  simp only [Act.put, List.setIfInBounds_toArray]
  refine wpAnyH_take (i := 1) (v := .pointer (some ⟨w.heap.size + 1, 0, none⟩)) rfl (by kernel_rfl) (by kernel_rfl) (by kernel_rfl) (fun _ _ _ h => h) (Or.inl ⟨by rfl, ?_⟩) (by assumption) ?_
  · (intro w hSw; (try dsimp only at hSw); go_simp)
  simp only [Act.put]
  refine wpAnyH_ready (rs := [2]) (by kernel_rfl) (by simp) ?_
  refine AllReadyH.cons rfl (fun K hK => ?_) AllReadyH.nil
  go_simp
  go_at_call 72
  refine (base6_any (w.heap.size + 1) (w.heap.size + 1) a n cap (0 + 100) (w3.drew) (by omega) (HS3.out.other (Below.refl _ _).drew)).mono ?_
  rintro e p1 ⟨⟨z0, rfl⟩, hs1, hg⟩
  have hz1 := Nat.le_trans hz0 hg.size
  have hco1 := (hg.cell_far ⟨w2.heap.size, 0, none⟩ (Nat.lt_of_lt_of_le hz3' hz0) (by simp; omega)).trans hco0
  have hcr1 := (hg.cell_far ⟨w.heap.size, 0, none⟩ (Nat.lt_of_lt_of_le hwr3 hz0) (by simp)).trans hcr0
  have hfr1 := (World.frozen?_of_block (a := ⟨w.heap.size, 0, none⟩) (hg.block (w.heap.size) (Nat.lt_of_lt_of_le hwr3 hz0) (by simp))).trans hfr0
  have HB1 := Lib.hid (HB0.out.trans (S1.grown_below hg (by omega) (Nat.le_of_lt (Nat.lt_of_lt_of_le hwr3 hz0))))
  have HA1 := Lib.hid (iat_grown HA0.out hg (by omega))
  refine hK.out _ _ hco1 (fun hHeld => ?_)
  clear hK K hg
  refine wpAnyH_ready (rs := [3]) (by kernel_rfl) (by simp) ?_
  refine AllReadyH.cons rfl (fun K hK => ?_) AllReadyH.nil
  go_simp
  refine hK.out _ _ ((World.cell?_setCell_far _ ⟨w.heap.size, 0, none⟩ _ _ (by show w.heap.size ≠ w2.heap.size; omega)).trans hco1) (fun hHeld => ?_)
  clear hK K
  refine wpAnyH_ready (rs := [4]) (by kernel_rfl) (by simp) ?_
  refine AllReadyH.cons rfl (fun K hK => ?_) AllReadyH.nil
  go_simp
  refine hK.out _ _ (by first | assumption | go_keep) (fun hHeld => ?_)
  clear hK K
  refine wpAnyH_done (by kernel_rfl) ?_ _
  go_wp2_with fail
  refine bodyPost_ret (v := .tuple #[dv (some ⟨b, off, none⟩) l.length c, .int .i64 z0]) (by simp [results, Try.results34, go_sem, hcr1]) rfl ⟨⟨b, off, c, l, z0, rfl, hl, ?_⟩, ?_⟩
  · exact far_iat HA1.out (by omega)
  · exact HB1.out.setCell (p := ⟨w.heap.size, 0, none⟩) (Nat.le_refl _) _
set_option maxHeartbeats 4000000 in
set_option maxRecDepth 100000 in
theorem duse_any (a : Option Addr) (n cap : Nat) (w : World) (hc : S1.Cd w.heap.size a n w) (hn : n ≤ 65536) :
    Calls Try.prog 41 #[.slice a n cap] w fun e w' => (∃ b off c l z0 z1, e = .returned (.tuple #[dv (some ⟨b, off, none⟩) l.length c, .int .i64 z0, .int .i64 z1]) ∧ l.length ≤ 24 ∧ IAt w' (some ⟨b, off, none⟩) l) ∧ Below w.heap.size w w' := by
  have HS0 := Lib.hid (st_two cap hc hn)
  clear hc
  go_enter Try.func41, Try.ntmps41
  go_wp2_with fail
  refine (profile_any (w.heap.size + 1) (w.heap.size + 1) a n cap 0 _ (by omega) HS0.out (by simp)).mono ?_
  rintro e w2 ⟨⟨b, off, c, l, rfl, hb, hbl, hl, ha⟩, hs, hg⟩
  refine Hid.out ?_
  have HPB := Lib.hid (prof_box (c := c) hs hg hb hbl ha)
  obtain ⟨w3, hw3⟩ : ∃ w3, w3 = w2.alloc (.cells #[.slice (some ⟨b, off, none⟩) l.length c] 26) := ⟨_, rfl⟩
  rw [← hw3] at HPB
  obtain ⟨hs3, hB3, hco, hcr, hfr, ha3, hz2, hzb, hz3⟩ := HPB.out
  have hz3' : w2.heap.size < w3.heap.size := by omega
  have hwr3 : w.heap.size < w3.heap.size := by omega
  have hwg3 : w.heap.size + 1 < w3.heap.size := by omega
  have HS3 := Lib.hid hs3
  have HB3 := Lib.hid hB3
  have HA3 := Lib.hid ha3
  have HW3 := Lib.hid hw3
  clear hs hg hb ha HS0 HPB hs3 hB3 ha3 hw3 hz3
  refine Lib.hid ?_
  go_wp2_with fail
  rw [← HW3.out]
  have hz0 : w3.heap.size ≤ w3.drew.heap.size := Nat.le_refl _
  have hco0 : w3.drew.cell? ⟨w2.heap.size, 0, none⟩ = some (.slice (some ⟨b, off, none⟩) l.length c) := hco
  have hcr0 : w3.drew.cell? ⟨w.heap.size, 0, none⟩ = some (.slice none 0 0) := hcr
  have hfr0 : w3.drew.frozen? ⟨w.heap.size, 0, none⟩ = false := hfr
  have HB0 := Lib.hid (HB3.out.trans (Below.refl _ _).drew)
  have HA0 := Lib.hid (HA3.out.kept (Below.refl _ _).drew (Nat.le_refl _))
  refine wp_region_held_drew (S := fun w' => w'.cell? ⟨w2.heap.size, 0, none⟩ = some (.slice (some ⟨b, off, none⟩) l.length c)) (by kernel_rfl) (by exact hco) (fun hHeld => ?_)
  refine wpAnyH_take (i := 0) (v := .agg #[.slice (some ⟨b, off, none⟩) l.length c]) rfl (by kernel_rfl) (by kernel_rfl) (by kernel_rfl) (fun _ _ _ h => h) (Or.inl ⟨by rfl, ?_⟩) (by assumption) ?_
  · (intro w hSw; (try dsimp only at hSw); go_simp)
  simp only [Act.put, List.setIfInBounds_toArray]
  refine wpAnyH_take (i := 1) (v := .pointer (some ⟨w.heap.size + 1, 0, none⟩)) rfl (by kernel_rfl) (by kernel_rfl) (by kernel_rfl) (fun _ _ _ h => h) (Or.inl ⟨by rfl, ?_⟩) (by assumption) ?_
  · (intro w hSw; (try dsimp only at hSw); go_simp)
  simp only [Act.put]
  refine wpAnyH_take (i := 3) (v := .pointer (some ⟨w.heap.size + 1, 0, none⟩)) rfl (by kernel_rfl) (by kernel_rfl) (by kernel_rfl) (fun _ _ _ h => h) (Or.inl ⟨by rfl, ?_⟩) (by assumption) ?_
  · (intro w hSw; (try dsimp only at hSw); go_simp)
  simp only [Act.put]
  refine wpAnyH_ready (rs := [2]) (by kernel_rfl) (by simp) ?_
  refine AllReadyH.cons rfl (fun K hK => ?_) AllReadyH.nil
  go_simp
  go_at_call 72
  refine (base6_any (w.heap.size + 1) (w.heap.size + 1) a n cap (0 + 100) (w3.drew) (by omega) (HS3.out.other (Below.refl _ _).drew)).mono ?_
  rintro e p1 ⟨⟨z0, rfl⟩, hs1, hg⟩
  have hz1 := Nat.le_trans hz0 hg.size
  have hco1 := (hg.cell_far ⟨w2.heap.size, 0, none⟩ (Nat.lt_of_lt_of_le hz3' hz0) (by simp; omega)).trans hco0
  have hcr1 := (hg.cell_far ⟨w.heap.size, 0, none⟩ (Nat.lt_of_lt_of_le hwr3 hz0) (by simp)).trans hcr0
  have hfr1 := (World.frozen?_of_block (a := ⟨w.heap.size, 0, none⟩) (hg.block (w.heap.size) (Nat.lt_of_lt_of_le hwr3 hz0) (by simp))).trans hfr0
  have HB1 := Lib.hid (HB0.out.trans (S1.grown_below hg (by omega) (Nat.le_of_lt (Nat.lt_of_lt_of_le hwr3 hz0))))
  have HA1 := Lib.hid (iat_grown HA0.out hg (by omega))
  refine hK.out _ _ hco1 (fun hHeld => ?_)
  clear hK K hg
  refine wpAnyH_ready (rs := [4]) (by kernel_rfl) (by simp) ?_
  refine AllReadyH.cons rfl (fun K hK => ?_) AllReadyH.nil
  go_simp
  go_at_call 55
  refine (hour6_any (w.heap.size + 1) (w.heap.size + 1) a n cap (0 + 100 + 4) (p1) (by omega) hs1).mono ?_
  rintro e p2 ⟨⟨z1, rfl⟩, hs2, hg⟩
  have hz2 := Nat.le_trans hz1 hg.size
  have hco2 := (hg.cell_far ⟨w2.heap.size, 0, none⟩ (Nat.lt_of_lt_of_le hz3' hz1) (by simp; omega)).trans hco1
  have hcr2 := (hg.cell_far ⟨w.heap.size, 0, none⟩ (Nat.lt_of_lt_of_le hwr3 hz1) (by simp)).trans hcr1
  have hfr2 := (World.frozen?_of_block (a := ⟨w.heap.size, 0, none⟩) (hg.block (w.heap.size) (Nat.lt_of_lt_of_le hwr3 hz1) (by simp))).trans hfr1
  have HB2 := Lib.hid (HB1.out.trans (S1.grown_below hg (by omega) (Nat.le_of_lt (Nat.lt_of_lt_of_le hwr3 hz1))))
  have HA2 := Lib.hid (iat_grown HA1.out hg (by omega))
  refine hK.out _ _ hco2 (fun hHeld => ?_)
  clear hK K hg
  refine wpAnyH_ready (rs := [5]) (by kernel_rfl) (by simp) ?_
  refine AllReadyH.cons rfl (fun K hK => ?_) AllReadyH.nil
  go_simp
  refine hK.out _ _ ((World.cell?_setCell_far _ ⟨w.heap.size, 0, none⟩ _ _ (by show w.heap.size ≠ w2.heap.size; omega)).trans hco2) (fun hHeld => ?_)
  clear hK K
  refine wpAnyH_ready (rs := [6]) (by kernel_rfl) (by simp) ?_
  refine AllReadyH.cons rfl (fun K hK => ?_) AllReadyH.nil
  go_simp
  refine hK.out _ _ (by first | assumption | go_keep) (fun hHeld => ?_)
  clear hK K
  refine wpAnyH_ready (rs := [7]) (by kernel_rfl) (by simp) ?_
  refine AllReadyH.cons rfl (fun K hK => ?_) AllReadyH.nil
  go_simp
  refine hK.out _ _ (by first | assumption | go_keep) (fun hHeld => ?_)
  clear hK K
  refine wpAnyH_done (by kernel_rfl) ?_ _
  go_wp2_with fail
  refine bodyPost_ret (v := .tuple #[dv (some ⟨b, off, none⟩) l.length c, .int .i64 z0, .int .i64 z1]) (by simp [results, Try.results41, go_sem, hcr2]) rfl ⟨⟨b, off, c, l, z0, z1, rfl, hl, ?_⟩, ?_⟩
  · exact far_iat HA2.out (by omega)
  · exact HB2.out.setCell (p := ⟨w.heap.size, 0, none⟩) (Nat.le_refl _) _
end Go.Proofs.Ytkgkeohnnpkahaa.S6
