/- How the laws of chapter 6 draw their arguments: contracts. Conditions: each theorem's own premises. -/
import Derived.Test.YtkgkeohnnpkahaaPfProf
namespace Go.Proofs.Ytkgkeohnnpkahaa.S6
open Go.RowKit P6

set_option maxHeartbeats 4000000 in
set_option maxRecDepth 100000 in
theorem hour6_any (B g : Nat) (a : Option Addr) (n cap KC : Nat) (w : World) (hK : KC ≤ 800000) (h : S1.St B g a n cap KC w) :
    Calls Try.prog 55 #[.pointer (some ⟨g, 0, none⟩)] w fun e w' => (∃ z : Int, e = .returned (.int .i64 z)) ∧ S1.St B g a n cap (KC + 4) w' ∧ w.grownBy w' (some g) := by
  have HS := Lib.hid h
  have hgl : g < w.heap.size := by obtain ⟨k, sd, hk, hg⟩ := h.cur; exact (Array.getElem?_eq_some_iff.1 hg).1
  clear h
  go_enter Try.func55, Try.ntmps55
  have hti := S1.ti_new w [0, 1, 7, 12, 22, 23, -1, 24] 3
  go_wp2_with fail
  refine (S1.pick_any B g a n cap KC 24 _ (by omega) (by omega) (by omega) (S1.st_new HS.out _)).mono ?_
  rintro e p0 ⟨r0, rfl, hr0, hr1, hsp, hgp⟩
  obtain ⟨t0, rfl⟩ : ∃ t : Nat, r0 = (t : Int) := ⟨r0.toNat, by omega⟩
  obtain ⟨d0, hd0⟩ : ∃ d : Nat, (t0 : Int) / 11 = (d : Int) := ⟨t0 / 11, by omega⟩
  have hd02 : d0 ≤ 2 := by omega
  obtain ⟨N0, hN0⟩ : ∃ N : Nat, 6 + (d0 : Int) = (N : Int) := ⟨6 + d0, by omega⟩
  have hN00 : 1 ≤ N0 := by omega
  have hN01 : N0 ≤ 8 := by omega
  have htj := S1.ti_take (S1.ti_grown hti hgp (by omega)) (show N0 ≤ ([0, 1, 7, 12, 22, 23, -1, 24] : List Int).length by simp; omega)
  have HG := Lib.hid (S1.grown_trans (World.grownBy_alloc w (.cells (([0, 1, 7, 12, 22, 23, -1, 24] : List Int).map (Value.int .i64)).toArray 3) (some g)) hgp)
  go_wp2_with fail
  refine (S1.among_any B g a n cap (KC + 2) w.heap.size N0 8 (([0, 1, 7, 12, 22, 23, -1, 24] : List Int).take N0) _ (by rw [List.length_take]; simp; omega) (by omega) (by rw [List.length_take]; simp; omega) (by rw [List.length_take]; simp; omega) hsp htj (by omega)).mono ?_
  rintro e q0 ⟨⟨z0, rfl⟩, hsq, hgq⟩
  have HS1 := Lib.hid hsq
  have HG1 := Lib.hid (S1.grown_trans HG.out hgq)
  clear hti htj hsp hgp hsq hgq HG HS hN0
  go_wp2_with fail
  go_ret
  exact ⟨⟨z0, rfl⟩, HS1.out, HG1.out⟩
/-- What is there behind the profile's draw. -/
theorem prof_box {w w2 : World} {a : Option Addr} {n cap K b off c : Nat} {l : List Int} (hs : S1.St (w.heap.size + 1) (w.heap.size + 1) a n cap K w2) (hg : ((w.alloc (.cells #[.slice none 0 0] 26)).alloc (.cells #[.slice a n cap, .int .i64 0, .int .u64 0] 64)).grownBy w2 (some (w.heap.size + 1)))
    (hb : ((w.alloc (.cells #[.slice none 0 0] 26)).alloc (.cells #[.slice a n cap, .int .i64 0, .int .u64 0] 64)).heap.size ≤ b) (_hbl : b < w2.heap.size) (ha : IAt w2 (some ⟨b, off, none⟩) l) :
    S1.St (w.heap.size + 1) (w.heap.size + 1) a n cap K (w2.alloc (.cells #[.slice (some ⟨b, off, none⟩) l.length c] 26)) ∧ Below w.heap.size w (w2.alloc (.cells #[.slice (some ⟨b, off, none⟩) l.length c] 26)) ∧ (w2.alloc (.cells #[.slice (some ⟨b, off, none⟩) l.length c] 26)).cell? ⟨w2.heap.size, 0, none⟩ = some (.slice (some ⟨b, off, none⟩) l.length c) ∧
    (w2.alloc (.cells #[.slice (some ⟨b, off, none⟩) l.length c] 26)).cell? ⟨w.heap.size, 0, none⟩ = some (.slice none 0 0) ∧ (w2.alloc (.cells #[.slice (some ⟨b, off, none⟩) l.length c] 26)).frozen? ⟨w.heap.size, 0, none⟩ = false ∧ IAt (w2.alloc (.cells #[.slice (some ⟨b, off, none⟩) l.length c] 26)) (some ⟨b, off, none⟩) l ∧ w.heap.size + 2 ≤ w2.heap.size ∧ w.heap.size + 2 ≤ b ∧ (w2.alloc (.cells #[.slice (some ⟨b, off, none⟩) l.length c] 26)).heap.size = w2.heap.size + 1 := by
  have hz := hg.size
  simp at hz hb
  have e1 : ((w.alloc (.cells #[.slice none 0 0] 26)).alloc (.cells #[.slice a n cap, .int .i64 0, .int .u64 0] 64)).cell? ⟨w.heap.size, 0, none⟩ = some (.slice none 0 0) := by
    rw [World.cell?_alloc_past (w := w.alloc _) _ _ _ (by simp)]; exact box_at
  have e2 : ((w.alloc (.cells #[.slice none 0 0] 26)).alloc (.cells #[.slice a n cap, .int .i64 0, .int .u64 0] 64)).frozen? ⟨w.heap.size, 0, none⟩ = false := by
    rw [World.frozen?_alloc_past (w := w.alloc _) _ _ _ (by simp)]; simp
  refine ⟨S1.st_new hs _, ?_, box_at, ?_, ?_, ha.kept (alloc_below _ _) (Nat.le_refl _), by omega, by omega, by simp⟩
  · exact ((two_below w _ _).trans (S1.grown_below hg (by omega) (by simp; omega))).trans ((alloc_below _ _).mono (by omega))
  · rw [World.cell?_alloc_past _ _ _ (by omega), hg.cell_far ⟨w.heap.size, 0, none⟩ (by show w.heap.size < _; simp; omega) (by simp)]
    exact e1
  · rw [World.frozen?_alloc_past _ _ _ (by omega), World.frozen?_of_block (a := ⟨w.heap.size, 0, none⟩) (hg.block w.heap.size (by simp; omega) (by simp))]
    exact e2
theorem st_two {w : World} {a : Option Addr} {n : Nat} (cap : Nat) (hc : S1.Cd w.heap.size a n w) (hn : n ≤ 65536) : S1.St (w.heap.size + 1) (w.heap.size + 1) a n cap 0 ((w.alloc (.cells #[.slice none 0 0] 26)).alloc (.cells #[.slice a n cap, .int .i64 0, .int .u64 0] 64)) := by
  have h := S1.st_start cap (hc.later (alloc_below w (.cells #[.slice none 0 0] 26)) (Nat.le_refl _)) hn
  simpa using h
theorem far_iat {w : World} {b off r : Nat} {l : List Int} {v : Value} (h : IAt w (some ⟨b, off, none⟩) l) (hne : r ≠ b) : IAt (w.setCell ⟨r, 0, none⟩ v) (some ⟨b, off, none⟩) l :=
  IAt.far h (grown_set (grown_refl _ _) _ _) (fun e => hne e.symm)
theorem iat_grown {w w' : World} {b off g : Nat} {l : List Int} (h : IAt w (some ⟨b, off, none⟩) l) (hg : w.grownBy w' (some g)) (hne : b ≠ g) : IAt w' (some ⟨b, off, none⟩) l := IAt.far h hg hne
set_option maxHeartbeats 2000000 in
set_option maxRecDepth 100000 in
theorem dshift_any (a : Option Addr) (n cap : Nat) (w : World) (hc : S1.Cd w.heap.size a n w) (hn : n ≤ 65536) :
    Calls Try.prog 16 #[.slice a n cap] w fun e w' => (∃ b off c l z, e = .returned (.tuple #[dv (some ⟨b, off, none⟩) l.length c, .int .i64 z]) ∧ l.length ≤ 24 ∧ IAt w' (some ⟨b, off, none⟩) l) ∧ Below w.heap.size w w' := by
  have HS0 := Lib.hid (st_two cap hc hn)
  clear hc
  go_enter Try.func16, Try.ntmps16
  go_wp2_with fail
  refine (profile_any (w.heap.size + 1) (w.heap.size + 1) a n cap 0 _ (by omega) HS0.out (by simp)).mono ?_
  rintro e w2 ⟨⟨b, off, c, l, rfl, hb, hbl, hl, ha⟩, hs, hg⟩
  refine Hid.out ?_
  have HPB := Lib.hid (prof_box (c := c) hs hg hb hbl ha)
  obtain ⟨w3, hw3⟩ : ∃ w3, w3 = w2.alloc (.cells #[.slice (some ⟨b, off, none⟩) l.length c] 26) := ⟨_, rfl⟩
  rw [← hw3] at HPB
  obtain ⟨hs3, hB3, hco, hcr, hfr, ha3, hz2, hzb, hz3⟩ := HPB.out
  have hz3' : w2.heap.size < w3.heap.size := by omega
  have HS3 := Lib.hid hs3
  have HB3 := Lib.hid hB3
  have HA3 := Lib.hid ha3
  have HW3 := Lib.hid hw3
  clear hs hg hb ha HS0 HPB hs3 hB3 ha3 hw3 hz3
  refine Lib.hid ?_
  go_wp2_with fail
  rw [← HW3.out]
  refine wp_region_held_drew (S := fun w' => w'.cell? ⟨w2.heap.size, 0, none⟩ = some (.slice (some ⟨b, off, none⟩) l.length c)) (by kernel_rfl) (by exact hco) (fun hHeld => ?_)
  refine wpAnyH_take (i := 0) (v := .agg #[.slice (some ⟨b, off, none⟩) l.length c]) rfl (by kernel_rfl) (by kernel_rfl) (by kernel_rfl) (fun _ _ _ h => h) (Or.inl ⟨by rfl, ?_⟩) (by assumption) ?_
  · (intro w hSw; (try dsimp only at hSw); go_simp)
  simp only [Act.put, List.setIfInBounds_toArray]
  refine wpAnyH_take (i := 1) (v := .pointer (some ⟨w.heap.size + 1, 0, none⟩)) rfl (by kernel_rfl) (by kernel_rfl) (by kernel_rfl) (fun _ _ _ h => h) (Or.inl ⟨by rfl, ?_⟩) (by assumption) ?_
  · (intro w hSw; (try dsimp only at hSw); go_simp)
  simp only [Act.put]
  refine wpAnyH_ready (rs := [2]) (by kernel_rfl) (by simp) ?_
  refine AllReadyH.cons rfl (fun K hK => ?_) AllReadyH.nil
  go_simp
  go_at_call 55
  refine (hour6_any (w.heap.size + 1) (w.heap.size + 1) a n cap (0 + 100) w3.drew (by omega) (HS3.out.other (Below.refl _ _).drew)).mono ?_
  rintro e w4 ⟨⟨z, rfl⟩, hs, hg⟩
  have hco4 := (hg.cell_far ⟨w2.heap.size, 0, none⟩ (by show w2.heap.size < w3.heap.size; omega) (by simp; omega)).trans hco
  have hcr4 := (hg.cell_far ⟨w.heap.size, 0, none⟩ (by show w.heap.size < w3.heap.size; omega) (by simp)).trans hcr
  have hfr4 := (World.frozen?_of_block (a := ⟨w.heap.size, 0, none⟩) (hg.block w.heap.size (by show w.heap.size < w3.heap.size; omega) (by simp))).trans hfr
  have HB4 := Lib.hid (HB3.out.trans (Below.trans (Below.refl _ _).drew (S1.grown_below hg (by omega) (by show w.heap.size ≤ w3.heap.size; omega))))
  have HA4 := Lib.hid (iat_grown (w := w3.drew) (HA3.out.kept (Below.refl _ _).drew (Nat.le_refl _)) hg (by omega))
  clear hs hg
  refine hK.out _ _ (by exact hco4) (fun hHeld => ?_)
  clear hK K
  refine wpAnyH_ready (rs := [3]) (by kernel_rfl) (by simp) ?_
  refine AllReadyH.cons rfl (fun K hK => ?_) AllReadyH.nil
  go_simp
  refine hK.out _ _ ((World.cell?_setCell_far _ ⟨w.heap.size, 0, none⟩ _ _ (by show w.heap.size ≠ w2.heap.size; omega)).trans hco4) (fun hHeld => ?_)
  clear hK K
  refine wpAnyH_ready (rs := [4]) (by kernel_rfl) (by simp) ?_
  refine AllReadyH.cons rfl (fun K hK => ?_) AllReadyH.nil
  go_simp
  refine hK.out _ _ (by first | assumption | go_keep) (fun hHeld => ?_)
  clear hK K
  refine wpAnyH_done (by kernel_rfl) ?_ _
  go_wp2_with fail
  refine bodyPost_ret (v := .tuple #[dv (some ⟨b, off, none⟩) l.length c, .int .i64 z]) (by simp [results, Try.results16, go_sem, hcr4]) rfl ⟨⟨b, off, c, l, z, rfl, hl, ?_⟩, ?_⟩
  · exact far_iat HA4.out (by omega)
  · exact HB4.out.setCell (p := ⟨w.heap.size, 0, none⟩) (Nat.le_refl _) _
set_option maxHeartbeats 2000000 in
set_option maxRecDepth 100000 in
theorem dflat_any (a : Option Addr) (n cap : Nat) (w : World) (hc : S1.Cd w.heap.size a n w) (hn : n ≤ 65536) :
    Calls Try.prog 22 #[.slice a n cap] w fun e w' => (∃ b off c l z, e = .returned (.tuple #[dv (some ⟨b, off, none⟩) l.length c, .int .i64 z]) ∧ l.length ≤ 24 ∧ IAt w' (some ⟨b, off, none⟩) l) ∧ Below w.heap.size w w' := by
  have HS0 := Lib.hid (st_two cap hc hn)
  clear hc
  go_enter Try.func22, Try.ntmps22
  go_wp2_with fail
  refine (profile_any (w.heap.size + 1) (w.heap.size + 1) a n cap 0 _ (by omega) HS0.out (by simp)).mono ?_
  rintro e w2 ⟨⟨b, off, c, l, rfl, hb, hbl, hl, ha⟩, hs, hg⟩
  refine Hid.out ?_
  have HPB := Lib.hid (prof_box (c := c) hs hg hb hbl ha)
  obtain ⟨w3, hw3⟩ : ∃ w3, w3 = w2.alloc (.cells #[.slice (some ⟨b, off, none⟩) l.length c] 26) := ⟨_, rfl⟩
  rw [← hw3] at HPB
  obtain ⟨hs3, hB3, hco, hcr, hfr, ha3, hz2, hzb, hz3⟩ := HPB.out
  have hz3' : w2.heap.size < w3.heap.size := by omega
  have HS3 := Lib.hid hs3
  have HB3 := Lib.hid hB3
  have HA3 := Lib.hid ha3
  have HW3 := Lib.hid hw3
  clear hs hg hb ha HS0 HPB hs3 hB3 ha3 hw3 hz3
  refine Lib.hid ?_
  go_wp2_with fail
  rw [← HW3.out]
  refine wp_region_held_drew (S := fun w' => w'.cell? ⟨w2.heap.size, 0, none⟩ = some (.slice (some ⟨b, off, none⟩) l.length c)) (by kernel_rfl) (by exact hco) (fun hHeld => ?_)
  refine wpAnyH_take (i := 0) (v := .agg #[.slice (some ⟨b, off, none⟩) l.length c]) rfl (by kernel_rfl) (by kernel_rfl) (by kernel_rfl) (fun _ _ _ h => h) (Or.inl ⟨by rfl, ?_⟩) (by assumption) ?_
  · (intro w hSw; (try dsimp only at hSw); go_simp)
  simp only [Act.put, List.setIfInBounds_toArray]
  refine wpAnyH_take (i := 1) (v := .pointer (some ⟨w.heap.size + 1, 0, none⟩)) rfl (by kernel_rfl) (by kernel_rfl) (by kernel_rfl) (fun _ _ _ h => h) (Or.inl ⟨by rfl, ?_⟩) (by assumption) ?_
  · (intro w hSw; (try dsimp only at hSw); go_simp)
  simp only [Act.put]
  refine wpAnyH_take (i := 3) (v := .pointer (some ⟨w.heap.size + 1, 0, none⟩)) rfl (by kernel_rfl) (by kernel_rfl) (by kernel_rfl) (fun _ _ _ h => h) (Or.inl ⟨by rfl, ?_⟩) (by assumption) ?_
  · (intro w hSw; (try dsimp only at hSw); go_simp)
  simp only [Act.put]
  refine wpAnyH_ready (rs := [2, 4]) (by kernel_rfl) (by simp) ?_
  refine AllReadyH.cons rfl (fun K hK => ?_) (AllReadyH.cons rfl (fun K hK => ?_) AllReadyH.nil)
  · go_simp
    refine hK.out _ _ (by first | assumption | go_keep) (fun hHeld => ?_)
    clear hK K
    refine wpAnyH_ready (rs := [4]) (by kernel_rfl) (by simp) ?_
    refine AllReadyH.cons rfl (fun K hK => ?_) AllReadyH.nil
    go_simp
    go_at_call 62
    refine (S1.pick_any (w.heap.size + 1) (w.heap.size + 1) a n cap (0 + 100) 24 (w3.alloc (.cells #[.int .i64 100, .int .i64 101, .int .i64 120, .int .i64 200, .int .i64 1000, .int .i64 99, .int .i64 1001] 3)).drew (by omega) (by omega) (by omega) ((S1.st_new HS3.out _).other (Below.refl _ _).drew)).mono ?_
    rintro e p0 ⟨r0, rfl, hr0, hr1, hsp, hgp⟩
    obtain ⟨t0, rfl⟩ : ∃ t : Nat, r0 = (t : Int) := ⟨r0.toNat, by omega⟩
    obtain ⟨d0, hd0⟩ : ∃ d : Nat, (t0 : Int) / 11 = (d : Int) := ⟨t0 / 11, by omega⟩
    have hdt : (t0 : Int).tdiv 11 = (d0 : Int) := by rw [Int.tdiv_eq_ediv_of_nonneg (by omega)]; exact hd0
    have hd02 : d0 ≤ 2 := by omega
    obtain ⟨N0, hN0⟩ : ∃ N : Nat, 5 + (d0 : Int) = (N : Int) := ⟨5 + d0, by omega⟩
    have hN00 : 1 ≤ N0 := by omega
    have hN01 : N0 ≤ 7 := by omega
    have hN02 : (N0 : Int) ≤ 7 := by omega
    have hN03 : (0 : Int) ≤ (N0 : Int) := by omega
    have hwd : IntKind.i64.wrap (d0 : Int) = (d0 : Int) := IntWalk.i64_in _ (by omega)
    have hwN : IntKind.i64.wrap (N0 : Int) = (N0 : Int) := IntWalk.i64_in _ (by omega)
    have hzp := hgp.size
    have hzq : ((w3.alloc (.cells #[.int .i64 100, .int .i64 101, .int .i64 120, .int .i64 200, .int .i64 1000, .int .i64 99, .int .i64 1001] 3)).drew).heap.size = w3.heap.size + 1 := by show (w3.alloc _).heap.size = _; simp
    rw [hzq] at hzp
    have hcop := (hgp.cell_far ⟨w2.heap.size, 0, none⟩ (by show w2.heap.size < ((w3.alloc (.cells #[.int .i64 100, .int .i64 101, .int .i64 120, .int .i64 200, .int .i64 1000, .int .i64 99, .int .i64 1001] 3)).drew).heap.size; omega) (by simp; omega)).trans ((World.cell?_alloc_past (w := w3) (.cells #[.int .i64 100, .int .i64 101, .int .i64 120, .int .i64 200, .int .i64 1000, .int .i64 99, .int .i64 1001] 3) w2.heap.size 0 (by omega)).trans hco)
    have hcrp := (hgp.cell_far ⟨w.heap.size, 0, none⟩ (by show w.heap.size < ((w3.alloc (.cells #[.int .i64 100, .int .i64 101, .int .i64 120, .int .i64 200, .int .i64 1000, .int .i64 99, .int .i64 1001] 3)).drew).heap.size; omega) (by simp)).trans ((World.cell?_alloc_past (w := w3) (.cells #[.int .i64 100, .int .i64 101, .int .i64 120, .int .i64 200, .int .i64 1000, .int .i64 99, .int .i64 1001] 3) w.heap.size 0 (by omega)).trans hcr)
    have hfrp := (World.frozen?_of_block (a := ⟨w.heap.size, 0, none⟩) (hgp.block w.heap.size (by omega) (by simp))).trans ((World.frozen?_alloc_past (w := w3) (.cells #[.int .i64 100, .int .i64 101, .int .i64 120, .int .i64 200, .int .i64 1000, .int .i64 99, .int .i64 1001] 3) w.heap.size 0 (by omega)).trans hfr)
    have hti : S1.Ti w3.heap.size [100, 101, 120, 200, 1000, 99, 1001] (w3.alloc (.cells #[.int .i64 100, .int .i64 101, .int .i64 120, .int .i64 200, .int .i64 1000, .int .i64 99, .int .i64 1001] 3)) := S1.ti_new w3 [100, 101, 120, 200, 1000, 99, 1001] 3
    have htj := S1.ti_take (S1.ti_grown (w := (w3.alloc (.cells #[.int .i64 100, .int .i64 101, .int .i64 120, .int .i64 200, .int .i64 1000, .int .i64 99, .int .i64 1001] 3)).drew) (fun j hj => hti j hj) hgp (by omega)) (show N0 ≤ ([100, 101, 120, 200, 1000, 99, 1001] : List Int).length by simp; omega)
    have HBp := Lib.hid (HB3.out.trans (Below.trans (((alloc_below w3 (.cells #[.int .i64 100, .int .i64 101, .int .i64 120, .int .i64 200, .int .i64 1000, .int .i64 99, .int .i64 1001] 3)).drew).mono (by omega)) (S1.grown_below hgp (by omega) (by omega))))
    have HAp := Lib.hid (iat_grown (w := (w3.alloc (.cells #[.int .i64 100, .int .i64 101, .int .i64 120, .int .i64 200, .int .i64 1000, .int .i64 99, .int .i64 1001] 3)).drew) (HA3.out.kept (alloc_below w3 (.cells #[.int .i64 100, .int .i64 101, .int .i64 120, .int .i64 200, .int .i64 1000, .int .i64 99, .int .i64 1001] 3)).drew (Nat.le_refl _)) hgp (by omega))
    refine hK.out _ _ hcop (fun hHeld => ?_)
    clear hK K hgp
    refine wpAnyH_take (i := 5) (v := .int .i64 (d0 : Int)) rfl (by kernel_rfl) (by kernel_rfl) (by kernel_rfl) (fun _ _ _ h => h) (Or.inl ⟨by rfl, ?_⟩) (by assumption) ?_
    · (intro w hSw; (try dsimp only at hSw); go_simp)
    simp only [Act.put]
    refine wpAnyH_take (i := 6) (v := .int .i64 (N0 : Int)) rfl (by kernel_rfl) (by kernel_rfl) (by kernel_rfl) (fun _ _ _ h => h) (Or.inl ⟨by rfl, ?_⟩) (by assumption) ?_
    · (intro w hSw; (try dsimp only at hSw); go_simp)
    simp only [Act.put]
    refine wpAnyH_take (i := 7) (v := .slice (some ⟨w3.heap.size, 0, none⟩) N0 7) rfl (by kernel_rfl) (by kernel_rfl) (by kernel_rfl) (fun _ _ _ h => h) (Or.inl ⟨by rfl, ?_⟩) (by assumption) ?_
    · (intro w hSw; (try dsimp only at hSw); go_simp)
    simp only [Act.put]
    refine wpAnyH_ready (rs := [8]) (by kernel_rfl) (by simp) ?_
    refine AllReadyH.cons rfl (fun K hK => ?_) AllReadyH.nil
    go_simp
    go_at_call 61
    refine (S1.among_any (w.heap.size + 1) (w.heap.size + 1) a n cap (0 + 102) w3.heap.size N0 7 (([100, 101, 120, 200, 1000, 99, 1001] : List Int).take N0) _ (by rw [List.length_take]; simp; omega) (by omega) (by rw [List.length_take]; simp; omega) (by rw [List.length_take]; simp; omega) hsp htj (by omega)).mono ?_
    rintro e w4 ⟨⟨z, rfl⟩, hs4, hg4⟩
    have hco4 := (hg4.cell_far ⟨w2.heap.size, 0, none⟩ (by show w2.heap.size < _; omega) (by simp; omega)).trans hcop
    have hcr4 := (hg4.cell_far ⟨w.heap.size, 0, none⟩ (by show w.heap.size < _; omega) (by simp)).trans hcrp
    have hfr4 := (World.frozen?_of_block (a := ⟨w.heap.size, 0, none⟩) (hg4.block w.heap.size (by omega) (by simp))).trans hfrp
    have HB4 := Lib.hid (HBp.out.trans (S1.grown_below hg4 (by omega) (by omega)))
    have HA4 := Lib.hid (iat_grown HAp.out hg4 (by omega))
    clear hs4 hg4
    refine hK.out _ _ (by exact hco4) (fun hHeld => ?_)
    clear hK K
    refine wpAnyH_ready (rs := [9]) (by kernel_rfl) (by simp) ?_
    refine AllReadyH.cons rfl (fun K hK => ?_) AllReadyH.nil
    go_simp
    refine hK.out _ _ ((World.cell?_setCell_far _ ⟨w.heap.size, 0, none⟩ _ _ (by show w.heap.size ≠ w2.heap.size; omega)).trans hco4) (fun hHeld => ?_)
    clear hK K
    refine wpAnyH_ready (rs := [10]) (by kernel_rfl) (by simp) ?_
    refine AllReadyH.cons rfl (fun K hK => ?_) AllReadyH.nil
    go_simp
    refine hK.out _ _ (by first | assumption | go_keep) (fun hHeld => ?_)
    clear hK K
    refine wpAnyH_done (by kernel_rfl) ?_ _
    go_wp2_with fail
    refine bodyPost_ret (v := .tuple #[dv (some ⟨b, off, none⟩) l.length c, .int .i64 z]) (by simp [results, Try.results22, go_sem, hcr4]) rfl ⟨⟨b, off, c, l, z, rfl, hl, ?_⟩, ?_⟩
    · exact far_iat HA4.out (by omega)
    · exact HB4.out.setCell (p := ⟨w.heap.size, 0, none⟩) (Nat.le_refl _) _
  · go_simp
    go_at_call 62
    refine (S1.pick_any (w.heap.size + 1) (w.heap.size + 1) a n cap (0 + 100) 24 w3.drew (by omega) (by omega) (by omega) (HS3.out.other (Below.refl _ _).drew)).mono ?_
    rintro e p1 ⟨r0, rfl, hr0, hr1, hsp1, hgp⟩
    obtain ⟨t0, rfl⟩ : ∃ t : Nat, r0 = (t : Int) := ⟨r0.toNat, by omega⟩
    obtain ⟨d0, hd0⟩ : ∃ d : Nat, (t0 : Int) / 11 = (d : Int) := ⟨t0 / 11, by omega⟩
    have hdt : (t0 : Int).tdiv 11 = (d0 : Int) := by rw [Int.tdiv_eq_ediv_of_nonneg (by omega)]; exact hd0
    have hd02 : d0 ≤ 2 := by omega
    obtain ⟨N0, hN0⟩ : ∃ N : Nat, 5 + (d0 : Int) = (N : Int) := ⟨5 + d0, by omega⟩
    have hN00 : 1 ≤ N0 := by omega
    have hN01 : N0 ≤ 7 := by omega
    have hN02 : (N0 : Int) ≤ 7 := by omega
    have hN03 : (0 : Int) ≤ (N0 : Int) := by omega
    have hwd : IntKind.i64.wrap (d0 : Int) = (d0 : Int) := IntWalk.i64_in _ (by omega)
    have hwN : IntKind.i64.wrap (N0 : Int) = (N0 : Int) := IntWalk.i64_in _ (by omega)
    have hzp1 := hgp.size
    have hzq1 : w3.drew.heap.size = w3.heap.size := rfl
    rw [hzq1] at hzp1
    have hco1 := (hgp.cell_far ⟨w2.heap.size, 0, none⟩ (by show w2.heap.size < w3.heap.size; omega) (by simp; omega)).trans hco
    have hcr1 := (hgp.cell_far ⟨w.heap.size, 0, none⟩ (by show w.heap.size < w3.heap.size; omega) (by simp)).trans hcr
    have hfr1 := (World.frozen?_of_block (a := ⟨w.heap.size, 0, none⟩) (hgp.block w.heap.size (by show w.heap.size < w3.heap.size; omega) (by simp))).trans hfr
    have HBq := Lib.hid (HB3.out.trans (Below.trans (Below.refl _ _).drew (S1.grown_below hgp (by omega) (by show w.heap.size ≤ w3.heap.size; omega))))
    have HAq := Lib.hid (iat_grown (w := w3.drew) (HA3.out.kept (Below.refl _ _).drew (Nat.le_refl _)) hgp (by omega))
    refine hK.out _ _ hco1 (fun hHeld => ?_)
    clear hK K hgp
    refine wpAnyH_take (i := 5) (v := .int .i64 (d0 : Int)) rfl (by kernel_rfl) (by kernel_rfl) (by kernel_rfl) (fun _ _ _ h => h) (Or.inl ⟨by rfl, ?_⟩) (by assumption) ?_
    · (intro w hSw; (try dsimp only at hSw); go_simp)
    simp only [Act.put]
    refine wpAnyH_take (i := 6) (v := .int .i64 (N0 : Int)) rfl (by kernel_rfl) (by kernel_rfl) (by kernel_rfl) (fun _ _ _ h => h) (Or.inl ⟨by rfl, ?_⟩) (by assumption) ?_
    · (intro w hSw; (try dsimp only at hSw); go_simp)
    simp only [Act.put]
    refine wpAnyH_ready (rs := [2]) (by kernel_rfl) (by simp) ?_
    refine AllReadyH.cons rfl (fun K hK => ?_) AllReadyH.nil
    go_simp
    refine hK.out _ _ (by first | assumption | go_keep) (fun hHeld => ?_)
    clear hK K
    obtain ⟨p0, hp0⟩ : ∃ p0, p0 = p1.alloc (.cells #[.int .i64 100, .int .i64 101, .int .i64 120, .int .i64 200, .int .i64 1000, .int .i64 99, .int .i64 1001] 3) := ⟨_, rfl⟩
    have hzp : p0.heap.size = p1.heap.size + 1 := by rw [hp0]; simp
    have hcop : p0.cell? ⟨w2.heap.size, 0, none⟩ = some (.slice (some ⟨b, off, none⟩) l.length c) := by rw [hp0]; exact (World.cell?_alloc_past (w := p1) (.cells #[.int .i64 100, .int .i64 101, .int .i64 120, .int .i64 200, .int .i64 1000, .int .i64 99, .int .i64 1001] 3) w2.heap.size 0 (by omega)).trans hco1
    have hcrp : p0.cell? ⟨w.heap.size, 0, none⟩ = some (.slice none 0 0) := by rw [hp0]; exact (World.cell?_alloc_past (w := p1) (.cells #[.int .i64 100, .int .i64 101, .int .i64 120, .int .i64 200, .int .i64 1000, .int .i64 99, .int .i64 1001] 3) w.heap.size 0 (by omega)).trans hcr1
    have hfrp : p0.frozen? ⟨w.heap.size, 0, none⟩ = false := by rw [hp0]; exact (World.frozen?_alloc_past (w := p1) (.cells #[.int .i64 100, .int .i64 101, .int .i64 120, .int .i64 200, .int .i64 1000, .int .i64 99, .int .i64 1001] 3) w.heap.size 0 (by omega)).trans hfr1
    have htj : S1.Ti p1.heap.size (([100, 101, 120, 200, 1000, 99, 1001] : List Int).take N0) p0 := by rw [hp0]; exact S1.ti_take (S1.ti_new p1 [100, 101, 120, 200, 1000, 99, 1001] 3) (show N0 ≤ ([100, 101, 120, 200, 1000, 99, 1001] : List Int).length by simp; omega)
    have HBp := Lib.hid (show Below w.heap.size w p0 by rw [hp0]; exact HBq.out.trans ((alloc_below p1 (.cells #[.int .i64 100, .int .i64 101, .int .i64 120, .int .i64 200, .int .i64 1000, .int .i64 99, .int .i64 1001] 3)).mono (by omega)))
    have HAp := Lib.hid (show IAt p0 (some ⟨b, off, none⟩) l by rw [hp0]; exact HAq.out.kept (alloc_below p1 (.cells #[.int .i64 100, .int .i64 101, .int .i64 120, .int .i64 200, .int .i64 1000, .int .i64 99, .int .i64 1001] 3)) (Nat.le_refl _))
    have hsp : S1.St (w.heap.size + 1) (w.heap.size + 1) a n cap (0 + 102) p0 := by rw [hp0]; exact S1.st_new hsp1 _
    have HP0 := Lib.hid hp0
    clear hp0 hsp1
    refine wpAnyH_take (i := 7) (v := .slice (some ⟨p1.heap.size, 0, none⟩) N0 7) rfl (by kernel_rfl) (by kernel_rfl) (by kernel_rfl) (fun _ _ _ h => h) (Or.inl ⟨by rfl, ?_⟩) (by assumption) ?_
    · (intro w hSw; (try dsimp only at hSw); go_simp)
    simp only [Act.put]
    refine wpAnyH_ready (rs := [8]) (by kernel_rfl) (by simp) ?_
    refine AllReadyH.cons rfl (fun K hK => ?_) AllReadyH.nil
    go_simp
    go_at_call 61
    rw [← HP0.out]
    refine (S1.among_any (w.heap.size + 1) (w.heap.size + 1) a n cap (0 + 102) p1.heap.size N0 7 (([100, 101, 120, 200, 1000, 99, 1001] : List Int).take N0) _ (by rw [List.length_take]; simp; omega) (by omega) (by rw [List.length_take]; simp; omega) (by rw [List.length_take]; simp; omega) hsp htj (by omega)).mono ?_
    rintro e w4 ⟨⟨z, rfl⟩, hs4, hg4⟩
    have hco4 := (hg4.cell_far ⟨w2.heap.size, 0, none⟩ (by show w2.heap.size < _; omega) (by simp; omega)).trans hcop
    have hcr4 := (hg4.cell_far ⟨w.heap.size, 0, none⟩ (by show w.heap.size < _; omega) (by simp)).trans hcrp
    have hfr4 := (World.frozen?_of_block (a := ⟨w.heap.size, 0, none⟩) (hg4.block w.heap.size (by omega) (by simp))).trans hfrp
    have HB4 := Lib.hid (HBp.out.trans (S1.grown_below hg4 (by omega) (by omega)))
    have HA4 := Lib.hid (iat_grown HAp.out hg4 (by omega))
    clear hs4 hg4
    refine hK.out _ _ (by exact hco4) (fun hHeld => ?_)
    clear hK K
    refine wpAnyH_ready (rs := [9]) (by kernel_rfl) (by simp) ?_
    refine AllReadyH.cons rfl (fun K hK => ?_) AllReadyH.nil
    go_simp
    refine hK.out _ _ ((World.cell?_setCell_far _ ⟨w.heap.size, 0, none⟩ _ _ (by show w.heap.size ≠ w2.heap.size; omega)).trans hco4) (fun hHeld => ?_)
    clear hK K
    refine wpAnyH_ready (rs := [10]) (by kernel_rfl) (by simp) ?_
    refine AllReadyH.cons rfl (fun K hK => ?_) AllReadyH.nil
    go_simp
    refine hK.out _ _ (by first | assumption | go_keep) (fun hHeld => ?_)
    clear hK K
    refine wpAnyH_done (by kernel_rfl) ?_ _
    go_wp2_with fail
    refine bodyPost_ret (v := .tuple #[dv (some ⟨b, off, none⟩) l.length c, .int .i64 z]) (by simp [results, Try.results22, go_sem, hcr4]) rfl ⟨⟨b, off, c, l, z, rfl, hl, ?_⟩, ?_⟩
    · exact far_iat HA4.out (by omega)
    · exact HB4.out.setCell (p := ⟨w.heap.size, 0, none⟩) (Nat.le_refl _) _
set_option maxHeartbeats 2000000 in
set_option maxRecDepth 100000 in
theorem dqui_any (a : Option Addr) (n cap : Nat) (w : World) (hc : S1.Cd w.heap.size a n w) (hn : n ≤ 65536) :
    Calls Try.prog 25 #[.slice a n cap] w fun e w' => (∃ b off c l z, e = .returned (.tuple #[dv (some ⟨b, off, none⟩) l.length c, .int .i64 z]) ∧ l.length ≤ 24 ∧ IAt w' (some ⟨b, off, none⟩) l) ∧ Below w.heap.size w w' := by
  have HS0 := Lib.hid (st_two cap hc hn)
  clear hc
  go_enter Try.func25, Try.ntmps25
  go_wp2_with fail
  refine (profile_any (w.heap.size + 1) (w.heap.size + 1) a n cap 0 _ (by omega) HS0.out (by simp)).mono ?_
  rintro e w2 ⟨⟨b, off, c, l, rfl, hb, hbl, hl, ha⟩, hs, hg⟩
  refine Hid.out ?_
  have HPB := Lib.hid (prof_box (c := c) hs hg hb hbl ha)
  obtain ⟨w3, hw3⟩ : ∃ w3, w3 = w2.alloc (.cells #[.slice (some ⟨b, off, none⟩) l.length c] 26) := ⟨_, rfl⟩
  rw [← hw3] at HPB
  obtain ⟨hs3, hB3, hco, hcr, hfr, ha3, hz2, hzb, hz3⟩ := HPB.out
  have hz3' : w2.heap.size < w3.heap.size := by omega
  have HS3 := Lib.hid hs3
  have HB3 := Lib.hid hB3
  have HA3 := Lib.hid ha3
  have HW3 := Lib.hid hw3
  clear hs hg hb ha HS0 HPB hs3 hB3 ha3 hw3 hz3
  refine Lib.hid ?_
  go_wp2_with fail
  rw [← HW3.out]
  refine wp_region_held_drew (S := fun w' => w'.cell? ⟨w2.heap.size, 0, none⟩ = some (.slice (some ⟨b, off, none⟩) l.length c)) (by kernel_rfl) (by exact hco) (fun hHeld => ?_)
  refine wpAnyH_take (i := 0) (v := .agg #[.slice (some ⟨b, off, none⟩) l.length c]) rfl (by kernel_rfl) (by kernel_rfl) (by kernel_rfl) (fun _ _ _ h => h) (Or.inl ⟨by rfl, ?_⟩) (by assumption) ?_
  · (intro w hSw; (try dsimp only at hSw); go_simp)
  simp only [Act.put, List.setIfInBounds_toArray]
  refine wpAnyH_take (i := 1) (v := .pointer (some ⟨w.heap.size + 1, 0, none⟩)) rfl (by kernel_rfl) (by kernel_rfl) (by kernel_rfl) (fun _ _ _ h => h) (Or.inl ⟨by rfl, ?_⟩) (by assumption) ?_
  · (intro w hSw; (try dsimp only at hSw); go_simp)
  simp only [Act.put]
  refine wpAnyH_take (i := 3) (v := .pointer (some ⟨w.heap.size + 1, 0, none⟩)) rfl (by kernel_rfl) (by kernel_rfl) (by kernel_rfl) (fun _ _ _ h => h) (Or.inl ⟨by rfl, ?_⟩) (by assumption) ?_
  · (intro w hSw; (try dsimp only at hSw); go_simp)
  simp only [Act.put]
  refine wpAnyH_ready (rs := [2, 4]) (by kernel_rfl) (by simp) ?_
  refine AllReadyH.cons rfl (fun K hK => ?_) (AllReadyH.cons rfl (fun K hK => ?_) AllReadyH.nil)
  · go_simp
    refine hK.out _ _ (by first | assumption | go_keep) (fun hHeld => ?_)
    clear hK K
    refine wpAnyH_ready (rs := [4]) (by kernel_rfl) (by simp) ?_
    refine AllReadyH.cons rfl (fun K hK => ?_) AllReadyH.nil
    go_simp
    go_at_call 62
    refine (S1.pick_any (w.heap.size + 1) (w.heap.size + 1) a n cap (0 + 100) 24 (w3.alloc (.cells #[.int .i64 1, .int .i64 2, .int .i64 5, .int .i64 23, .int .i64 24, .int .i64 0, .int .i64 25] 3)).drew (by omega) (by omega) (by omega) ((S1.st_new HS3.out _).other (Below.refl _ _).drew)).mono ?_
    rintro e p0 ⟨r0, rfl, hr0, hr1, hsp, hgp⟩
    obtain ⟨t0, rfl⟩ : ∃ t : Nat, r0 = (t : Int) := ⟨r0.toNat, by omega⟩
    obtain ⟨d0, hd0⟩ : ∃ d : Nat, (t0 : Int) / 11 = (d : Int) := ⟨t0 / 11, by omega⟩
    have hdt : (t0 : Int).tdiv 11 = (d0 : Int) := by rw [Int.tdiv_eq_ediv_of_nonneg (by omega)]; exact hd0
    have hd02 : d0 ≤ 2 := by omega
    obtain ⟨N0, hN0⟩ : ∃ N : Nat, 5 + (d0 : Int) = (N : Int) := ⟨5 + d0, by omega⟩
    have hN00 : 1 ≤ N0 := by omega
    have hN01 : N0 ≤ 7 := by omega
    have hN02 : (N0 : Int) ≤ 7 := by omega
    have hN03 : (0 : Int) ≤ (N0 : Int) := by omega
    have hwd : IntKind.i64.wrap (d0 : Int) = (d0 : Int) := IntWalk.i64_in _ (by omega)
    have hwN : IntKind.i64.wrap (N0 : Int) = (N0 : Int) := IntWalk.i64_in _ (by omega)
    have hzp := hgp.size
    have hzq : ((w3.alloc (.cells #[.int .i64 1, .int .i64 2, .int .i64 5, .int .i64 23, .int .i64 24, .int .i64 0, .int .i64 25] 3)).drew).heap.size = w3.heap.size + 1 := by show (w3.alloc _).heap.size = _; simp
    rw [hzq] at hzp
    have hcop := (hgp.cell_far ⟨w2.heap.size, 0, none⟩ (by show w2.heap.size < ((w3.alloc (.cells #[.int .i64 1, .int .i64 2, .int .i64 5, .int .i64 23, .int .i64 24, .int .i64 0, .int .i64 25] 3)).drew).heap.size; omega) (by simp; omega)).trans ((World.cell?_alloc_past (w := w3) (.cells #[.int .i64 1, .int .i64 2, .int .i64 5, .int .i64 23, .int .i64 24, .int .i64 0, .int .i64 25] 3) w2.heap.size 0 (by omega)).trans hco)
    have hcrp := (hgp.cell_far ⟨w.heap.size, 0, none⟩ (by show w.heap.size < ((w3.alloc (.cells #[.int .i64 1, .int .i64 2, .int .i64 5, .int .i64 23, .int .i64 24, .int .i64 0, .int .i64 25] 3)).drew).heap.size; omega) (by simp)).trans ((World.cell?_alloc_past (w := w3) (.cells #[.int .i64 1, .int .i64 2, .int .i64 5, .int .i64 23, .int .i64 24, .int .i64 0, .int .i64 25] 3) w.heap.size 0 (by omega)).trans hcr)
    have hfrp := (World.frozen?_of_block (a := ⟨w.heap.size, 0, none⟩) (hgp.block w.heap.size (by omega) (by simp))).trans ((World.frozen?_alloc_past (w := w3) (.cells #[.int .i64 1, .int .i64 2, .int .i64 5, .int .i64 23, .int .i64 24, .int .i64 0, .int .i64 25] 3) w.heap.size 0 (by omega)).trans hfr)
    have hti : S1.Ti w3.heap.size [1, 2, 5, 23, 24, 0, 25] (w3.alloc (.cells #[.int .i64 1, .int .i64 2, .int .i64 5, .int .i64 23, .int .i64 24, .int .i64 0, .int .i64 25] 3)) := S1.ti_new w3 [1, 2, 5, 23, 24, 0, 25] 3
    have htj := S1.ti_take (S1.ti_grown (w := (w3.alloc (.cells #[.int .i64 1, .int .i64 2, .int .i64 5, .int .i64 23, .int .i64 24, .int .i64 0, .int .i64 25] 3)).drew) (fun j hj => hti j hj) hgp (by omega)) (show N0 ≤ ([1, 2, 5, 23, 24, 0, 25] : List Int).length by simp; omega)
    have HBp := Lib.hid (HB3.out.trans (Below.trans (((alloc_below w3 (.cells #[.int .i64 1, .int .i64 2, .int .i64 5, .int .i64 23, .int .i64 24, .int .i64 0, .int .i64 25] 3)).drew).mono (by omega)) (S1.grown_below hgp (by omega) (by omega))))
    have HAp := Lib.hid (iat_grown (w := (w3.alloc (.cells #[.int .i64 1, .int .i64 2, .int .i64 5, .int .i64 23, .int .i64 24, .int .i64 0, .int .i64 25] 3)).drew) (HA3.out.kept (alloc_below w3 (.cells #[.int .i64 1, .int .i64 2, .int .i64 5, .int .i64 23, .int .i64 24, .int .i64 0, .int .i64 25] 3)).drew (Nat.le_refl _)) hgp (by omega))
    refine hK.out _ _ hcop (fun hHeld => ?_)
    clear hK K hgp
    refine wpAnyH_take (i := 5) (v := .int .i64 (d0 : Int)) rfl (by kernel_rfl) (by kernel_rfl) (by kernel_rfl) (fun _ _ _ h => h) (Or.inl ⟨by rfl, ?_⟩) (by assumption) ?_
    · (intro w hSw; (try dsimp only at hSw); go_simp)
    simp only [Act.put]
    refine wpAnyH_take (i := 6) (v := .int .i64 (N0 : Int)) rfl (by kernel_rfl) (by kernel_rfl) (by kernel_rfl) (fun _ _ _ h => h) (Or.inl ⟨by rfl, ?_⟩) (by assumption) ?_
    · (intro w hSw; (try dsimp only at hSw); go_simp)
    simp only [Act.put]
    refine wpAnyH_take (i := 7) (v := .slice (some ⟨w3.heap.size, 0, none⟩) N0 7) rfl (by kernel_rfl) (by kernel_rfl) (by kernel_rfl) (fun _ _ _ h => h) (Or.inl ⟨by rfl, ?_⟩) (by assumption) ?_
    · (intro w hSw; (try dsimp only at hSw); go_simp)
    simp only [Act.put]
    refine wpAnyH_ready (rs := [8]) (by kernel_rfl) (by simp) ?_
    refine AllReadyH.cons rfl (fun K hK => ?_) AllReadyH.nil
    go_simp
    go_at_call 61
    refine (S1.among_any (w.heap.size + 1) (w.heap.size + 1) a n cap (0 + 102) w3.heap.size N0 7 (([1, 2, 5, 23, 24, 0, 25] : List Int).take N0) _ (by rw [List.length_take]; simp; omega) (by omega) (by rw [List.length_take]; simp; omega) (by rw [List.length_take]; simp; omega) hsp htj (by omega)).mono ?_
    rintro e w4 ⟨⟨z, rfl⟩, hs4, hg4⟩
    have hco4 := (hg4.cell_far ⟨w2.heap.size, 0, none⟩ (by show w2.heap.size < _; omega) (by simp; omega)).trans hcop
    have hcr4 := (hg4.cell_far ⟨w.heap.size, 0, none⟩ (by show w.heap.size < _; omega) (by simp)).trans hcrp
    have hfr4 := (World.frozen?_of_block (a := ⟨w.heap.size, 0, none⟩) (hg4.block w.heap.size (by omega) (by simp))).trans hfrp
    have HB4 := Lib.hid (HBp.out.trans (S1.grown_below hg4 (by omega) (by omega)))
    have HA4 := Lib.hid (iat_grown HAp.out hg4 (by omega))
    clear hs4 hg4
    refine hK.out _ _ (by exact hco4) (fun hHeld => ?_)
    clear hK K
    refine wpAnyH_ready (rs := [9]) (by kernel_rfl) (by simp) ?_
    refine AllReadyH.cons rfl (fun K hK => ?_) AllReadyH.nil
    go_simp
    refine hK.out _ _ ((World.cell?_setCell_far _ ⟨w.heap.size, 0, none⟩ _ _ (by show w.heap.size ≠ w2.heap.size; omega)).trans hco4) (fun hHeld => ?_)
    clear hK K
    refine wpAnyH_ready (rs := [10]) (by kernel_rfl) (by simp) ?_
    refine AllReadyH.cons rfl (fun K hK => ?_) AllReadyH.nil
    go_simp
    refine hK.out _ _ (by first | assumption | go_keep) (fun hHeld => ?_)
    clear hK K
    refine wpAnyH_done (by kernel_rfl) ?_ _
    go_wp2_with fail
    refine bodyPost_ret (v := .tuple #[dv (some ⟨b, off, none⟩) l.length c, .int .i64 z]) (by simp [results, Try.results25, go_sem, hcr4]) rfl ⟨⟨b, off, c, l, z, rfl, hl, ?_⟩, ?_⟩
    · exact far_iat HA4.out (by omega)
    · exact HB4.out.setCell (p := ⟨w.heap.size, 0, none⟩) (Nat.le_refl _) _
  · go_simp
    go_at_call 62
    refine (S1.pick_any (w.heap.size + 1) (w.heap.size + 1) a n cap (0 + 100) 24 w3.drew (by omega) (by omega) (by omega) (HS3.out.other (Below.refl _ _).drew)).mono ?_
    rintro e p1 ⟨r0, rfl, hr0, hr1, hsp1, hgp⟩
    obtain ⟨t0, rfl⟩ : ∃ t : Nat, r0 = (t : Int) := ⟨r0.toNat, by omega⟩
    obtain ⟨d0, hd0⟩ : ∃ d : Nat, (t0 : Int) / 11 = (d : Int) := ⟨t0 / 11, by omega⟩
    have hdt : (t0 : Int).tdiv 11 = (d0 : Int) := by rw [Int.tdiv_eq_ediv_of_nonneg (by omega)]; exact hd0
    have hd02 : d0 ≤ 2 := by omega
    obtain ⟨N0, hN0⟩ : ∃ N : Nat, 5 + (d0 : Int) = (N : Int) := ⟨5 + d0, by omega⟩
    have hN00 : 1 ≤ N0 := by omega
    have hN01 : N0 ≤ 7 := by omega
    have hN02 : (N0 : Int) ≤ 7 := by omega
    have hN03 : (0 : Int) ≤ (N0 : Int) := by omega
    have hwd : IntKind.i64.wrap (d0 : Int) = (d0 : Int) := IntWalk.i64_in _ (by omega)
    have hwN : IntKind.i64.wrap (N0 : Int) = (N0 : Int) := IntWalk.i64_in _ (by omega)
    have hzp1 := hgp.size
    have hzq1 : w3.drew.heap.size = w3.heap.size := rfl
    rw [hzq1] at hzp1
    have hco1 := (hgp.cell_far ⟨w2.heap.size, 0, none⟩ (by show w2.heap.size < w3.heap.size; omega) (by simp; omega)).trans hco
    have hcr1 := (hgp.cell_far ⟨w.heap.size, 0, none⟩ (by show w.heap.size < w3.heap.size; omega) (by simp)).trans hcr
    have hfr1 := (World.frozen?_of_block (a := ⟨w.heap.size, 0, none⟩) (hgp.block w.heap.size (by show w.heap.size < w3.heap.size; omega) (by simp))).trans hfr
    have HBq := Lib.hid (HB3.out.trans (Below.trans (Below.refl _ _).drew (S1.grown_below hgp (by omega) (by show w.heap.size ≤ w3.heap.size; omega))))
    have HAq := Lib.hid (iat_grown (w := w3.drew) (HA3.out.kept (Below.refl _ _).drew (Nat.le_refl _)) hgp (by omega))
    refine hK.out _ _ hco1 (fun hHeld => ?_)
    clear hK K hgp
    refine wpAnyH_take (i := 5) (v := .int .i64 (d0 : Int)) rfl (by kernel_rfl) (by kernel_rfl) (by kernel_rfl) (fun _ _ _ h => h) (Or.inl ⟨by rfl, ?_⟩) (by assumption) ?_
    · (intro w hSw; (try dsimp only at hSw); go_simp)
    simp only [Act.put]
    refine wpAnyH_take (i := 6) (v := .int .i64 (N0 : Int)) rfl (by kernel_rfl) (by kernel_rfl) (by kernel_rfl) (fun _ _ _ h => h) (Or.inl ⟨by rfl, ?_⟩) (by assumption) ?_
    · (intro w hSw; (try dsimp only at hSw); go_simp)
    simp only [Act.put]
    refine wpAnyH_ready (rs := [2]) (by kernel_rfl) (by simp) ?_
    refine AllReadyH.cons rfl (fun K hK => ?_) AllReadyH.nil
    go_simp
    refine hK.out _ _ (by first | assumption | go_keep) (fun hHeld => ?_)
    clear hK K
    obtain ⟨p0, hp0⟩ : ∃ p0, p0 = p1.alloc (.cells #[.int .i64 1, .int .i64 2, .int .i64 5, .int .i64 23, .int .i64 24, .int .i64 0, .int .i64 25] 3) := ⟨_, rfl⟩
    have hzp : p0.heap.size = p1.heap.size + 1 := by rw [hp0]; simp
    have hcop : p0.cell? ⟨w2.heap.size, 0, none⟩ = some (.slice (some ⟨b, off, none⟩) l.length c) := by rw [hp0]; exact (World.cell?_alloc_past (w := p1) (.cells #[.int .i64 1, .int .i64 2, .int .i64 5, .int .i64 23, .int .i64 24, .int .i64 0, .int .i64 25] 3) w2.heap.size 0 (by omega)).trans hco1
    have hcrp : p0.cell? ⟨w.heap.size, 0, none⟩ = some (.slice none 0 0) := by rw [hp0]; exact (World.cell?_alloc_past (w := p1) (.cells #[.int .i64 1, .int .i64 2, .int .i64 5, .int .i64 23, .int .i64 24, .int .i64 0, .int .i64 25] 3) w.heap.size 0 (by omega)).trans hcr1
    have hfrp : p0.frozen? ⟨w.heap.size, 0, none⟩ = false := by rw [hp0]; exact (World.frozen?_alloc_past (w := p1) (.cells #[.int .i64 1, .int .i64 2, .int .i64 5, .int .i64 23, .int .i64 24, .int .i64 0, .int .i64 25] 3) w.heap.size 0 (by omega)).trans hfr1
    have htj : S1.Ti p1.heap.size (([1, 2, 5, 23, 24, 0, 25] : List Int).take N0) p0 := by rw [hp0]; exact S1.ti_take (S1.ti_new p1 [1, 2, 5, 23, 24, 0, 25] 3) (show N0 ≤ ([1, 2, 5, 23, 24, 0, 25] : List Int).length by simp; omega)
    have HBp := Lib.hid (show Below w.heap.size w p0 by rw [hp0]; exact HBq.out.trans ((alloc_below p1 (.cells #[.int .i64 1, .int .i64 2, .int .i64 5, .int .i64 23, .int .i64 24, .int .i64 0, .int .i64 25] 3)).mono (by omega)))
    have HAp := Lib.hid (show IAt p0 (some ⟨b, off, none⟩) l by rw [hp0]; exact HAq.out.kept (alloc_below p1 (.cells #[.int .i64 1, .int .i64 2, .int .i64 5, .int .i64 23, .int .i64 24, .int .i64 0, .int .i64 25] 3)) (Nat.le_refl _))
    have hsp : S1.St (w.heap.size + 1) (w.heap.size + 1) a n cap (0 + 102) p0 := by rw [hp0]; exact S1.st_new hsp1 _
    have HP0 := Lib.hid hp0
    clear hp0 hsp1
    refine wpAnyH_take (i := 7) (v := .slice (some ⟨p1.heap.size, 0, none⟩) N0 7) rfl (by kernel_rfl) (by kernel_rfl) (by kernel_rfl) (fun _ _ _ h => h) (Or.inl ⟨by rfl, ?_⟩) (by assumption) ?_
    · (intro w hSw; (try dsimp only at hSw); go_simp)
    simp only [Act.put]
    refine wpAnyH_ready (rs := [8]) (by kernel_rfl) (by simp) ?_
    refine AllReadyH.cons rfl (fun K hK => ?_) AllReadyH.nil
    go_simp
    go_at_call 61
    rw [← HP0.out]
    refine (S1.among_any (w.heap.size + 1) (w.heap.size + 1) a n cap (0 + 102) p1.heap.size N0 7 (([1, 2, 5, 23, 24, 0, 25] : List Int).take N0) _ (by rw [List.length_take]; simp; omega) (by omega) (by rw [List.length_take]; simp; omega) (by rw [List.length_take]; simp; omega) hsp htj (by omega)).mono ?_
    rintro e w4 ⟨⟨z, rfl⟩, hs4, hg4⟩
    have hco4 := (hg4.cell_far ⟨w2.heap.size, 0, none⟩ (by show w2.heap.size < _; omega) (by simp; omega)).trans hcop
    have hcr4 := (hg4.cell_far ⟨w.heap.size, 0, none⟩ (by show w.heap.size < _; omega) (by simp)).trans hcrp
    have hfr4 := (World.frozen?_of_block (a := ⟨w.heap.size, 0, none⟩) (hg4.block w.heap.size (by omega) (by simp))).trans hfrp
    have HB4 := Lib.hid (HBp.out.trans (S1.grown_below hg4 (by omega) (by omega)))
    have HA4 := Lib.hid (iat_grown HAp.out hg4 (by omega))
    clear hs4 hg4
    refine hK.out _ _ (by exact hco4) (fun hHeld => ?_)
    clear hK K
    refine wpAnyH_ready (rs := [9]) (by kernel_rfl) (by simp) ?_
    refine AllReadyH.cons rfl (fun K hK => ?_) AllReadyH.nil
    go_simp
    refine hK.out _ _ ((World.cell?_setCell_far _ ⟨w.heap.size, 0, none⟩ _ _ (by show w.heap.size ≠ w2.heap.size; omega)).trans hco4) (fun hHeld => ?_)
    clear hK K
    refine wpAnyH_ready (rs := [10]) (by kernel_rfl) (by simp) ?_
    refine AllReadyH.cons rfl (fun K hK => ?_) AllReadyH.nil
    go_simp
    refine hK.out _ _ (by first | assumption | go_keep) (fun hHeld => ?_)
    clear hK K
    refine wpAnyH_done (by kernel_rfl) ?_ _
    go_wp2_with fail
    refine bodyPost_ret (v := .tuple #[dv (some ⟨b, off, none⟩) l.length c, .int .i64 z]) (by simp [results, Try.results25, go_sem, hcr4]) rfl ⟨⟨b, off, c, l, z, rfl, hl, ?_⟩, ?_⟩
    · exact far_iat HA4.out (by omega)
    · exact HB4.out.setCell (p := ⟨w.heap.size, 0, none⟩) (Nat.le_refl _) _
set_option maxHeartbeats 2000000 in
set_option maxRecDepth 100000 in
theorem dprof_any (a : Option Addr) (n cap : Nat) (w : World) (hc : S1.Cd w.heap.size a n w) (hn : n ≤ 65536) :
    Calls Try.prog 70 #[.slice a n cap] w fun e w' => (∃ b off c l, e = .returned (dv (some ⟨b, off, none⟩) l.length c) ∧ w.heap.size ≤ b ∧ l.length ≤ 24 ∧ IAt w' (some ⟨b, off, none⟩) l) ∧ Below w.heap.size w w' := by
  have HS0 := Lib.hid (st_two cap hc hn)
  clear hc
  go_enter Try.func70, Try.ntmps70
  go_wp2_with fail
  refine (profile_any (w.heap.size + 1) (w.heap.size + 1) a n cap 0 _ (by omega) HS0.out (by simp)).mono ?_
  rintro e w2 ⟨⟨b, off, c, l, rfl, hb, hbl, hl, ha⟩, hs, hg⟩
  refine Hid.out ?_
  have hz := hg.size
  simp at hz hb
  have hcr : w2.cell? ⟨w.heap.size, 0, none⟩ = some (.slice none 0 0) := by
    rw [hg.cell_far ⟨w.heap.size, 0, none⟩ (by show w.heap.size < _; simp; omega) (by simp), World.cell?_alloc_past (w := w.alloc _) _ _ _ (by simp)]; exact box_at
  have hfr : w2.frozen? ⟨w.heap.size, 0, none⟩ = false := by
    rw [World.frozen?_of_block (a := ⟨w.heap.size, 0, none⟩) (hg.block w.heap.size (by simp; omega) (by simp)), World.frozen?_alloc_past (w := w.alloc _) _ _ _ (by simp)]; simp
  have HB := Lib.hid ((two_below w _ _).trans (S1.grown_below hg (by omega) (by simp; omega)))
  have HA := Lib.hid ha
  clear hs hg ha HS0
  refine Lib.hid ?_
  go_wp2_with fail
  refine bodyPost_ret (v := dv (some ⟨b, off, none⟩) l.length c) (by simp [results, Try.results70, go_sem, hcr]) rfl ⟨⟨b, off, c, l, rfl, by omega, hl, ?_⟩, ?_⟩
  · exact far_iat HA.out (by omega)
  · exact HB.out.setCell (p := ⟨w.heap.size, 0, none⟩) (Nat.le_refl _) _
theorem dpeak_any (a : Option Addr) (n cap : Nat) (w : World) (hc : S1.Cd w.heap.size a n w) (hn : n ≤ 65536) :
    Calls Try.prog 28 #[.slice a n cap] w fun e w' => (∃ b off c l, e = .returned (dv (some ⟨b, off, none⟩) l.length c) ∧ w.heap.size ≤ b ∧ l.length ≤ 24 ∧ IAt w' (some ⟨b, off, none⟩) l) ∧ Below w.heap.size w w' := by
  have HC := Lib.hid (hc.later (alloc_below w (.cells #[.slice none 0 0] 26)) (Nat.le_refl _))
  clear hc
  go_enter Try.func28, Try.ntmps28
  go_wp2_with fail
  refine (dprof_any a n cap _ HC.out hn).mono ?_
  rintro e w2 ⟨⟨b, off, c, l, rfl, hgb, hl, ha⟩, hb⟩
  simp at hgb
  refine Hid.out ?_
  have hb' : Below (w.heap.size + 1) (w.alloc (.cells #[.slice none 0 0] 26)) w2 := by simpa using hb
  have hcr := box1 hb'
  have hfr : w2.frozen? ⟨w.heap.size, 0, none⟩ = false := by
    rw [hb'.frozen (p := ⟨w.heap.size, 0, none⟩) (by show w.heap.size < w.heap.size + 1; omega)]; simp
  have HB := Lib.hid (below_box hb')
  have HA := Lib.hid ha
  clear hb ha hb'
  refine Lib.hid ?_
  go_wp2_with fail
  refine bodyPost_ret (v := dv (some ⟨b, off, none⟩) l.length c) (by simp [results, Try.results28, go_sem, hcr]) rfl ⟨⟨b, off, c, l, rfl, by omega, hl, ?_⟩, ?_⟩
  · exact far_iat HA.out (by omega)
  · exact HB.out.setCell (p := ⟨w.heap.size, 0, none⟩) (Nat.le_refl _) _
end Go.Proofs.Ytkgkeohnnpkahaa.S6
