/- The network and the two nodes that the law of ShortestWay draws: contracts. Conditions: each theorem's own premises. -/
import Derived.Test.YtgjogjmfpbinfaaKD
import Derived.Deep.DeepCutAuto
namespace Go.Proofs.Ytgjogjmfpbinfaa.S2
open Go.RowKit Go.Sort P2

set_option maxHeartbeats 4000000 in
set_option maxRecDepth 100000 in
theorem dshort_any (a : Option Addr) (n cap : Nat) (w : World) (h : S1.Cd w.heap.size a n w) (hn : n ≤ 65536) :
    Calls Try.prog 96 #[.slice a n cap] w fun e w' => ∃ N A c ps z y, e = .returned (.tuple #[nv N A ps.length c, .int .i64 z, .int .i64 y]) ∧ DNet (w.heap.size + 1) w' N A c ps ∧ Below w.heap.size w w' := by
  have HST := Lib.hid (cur_start cap (nb 0 none 0 0) h hn)
  clear h
  go_enter Try.func96, Try.ntmps96
  refine Hid.out ?_
  refine Lib.hid ?_
  go_wp2_with (first | (go_at_call 196; refine (anynet_any (w.heap.size + 1) (w.heap.size + 1) a n cap 0 _ (by omega) HST.out (by simp)).mono ?_; rintro e w1 hpost; obtain ⟨N, A, c, ps, rfl, hd, hs, hg⟩ := DNet.of hpost; refine Hid.out ?_) | fail)
  have HT := Lib.hid (((TN.made w (.int .i64 0) (.slice none 0 0)).below (alloc_below _ _)).grown hg (by omega))
  have hz1 : w.heap.size + 2 ≤ w1.heap.size := by have := hg.size; simp at this; omega
  have hD1 := Lib.hid (hd.low (show w.heap.size + 2 ≤ ((w.alloc (nb 0 none 0 0)).alloc (.cells #[.slice a n cap, .int .i64 0, .int .u64 0] 129)).heap.size by simp))
  have hN9 : N ≤ 1000000 := by have := hd.n9; omega
  have hgr := Lib.hid hg
  have hs2 := Lib.hid (S1.st_new hs (nb N A ps.length c))
  have hg2 := Lib.hid (World.grownBy_alloc w1 (nb N A ps.length c) (some (w.heap.size + 1)))
  have hT2 := Lib.hid (HT.out.below (alloc_below w1 (nb N A ps.length c)))
  have hD2 := Lib.hid (hD1.out.on (alloc_below w1 (nb N A ps.length c)))
  have hX2 := Lib.hid (TN.made w1 (.int .i64 N) (.slice A ps.length c))
  have hzW : (w1.alloc (nb N A ps.length c)).heap.size = w1.heap.size + 1 := by simp
  clear hd hs hg HT hD1
  refine Lib.hid ?_
  go_upto_region 3 with (fail)
  obtain ⟨wa, hwa⟩ : ∃ wa, w1.alloc (nb N A ps.length c) = wa := ⟨_, rfl⟩
  rw [hwa] at hs2 hg2 hT2 hD2 hX2 hzW ⊢
  have hza : w1.heap.size < wa.heap.size := by omega
  have hgra := Lib.hid (S1.grown_trans hgr.out hg2.out)
  clear hwa hgr hg2 hzW
  obtain ⟨c0, c1⟩ := hX2.out.cell
  obtain ⟨r0, r1⟩ := hT2.out.cell
  have hRf := hT2.out.frozen
  have hRz := hT2.out.lt
  refine wp_region_held_drew (S := fun w' => w'.cell? ⟨w1.heap.size, 0, none⟩ = some (.int .i64 N) ∧ w'.cell? ⟨w1.heap.size, 1, none⟩ = some (.slice A ps.length c)) (by kernel_rfl) (by exact ⟨c0, c1⟩) (fun hHeld => ?_)
  refine wpAnyH_take (i := 0) (v := .agg #[.int .i64 N, .slice A ps.length c]) rfl (by kernel_rfl) (by kernel_rfl) (by kernel_rfl) (fun _ _ _ h => h) (Or.inl ⟨by kernel_rfl, ?_⟩) (by assumption) ?_
  · (intro w hSw; (try dsimp only at hSw); go_simp)
  simp only [Act.put, List.setIfInBounds_toArray]
  refine wpAnyH_take (i := 1) (v := .pointer (some ⟨w.heap.size + 1, 0, none⟩)) rfl (by kernel_rfl) (by kernel_rfl) (by kernel_rfl) (fun _ _ _ h => h) (Or.inl ⟨by kernel_rfl, ?_⟩) (by assumption) ?_
  · (intro w hSw; (try dsimp only at hSw); go_simp)
  simp only [Act.put]
  refine wpAnyH_take (i := 2) (v := .agg #[.int .i64 N, .slice A ps.length c]) rfl (by kernel_rfl) (by kernel_rfl) (by kernel_rfl) (fun _ _ _ h => h) (Or.inl ⟨by kernel_rfl, ?_⟩) (by assumption) ?_
  · (intro w hSw; (try dsimp only at hSw); go_simp)
  simp only [Act.put]
  refine wpAnyH_take (i := 4) (v := .pointer (some ⟨w.heap.size + 1, 0, none⟩)) rfl (by kernel_rfl) (by kernel_rfl) (by kernel_rfl) (fun _ _ _ h => h) (Or.inl ⟨by kernel_rfl, ?_⟩) (by assumption) ?_
  · (intro w hSw; (try dsimp only at hSw); go_simp)
  simp only [Act.put]
  refine wpAnyH_take (i := 5) (v := .agg #[.int .i64 N, .slice A ps.length c]) rfl (by kernel_rfl) (by kernel_rfl) (by kernel_rfl) (fun _ _ _ h => h) (Or.inl ⟨by kernel_rfl, ?_⟩) (by assumption) ?_
  · (intro w hSw; (try dsimp only at hSw); go_simp)
  simp only [Act.put]
  refine wpAnyH_ready (rs := [3]) (by kernel_rfl) (by simp) ?_
  refine AllReadyH.cons rfl (fun K hK => ?_) AllReadyH.nil
  go_simp
  go_at_call 153
  refine (node_draw (w.heap.size + 1) (w.heap.size + 1) a n cap (0 + 400) N A ps.length c _ (by omega) hN9 (S1.St.other hs2.out (Below.refl _ _).drew)).mono ?_
  rintro e w2 ⟨⟨z, rfl⟩, hs3, hg3⟩
  have hg3' : wa.grownBy w2 (some (w.heap.size + 1)) := ⟨hg3.os, hg3.tape, hg3.output, hg3.size, hg3.block⟩
  have hX3 := Lib.hid (hX2.out.grown hg3' (by omega))
  have hT3 := Lib.hid (hT2.out.grown hg3' (by omega))
  have hD3 := Lib.hid (hD2.out.grown hg3' (by omega))
  have hG3 := Lib.hid (S1.grown_trans hgra.out hg3')
  have HS3 := Lib.hid hs3
  clear hg3 hg3' hs3
  obtain ⟨x30, x31⟩ := hX3.out.cell
  obtain ⟨s30, s31⟩ := hT3.out.cell
  have sf3 := hT3.out.frozen
  have sz3 := hT3.out.lt
  refine hK.out _ _ (by exact ⟨x30, x31⟩) (fun hHeld => ?_)
  clear hK K
  clear x30 x31 s30 s31 sf3 sz3 c0 c1 r0 r1 hRf hRz
  refine wpAnyH_ready (rs := [6]) (by kernel_rfl) (by simp) ?_
  refine AllReadyH.cons rfl (fun K hK => ?_) AllReadyH.nil
  go_simp
  go_at_call 153
  refine (node_draw (w.heap.size + 1) (w.heap.size + 1) a n cap (0 + 400 + 4) N A ps.length c _ (by omega) hN9 (HS3.out)).mono ?_
  rintro e w3 ⟨⟨y, rfl⟩, hs4, hg4⟩
  have hg4' := hg4
  have hX4 := Lib.hid (hX3.out.grown hg4' (by omega))
  have hT4 := Lib.hid (hT3.out.grown hg4' (by omega))
  have hD4 := Lib.hid (hD3.out.grown hg4' (by omega))
  have hG4 := Lib.hid (S1.grown_trans hG3.out hg4')
  have HS4 := Lib.hid hs4
  clear hg4 hg4' hs4
  obtain ⟨x40, x41⟩ := hX4.out.cell
  obtain ⟨s40, s41⟩ := hT4.out.cell
  have sf4 := hT4.out.frozen
  have sz4 := hT4.out.lt
  refine hK.out _ _ (by exact ⟨x40, x41⟩) (fun hHeld => ?_)
  clear hK K
  have hD := Lib.hid (((hD4.out.low (show w.heap.size + 1 ≤ w.heap.size + 2 by omega)).set w.heap.size 0 (.int .i64 N) (by omega)).set w.heap.size 1 (.slice A ps.length c) (by omega))
  have hB := Lib.hid (((below2 hG4.out (by omega)).setCell (p := ⟨w.heap.size, 0, none⟩) (Nat.le_refl _) (.int .i64 N)).setCell (p := ⟨w.heap.size, 1, none⟩) (Nat.le_refl _) (.slice A ps.length c))
  refine wpAnyH_ready (rs := [7]) (by kernel_rfl) (by simp) ?_
  refine AllReadyH.cons rfl (fun K hK => ?_) AllReadyH.nil
  go_simp
  refine hK.out _ _ (by first | assumption | go_keep | exact (((hX4.out.other (p := ⟨w.heap.size, 0, none⟩) (.int .i64 N) (by show w1.heap.size ≠ w.heap.size; omega)).other (p := ⟨w.heap.size, 1, none⟩) (.slice A ps.length c) (by show w1.heap.size ≠ w.heap.size; omega)).cell)) (fun hHeld => ?_)
  clear hK K
  refine wpAnyH_ready (rs := [8]) (by kernel_rfl) (by simp) ?_
  refine AllReadyH.cons rfl (fun K hK => ?_) AllReadyH.nil
  go_simp
  refine hK.out _ _ (by first | assumption | go_keep | exact (((hX4.out.other (p := ⟨w.heap.size, 0, none⟩) (.int .i64 N) (by show w1.heap.size ≠ w.heap.size; omega)).other (p := ⟨w.heap.size, 1, none⟩) (.slice A ps.length c) (by show w1.heap.size ≠ w.heap.size; omega)).cell)) (fun hHeld => ?_)
  clear hK K
  refine wpAnyH_ready (rs := [9]) (by kernel_rfl) (by simp) ?_
  refine AllReadyH.cons rfl (fun K hK => ?_) AllReadyH.nil
  go_simp
  refine hK.out _ _ (by first | assumption | go_keep | exact (((hX4.out.other (p := ⟨w.heap.size, 0, none⟩) (.int .i64 N) (by show w1.heap.size ≠ w.heap.size; omega)).other (p := ⟨w.heap.size, 1, none⟩) (.slice A ps.length c) (by show w1.heap.size ≠ w.heap.size; omega)).cell)) (fun hHeld => ?_)
  clear hK K
  refine wpAnyH_done (by kernel_rfl) ?_ _
  clear hHeld
  go_wp2_with fail
  refine bodyPost_ret (v := .tuple #[nv N A ps.length c, .int .i64 z, .int .i64 y]) (by simp [results, Try.results96, go_sem, s40, s41]) rfl ⟨N, A, c, ps, z, y, rfl, hD.out, hB.out⟩
end Go.Proofs.Ytgjogjmfpbinfaa.S2
