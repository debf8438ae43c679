/- SegmentOfPipe and SegmentOfNode of the program: contracts. Conditions: each theorem's own premises. -/
import Derived.Test.YtbljmibaemgfeaaSegTwo
import Derived.Test.YtbljmibaemgfeaaSIds
import Derived.Test.YtbljmibaemgfeaaLawKit
namespace Go.Proofs.Ytbljmibaemgfeaa.S2
open Go.RowKit Go.Sort P2 P4

theorem gives2_none {w w0 : World} (h : Below w0.heap.size w0 w) : GivesI2 w0 [] [] false (.returned (.tuple #[.slice (some ⟨w.heap.size, 0, none⟩) 0 0, .slice (some ⟨w.heap.size + 1, 0, none⟩) 0 0, .bool false])) ((w.alloc (.cells #[] 3)).alloc (.cells #[] 3)) := by
  have hz := h.size
  refine ⟨_, _, _, _, rfl, hz, by omega, by omega, (own_empty w w0.heap.size hz).on ((Below.refl _ _).alloc (Nat.le_refl _) _), ?_, (h.alloc hz _).alloc (by simp; omega) _⟩
  have h2 := own_empty (w.alloc (.cells #[] 3)) w0.heap.size (by simp; omega)
  simpa using h2

set_option maxHeartbeats 4000000 in
set_option maxRecDepth 100000 in
theorem segofp_no (n : Int) (A : Option Addr) (cap : Nat) (ps : List Pp) (AV : Option Addr) (capv : Nat) (vs : List Vv) (x : Int) (w : World) (hs : ∀ w', Below w.heap.size w w' → Calls Try.prog 121 #[nv n A ps.length cap, .slice AV vs.length capv, .int .i64 x] w' (GivesE w' es0 false)) :
    Calls Try.prog 56 #[nv n A ps.length cap, .slice AV vs.length capv, .int .i64 x] w (GivesI2 w [] [] false) := by
  have HS := Lib.hid hs
  clear hs
  go_enter Try.func56, Try.ntmps56
  go_wp2_with (first
    | (go_at_call 121; refine (HS.out _ ((Below.refl _ _).alloc (Nat.le_refl _) _)).mono ?_; rintro e w1 ⟨rfl, hb1⟩; have HB1 := Lib.hid (((Below.refl w.heap.size w).alloc (Nat.le_refl _) (.cells #[.int .i64 n, .slice A ps.length cap] 32)).trans (hb1.mono (by simp))); clear hb1)
    | ((with_reducible refine wpE_alloc rfl rfl ?_); intro w2 he2 hb2 hz2; have E2 := Lib.hid he2; have HB2 := Lib.hid (HB1.out.trans (hb2.mono HB1.out.size)); clear he2 hb2 hz2)
    | ((with_reducible refine wpE_store rfl _ _ rfl rfl w1.heap.size rfl es0 rfl es0 E2.out ?_); intro w3 he3 hg3 hz3; have HB3 := Lib.hid (HB2.out.grown hg3 HB2.out.size (fun g hg => by have := HB1.out.size; simp at hg; omega)); clear he3 hg3 hz3))
  go_ret3
  exact gives2_none HB3.out

set_option maxHeartbeats 8000000 in
set_option maxRecDepth 100000 in
theorem segofp_yes (N : Nat) (A : Option Addr) (cap : Nat) (ps : List Pp) (AV : Option Addr) (capv : Nat) (vs : List Vv) (x : Int) (s : Nat → Bool) (w : World) (h : PAt w A ps) (hg : P2.Good N ps) (hs : ∀ w', Below w.heap.size w w' → Calls Try.prog 121 #[nv N A ps.length cap, .slice AV vs.length capv, .int .i64 x] w' (GivesE w' s true)) :
    Calls Try.prog 56 #[nv N A ps.length cap, .slice AV vs.length capv, .int .i64 x] w (GivesI2 w (nodesL N s true) (pipesL ps ps.length s true) true) := by
  have HS := Lib.hid hs
  have HA := Lib.hid h
  have HG := Lib.hid hg
  clear hs h hg
  go_enter Try.func56, Try.ntmps56
  go_wp2_with (first
    | (go_at_call 121; refine (HS.out _ ((Below.refl _ _).alloc (Nat.le_refl _) _)).mono ?_; rintro e w1 ⟨rfl, hb1⟩; have HX1 := Lib.hid hb1; have HB1 := Lib.hid (((Below.refl w.heap.size w).alloc (Nat.le_refl _) (.cells #[.int .i64 (N : Int), .slice A ps.length cap] 32)).trans (hb1.mono (by simp))); clear hb1)
    | ((with_reducible refine wpE_alloc rfl rfl ?_); intro w2 he2 hb2 hz2; have E2 := Lib.hid he2; have HX2 := Lib.hid hb2; clear he2 hb2 hz2)
    | ((with_reducible refine wpE_store rfl _ _ rfl rfl w1.heap.size rfl s rfl es0 E2.out ?_); intro w3 he3 hg3 hz3; have E3 := Lib.hid he3; have HX3 := Lib.hid hg3; clear he3 hg3 hz3; refine Hid.out ?_))
  have hw1 : w.heap.size < w1.heap.size := by have := HX1.out.size; simp at this; omega
  have a0 := (HX1.out.cell (p := ⟨w.heap.size, 0, none⟩) (by simp)).trans (show (w.alloc (.cells #[.int .i64 (N : Int), .slice A ps.length cap] 32)).cell? ⟨w.heap.size, 0, none⟩ = some (.int .i64 (N : Int)) by go_simp)
  have a1 := (HX1.out.cell (p := ⟨w.heap.size, 1, none⟩) (by simp)).trans (show (w.alloc (.cells #[.int .i64 (N : Int), .slice A ps.length cap] 32)).cell? ⟨w.heap.size, 1, none⟩ = some (.slice A ps.length cap) by go_simp)
  have hz2 := HX2.out.size
  have hz3 := HX3.out.size
  have HX23 := Lib.hid (show Below w1.heap.size w1 w3 from HX2.out.grown HX3.out hz2 (fun g hg => by simp at hg; omega))
  have b0 := (HX23.out.cell (p := ⟨w.heap.size, 0, none⟩) hw1).trans a0
  have b1 := (HX23.out.cell (p := ⟨w.heap.size, 1, none⟩) hw1).trans a1
  have HBW := Lib.hid (HB1.out.trans (HX23.out.mono (by omega)))
  have HA3 := Lib.hid (show PAt w3.drew A ps from HA.out.kept HBW.out.drew (Nat.le_refl _))
  obtain ⟨GE, hGE⟩ : ∃ GE, GE = w1.heap.size := ⟨_, rfl⟩
  have HE := Lib.hid (show ERow w3.drew GE s from by rw [hGE]; exact E3.out)
  rw [← hGE]
  have hw3 : w.heap.size < w3.heap.size := by omega
  clear a0 a1 HX1 HX2 HX3 HX23 E2 E3 hGE
  refine Lib.hid ?_
  go_wp2_with fail
  refine wp_region_held_drew (S := fun w' => w'.cell? ⟨w.heap.size, 0, none⟩ = some (.int .i64 (N : Int)) ∧ w'.cell? ⟨w.heap.size, 1, none⟩ = some (.slice A ps.length cap) ∧ ERow w' GE s) (by kernel_rfl) (by exact ⟨b0, b1, HE.out⟩) (fun hHeld => ?_)
  refine wpAnyH_take (i := 0) (v := .agg #[.int .i64 (N : Int), .slice A ps.length cap]) rfl (by kernel_rfl) (by kernel_rfl) (by kernel_rfl) (fun _ _ _ h => h) (Or.inl ⟨by rfl, ?_⟩) (by assumption) ?_
  · (intro w hSw; (try dsimp only at hSw); go_simp)
  simp only [Act.put, List.setIfInBounds_toArray]
  refine wpAnyH_take (i := 1) (v := ev s) rfl (by kernel_rfl) (by kernel_rfl) (by kernel_rfl) (fun _ _ _ h => h) (Or.inl ⟨by rfl, fun w hSw => run_loadE rfl GE rfl s hSw.2.2⟩) (by assumption) ?_
  simp only [Act.put]
  refine wpAnyH_take (i := 3) (v := .agg #[.int .i64 (N : Int), .slice A ps.length cap]) rfl (by kernel_rfl) (by kernel_rfl) (by kernel_rfl) (fun _ _ _ h => h) (Or.inl ⟨by rfl, ?_⟩) (by assumption) ?_
  · (intro w hSw; (try dsimp only at hSw); go_simp)
  simp only [Act.put]
  refine wpAnyH_take (i := 4) (v := ev s) rfl (by kernel_rfl) (by kernel_rfl) (by kernel_rfl) (fun _ _ _ h => h) (Or.inl ⟨by rfl, fun w hSw => run_loadE rfl GE rfl s hSw.2.2⟩) (by assumption) ?_
  simp only [Act.put]
  refine wpAnyH_ready (rs := [2]) (by kernel_rfl) (by simp) ?_
  refine AllReadyH.cons rfl (fun K hK => ?_) AllReadyH.nil
  go_simp
  go_at_call 122
  refine (nodes_any N A cap ps s true _ HA3.out HG.out).mono ?_
  rintro e w4 ⟨g1, d1, rfl, hg1, hO1, hb4⟩
  have hl4 := hb4.size
  have hl41 := iown_lt' hO1
  have HO1 := Lib.hid hO1
  have hA4 := Lib.hid (HA3.out.kept hb4 (Nat.le_refl _))
  have HB4 := Lib.hid hb4
  simp at hl4 hg1
  clear hO1
  refine hK.out _ _ (by rcases hHeld with ⟨q0, q1, q2⟩; exact ⟨(hb4.cell (p := ⟨w.heap.size, 0, none⟩) (by first | exact hw3 | (dsimp only; omega))).trans q0, (hb4.cell (p := ⟨w.heap.size, 1, none⟩) (by first | exact hw3 | (dsimp only; omega))).trans q1, q2.kept hb4 q2.lt⟩) (fun hHeld => ?_)
  clear hK K
  clear hb4
  refine wpAnyH_ready (rs := [5]) (by kernel_rfl) (by simp) ?_
  refine AllReadyH.cons rfl (fun K hK => ?_) AllReadyH.nil
  go_simp
  go_at_call 106
  refine (pipes_any N A cap ps s true _ hA4.out HG.out).mono ?_
  rintro e w5 ⟨g2, d2, rfl, hg2, hO2, hb5⟩
  have hl5 := hb5.size
  have HO15 := Lib.hid (HO1.out.on hb5)
  have HO2 := Lib.hid hO2
  have HB5 := Lib.hid hb5
  clear hO2 HO1
  refine hK.out _ _ (by rcases hHeld with ⟨q0, q1, q2⟩; exact ⟨(hb5.cell (p := ⟨w.heap.size, 0, none⟩) (by first | exact hw3 | (dsimp only; omega))).trans q0, (hb5.cell (p := ⟨w.heap.size, 1, none⟩) (by first | exact hw3 | (dsimp only; omega))).trans q1, q2.kept hb5 q2.lt⟩) (fun hHeld => ?_)
  clear hK K
  refine wpAnyH_ready (rs := [6]) (by kernel_rfl) (by simp) ?_
  refine AllReadyH.cons rfl (fun K hK => ?_) AllReadyH.nil
  go_simp
  refine hK.out _ _ (by first | assumption | go_keep) (fun hHeld => ?_)
  clear hK K
  refine wpAnyH_ready (rs := [7]) (by kernel_rfl) (by simp) ?_
  refine AllReadyH.cons rfl (fun K hK => ?_) AllReadyH.nil
  go_simp
  refine hK.out _ _ (by first | assumption | go_keep) (fun hHeld => ?_)
  clear hK K
  refine wpAnyH_ready (rs := [8]) (by kernel_rfl) (by simp) ?_
  refine AllReadyH.cons rfl (fun K hK => ?_) AllReadyH.nil
  go_simp
  refine hK.out _ _ (by first | assumption | go_keep) (fun hHeld => ?_)
  clear hK K
  refine wpAnyH_done (by kernel_rfl) ?_ _
  clear hb5
  go_wp2_with fail
  go_ret3
  have hzz := HBW.out.size
  exact ⟨g1, d1, g2, d2, rfl, by omega, by omega, by omega, own_lower HO15.out (Nat.le_of_lt hw3), own_lower HO2.out (by omega), HBW.out.trans ((Below.refl w3.heap.size w3).drew.trans ((HB4.out.mono (by simp)).trans (HB5.out.mono (by omega))) |>.mono (by omega))⟩
end Go.Proofs.Ytbljmibaemgfeaa.S2
