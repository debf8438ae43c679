/- The law FnExactSpanningTree on its two sides: contracts. Conditions: each theorem's own premises. -/
import Derived.Test.YtipnecmgpfmjeaaSpS
import Derived.Test.YtipnecmgpfmjeaaWalkSpn
import Derived.Test.YtipnecmgpfmjeaaWalkSpnN
namespace Go.Proofs.Ytipnecmgpfmjeaa.S2
open Go.RowKit P2

set_option maxHeartbeats 2000000 in
set_option maxRecDepth 100000 in
theorem sspt_bad (N : Int) (A : Option Addr) (cap : Nat) (ps : List Pp) (w : World) (h : PAt w A ps) (hm : ps.length ≤ maxLen) (hv : goodB N ps = false) :
    Calls Try.prog 33 #[nv N A ps.length cap] w (GivesNA w 0 [] false) := by
  have HW0 := Lib.hid (show Below w.heap.size w ((w.alloc (nb N A ps.length cap)).alloc (nb 0 none 0 0)) from ((Below.refl _ _).alloc (Nat.le_refl _) _).alloc (by simp) _)
  have HR0 := Lib.hid (show TB ((w.alloc (nb N A ps.length cap)).alloc (nb 0 none 0 0)) (w.heap.size + 1) (.int .i64 0) (.slice none 0 0) from by
    have := TB.made (w.alloc (nb N A ps.length cap)) (.int .i64 0) (.slice none 0 0)
    simpa using this)
  have H := Lib.hid (fun w' (hb : Below w.heap.size w w') => sgood_v hv A cap w' (h.kept hb (Nat.le_refl _)) hm)
  clear h hv
  go_enter Try.func33, Try.ntmps33
  go_wp2
  refine wp_region_held_drew (S := fun w' => w'.cell? ⟨w.heap.size, 0, none⟩ = some (.int .i64 N) ∧ w'.cell? ⟨w.heap.size, 1, none⟩ = some (.slice A ps.length cap)) (by kernel_rfl) (by go_keep) (fun hHeld => ?_)
  refine wpAnyH_take (i := 0) (v := .agg #[.int .i64 N, .slice A ps.length cap]) rfl (by kernel_rfl) (by kernel_rfl) (by kernel_rfl) (fun _ _ _ h => h) (Or.inl ⟨by rfl, ?_⟩) (by assumption) ?_
  · (intro w hSw; (try dsimp only at hSw); go_simp)
  simp only [Act.put, List.setIfInBounds_toArray]
  refine wpAnyH_ready (rs := [1]) (by kernel_rfl) (by simp) ?_
  refine AllReadyH.cons rfl (fun K hK => ?_) AllReadyH.nil
  go_simp
  go_at_call 75
  refine (H.out _ (HW0.out.drew)).mono ?_
  rintro e w1 ⟨rfl, hb1⟩
  refine hK.out _ _ (by (rcases hHeld with ⟨q0, q1⟩; exact ⟨(hb1.cell (p := ⟨w.heap.size, 0, none⟩) (by simp <;> omega)).trans q0, (hb1.cell (p := ⟨w.heap.size, 1, none⟩) (by simp <;> omega)).trans q1⟩)) (fun hHeld => ?_)
  clear hK K
  refine wpAnyH_ready (rs := [2]) (by kernel_rfl) (by simp) ?_
  refine AllReadyH.cons rfl (fun K hK => ?_) AllReadyH.nil
  go_simp
  refine hK.out _ _ (by first | assumption | go_keep) (fun hHeld => ?_)
  clear hK K
  refine wpAnyH_ready (rs := [3]) (by kernel_rfl) (by simp) ?_
  refine AllReadyH.cons rfl (fun K hK => ?_) AllReadyH.nil
  go_simp
  refine hK.out _ _ (by first | assumption | go_keep) (fun hHeld => ?_)
  clear hK K
  refine wpAnyH_take (i := 4) (v := undef) rfl (by kernel_rfl) (by kernel_rfl) (by kernel_rfl) (fun _ _ _ h => h) (Or.inr ⟨by rfl, rfl⟩) (by assumption) ?_
  simp only [Act.put]
  refine wpAnyH_take (i := 5) (v := undef) rfl (by kernel_rfl) (by kernel_rfl) (by kernel_rfl) (fun _ _ _ h => h) (Or.inr ⟨by rfl, rfl⟩) (by assumption) ?_
  simp only [Act.put]
  refine wpAnyH_take (i := 6) (v := undef) rfl (by kernel_rfl) (by kernel_rfl) (by kernel_rfl) (fun _ _ _ h => h) (Or.inr ⟨by rfl, rfl⟩) (by assumption) ?_
  simp only [Act.put]
  refine wpAnyH_take (i := 7) (v := undef) rfl (by kernel_rfl) (by kernel_rfl) (by kernel_rfl) (fun _ _ _ h => h) (Or.inr ⟨by rfl, rfl⟩) (by assumption) ?_
  simp only [Act.put]
  refine wpAnyH_take (i := 8) (v := undef) rfl (by kernel_rfl) (by kernel_rfl) (by kernel_rfl) (fun _ _ _ h => h) (Or.inr ⟨by rfl, rfl⟩) (by assumption) ?_
  simp only [Act.put]
  refine wpAnyH_take (i := 9) (v := undef) rfl (by kernel_rfl) (by kernel_rfl) (by kernel_rfl) (fun _ _ _ h => h) (Or.inr ⟨by rfl, rfl⟩) (by assumption) ?_
  simp only [Act.put]
  refine wpAnyH_ready (rs := [10]) (by kernel_rfl) (by simp) ?_
  refine AllReadyH.cons rfl (fun K hK => ?_) AllReadyH.nil
  go_simp
  refine hK.out _ _ (by first | assumption | go_keep) (fun hHeld => ?_)
  clear hK K
  refine wpAnyH_done (by kernel_rfl) ?_ _
  obtain ⟨q0, q1⟩ := hHeld
  have hz1 := hb1.size
  simp at hz1
  have hbx : Below ((w.alloc (nb N A ps.length cap)).alloc (nb 0 none 0 0)).heap.size ((w.alloc (nb N A ps.length cap)).alloc (nb 0 none 0 0)) w1 := ((Below.refl ((w.alloc (nb N A ps.length cap)).alloc (nb 0 none 0 0)).heap.size ((w.alloc (nb N A ps.length cap)).alloc (nb 0 none 0 0))).drew).trans (show Below ((w.alloc (nb N A ps.length cap)).alloc (nb 0 none 0 0)).heap.size ((w.alloc (nb N A ps.length cap)).alloc (nb 0 none 0 0)).drew w1 from hb1)
  have HT := Lib.hid (HR0.out.below hbx)
  have HB := Lib.hid (show Below w.heap.size w w1 from HW0.out.trans (hbx.mono HW0.out.size))
  obtain ⟨s0, s1⟩ := HT.out.cell
  have hsl := HT.out.lt
  have f0 := HT.out.frozen 0
  have f1 := HT.out.frozen 1
  clear hbx hb1
  go_wp2
  exact bodyPost_ret (v := .tuple #[nv 0 none 0 0, .bool false]) (by simp [results, Try.results33, go_sem, s0, s1]) rfl (GivesNA.none ((HB.out.setCell (p := ⟨w.heap.size + 1, 0, none⟩) (by show w.heap.size ≤ w.heap.size + 1; omega) _).setCell (p := ⟨w.heap.size + 1, 1, none⟩) (by show w.heap.size ≤ w.heap.size + 1; omega) _))
set_option maxHeartbeats 2000000 in
set_option maxRecDepth 100000 in
theorem sspt_no (N : Nat) (A : Option Addr) (cap : Nat) (ps : List Pp) (w : World) (h : PAt w A ps) (hm : ps.length ≤ maxLen) (hv : goodB N ps = true) (hc : (conL N ps 1).length ≠ N) :
    Calls Try.prog 33 #[nv N A ps.length cap] w (GivesNA w 0 [] false) := by
  have HW0 := Lib.hid (show Below w.heap.size w ((w.alloc (nb N A ps.length cap)).alloc (nb 0 none 0 0)) from ((Below.refl _ _).alloc (Nat.le_refl _) _).alloc (by simp) _)
  have HR0 := Lib.hid (show TB ((w.alloc (nb N A ps.length cap)).alloc (nb 0 none 0 0)) (w.heap.size + 1) (.int .i64 0) (.slice none 0 0) from by
    have := TB.made (w.alloc (nb N A ps.length cap)) (.int .i64 0) (.slice none 0 0)
    simpa using this)
  have hg := good_of hv
  have hcl : (conL N ps 1).length ≤ N + 1 := conL_len N ps 1
  have hN : N ≤ 8 := by have := hg.2.1; omega
  have hN1 : 1 ≤ N := by have := hg.1; omega
  have H := Lib.hid (fun w' (hb : Below w.heap.size w w') => sgood_v hv A cap w' (h.kept hb (Nat.le_refl _)) hm)
  have HC := Lib.hid (fun w' (hb : Below w.heap.size w w') => (show Calls Try.prog 81 #[nv N A ps.length cap, .int .i64 1] w' _ from sreach_any N 1 A cap ps w' (h.kept hb (Nat.le_refl _)) hg (by omega) (by omega)))
  simp only [Int.natCast_one] at HC
  obtain ⟨C, hC⟩ : ∃ C, conL N ps 1 = C := ⟨_, rfl⟩
  rw [hC] at HC hcl hc
  have g2 : ((C.length : Int) != (N : Int)) = true := bne_iff_ne.2 (by omega)
  clear h hv hg hC hc
  go_enter Try.func33, Try.ntmps33
  go_wp2
  refine wp_region_held_drew (S := fun w' => w'.cell? ⟨w.heap.size, 0, none⟩ = some (.int .i64 N) ∧ w'.cell? ⟨w.heap.size, 1, none⟩ = some (.slice A ps.length cap)) (by kernel_rfl) (by go_keep) (fun hHeld => ?_)
  refine wpAnyH_take (i := 0) (v := .agg #[.int .i64 N, .slice A ps.length cap]) rfl (by kernel_rfl) (by kernel_rfl) (by kernel_rfl) (fun _ _ _ h => h) (Or.inl ⟨by rfl, ?_⟩) (by assumption) ?_
  · (intro w hSw; (try dsimp only at hSw); go_simp)
  simp only [Act.put, List.setIfInBounds_toArray]
  refine wpAnyH_ready (rs := [1]) (by kernel_rfl) (by simp) ?_
  refine AllReadyH.cons rfl (fun K hK => ?_) AllReadyH.nil
  go_simp
  go_at_call 75
  refine (H.out _ (HW0.out.drew)).mono ?_
  rintro e w1 ⟨rfl, hb1⟩
  refine hK.out _ _ (by (rcases hHeld with ⟨q0, q1⟩; exact ⟨(hb1.cell (p := ⟨w.heap.size, 0, none⟩) (by simp <;> omega)).trans q0, (hb1.cell (p := ⟨w.heap.size, 1, none⟩) (by simp <;> omega)).trans q1⟩)) (fun hHeld => ?_)
  clear hK K
  refine wpAnyH_ready (rs := [2]) (by kernel_rfl) (by simp) ?_
  refine AllReadyH.cons rfl (fun K hK => ?_) AllReadyH.nil
  go_simp
  refine hK.out _ _ (by first | assumption | go_keep) (fun hHeld => ?_)
  clear hK K
  refine wpAnyH_ready (rs := [3]) (by kernel_rfl) (by simp) ?_
  refine AllReadyH.cons rfl (fun K hK => ?_) AllReadyH.nil
  go_simp
  refine hK.out _ _ (by first | assumption | go_keep) (fun hHeld => ?_)
  clear hK K
  refine wpAnyH_take (i := 4) (v := .agg #[.int .i64 N, .slice A ps.length cap]) rfl (by kernel_rfl) (by kernel_rfl) (by kernel_rfl) (fun _ _ _ h => h) (Or.inl ⟨by rfl, ?_⟩) (by assumption) ?_
  · (intro w hSw; (try dsimp only at hSw); go_simp)
  simp only [Act.put]
  refine wpAnyH_take (i := 7) (v := .pointer (some ⟨w.heap.size, 0, none⟩)) rfl (by kernel_rfl) (by kernel_rfl) (by kernel_rfl) (fun _ _ _ h => h) (Or.inl ⟨by rfl, ?_⟩) (by assumption) ?_
  · (intro w hSw; (try dsimp only at hSw); go_simp)
  simp only [Act.put]
  refine wpAnyH_take (i := 8) (v := .int .i64 (N : Int)) rfl (by kernel_rfl) (by kernel_rfl) (by kernel_rfl) (fun _ _ _ h => h) (Or.inl ⟨by rfl, ?_⟩) (by assumption) ?_
  · (intro w hSw; (try dsimp only at hSw); go_simp)
  simp only [Act.put]
  have hz1 := hb1.size
  simp at hz1
  refine wpAnyH_ready (rs := [5]) (by kernel_rfl) (by simp) ?_
  refine AllReadyH.cons rfl (fun K hK => ?_) AllReadyH.nil
  go_simp
  go_at_call 81
  refine (HC.out _ (HW0.out.drew.trans (hb1.mono HW0.out.size))).mono ?_
  rintro e w2 ⟨g, o, capg, rfl, hgg, ho, hb2⟩
  refine hK.out _ _ (by (rcases hHeld with ⟨q0, q1⟩; exact ⟨(hb2.cell (p := ⟨w.heap.size, 0, none⟩) (by show w.heap.size < w1.heap.size; omega)).trans q0, (hb2.cell (p := ⟨w.heap.size, 1, none⟩) (by show w.heap.size < w1.heap.size; omega)).trans q1⟩)) (fun hHeld => ?_)
  clear hK K
  refine wpAnyH_ready (rs := [6]) (by kernel_rfl) (by simp) ?_
  refine AllReadyH.cons rfl (fun K hK => ?_) AllReadyH.nil
  go_simp
  refine hK.out _ _ (by first | assumption | go_keep) (fun hHeld => ?_)
  clear hK K
  refine wpAnyH_ready (rs := [9]) (by kernel_rfl) (by simp) ?_
  refine AllReadyH.cons rfl (fun K hK => ?_) AllReadyH.nil
  go_simp
  refine hK.out _ _ (by first | assumption | go_keep) (fun hHeld => ?_)
  clear hK K
  refine wpAnyH_ready (rs := [10]) (by kernel_rfl) (by simp) ?_
  refine AllReadyH.cons rfl (fun K hK => ?_) AllReadyH.nil
  go_simp
  refine hK.out _ _ (by first | assumption | go_keep) (fun hHeld => ?_)
  clear hK K
  refine wpAnyH_done (by kernel_rfl) ?_ _
  obtain ⟨q0, q1⟩ := hHeld
  have hbx : Below ((w.alloc (nb N A ps.length cap)).alloc (nb 0 none 0 0)).heap.size ((w.alloc (nb N A ps.length cap)).alloc (nb 0 none 0 0)) w2 := (((Below.refl ((w.alloc (nb N A ps.length cap)).alloc (nb 0 none 0 0)).heap.size ((w.alloc (nb N A ps.length cap)).alloc (nb 0 none 0 0))).drew).trans (show Below ((w.alloc (nb N A ps.length cap)).alloc (nb 0 none 0 0)).heap.size ((w.alloc (nb N A ps.length cap)).alloc (nb 0 none 0 0)).drew w1 from hb1)).trans (hb2.mono (by simp; omega))
  have hz2 := hb2.size
  have HT := Lib.hid (HR0.out.below hbx)
  have HB := Lib.hid (show Below w.heap.size w w2 from HW0.out.trans (hbx.mono HW0.out.size))
  obtain ⟨s0, s1⟩ := HT.out.cell
  have hsl := HT.out.lt
  have f0 := HT.out.frozen 0
  have f1 := HT.out.frozen 1
  clear hbx hb1 hb2 ho hgg
  go_wp2
  exact bodyPost_ret (v := .tuple #[nv 0 none 0 0, .bool false]) (by simp [results, Try.results33, go_sem, s0, s1]) rfl (GivesNA.none ((HB.out.setCell (p := ⟨w.heap.size + 1, 0, none⟩) (by show w.heap.size ≤ w.heap.size + 1; omega) _).setCell (p := ⟨w.heap.size + 1, 1, none⟩) (by show w.heap.size ≤ w.heap.size + 1; omega) _))
set_option maxHeartbeats 2000000 in
set_option maxRecDepth 100000 in
theorem sspt_yes (N : Nat) (A : Option Addr) (cap : Nat) (ps : List Pp) (w : World) (h : PAt w A ps) (hm : ps.length ≤ maxLen) (hv : goodB N ps = true) (hc : (conL N ps 1).length = N) :
    Calls Try.prog 33 #[nv N A ps.length cap] w (GivesNA w N (spL ps) true) := by
  have HW0 := Lib.hid (show Below w.heap.size w ((w.alloc (nb N A ps.length cap)).alloc (nb 0 none 0 0)) from ((Below.refl _ _).alloc (Nat.le_refl _) _).alloc (by simp) _)
  have HR0 := Lib.hid (show TB ((w.alloc (nb N A ps.length cap)).alloc (nb 0 none 0 0)) (w.heap.size + 1) (.int .i64 0) (.slice none 0 0) from by
    have := TB.made (w.alloc (nb N A ps.length cap)) (.int .i64 0) (.slice none 0 0)
    simpa using this)
  have hg := good_of hv
  have hcl : (conL N ps 1).length ≤ N + 1 := conL_len N ps 1
  have hN : N ≤ 8 := by have := hg.2.1; omega
  have hN1 : 1 ≤ N := by have := hg.1; omega
  have H := Lib.hid (fun w' (hb : Below w.heap.size w w') => sgood_v hv A cap w' (h.kept hb (Nat.le_refl _)) hm)
  have HC := Lib.hid (fun w' (hb : Below w.heap.size w w') => (show Calls Try.prog 81 #[nv N A ps.length cap, .int .i64 1] w' _ from sreach_any N 1 A cap ps w' (h.kept hb (Nat.le_refl _)) hg (by omega) (by omega)))
  simp only [Int.natCast_one] at HC
  obtain ⟨C, hC⟩ : ∃ C, conL N ps 1 = C := ⟨_, rfl⟩
  rw [hC] at HC hcl hc
  have HSP := Lib.hid (fun w' (hb : Below w.heap.size w w') => ssp_any N A cap ps w' (h.kept hb (Nat.le_refl _)) hg)
  have g2 : ((C.length : Int) != (N : Int)) = false := by rw [hc]; simp
  clear h hv hg hC hc
  go_enter Try.func33, Try.ntmps33
  go_wp2
  refine wp_region_held_drew (S := fun w' => w'.cell? ⟨w.heap.size, 0, none⟩ = some (.int .i64 N) ∧ w'.cell? ⟨w.heap.size, 1, none⟩ = some (.slice A ps.length cap)) (by kernel_rfl) (by go_keep) (fun hHeld => ?_)
  refine wpAnyH_take (i := 0) (v := .agg #[.int .i64 N, .slice A ps.length cap]) rfl (by kernel_rfl) (by kernel_rfl) (by kernel_rfl) (fun _ _ _ h => h) (Or.inl ⟨by rfl, ?_⟩) (by assumption) ?_
  · (intro w hSw; (try dsimp only at hSw); go_simp)
  simp only [Act.put, List.setIfInBounds_toArray]
  refine wpAnyH_ready (rs := [1]) (by kernel_rfl) (by simp) ?_
  refine AllReadyH.cons rfl (fun K hK => ?_) AllReadyH.nil
  go_simp
  go_at_call 75
  refine (H.out _ (HW0.out.drew)).mono ?_
  rintro e w1 ⟨rfl, hb1⟩
  refine hK.out _ _ (by (rcases hHeld with ⟨q0, q1⟩; exact ⟨(hb1.cell (p := ⟨w.heap.size, 0, none⟩) (by simp <;> omega)).trans q0, (hb1.cell (p := ⟨w.heap.size, 1, none⟩) (by simp <;> omega)).trans q1⟩)) (fun hHeld => ?_)
  clear hK K
  refine wpAnyH_ready (rs := [2]) (by kernel_rfl) (by simp) ?_
  refine AllReadyH.cons rfl (fun K hK => ?_) AllReadyH.nil
  go_simp
  refine hK.out _ _ (by first | assumption | go_keep) (fun hHeld => ?_)
  clear hK K
  refine wpAnyH_ready (rs := [3]) (by kernel_rfl) (by simp) ?_
  refine AllReadyH.cons rfl (fun K hK => ?_) AllReadyH.nil
  go_simp
  refine hK.out _ _ (by first | assumption | go_keep) (fun hHeld => ?_)
  clear hK K
  refine wpAnyH_take (i := 4) (v := .agg #[.int .i64 N, .slice A ps.length cap]) rfl (by kernel_rfl) (by kernel_rfl) (by kernel_rfl) (fun _ _ _ h => h) (Or.inl ⟨by rfl, ?_⟩) (by assumption) ?_
  · (intro w hSw; (try dsimp only at hSw); go_simp)
  simp only [Act.put]
  refine wpAnyH_take (i := 7) (v := .pointer (some ⟨w.heap.size, 0, none⟩)) rfl (by kernel_rfl) (by kernel_rfl) (by kernel_rfl) (fun _ _ _ h => h) (Or.inl ⟨by rfl, ?_⟩) (by assumption) ?_
  · (intro w hSw; (try dsimp only at hSw); go_simp)
  simp only [Act.put]
  refine wpAnyH_take (i := 8) (v := .int .i64 (N : Int)) rfl (by kernel_rfl) (by kernel_rfl) (by kernel_rfl) (fun _ _ _ h => h) (Or.inl ⟨by rfl, ?_⟩) (by assumption) ?_
  · (intro w hSw; (try dsimp only at hSw); go_simp)
  simp only [Act.put]
  have hz1 := hb1.size
  simp at hz1
  refine wpAnyH_ready (rs := [5]) (by kernel_rfl) (by simp) ?_
  refine AllReadyH.cons rfl (fun K hK => ?_) AllReadyH.nil
  go_simp
  go_at_call 81
  refine (HC.out _ (HW0.out.drew.trans (hb1.mono HW0.out.size))).mono ?_
  rintro e w2 ⟨g, o, capg, rfl, hgg, ho, hb2⟩
  refine hK.out _ _ (by (rcases hHeld with ⟨q0, q1⟩; exact ⟨(hb2.cell (p := ⟨w.heap.size, 0, none⟩) (by show w.heap.size < w1.heap.size; omega)).trans q0, (hb2.cell (p := ⟨w.heap.size, 1, none⟩) (by show w.heap.size < w1.heap.size; omega)).trans q1⟩)) (fun hHeld => ?_)
  clear hK K
  refine wpAnyH_ready (rs := [6]) (by kernel_rfl) (by simp) ?_
  refine AllReadyH.cons rfl (fun K hK => ?_) AllReadyH.nil
  go_simp
  refine hK.out _ _ (by first | assumption | go_keep) (fun hHeld => ?_)
  clear hK K
  refine wpAnyH_ready (rs := [9]) (by kernel_rfl) (by simp) ?_
  refine AllReadyH.cons rfl (fun K hK => ?_) AllReadyH.nil
  go_simp
  refine hK.out _ _ (by first | assumption | go_keep) (fun hHeld => ?_)
  clear hK K
  refine wpAnyH_ready (rs := [10]) (by kernel_rfl) (by simp) ?_
  refine AllReadyH.cons rfl (fun K hK => ?_) AllReadyH.nil
  go_simp
  refine hK.out _ _ (by first | assumption | go_keep) (fun hHeld => ?_)
  clear hK K
  refine wpAnyH_done (by kernel_rfl) ?_ _
  obtain ⟨q0, q1⟩ := hHeld
  have hbx : Below ((w.alloc (nb N A ps.length cap)).alloc (nb 0 none 0 0)).heap.size ((w.alloc (nb N A ps.length cap)).alloc (nb 0 none 0 0)) w2 := (((Below.refl ((w.alloc (nb N A ps.length cap)).alloc (nb 0 none 0 0)).heap.size ((w.alloc (nb N A ps.length cap)).alloc (nb 0 none 0 0))).drew).trans (show Below ((w.alloc (nb N A ps.length cap)).alloc (nb 0 none 0 0)).heap.size ((w.alloc (nb N A ps.length cap)).alloc (nb 0 none 0 0)).drew w1 from hb1)).trans (hb2.mono (by simp; omega))
  have hz2 := hb2.size
  have HT := Lib.hid (HR0.out.below hbx)
  have HB := Lib.hid (show Below w.heap.size w w2 from HW0.out.trans (hbx.mono HW0.out.size))
  obtain ⟨s0, s1⟩ := HT.out.cell
  have hsl := HT.out.lt
  have f0 := HT.out.frozen 0
  have f1 := HT.out.frozen 1
  clear hbx hb1 hb2 ho hgg
  go_wp2_with (first | (go_at_call 82; refine (HSP.out _ HB.out).mono ?_; rintro e w3 ⟨g3, c3, rfl, hlc, hg3s, hpa, hb3⟩; have hsl9 := HT.out.lt; have HT3 := Lib.hid (HT.out.below hb3); clear s0 s1 f0 f1; obtain ⟨s0, s1⟩ := HT3.out.cell; have hsl3 := HT3.out.lt; have f0 := HT3.out.frozen 0; have f1 := HT3.out.frozen 1) | fail)
  have hB3 := HB.out.trans (hb3.mono HB.out.size)
  refine bodyPost_ret (v := .tuple #[nv N (some ⟨g3, 0, none⟩) (spL ps).length c3, .bool true]) (by simp [results, Try.results33, go_sem, s0, s1]) rfl ⟨some ⟨g3, 0, none⟩, c3, rfl, hlc, ?_, (hB3.setCell (p := ⟨w.heap.size + 1, 0, none⟩) (by show w.heap.size ≤ w.heap.size + 1; omega) _).setCell (p := ⟨w.heap.size + 1, 1, none⟩) (by show w.heap.size ≤ w.heap.size + 1; omega) _⟩
  exact pat_set1 (pat_set1 hpa (by show w.heap.size + 1 ≠ g3; omega)) (by show w.heap.size + 1 ≠ g3; omega)
theorem law_spn (n : Int) (A : Option Addr) (cap : Nat) (ps : List Pp) (w : World) (h : PAt w A ps) (hm : ps.length ≤ maxLen) :
    Calls Try.prog 12 #[nv n A ps.length cap] w fun e w' => e = .returned (.bool true) ∧ Below w.heap.size w w' := by
  cases hv : goodB n ps with
  | false => exact walkSpanningTreen n A cap ps w h hm 0 false (fun A c w h _ _ => sspt_bad n A c ps w h hm hv) (fun A c w h _ _ => isp_bad n A c ps w h hm hv)
  | true =>
    obtain ⟨N, rfl⟩ := good_nat (good_of hv)
    have ht := tree_sp (good_of hv)
    have hlen : (spL ps).length ≤ 10 := by have := (spT_good (good_of hv) ps.length (Nat.le_refl _)).2.2.1; exact this
    by_cases hc : (conL N ps 1).length = N
    · have hT : treeB N (spL ps) = true := by rw [ht]; simp [hc]
      by_cases h0 : spL ps = []
      · refine walkSpanningTreen N A cap ps w h hm N true (fun A c w h _ _ => by have := sspt_yes N A c ps w h hm hv hc; rwa [h0] at this) (fun A c w h _ _ => (isp_yes N A c ps w h hm hv).mono fun e w' hx => ?_)
        rcases hx with ⟨_, ⟨A2, c2, B, he, _, _, hn⟩, hb⟩ | ⟨hF, _⟩
        · obtain ⟨rfl, rfl⟩ := hn h0
          exact ⟨by rw [he, h0]; rfl, hb⟩
        · rw [hT] at hF; cases hF
      · refine walkSpanningTree N A cap ps w h hm N (spL ps) (by omega) true (fun A c w h _ _ => sspt_yes N A c ps w h hm hv hc) (fun A c w h _ _ => (isp_yes N A c ps w h hm hv).mono fun e w' hx => ?_)
        rcases hx with ⟨_, ⟨A2, c2, B, he, ho, hB, _⟩, hb⟩ | ⟨hF, _⟩
        · have hpos : 0 < (spL ps).length := List.length_pos_iff.2 h0
          obtain ⟨g, c', hv', _, _⟩ := ho.form hpos
          injection hv' with hA
          subst hA
          exact ⟨g, c2, B, he, Nat.le_trans hB (ho.lt g rfl).1, ho, hb⟩
        · rw [hT] at hF; cases hF
    · have hT : treeB N (spL ps) = false := by rw [ht]; simp [hc]
      refine walkSpanningTreen N A cap ps w h hm 0 false (fun A c w h _ _ => sspt_no N A c ps w h hm hv hc) (fun A c w h _ _ => (isp_yes N A c ps w h hm hv).mono fun e w' hx => ?_)
      rcases hx with ⟨hF, _⟩ | ⟨_, hx⟩
      · rw [hT] at hF; cases hF
      · exact hx
end Go.Proofs.Ytipnecmgpfmjeaa.S2
