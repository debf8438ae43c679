/- SegmentOfNode of the program: contracts. Conditions: each theorem's own premises. -/
import Derived.Test.YtbljmibaemgfeaaSegThree
namespace Go.Proofs.Ytbljmibaemgfeaa.S2
open Go.RowKit Go.Sort P2 P4

theorem node_of_good {n : Int} {ps : List Pp} {x : Int} (h : nodeB n ps x = true) : ∃ N X : Nat, n = (N : Int) ∧ x = (X : Int) ∧ 1 ≤ X ∧ X ≤ N ∧ N ≤ 8 := by
  obtain ⟨hg, h1, h2⟩ := nodeB_of h
  have := hg.2.1
  exact ⟨n.toNat, x.toNat, by omega, by omega, by omega, by omega, by omega⟩

set_option maxHeartbeats 4000000 in
set_option maxRecDepth 100000 in
theorem segofn_no1 (n : Int) (A : Option Addr) (cap : Nat) (ps : List Pp) (AV : Option Addr) (capv : Nat) (vs : List Vv) (x : Int) (w : World) (h : PAt w A ps) (hm : ps.length ≤ maxLen) (hv : VAt w AV vs) (hmv : vs.length ≤ maxLen) (hcv : vs.length ≤ capv) (hcm : capv ≤ maxLen) (hb : goodV n ps vs = false) :
    Calls Try.prog 60 #[nv n A ps.length cap, .slice AV vs.length capv, .int .i64 x] w (GivesI2 w [] [] false) := by
  have H := Lib.hid (fun w' (hb' : Below w.heap.size w w') => validv_v hb A cap AV capv w' (h.kept hb' (Nat.le_refl _)) hm (hv.kept hb' (Nat.le_refl _)) hmv hcv hcm)
  clear h hm hv hmv hcv hcm hb
  go_enter Try.func60, Try.ntmps60
  go_wp2_with (go_at_call 58; refine (H.out _ ((Below.refl _ _).alloc (Nat.le_refl _) _)).mono ?_; rintro e w1 ⟨rfl, hb1⟩; have HX1 := Lib.hid hb1; have HB1 := Lib.hid (((Below.refl w.heap.size w).alloc (Nat.le_refl _) (.cells #[.int .i64 n, .slice A ps.length cap] 32)).trans (hb1.mono (by simp))); clear hb1)
  go_ret3
  exact gives2_none HB1.out
set_option maxHeartbeats 4000000 in
set_option maxRecDepth 100000 in
theorem segofn_no2 (n : Int) (A : Option Addr) (cap : Nat) (ps : List Pp) (AV : Option Addr) (capv : Nat) (vs : List Vv) (x : Int) (w : World) (h : PAt w A ps) (hm : ps.length ≤ maxLen) (hv : VAt w AV vs) (hmv : vs.length ≤ maxLen) (hcv : vs.length ≤ capv) (hcm : capv ≤ maxLen) (hb : goodV n ps vs = true) (hx : nodeB n ps x = false) :
    Calls Try.prog 60 #[nv n A ps.length cap, .slice AV vs.length capv, .int .i64 x] w (GivesI2 w [] [] false) := by
  have H := Lib.hid (fun w' (hb' : Below w.heap.size w w') => validv_v hb A cap AV capv w' (h.kept hb' (Nat.le_refl _)) hm (hv.kept hb' (Nat.le_refl _)) hmv hcv hcm)
  have HN := Lib.hid (fun w' (hb' : Below w.heap.size w w') => node_v hx A cap w' (h.kept hb' (Nat.le_refl _)) hm)
  clear h hm hv hmv hcv hcm hb hx
  go_enter Try.func60, Try.ntmps60
  go_wp2_with (first
    | (go_at_call 58; refine (H.out _ ((Below.refl _ _).alloc (Nat.le_refl _) _)).mono ?_; rintro e w1 ⟨rfl, hb1⟩; have HX1 := Lib.hid hb1; have HB1 := Lib.hid (((Below.refl w.heap.size w).alloc (Nat.le_refl _) (.cells #[.int .i64 n, .slice A ps.length cap] 32)).trans (hb1.mono (by simp))); obtain ⟨hc1, hf1⟩ := bcell hb1; clear hb1)
    | (go_at_call 103; refine (HN.out _ HB1.out).mono ?_; rintro e w2 ⟨rfl, hb2⟩; have HB2 := Lib.hid (HB1.out.trans (hb2.mono HB1.out.size)); clear hb2))
  go_ret3
  exact gives2_none HB2.out

set_option maxHeartbeats 8000000 in
set_option maxRecDepth 100000 in
theorem segofn_yes (N X : Nat) (A : Option Addr) (cap : Nat) (ps : List Pp) (AV : Option Addr) (capv : Nat) (vs : List Vv) (w : World) (h : PAt w A ps) (hv : VAt w AV vs) (hcv : vs.length ≤ capv) (hcm : capv ≤ maxLen) (hb : goodV N ps vs = true) (hx : nodeB N ps X = true) :
    Calls Try.prog 60 #[nv N A ps.length cap, .slice AV vs.length capv, .int .i64 X] w (GivesI2 w (nodesL N (coB ps vs (one X)) true) (pipesL ps ps.length (coB ps vs (one X)) true) true) := by
  have hgd := goodV_of hb
  have hm : ps.length ≤ maxLen := by have := hgd.1.2.2.1; unfold maxLen; omega
  have hmv : vs.length ≤ maxLen := by have := hgd.2.1; unfold maxLen; omega
  have H := Lib.hid (fun w' (hb' : Below w.heap.size w w') => validv_v hb A cap AV capv w' (h.kept hb' (Nat.le_refl _)) hm (hv.kept hb' (Nat.le_refl _)) hmv hcv hcm)
  have HN := Lib.hid (fun w' (hb' : Below w.heap.size w w') => node_v hx A cap w' (h.kept hb' (Nat.le_refl _)) hm)
  have hX9 : X < 9 := by obtain ⟨_, _, h2⟩ := nodeB_of hx; have := hgd.1.2.1; omega
  have HC := Lib.hid (fun w' (hb' : Below w.heap.size w w') => conwith_any N A cap ps AV capv vs X w' (h.kept hb' (Nat.le_refl _)) (hv.kept hb' (Nat.le_refl _)) hgd.1 hgd.2.1 hX9)
  have HA := Lib.hid h
  have HG := Lib.hid hgd.1
  clear h hm hv hmv hcv hcm hb hx hgd
  obtain ⟨s, hs⟩ : ∃ s, s = coB ps vs (one X) := ⟨_, rfl⟩
  rw [← hs] at HC
  rw [← hs]
  clear hs
  go_enter Try.func60, Try.ntmps60
  go_wp2_with (first
    | (go_at_call 58; refine (H.out _ ((Below.refl _ _).alloc (Nat.le_refl _) _)).mono ?_; rintro e w1 ⟨rfl, hb1⟩; have HX1 := Lib.hid hb1; have HB1 := Lib.hid (((Below.refl w.heap.size w).alloc (Nat.le_refl _) (.cells #[.int .i64 (N : Int), .slice A ps.length cap] 32)).trans (hb1.mono (by simp))); have a0 := (HX1.out.cell (p := ⟨w.heap.size, 0, none⟩) (by simp)).trans (show (w.alloc (.cells #[.int .i64 (N : Int), .slice A ps.length cap] 32)).cell? ⟨w.heap.size, 0, none⟩ = some (.int .i64 (N : Int)) by go_simp); have a1 := (HX1.out.cell (p := ⟨w.heap.size, 1, none⟩) (by simp)).trans (show (w.alloc (.cells #[.int .i64 (N : Int), .slice A ps.length cap] 32)).cell? ⟨w.heap.size, 1, none⟩ = some (.slice A ps.length cap) by go_simp); have hw1 : w.heap.size < w1.heap.size := (by have := HX1.out.size; simp at this; omega); clear hb1)
    | (go_at_call 103; refine (HN.out _ HB1.out).mono ?_; rintro e w2 ⟨rfl, hb2⟩; have HB2 := Lib.hid (HB1.out.trans (hb2.mono HB1.out.size)); have c0 := (hb2.cell (p := ⟨w.heap.size, 0, none⟩) hw1).trans a0; have c1 := (hb2.cell (p := ⟨w.heap.size, 1, none⟩) hw1).trans a1; have hw2 : w.heap.size < w2.heap.size := (by have := hb2.size; omega); clear hb2)
    | (go_at_call 128; refine (HC.out _ HB2.out).mono ?_; rintro e w3 ⟨rfl, hb3⟩; have d0 := (hb3.cell (p := ⟨w.heap.size, 0, none⟩) hw2).trans c0; have d1 := (hb3.cell (p := ⟨w.heap.size, 1, none⟩) hw2).trans c1; have HB3 := Lib.hid (HB2.out.trans (hb3.mono HB2.out.size)); have hw3' : w.heap.size < w3.heap.size := (by have := hb3.size; omega); clear hb3)
    | ((with_reducible refine wpE_alloc rfl rfl ?_); intro w4 he4 hb4 hz4; have E4 := Lib.hid he4; have HX4 := Lib.hid hb4; clear he4 hb4 hz4)
    | ((with_reducible refine wpE_store rfl _ _ rfl rfl w3.heap.size rfl s rfl es0 E4.out ?_); intro w5 he5 hg5 hz5; have E5 := Lib.hid he5; have HX5 := Lib.hid hg5; clear he5 hg5 hz5; refine Hid.out ?_))
  have hz4 := HX4.out.size
  have hz5 := HX5.out.size
  have HX45 := Lib.hid (show Below w3.heap.size w3 w5 from HX4.out.grown HX5.out hz4 (fun g hg => by simp at hg; omega))
  have b0 := (HX45.out.cell (p := ⟨w.heap.size, 0, none⟩) hw3').trans d0
  have b1 := (HX45.out.cell (p := ⟨w.heap.size, 1, none⟩) hw3').trans d1
  have HBW5 := Lib.hid (HB3.out.trans (HX45.out.mono HB3.out.size))
  obtain ⟨GE, hGE⟩ : ∃ GE, GE = w3.heap.size := ⟨_, rfl⟩
  have HE5 := Lib.hid (show ERow w5.drew GE s from by rw [hGE]; exact E5.out)
  rw [← hGE]
  have hw3x : w.heap.size < w5.heap.size := by omega
  clear a0 a1 c0 c1 d0 d1 HX1 HX4 HX5 HX45 E4 E5 hGE hw3' hz4 hz5
  obtain ⟨w3, rfl⟩ : ∃ w3, w3 = w5 := ⟨_, rfl⟩
  have HBW := HBW5
  have HE := HE5
  have hw3 := hw3x
  have HA3 := Lib.hid (show PAt w3.drew A ps from HA.out.kept HBW.out.drew (Nat.le_refl _))
  clear HBW5 HE5 hw3x
  refine Lib.hid ?_
  go_wp2_with fail
  refine wp_region_held_drew (S := fun w' => w'.cell? ⟨w.heap.size, 0, none⟩ = some (.int .i64 (N : Int)) ∧ w'.cell? ⟨w.heap.size, 1, none⟩ = some (.slice A ps.length cap) ∧ ERow w' GE s) (by kernel_rfl) (by exact ⟨b0, b1, HE.out⟩) (fun hHeld => ?_)
  refine wpAnyH_take (i := 0) (v := .agg #[.int .i64 (N : Int), .slice A ps.length cap]) rfl (by kernel_rfl) (by kernel_rfl) (by kernel_rfl) (fun _ _ _ h => h) (Or.inl ⟨by rfl, ?_⟩) (by assumption) ?_
  · (intro w hSw; (try dsimp only at hSw); go_simp)
  simp only [Act.put, List.setIfInBounds_toArray]
  refine wpAnyH_take (i := 1) (v := ev s) rfl (by kernel_rfl) (by kernel_rfl) (by kernel_rfl) (fun _ _ _ h => h) (Or.inl ⟨by rfl, fun w hSw => run_loadE rfl GE rfl s hSw.2.2⟩) (by assumption) ?_
  simp only [Act.put]
  refine wpAnyH_take (i := 3) (v := .agg #[.int .i64 (N : Int), .slice A ps.length cap]) rfl (by kernel_rfl) (by kernel_rfl) (by kernel_rfl) (fun _ _ _ h => h) (Or.inl ⟨by rfl, ?_⟩) (by assumption) ?_
  · (intro w hSw; (try dsimp only at hSw); go_simp)
  simp only [Act.put]
  refine wpAnyH_take (i := 4) (v := ev s) rfl (by kernel_rfl) (by kernel_rfl) (by kernel_rfl) (fun _ _ _ h => h) (Or.inl ⟨by rfl, fun w hSw => run_loadE rfl GE rfl s hSw.2.2⟩) (by assumption) ?_
  simp only [Act.put]
  refine wpAnyH_ready (rs := [2]) (by kernel_rfl) (by simp) ?_
  refine AllReadyH.cons rfl (fun K hK => ?_) AllReadyH.nil
  go_simp
  go_at_call 122
  refine (nodes_any N A cap ps s true _ HA3.out HG.out).mono ?_
  rintro e w4 ⟨g1, d1, rfl, hg1, hO1, hb4⟩
  have hl4 := hb4.size
  have hl41 := iown_lt' hO1
  have HO1 := Lib.hid hO1
  have hA4 := Lib.hid (HA3.out.kept hb4 (Nat.le_refl _))
  have HB4 := Lib.hid hb4
  simp at hl4 hg1
  clear hO1
  refine hK.out _ _ (by rcases hHeld with ⟨q0, q1, q2⟩; exact ⟨(hb4.cell (p := ⟨w.heap.size, 0, none⟩) (by first | exact hw3 | (dsimp only; omega))).trans q0, (hb4.cell (p := ⟨w.heap.size, 1, none⟩) (by first | exact hw3 | (dsimp only; omega))).trans q1, q2.kept hb4 q2.lt⟩) (fun hHeld => ?_)
  clear hK K
  clear hb4
  refine wpAnyH_ready (rs := [5]) (by kernel_rfl) (by simp) ?_
  refine AllReadyH.cons rfl (fun K hK => ?_) AllReadyH.nil
  go_simp
  go_at_call 106
  refine (pipes_any N A cap ps s true _ hA4.out HG.out).mono ?_
  rintro e w5 ⟨g2, d2, rfl, hg2, hO2, hb5⟩
  have hl5 := hb5.size
  have HO15 := Lib.hid (HO1.out.on hb5)
  have HO2 := Lib.hid hO2
  have HB5 := Lib.hid hb5
  clear hO2 HO1
  refine hK.out _ _ (by rcases hHeld with ⟨q0, q1, q2⟩; exact ⟨(hb5.cell (p := ⟨w.heap.size, 0, none⟩) (by first | exact hw3 | (dsimp only; omega))).trans q0, (hb5.cell (p := ⟨w.heap.size, 1, none⟩) (by first | exact hw3 | (dsimp only; omega))).trans q1, q2.kept hb5 q2.lt⟩) (fun hHeld => ?_)
  clear hK K
  refine wpAnyH_ready (rs := [6]) (by kernel_rfl) (by simp) ?_
  refine AllReadyH.cons rfl (fun K hK => ?_) AllReadyH.nil
  go_simp
  refine hK.out _ _ (by first | assumption | go_keep) (fun hHeld => ?_)
  clear hK K
  refine wpAnyH_ready (rs := [7]) (by kernel_rfl) (by simp) ?_
  refine AllReadyH.cons rfl (fun K hK => ?_) AllReadyH.nil
  go_simp
  refine hK.out _ _ (by first | assumption | go_keep) (fun hHeld => ?_)
  clear hK K
  refine wpAnyH_ready (rs := [8]) (by kernel_rfl) (by simp) ?_
  refine AllReadyH.cons rfl (fun K hK => ?_) AllReadyH.nil
  go_simp
  refine hK.out _ _ (by first | assumption | go_keep) (fun hHeld => ?_)
  clear hK K
  refine wpAnyH_done (by kernel_rfl) ?_ _
  clear hb5
  go_wp2_with fail
  go_ret3
  have hzz := HBW.out.size
  exact ⟨g1, d1, g2, d2, rfl, by omega, by omega, by omega, own_lower HO15.out (Nat.le_of_lt hw3), own_lower HO2.out (by omega), HBW.out.trans ((Below.refl w3.heap.size w3).drew.trans ((HB4.out.mono (by simp)).trans (HB5.out.mono (by omega))) |>.mono (by omega))⟩
end Go.Proofs.Ytbljmibaemgfeaa.S2
