/- ReversedPipe of the program: contracts. Conditions: each theorem's own premises. -/
import Derived.Test.YtipnecmgpfmjeaaRvPl
import Derived.Test.YtipnecmgpfmjeaaSup
namespace Go.Proofs.Ytipnecmgpfmjeaa.S2
open Go.RowKit P2

set_option maxHeartbeats 2000000 in
theorem irev_bad (n : Int) (A : Option Addr) (cap : Nat) (ps : List Pp) (AD : Option Addr) (dc : Nat) (fl : List Int) (x : Int) (w : World) (h : PAt w A ps) (hm : ps.length ≤ maxLen) (hd : IAt w AD fl) (hdl : fl.length ≤ 1048576) (hv : floB n ps fl = false) :
    Calls Try.prog 28 #[nv n A ps.length cap, .slice AD fl.length dc, .int .i64 x] w (GivesX0 w 0 [] false) := by
  have HW0 := Lib.hid (show Below w.heap.size w ((w.alloc (nb n A ps.length cap)).alloc (nb 0 none 0 0)) from ((Below.refl _ _).alloc (Nat.le_refl _) _).alloc (by simp) _)
  have HB3 := Lib.hid (fun w1 (hb : Below ((w.alloc (nb n A ps.length cap)).alloc (nb 0 none 0 0)).heap.size ((w.alloc (nb n A ps.length cap)).alloc (nb 0 none 0 0)) w1) => (show Below (w.heap.size + 1) (w.alloc (nb n A ps.length cap)) w1 from ((Below.refl _ _).alloc (by simp) _).trans (hb.mono (by simp))))
  have HR0 := Lib.hid (show TB ((w.alloc (nb n A ps.length cap)).alloc (nb 0 none 0 0)) (w.heap.size + 1) (.int .i64 0) (.slice none 0 0) from by
    have := TB.made (w.alloc (nb n A ps.length cap)) (.int .i64 0) (.slice none 0 0)
    simpa using this)
  have H := Lib.hid (fun w' (hb : Below w.heap.size w w') => flo_v hv A cap AD dc w' (h.kept hb (Nat.le_refl _)) hm (hd.kept hb (Nat.le_refl _)) hdl)
  clear h hd hv
  go_enter Try.func28, Try.ntmps28
  go_wp2_with (first | (go_at_call 71; refine (H.out _ HW0.out).mono ?_; rintro e w1 ⟨rfl, hb1⟩; have HB1 := Lib.hid (HB3.out _ hb1); have HT1 := Lib.hid (HR0.out.below hb1); obtain ⟨b0, b1⟩ := box2 HB1.out; have hz1 := HT1.out.lt; have hy1 : w.heap.size < w1.heap.size := (by omega); obtain ⟨s0, s1⟩ := HT1.out.cell; have f0 := HT1.out.frozen 0; have f1 := HT1.out.frozen 1) | fail)
  have hB := (((below_box HB1.out).setCell (p := ⟨w.heap.size + 1, 0, none⟩) (by show w.heap.size ≤ w.heap.size + 1; omega) (.int .i64 0)).setCell (p := ⟨w.heap.size + 1, 1, none⟩) (by show w.heap.size ≤ w.heap.size + 1; omega) (.slice none 0 0))
  have hO := own_empty ((w1.setCell ⟨w.heap.size + 1, 0, none⟩ (.int .i64 0)).setCell ⟨w.heap.size + 1, 1, none⟩ (.slice none 0 0)) w.heap.size (by simp; omega)
  refine bodyPost_ret (v := .tuple #[nv 0 none 0 0, .slice (some ⟨w1.heap.size, 0, none⟩) 0 0, .bool false]) (by simp [results, Try.results28, go_sem, s0, s1, hz1]) rfl ⟨w1.heap.size, 0, rfl, by omega, by simpa using hO, hB.alloc hB.size _⟩

set_option maxHeartbeats 2000000 in
theorem irev_none (N : Nat) (A : Option Addr) (cap : Nat) (ps : List Pp) (AD : Option Addr) (dc : Nat) (fl : List Int) (x : Int) (w : World) (h : PAt w A ps) (hm : ps.length ≤ maxLen) (hd : IAt w AD fl) (hdl : fl.length ≤ 1048576) (hv : floB N ps fl = true) (hf : FindIs ps x (-1)) :
    Calls Try.prog 28 #[nv N A ps.length cap, .slice AD fl.length dc, .int .i64 x] w (GivesX0 w 0 [] false) := by
  have HW0 := Lib.hid (show Below w.heap.size w ((w.alloc (nb N A ps.length cap)).alloc (nb 0 none 0 0)) from ((Below.refl _ _).alloc (Nat.le_refl _) _).alloc (by simp) _)
  have HB3 := Lib.hid (fun w1 (hb : Below ((w.alloc (nb N A ps.length cap)).alloc (nb 0 none 0 0)).heap.size ((w.alloc (nb N A ps.length cap)).alloc (nb 0 none 0 0)) w1) => (show Below (w.heap.size + 1) (w.alloc (nb N A ps.length cap)) w1 from ((Below.refl _ _).alloc (by simp) _).trans (hb.mono (by simp))))
  have HR0 := Lib.hid (show TB ((w.alloc (nb N A ps.length cap)).alloc (nb 0 none 0 0)) (w.heap.size + 1) (.int .i64 0) (.slice none 0 0) from by
    have := TB.made (w.alloc (nb N A ps.length cap)) (.int .i64 0) (.slice none 0 0)
    simpa using this)
  have hg := (floB_of hv).1
  have H := Lib.hid (fun w' (hb : Below w.heap.size w w') => flo_v hv A cap AD dc w' (h.kept hb (Nat.le_refl _)) hm (hd.kept hb (Nat.le_refl _)) hdl)
  have H2 := Lib.hid (fun w' (hb : Below w.heap.size w w') => place_any N A cap ps x w' (h.kept hb (Nat.le_refl _)) hg)
  have HP := Lib.hid (fun (i : Nat) (f : Bool) (hp : Place ps x i f) => (show f = false from by
    cases f with
    | false => rfl
    | true => have := ((place_find (good_ids hg) hp hf).1 rfl).1; omega))
  clear h hd hv hf hg
  go_enter Try.func28, Try.ntmps28
  go_wp2_with (first
    | (go_at_call 71; refine (H.out _ HW0.out).mono ?_; rintro e w1 ⟨rfl, hb1⟩; have HB1 := Lib.hid (HB3.out _ hb1); have HT1 := Lib.hid (HR0.out.below hb1); obtain ⟨b0, b1⟩ := box2 HB1.out; have hz1 := HT1.out.lt; have hy1 : w.heap.size < w1.heap.size := (by omega))
    | (go_at_call 64; refine (H2.out _ (below_box HB1.out)).mono ?_; rintro e w2 ⟨⟨i, f, rfl, hp⟩, hb2⟩; have HB2 := Lib.hid (on_call HB1.out hb2); have HT2 := Lib.hid (HT1.out.below hb2); clear b0 b1; obtain ⟨b0, b1⟩ := box2 HB2.out; have hz2 := HT2.out.lt; have hy2 : w.heap.size < w2.heap.size := (by omega); have hv2 : w1.heap.size ≤ w2.heap.size := hb2.size; obtain rfl := HP.out i f hp; obtain ⟨s0, s1⟩ := HT2.out.cell; have f0 := HT2.out.frozen 0; have f1 := HT2.out.frozen 1)
    | fail)
  have hB := (((below_box HB2.out).setCell (p := ⟨w.heap.size + 1, 0, none⟩) (by show w.heap.size ≤ w.heap.size + 1; omega) (.int .i64 0)).setCell (p := ⟨w.heap.size + 1, 1, none⟩) (by show w.heap.size ≤ w.heap.size + 1; omega) (.slice none 0 0))
  have hO := own_empty ((w2.setCell ⟨w.heap.size + 1, 0, none⟩ (.int .i64 0)).setCell ⟨w.heap.size + 1, 1, none⟩ (.slice none 0 0)) w.heap.size (by simp; omega)
  refine bodyPost_ret (v := .tuple #[nv 0 none 0 0, .slice (some ⟨w2.heap.size, 0, none⟩) 0 0, .bool false]) (by simp [results, Try.results28, go_sem, s0, s1, hz2]) rfl ⟨w2.heap.size, 0, rfl, by omega, by simpa using hO, hB.alloc hB.size _⟩

set_option maxHeartbeats 4000000 in
set_option maxRecDepth 100000 in
theorem irev_yes (N i : Nat) (A : Option Addr) (cap : Nat) (ps : List Pp) (AD : Option Addr) (dc : Nat) (fl : List Int) (x : Int) (w : World) (h : PAt w A ps) (hm : ps.length ≤ maxLen) (hd : IAt w AD fl) (hdl : fl.length ≤ 1048576) (hv : floB N ps fl = true) (hi : i < ps.length) (hf : FindIs ps x i) :
    Calls Try.prog 28 #[nv N A ps.length cap, .slice AD fl.length dc, .int .i64 x] w (GivesXI w N (rvL ps i) (ngL fl i) true) := by
  have HW0 := Lib.hid (show Below w.heap.size w ((w.alloc (nb N A ps.length cap)).alloc (nb 0 none 0 0)) from ((Below.refl _ _).alloc (Nat.le_refl _) _).alloc (by simp) _)
  have HB3 := Lib.hid (fun w1 (hb : Below ((w.alloc (nb N A ps.length cap)).alloc (nb 0 none 0 0)).heap.size ((w.alloc (nb N A ps.length cap)).alloc (nb 0 none 0 0)) w1) => (show Below (w.heap.size + 1) (w.alloc (nb N A ps.length cap)) w1 from ((Below.refl _ _).alloc (by simp) _).trans (hb.mono (by simp))))
  have HR0 := Lib.hid (show TB ((w.alloc (nb N A ps.length cap)).alloc (nb 0 none 0 0)) (w.heap.size + 1) (.int .i64 0) (.slice none 0 0) from by
    have := TB.made (w.alloc (nb N A ps.length cap)) (.int .i64 0) (.slice none 0 0)
    simpa using this)
  obtain ⟨hg, hfn, hfr⟩ := floB_of hv
  have hl10 := hg.2.2.1
  have H := Lib.hid (fun w' (hb : Below w.heap.size w w') => flo_v hv A cap AD dc w' (h.kept hb (Nat.le_refl _)) hm (hd.kept hb (Nat.le_refl _)) hdl)
  have H2 := Lib.hid (fun w' (hb : Below w.heap.size w w') => place_any N A cap ps x w' (h.kept hb (Nat.le_refl _)) hg)
  have HP := Lib.hid (fun (j : Nat) (f : Bool) (hp : Place ps x j f) => (show f = true ∧ j = i from by
    cases f with
    | false => have := (place_find (good_ids hg) hp hf).2 rfl; omega
    | true => have := ((place_find (good_ids hg) hp hf).1 rfl).1; exact ⟨rfl, by omega⟩))
  obtain ⟨b, off, hA, hbl, _⟩ := h.at_ hi
  subst hA
  have H3 := Lib.hid (fun w' (hb : Below w.heap.size w w') => pclone_some b off cap ps w' (h.kept hb (Nat.le_refl _)) hl10 (by omega))
  have H4 := Lib.hid (fun w' (hb : Below w.heap.size w w') => iclone_some AD dc fl w' (hd.kept hb (Nat.le_refl _)) (by omega) (by omega))
  have hq0 : -8000 ≤ fl.getD i 0 := (allR_at hfr (by omega)).1
  have hq1 : fl.getD i 0 ≤ 8000 := (allR_at hfr (by omega)).2
  have hif : i < fl.length := by omega
  have hi0 : (0 : Int) ≤ (i : Int) := by omega
  have hin : (i : Int) < (ps.length : Int) := by omega
  have hinf : (i : Int) < (fl.length : Int) := by omega
  have HPS := Lib.hid (pcs_set ps i hi)
  have HNG := Lib.hid (ng_set fl i)
  have HRL := Lib.hid (rvL_len ps i)
  have HNL := Lib.hid (ngL_len fl i)
  have HG1 := Lib.hid (pcs_get ps i hi 1 (by omega))
  have HG2 := Lib.hid (pcs_get ps i hi 2 (by omega))
  have HFG := Lib.hid (show (fl.map iv)[i]? = some (iv (fl.getD i 0)) from by simp [List.getD, hif])
  clear h hd hv hf hg hm hdl hfr hfn
  go_enter Try.func28, Try.ntmps28
  go_wp2_with (first
    | (go_at_call 71; refine (H.out _ HW0.out).mono ?_; rintro e w1 ⟨rfl, hb1⟩; have HB1 := Lib.hid (HB3.out _ hb1); have HT1 := Lib.hid (HR0.out.below hb1); obtain ⟨b0, b1⟩ := box2 HB1.out; have hz1 := HT1.out.lt; have hy1 : w.heap.size < w1.heap.size := (by omega))
    | (go_at_call 64; refine (H2.out _ (below_box HB1.out)).mono ?_; rintro e w2 ⟨⟨j, f, rfl, hp⟩, hb2⟩; have HB2 := Lib.hid (on_call HB1.out hb2); have HT2 := Lib.hid (HT1.out.below hb2); clear b0 b1; obtain ⟨b0, b1⟩ := box2 HB2.out; have hz2 := HT2.out.lt; have hy2 : w.heap.size < w2.heap.size := (by omega); have hv2 : w1.heap.size ≤ w2.heap.size := hb2.size; obtain ⟨rfl, hji⟩ := HP.out j f hp; obtain rfl : i = j := hji.symm)
    | (go_at_call 72; refine (H3.out _ (below_box HB2.out)).mono ?_; rintro e w3 ⟨g, c, rfl, hg2, hoP, hb3⟩; have HB3 := Lib.hid (on_call HB2.out hb3); have HT3 := Lib.hid (HT2.out.below hb3); clear b0 b1; obtain ⟨b0, b1⟩ := box2 HB3.out; have hz3 := HT3.out.lt; have hy3 : w.heap.size < w3.heap.size := (by omega); have hv3 : w2.heap.size ≤ w3.heap.size := hb3.size)
    | (go_at_call 73; refine (H4.out _ (below_box HB3.out)).mono ?_; rintro e w4 ⟨gi, ci, rfl, hgi, hoI, hb4⟩; have HB4 := Lib.hid (on_call HB3.out hb4); have HT4 := Lib.hid (HT3.out.below hb4); clear b0 b1; obtain ⟨b0, b1⟩ := box2 HB4.out; have hz4 := HT4.out.lt; have hy4 : w.heap.size < w4.heap.size := (by omega); have hv4 : w3.heap.size ≤ w4.heap.size := hb4.size; have HO4 := Lib.hid (own_onP hoP hb4); have HI4 := Lib.hid hoI; have hgl := (hoP.lt g rfl).2; have hgil := iown_lt' hoI)
    | fail)
  have l1 := (HO4.out.cellAt (i * 4 + 1) (by omega)).trans HG1.out
  have l2 := (HO4.out.cellAt (i * 4 + 2) (by omega)).trans HG2.out
  have fz1 := HO4.out.frozenAt (i * 4 + 1)
  have fz2 := HO4.out.frozenAt (i * 4 + 2)
  have li := (World.ownsRow.cellAt HI4.out i (by omega)).trans HFG.out
  have fzi := World.ownsRow.frozenAt HI4.out i
  replace l1 : w4.cell? ⟨g, i * 4 + 1, none⟩ = some (.int .i64 (pAt ps i).fr) := l1
  replace l2 : w4.cell? ⟨g, i * 4 + 2, none⟩ = some (.int .i64 (pAt ps i).to) := l2
  have hgne : g ≠ gi := by omega
  have hgne2 : gi ≠ g := by omega
  have hgw : w.heap.size + 1 ≠ g := by omega
  have hgw2 : w.heap.size + 1 ≠ gi := by omega
  have hgw3 : w.heap.size ≠ g := by omega
  have hgw4 : w.heap.size ≠ gi := by omega
  have hgl4 : g < w4.heap.size := by omega
  have HP5 := Lib.hid (HO4.out.stored (i * 4 + 1) (.int .i64 (pAt ps i).to)).1
  have HP6 := Lib.hid (HP5.out.stored (i * 4 + 2) (.int .i64 (pAt ps i).fr)).1
  rw [HPS.out] at HP6
  have HI6 := Lib.hid ((HI4.out.far (grown_set (World.grownBy.refl _ _) (i * 4 + 1) (.int .i64 (pAt ps i).to)) hgne2).far (grown_set (World.grownBy.refl _ _) (i * 4 + 2) (.int .i64 (pAt ps i).fr)) hgne2)
  have HI7 := Lib.hid (World.ownsRow.stored HI6.out i (iv (-(fl.getD i 0)))).1
  rw [HNG.out] at HI7
  have HP7 := Lib.hid (own_farP HP6.out (grown_set (World.grownBy.refl _ _) i (iv (-(fl.getD i 0)))) hgne)
  have HB7 := Lib.hid (((HB4.out.setCell (p := ⟨g, i * 4 + 1, none⟩) (by show w.heap.size + 1 ≤ g; omega) (.int .i64 (pAt ps i).to)).setCell (p := ⟨g, i * 4 + 2, none⟩) (by show w.heap.size + 1 ≤ g; omega) (.int .i64 (pAt ps i).fr)).setCell (p := ⟨gi, i, none⟩) (by show w.heap.size + 1 ≤ gi; omega) (iv (-(fl.getD i 0))))
  obtain ⟨s0, s1⟩ := HT4.out.cell
  have f0 := HT4.out.frozen 0
  have f1 := HT4.out.frozen 1
  clear hoP hoI hb1 hb2 hb3 hb4 hp HP5 HI6 HP6
  obtain ⟨ta, hta⟩ : ∃ ta, (pAt ps i).to = ta := ⟨_, rfl⟩
  obtain ⟨fa, hfa⟩ : ∃ fa, (pAt ps i).fr = fa := ⟨_, rfl⟩
  obtain ⟨ya, hya⟩ : ∃ ya, fl.getD i 0 = ya := ⟨_, rfl⟩
  rw [hta] at l2 HI7 HP7 HB7
  rw [hfa] at l1 HI7 HP7 HB7
  rw [hya] at li hq0 hq1 HI7 HP7 HB7
  clear hta hfa hya
  refine wp_region_held_drew (S := fun _ => True) (by kernel_rfl) trivial (fun hHeld => ?_)
  refine wpAnyH_take (i := 0) (v := .slice (some ⟨g, 0, none⟩) ps.length c) rfl (by kernel_rfl) (by kernel_rfl) (by kernel_rfl) (fun _ _ _ h => h) (Or.inl ⟨by rfl, ?_⟩) (by assumption) ?_
  · (intro w hSw; (try dsimp only at hSw); go_simp)
  simp only [Act.put, List.setIfInBounds_toArray]
  refine wpAnyH_take (i := 1) (v := .int .i64 (i : Int)) rfl (by kernel_rfl) (by kernel_rfl) (by kernel_rfl) (fun _ _ _ h => h) (Or.inl ⟨by rfl, ?_⟩) (by assumption) ?_
  · (intro w hSw; (try dsimp only at hSw); go_simp)
  simp only [Act.put]
  refine wpAnyH_take (i := 2) (v := .slice (some ⟨g, 0, none⟩) ps.length c) rfl (by kernel_rfl) (by kernel_rfl) (by kernel_rfl) (fun _ _ _ h => h) (Or.inl ⟨by rfl, ?_⟩) (by assumption) ?_
  · (intro w hSw; (try dsimp only at hSw); go_simp)
  simp only [Act.put]
  refine wpAnyH_take (i := 3) (v := .int .i64 (i : Int)) rfl (by kernel_rfl) (by kernel_rfl) (by kernel_rfl) (fun _ _ _ h => h) (Or.inl ⟨by rfl, ?_⟩) (by assumption) ?_
  · (intro w hSw; (try dsimp only at hSw); go_simp)
  simp only [Act.put]
  refine wpAnyH_take (i := 4) (v := .slice (some ⟨g, 0, none⟩) ps.length c) rfl (by kernel_rfl) (by kernel_rfl) (by kernel_rfl) (fun _ _ _ h => h) (Or.inl ⟨by rfl, ?_⟩) (by assumption) ?_
  · (intro w hSw; (try dsimp only at hSw); go_simp)
  simp only [Act.put]
  refine wpAnyH_take (i := 5) (v := .int .i64 (i : Int)) rfl (by kernel_rfl) (by kernel_rfl) (by kernel_rfl) (fun _ _ _ h => h) (Or.inl ⟨by rfl, ?_⟩) (by assumption) ?_
  · (intro w hSw; (try dsimp only at hSw); go_simp)
  simp only [Act.put]
  refine wpAnyH_take (i := 6) (v := .pointer (some ⟨g, i * 4, none⟩)) rfl (by kernel_rfl) (by kernel_rfl) (by kernel_rfl) (fun _ _ _ h => h) (Or.inl ⟨by rfl, ?_⟩) (by assumption) ?_
  · (intro w hSw; (try dsimp only at hSw); go_simp)
  simp only [Act.put]
  refine wpAnyH_take (i := 7) (v := .pointer (some ⟨g, i * 4 + 2, none⟩)) rfl (by kernel_rfl) (by kernel_rfl) (by kernel_rfl) (fun _ _ _ h => h) (Or.inl ⟨by rfl, ?_⟩) (by assumption) ?_
  · (intro w hSw; (try dsimp only at hSw); go_simp)
  simp only [Act.put]
  refine wpAnyH_take (i := 9) (v := .slice (some ⟨g, 0, none⟩) ps.length c) rfl (by kernel_rfl) (by kernel_rfl) (by kernel_rfl) (fun _ _ _ h => h) (Or.inl ⟨by rfl, ?_⟩) (by assumption) ?_
  · (intro w hSw; (try dsimp only at hSw); go_simp)
  simp only [Act.put]
  refine wpAnyH_take (i := 10) (v := .int .i64 (i : Int)) rfl (by kernel_rfl) (by kernel_rfl) (by kernel_rfl) (fun _ _ _ h => h) (Or.inl ⟨by rfl, ?_⟩) (by assumption) ?_
  · (intro w hSw; (try dsimp only at hSw); go_simp)
  simp only [Act.put]
  refine wpAnyH_take (i := 11) (v := .pointer (some ⟨g, i * 4, none⟩)) rfl (by kernel_rfl) (by kernel_rfl) (by kernel_rfl) (fun _ _ _ h => h) (Or.inl ⟨by rfl, ?_⟩) (by assumption) ?_
  · (intro w hSw; (try dsimp only at hSw); go_simp)
  simp only [Act.put]
  refine wpAnyH_take (i := 12) (v := .pointer (some ⟨g, i * 4 + 1, none⟩)) rfl (by kernel_rfl) (by kernel_rfl) (by kernel_rfl) (fun _ _ _ h => h) (Or.inl ⟨by rfl, ?_⟩) (by assumption) ?_
  · (intro w hSw; (try dsimp only at hSw); go_simp)
  simp only [Act.put]
  refine wpAnyH_ready (rs := [8, 13]) (by kernel_rfl) (by simp) ?_
  refine AllReadyH.cons rfl (fun K hK => ?_) (AllReadyH.cons rfl (fun K hK => ?_) AllReadyH.nil)
  · go_simp
    refine hK.out _ _ trivial (fun hHeld => ?_)
    clear hK K
    refine wpAnyH_ready (rs := [13]) (by kernel_rfl) (by simp) ?_
    refine AllReadyH.cons rfl (fun K hK => ?_) AllReadyH.nil
    go_simp
    refine hK.out _ _ (by trivial) (fun hHeld => ?_)
    clear hK K
    refine wpAnyH_ready (rs := [14]) (by kernel_rfl) (by simp) ?_
    refine AllReadyH.cons rfl (fun K hK => ?_) AllReadyH.nil
    go_simp
    refine hK.out _ _ (by trivial) (fun hHeld => ?_)
    clear hK K
    refine wpAnyH_ready (rs := [15]) (by kernel_rfl) (by simp) ?_
    refine AllReadyH.cons rfl (fun K hK => ?_) AllReadyH.nil
    go_simp
    refine hK.out _ _ (by trivial) (fun hHeld => ?_)
    clear hK K
    refine wpAnyH_ready (rs := [16]) (by kernel_rfl) (by simp) ?_
    refine AllReadyH.cons rfl (fun K hK => ?_) AllReadyH.nil
    go_simp
    refine hK.out _ _ (by trivial) (fun hHeld => ?_)
    clear hK K
    refine wpAnyH_ready (rs := [17]) (by kernel_rfl) (by simp) ?_
    refine AllReadyH.cons rfl (fun K hK => ?_) AllReadyH.nil
    go_simp
    refine hK.out _ _ (by trivial) (fun hHeld => ?_)
    clear hK K
    refine wpAnyH_ready (rs := [18]) (by kernel_rfl) (by simp) ?_
    refine AllReadyH.cons rfl (fun K hK => ?_) AllReadyH.nil
    go_simp
    refine hK.out _ _ (by trivial) (fun hHeld => ?_)
    clear hK K
    refine wpAnyH_ready (rs := [19]) (by kernel_rfl) (by simp) ?_
    refine AllReadyH.cons rfl (fun K hK => ?_) AllReadyH.nil
    go_simp
    refine hK.out _ _ (by trivial) (fun hHeld => ?_)
    clear hK K
    refine wpAnyH_done (by kernel_rfl) ?_ _
    go_wp2
    refine bodyPost_ret (v := .tuple #[nv N (some ⟨g, 0, none⟩) ps.length c, .slice (some ⟨gi, 0, none⟩) fl.length ci, .bool true]) (by simp [results, Try.results28, go_sem, s0, s1]) rfl ⟨g, c, w2.heap.size, gi, ci, by rw [HRL.out, HNL.out], by omega, by omega, hgne, ?_, ?_, ?_⟩
    · rw [HRL.out]
      exact ownsRow_setCell_below (ownsRow_setCell_below HP7.out (by show w.heap.size + 1 < w2.heap.size; omega) _) (by show w.heap.size + 1 < w2.heap.size; omega) _
    · rw [HNL.out]
      have hx := ownsRow_setCell_below (ownsRow_setCell_below HI7.out (a := ⟨w.heap.size + 1, 0, none⟩) (by show w.heap.size + 1 < w3.heap.size; omega) (.int .i64 N)) (a := ⟨w.heap.size + 1, 1, none⟩) (by show w.heap.size + 1 < w3.heap.size; omega) (.slice (some ⟨g, 0, none⟩) ps.length c)
      refine own_lower (B := w3.heap.size) ?_
      unfold IOwn
      rw [HNL.out]
      exact hx
    · exact (((below_box HB7.out).setCell (p := ⟨w.heap.size + 1, 0, none⟩) (by show w.heap.size ≤ w.heap.size + 1; omega) (.int .i64 N)).setCell (p := ⟨w.heap.size + 1, 1, none⟩) (by show w.heap.size ≤ w.heap.size + 1; omega) (.slice (some ⟨g, 0, none⟩) ps.length c)).drew
  · go_simp
    refine hK.out _ _ trivial (fun hHeld => ?_)
    clear hK K
    refine wpAnyH_ready (rs := [8]) (by kernel_rfl) (by simp) ?_
    refine AllReadyH.cons rfl (fun K hK => ?_) AllReadyH.nil
    go_simp
    refine hK.out _ _ (by trivial) (fun hHeld => ?_)
    clear hK K
    refine wpAnyH_ready (rs := [14]) (by kernel_rfl) (by simp) ?_
    refine AllReadyH.cons rfl (fun K hK => ?_) AllReadyH.nil
    go_simp
    refine hK.out _ _ (by trivial) (fun hHeld => ?_)
    clear hK K
    refine wpAnyH_ready (rs := [15]) (by kernel_rfl) (by simp) ?_
    refine AllReadyH.cons rfl (fun K hK => ?_) AllReadyH.nil
    go_simp
    refine hK.out _ _ (by trivial) (fun hHeld => ?_)
    clear hK K
    refine wpAnyH_ready (rs := [16]) (by kernel_rfl) (by simp) ?_
    refine AllReadyH.cons rfl (fun K hK => ?_) AllReadyH.nil
    go_simp
    refine hK.out _ _ (by trivial) (fun hHeld => ?_)
    clear hK K
    refine wpAnyH_ready (rs := [17]) (by kernel_rfl) (by simp) ?_
    refine AllReadyH.cons rfl (fun K hK => ?_) AllReadyH.nil
    go_simp
    refine hK.out _ _ (by trivial) (fun hHeld => ?_)
    clear hK K
    refine wpAnyH_ready (rs := [18]) (by kernel_rfl) (by simp) ?_
    refine AllReadyH.cons rfl (fun K hK => ?_) AllReadyH.nil
    go_simp
    refine hK.out _ _ (by trivial) (fun hHeld => ?_)
    clear hK K
    refine wpAnyH_ready (rs := [19]) (by kernel_rfl) (by simp) ?_
    refine AllReadyH.cons rfl (fun K hK => ?_) AllReadyH.nil
    go_simp
    refine hK.out _ _ (by trivial) (fun hHeld => ?_)
    clear hK K
    refine wpAnyH_done (by kernel_rfl) ?_ _
    go_wp2
    refine bodyPost_ret (v := .tuple #[nv N (some ⟨g, 0, none⟩) ps.length c, .slice (some ⟨gi, 0, none⟩) fl.length ci, .bool true]) (by simp [results, Try.results28, go_sem, s0, s1]) rfl ⟨g, c, w2.heap.size, gi, ci, by rw [HRL.out, HNL.out], by omega, by omega, hgne, ?_, ?_, ?_⟩
    · rw [HRL.out]
      exact ownsRow_setCell_below (ownsRow_setCell_below HP7.out (by show w.heap.size + 1 < w2.heap.size; omega) _) (by show w.heap.size + 1 < w2.heap.size; omega) _
    · rw [HNL.out]
      have hx := ownsRow_setCell_below (ownsRow_setCell_below HI7.out (a := ⟨w.heap.size + 1, 0, none⟩) (by show w.heap.size + 1 < w3.heap.size; omega) (.int .i64 N)) (a := ⟨w.heap.size + 1, 1, none⟩) (by show w.heap.size + 1 < w3.heap.size; omega) (.slice (some ⟨g, 0, none⟩) ps.length c)
      refine own_lower (B := w3.heap.size) ?_
      unfold IOwn
      rw [HNL.out]
      exact hx
    · exact (((below_box HB7.out).setCell (p := ⟨w.heap.size + 1, 0, none⟩) (by show w.heap.size ≤ w.heap.size + 1; omega) (.int .i64 N)).setCell (p := ⟨w.heap.size + 1, 1, none⟩) (by show w.heap.size ≤ w.heap.size + 1; omega) (.slice (some ⟨g, 0, none⟩) ps.length c)).drew
end Go.Proofs.Ytipnecmgpfmjeaa.S2
