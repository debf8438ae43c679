/- How the law FnCurves draws its arguments: contracts. Conditions: each theorem's own premises. -/
import Derived.Test.YtpldbakllegheabCvCrv
import Derived.Test.YtpldbakllegheabCvRaiseS
import Derived.Deep.RegionLaw
import Derived.Deep.RegionHeld3
namespace Go.Proofs.Ytpldbakllegheab.S7
open Go.RowKit Go.Sort P7

theorem cat_on {w w1 w2 : World} {g gv : Nat} {o : Obj} {cs : List Cp} (h : CAt w1 (some ⟨gv, 0, none⟩) cs) (hg : (w1.alloc o).grownBy w2 (some g)) (hne : gv ≠ g) (_ : w = w) : CAt w2 (some ⟨gv, 0, none⟩) cs := (h.kept (alloc_below w1 o) (Nat.le_refl _)).far hg hne
theorem below_on {w w1 w2 : World} {g : Nat} {o : Obj} (hb : Below w.heap.size w w1) (hg : (w1.alloc o).grownBy w2 (some g)) (hwg : w.heap.size ≤ g) : Below w.heap.size w w2 :=
  (hb.trans ((alloc_below w1 o).mono hb.size)).trans (S1.grown_below hg hwg (by have := hb.size; simp; omega))

set_option maxHeartbeats 2000000 in
set_option maxRecDepth 100000 in
theorem dhead_any (a : Option Addr) (n cap : Nat) (w : World) (hc : S1.Cd w.heap.size a n w) (hn : n ≤ 65536) :
    Calls Try.prog 21 #[.slice a n cap] w fun e w' => (∃ (gv cv : Nat) (cs : List Cp) (z : Int), e = .returned (.tuple #[.slice (some ⟨gv, 0, none⟩) cs.length cv, .int .i64 z]) ∧ (1 ≤ cs.length ∧ cs.length ≤ 7) ∧ (cs.length ≤ cv ∧ cv ≤ maxLen) ∧ CAt w' (some ⟨gv, 0, none⟩) cs) ∧ Below w.heap.size w w' := by
  have HS0 := Lib.hid (S1.st_start cap hc hn)
  clear hc
  go_enter Try.func21, Try.ntmps21
  refine Hid.out ?_
  refine Lib.hid ?_
  go_wp2_with (first | (go_at_call 39; refine (curve_any w.heap.size w.heap.size a n cap 0 _ (by omega) HS0.out (by simp)).mono ?_; rintro e w1 ⟨gv, cv, cs, rfl, hgv, hl, hcc, hat, hs, hg⟩; refine Hid.out ?_) | fail)
  have hgv1 : w.heap.size < gv := by have := hgv.1; simp at this; omega
  have hgv2 := hgv.2
  have HA := Lib.hid hat
  have HS := Lib.hid hs
  have HB := Lib.hid (S1.below_of_start hg)
  have hz1 : w.heap.size < w1.heap.size := by omega
  clear hgv hat hs hg HS0
  refine Lib.hid ?_
  go_wp2_with (first | (go_at_call 41; refine (S1.among_any w.heap.size w.heap.size a n cap 60 w1.heap.size 10 10 [0, 1, 3, 5, 10, 12, 20, 31, 90, (-1)] _ rfl (by omega) (by simp) (by simp) (S1.st_new HS.out _) (fun j hj => S1.ti_new w1 [0, 1, 3, 5, 10, 12, 20, 31, 90, (-1)] 3 j hj) (by omega)).mono ?_; rintro e w2 ⟨⟨z, rfl⟩, hs, hg⟩; refine Hid.out ?_) | fail)
  have HA2 := Lib.hid (cat_on (w := w) HA.out hg (by omega) rfl)
  have HB2 := Lib.hid (below_on HB.out hg (Nat.le_refl _))
  clear hs hg HA HB HS
  refine Lib.hid ?_
  go_wp2_with fail
  go_ret2
  exact ⟨⟨gv, cv, cs, z, rfl, hl, hcc, HA2.out⟩, HB2.out⟩

set_option maxHeartbeats 2000000 in
set_option maxRecDepth 100000 in
theorem draise_any (a : Option Addr) (n cap : Nat) (w : World) (hc : S1.Cd w.heap.size a n w) (hn : n ≤ 65536) :
    Calls Try.prog 28 #[.slice a n cap] w fun e w' => (∃ (gv cv : Nat) (cs : List Cp) (z : Int), e = .returned (.tuple #[.slice (some ⟨gv, 0, none⟩) cs.length cv, .int .i64 z]) ∧ (1 ≤ cs.length ∧ cs.length ≤ 7) ∧ (cs.length ≤ cv ∧ cv ≤ maxLen) ∧ CAt w' (some ⟨gv, 0, none⟩) cs) ∧ Below w.heap.size w w' := by
  have HS0 := Lib.hid (S1.st_start cap hc hn)
  clear hc
  go_enter Try.func28, Try.ntmps28
  refine Hid.out ?_
  refine Lib.hid ?_
  go_wp2_with (first | (go_at_call 39; refine (curve_any w.heap.size w.heap.size a n cap 0 _ (by omega) HS0.out (by simp)).mono ?_; rintro e w1 ⟨gv, cv, cs, rfl, hgv, hl, hcc, hat, hs, hg⟩; refine Hid.out ?_) | fail)
  have hgv1 : w.heap.size < gv := by have := hgv.1; simp at this; omega
  have hgv2 := hgv.2
  have HA := Lib.hid hat
  have HS := Lib.hid hs
  have HB := Lib.hid (S1.below_of_start hg)
  have hz1 : w.heap.size < w1.heap.size := by omega
  clear hgv hat hs hg HS0
  refine Lib.hid ?_
  go_wp2_with (first | (go_at_call 41; refine (S1.among_any w.heap.size w.heap.size a n cap 60 w1.heap.size 9 9 [0, 1, (-5), 100, (-40), 1000, (-1000), 1001, (-1001)] _ rfl (by omega) (by simp) (by simp) (S1.st_new HS.out _) (fun j hj => S1.ti_new w1 [0, 1, (-5), 100, (-40), 1000, (-1000), 1001, (-1001)] 3 j hj) (by omega)).mono ?_; rintro e w2 ⟨⟨z, rfl⟩, hs, hg⟩; refine Hid.out ?_) | fail)
  have HA2 := Lib.hid (cat_on (w := w) HA.out hg (by omega) rfl)
  have HB2 := Lib.hid (below_on HB.out hg (Nat.le_refl _))
  clear hs hg HA HB HS
  refine Lib.hid ?_
  go_wp2_with fail
  go_ret2
  exact ⟨⟨gv, cv, cs, z, rfl, hl, hcc, HA2.out⟩, HB2.out⟩

set_option maxHeartbeats 2000000 in
set_option maxRecDepth 100000 in
theorem dflow_any (a : Option Addr) (n cap : Nat) (w : World) (hc : S1.Cd w.heap.size a n w) (hn : n ≤ 65536) :
    Calls Try.prog 26 #[.slice a n cap] w fun e w' => (∃ (gv cv : Nat) (cs : List Cp) (z : Int), e = .returned (.tuple #[.slice (some ⟨gv, 0, none⟩) cs.length cv, .int .i64 z]) ∧ (1 ≤ cs.length ∧ cs.length ≤ 7) ∧ (cs.length ≤ cv ∧ cv ≤ maxLen) ∧ CAt w' (some ⟨gv, 0, none⟩) cs) ∧ Below w.heap.size w w' := by
  have HS0 := Lib.hid (S1.st_start cap hc hn)
  clear hc
  go_enter Try.func26, Try.ntmps26
  refine Hid.out ?_
  refine Lib.hid ?_
  go_wp2_with (first | (go_at_call 39; refine (curve_any w.heap.size w.heap.size a n cap 0 _ (by omega) HS0.out (by simp)).mono ?_; rintro e w1 ⟨gv, cv, cs, rfl, hgv, hl, hcc, hat, hs, hg⟩; refine Hid.out ?_) | fail)
  have hgv1 : w.heap.size < gv := by have := hgv.1; simp at this; omega
  have hgv2 := hgv.2
  have HA := Lib.hid hat
  have HS := Lib.hid hs
  have HB := Lib.hid (S1.below_of_start hg)
  have hz1 : w.heap.size < w1.heap.size := by omega
  clear hgv hat hs hg HS0
  obtain ⟨bb, oo, hA, _, c0, c1⟩ := HA.out.at_ (show 0 < cs.length by omega)
  simp only [Option.some.injEq, Addr.mk.injEq, and_true] at hA
  obtain ⟨rfl, rfl⟩ := hA
  simp only [Nat.zero_mul, Nat.add_zero, Nat.zero_add] at c1
  clear c0
  generalize (cAt cs 0).hd = y at *
  have HD := Lib.hid ((show Below w1.heap.size w1 ((w1.alloc (.cells #[.int .i64 0, .int .i64 1, .int .i64 2, .int .i64 4, .int .i64 7, .int .i64 10, .int .i64 30, .int .i64 (-1)] 3)).drew) from (alloc_below w1 _).drew))
  refine Lib.hid ?_
  have hnil : ¬ cs = [] := by intro e; rw [e] at hl; simp at hl
  go_upto_region 3 with (fail)
  refine wp_region_held_drew (S := fun w' => w'.cell? ⟨gv, 1, none⟩ = some (.int .i64 y)) (by kernel_rfl) (by exact c1) (fun hHeld => ?_)
  refine wpAnyH_take (i := 0) (v := .slice (some ⟨gv, 0, none⟩) cs.length cv) rfl (by kernel_rfl) (by kernel_rfl) (by kernel_rfl) (fun _ _ _ h => h) (Or.inl ⟨by rfl, ?_⟩) (by assumption) ?_
  · (intro w hSw; (try dsimp only at hSw); go_simp)
  simp only [Act.put, List.setIfInBounds_toArray]
  refine wpAnyH_take (i := 1) (v := .slice (some ⟨gv, 0, none⟩) cs.length cv) rfl (by kernel_rfl) (by kernel_rfl) (by kernel_rfl) (fun _ _ _ h => h) (Or.inl ⟨by rfl, ?_⟩) (by assumption) ?_
  · (intro w hSw; (try dsimp only at hSw); go_simp)
  simp only [Act.put]
  refine wpAnyH_take (i := 2) (v := .pointer (some ⟨gv, 0, none⟩)) rfl (by kernel_rfl) (by kernel_rfl) (by kernel_rfl) (fun _ _ _ h => h) (Or.inl ⟨by rfl, ?_⟩) (by assumption) ?_
  · (intro w hSw; (try dsimp only at hSw); go_simp)
  simp only [Act.put]
  refine wpAnyH_take (i := 3) (v := .pointer (some ⟨gv, 1, none⟩)) rfl (by kernel_rfl) (by kernel_rfl) (by kernel_rfl) (fun _ _ _ h => h) (Or.inl ⟨by rfl, ?_⟩) (by assumption) ?_
  · (intro w hSw; (try dsimp only at hSw); go_simp)
  simp only [Act.put]
  refine wpAnyH_take (i := 4) (v := .int .i64 y) rfl (by kernel_rfl) (by kernel_rfl) (by kernel_rfl) (fun _ _ _ h => h) (Or.inl ⟨by rfl, ?_⟩) (by assumption) ?_
  · (intro w hSw; (try dsimp only at hSw); go_simp)
  simp only [Act.put]
  refine wpAnyH_take (i := 5) (v := .pointer (some ⟨w.heap.size, 0, none⟩)) rfl (by kernel_rfl) (by kernel_rfl) (by kernel_rfl) (fun _ _ _ h => h) (Or.inl ⟨by rfl, ?_⟩) (by assumption) ?_
  · (intro w hSw; (try dsimp only at hSw); go_simp)
  simp only [Act.put]
  refine wpAnyH_ready (rs := [6]) (by kernel_rfl) (by simp) ?_
  refine AllReadyH.cons rfl (fun K hK => ?_) AllReadyH.nil
  go_simp
  refine hK.out _ _ (by first | assumption | go_keep) (fun hHeld => ?_)
  clear hK K
  refine wpAnyH_ready (rs := [7]) (by kernel_rfl) (by simp) ?_
  refine AllReadyH.cons rfl (fun K hK => ?_) AllReadyH.nil
  go_simp
  go_at_call 41
  refine (S1.among_any w.heap.size w.heap.size a n cap 60 w1.heap.size 8 8 [0, 1, 2, 4, 7, 10, 30, (-1)] _ rfl (by omega) (by simp) (by simp) (S1.St.other HS.out HD.out) (fun j hj => S1.ti_new w1 [0, 1, 2, 4, 7, 10, 30, (-1)] 3 j hj) (by omega)).mono ?_
  rintro e w2 ⟨⟨z, rfl⟩, hs, hg⟩
  have HA2 := Lib.hid ((HA.out.kept HD.out (Nat.le_refl _)).far hg (by omega))
  have HB2 := Lib.hid ((HB.out.trans (HD.out.mono (by omega))).trans (S1.grown_below hg (Nat.le_refl _) (by have := HD.out.size; omega)))
  have q0 := (hg.cell_far ⟨gv, 1, none⟩ (by have := HD.out.size; dsimp only; omega) (by simp; omega)).trans ((HD.out.cell (p := ⟨gv, 1, none⟩) hgv2).trans c1)
  refine hK.out _ _ (by exact q0) (fun hHeld => ?_)
  clear hK K
  refine wpAnyH_take (i := 8) (v := .int .i64 (IntKind.i64.wrap (y - z))) rfl (by kernel_rfl) (by kernel_rfl) (by kernel_rfl) (fun _ _ _ h => h) (Or.inl ⟨by rfl, ?_⟩) (by assumption) ?_
  · (intro w hSw; (try dsimp only at hSw); go_simp)
  simp only [Act.put]
  refine wpAnyH_ready (rs := [9]) (by kernel_rfl) (by simp) ?_
  refine AllReadyH.cons rfl (fun K hK => ?_) AllReadyH.nil
  go_simp
  refine hK.out _ _ (by first | assumption | go_keep) (fun hHeld => ?_)
  clear hK K
  refine wpAnyH_ready (rs := [10]) (by kernel_rfl) (by simp) ?_
  refine AllReadyH.cons rfl (fun K hK => ?_) AllReadyH.nil
  go_simp
  refine hK.out _ _ (by first | assumption | go_keep) (fun hHeld => ?_)
  clear hK K
  refine wpAnyH_done (by kernel_rfl) ?_ _
  clear HA HB HS HD
  go_wp2_with fail
  go_ret2
  exact ⟨⟨gv, cv, cs, _, rfl, hl, hcc, HA2.out⟩, HB2.out⟩

set_option maxHeartbeats 2000000 in
set_option maxRecDepth 100000 in
theorem dabove_any (a : Option Addr) (n cap : Nat) (w : World) (hc : S1.Cd w.heap.size a n w) (hn : n ≤ 65536) :
    Calls Try.prog 32 #[.slice a n cap] w fun e w' => (∃ (gv cv : Nat) (cs : List Cp) (gw cw : Nat) (ds : List Cp), e = .returned (.tuple #[.slice (some ⟨gv, 0, none⟩) cs.length cv, .slice (some ⟨gw, 0, none⟩) ds.length cw]) ∧ (1 ≤ cs.length ∧ cs.length ≤ 7) ∧ (cs.length ≤ cv ∧ cv ≤ maxLen) ∧ CAt w' (some ⟨gv, 0, none⟩) cs ∧ ds.length ≤ 7 ∧ (ds.length ≤ cw ∧ cw ≤ maxLen) ∧ CAt w' (some ⟨gw, 0, none⟩) ds) ∧ Below w.heap.size w w' := by
  have HS0 := Lib.hid (S1.st_start cap hc hn)
  clear hc
  go_enter Try.func32, Try.ntmps32
  refine Hid.out ?_
  refine Lib.hid ?_
  go_wp2_with (first | (go_at_call 39; refine (curve_any w.heap.size w.heap.size a n cap 0 _ (by omega) HS0.out (by simp)).mono ?_; rintro e w1 ⟨gv, cv, cs, rfl, hgv, hl, hcc, hat, hs, hg⟩; refine Hid.out ?_) | fail)
  have hgv1 : w.heap.size < gv := by have := hgv.1; simp at this; omega
  have hgv2 := hgv.2
  have HA := Lib.hid hat
  have HS := Lib.hid hs
  have HB := Lib.hid (S1.below_of_start hg)
  have hz1 : w.heap.size < w1.heap.size := by omega
  clear hgv hat hs hg HS0
  refine Lib.hid ?_
  go_wp2_with (first | (go_at_call 42; refine (S1.pick_any w.heap.size w.heap.size a n cap 60 3 _ (by omega) (by omega) (by omega) HS.out).mono ?_; rintro e w2 ⟨r, rfl, hr0, hr9, hs, hg⟩; refine Hid.out ?_) | fail)
  have HA2 := Lib.hid (HA.out.far hg (by omega))
  have HS2 := Lib.hid hs
  have HB2 := Lib.hid (HB.out.trans (S1.grown_below hg (Nat.le_refl _) (by omega)))
  have hz2 : w1.heap.size ≤ w2.heap.size := hg.size
  have hgv3 : gv < w2.heap.size := by omega
  clear hs hg HA HB HS
  have hnw : IntKind.i64.wrap (-r) = -r := w64 _ (by omega)
  refine Lib.hid ?_
  go_wp2_with (first | (go_at_call 30; refine (sraise_any (some ⟨gv, 0, none⟩) cv cs (-r) _ HA2.out (by omega)).mono ?_; rintro e w3 ⟨gw, cw, rfl, hgw, hat, hb3, hgl, hc1, hc2⟩; refine Hid.out ?_) | fail)
  have HA3 := Lib.hid (HA2.out.kept hb3 (Nat.le_refl _))
  have HD3 := Lib.hid hat
  have HS3 := Lib.hid (S1.St.other HS2.out hb3)
  have HB3 := Lib.hid (HB2.out.trans (hb3.mono (by omega)))
  have hz3 := hb3.size
  have hl3 := rL_len cs (-r)
  generalize rL cs (-r) = ds at *
  generalize rB cs (-r) = ok at *
  clear hat hb3 HA2 HS2 HB2
  cases ok with
  | true =>
    refine Lib.hid ?_
    go_wp2_with (first | (go_at_call 61; refine (S1.one_any w.heap.size w.heap.size a n cap 62 2 _ (by omega) (by omega) (by omega) HS3.out).mono ?_; rintro e w4 ⟨yes, rfl, hs, hg⟩; refine Hid.out ?_) | fail)
    have HA4 := Lib.hid (HA3.out.far hg (by omega))
    have HD4 := Lib.hid (HD3.out.far hg (by omega))
    have HS4 := Lib.hid hs
    have HB4 := Lib.hid (HB3.out.trans (S1.grown_below hg (Nat.le_refl _) (by omega)))
    have hz4 := hg.size
    clear hs hg HA3 HD3 HS3 HB3
    cases yes with
    | true =>
      refine Lib.hid ?_
      go_wp2_with fail
      go_ret2
      exact ⟨⟨gv, cv, cs, gw, cw, ds, rfl, hl, hcc, HA4.out, by omega, ⟨hc1, hc2⟩, HD4.out⟩, HB4.out⟩
    | false =>
      refine Lib.hid ?_
      go_wp2_with (first | (go_at_call 39; refine (curve_any w.heap.size w.heap.size a n cap 64 _ (by omega) HS4.out (by omega)).mono ?_; rintro e w5 ⟨gx, cx, es, rfl, hgx, hlx, hcx, hatx, hs, hg⟩; refine Hid.out ?_) | fail)
      have HA5 := Lib.hid (HA4.out.far hg (by omega))
      have HB5 := Lib.hid (HB4.out.trans (S1.grown_below hg (Nat.le_refl _) (by omega)))
      have HX5 := Lib.hid hatx
      clear hs hg hatx
      refine Lib.hid ?_
      go_wp2_with fail
      go_ret2
      exact ⟨⟨gv, cv, cs, gx, cx, es, rfl, hl, hcc, HA5.out, hlx.2, hcx, HX5.out⟩, HB5.out⟩
  | false =>
    refine Lib.hid ?_
    go_wp2_with (first | (go_at_call 39; refine (curve_any w.heap.size w.heap.size a n cap 64 _ (by omega) (HS3.out.more (by omega)) (by omega)).mono ?_; rintro e w5 ⟨gx, cx, es, rfl, hgx, hlx, hcx, hatx, hs, hg⟩; refine Hid.out ?_) | fail)
    have HA5 := Lib.hid (HA3.out.far hg (by omega))
    have HB5 := Lib.hid (HB3.out.trans (S1.grown_below hg (Nat.le_refl _) (by omega)))
    have HX5 := Lib.hid hatx
    clear hs hg hatx
    refine Lib.hid ?_
    go_wp2_with fail
    go_ret2
    exact ⟨⟨gv, cv, cs, gx, cx, es, rfl, hl, hcc, HA5.out, hlx.2, hcx, HX5.out⟩, HB5.out⟩
end Go.Proofs.Ytpldbakllegheab.S7
