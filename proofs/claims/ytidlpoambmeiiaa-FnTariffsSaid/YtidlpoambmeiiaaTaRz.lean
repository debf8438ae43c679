/- RaiseTariff of the program: contracts. Conditions: each theorem's own premises. -/
import Derived.Test.YtidlpoambmeiiaaTaSm
namespace Go.Proofs.Ytidlpoambmeiiaa.S14
open Go.RowKit Go.Sort P14

theorem rzB_of {t : Ta} {p : Int} (h : rzB t p = true) : P14.Good t ∧ (-100 ≤ p ∧ p ≤ 100) ∧ P14.Good (rzT t p) := by
  unfold rzB at h
  simp only [Bool.and_eq_true, decide_eq_true_eq] at h
  exact ⟨gB_of h.1.1, h.1.2, gB_of h.2⟩
theorem rzB_bad {t : Ta} {p : Int} (h : gB t = false) : rzB t p = false := by unfold rzB; rw [h]; rfl
theorem rzB_low {t : Ta} {p : Int} (h : ¬ (-100 ≤ p ∧ p ≤ 100)) : rzB t p = false := by unfold rzB; simp [h]
theorem rzB_res {t : Ta} {p : Int} (g : gB t = true) (h : -100 ≤ p ∧ p ≤ 100) : rzB t p = gB (rzT t p) := by unfold rzB; rw [g]; simp [h]
def RzI (t : Ta) (p : Int) (w : World) (e : Ending) (w' : World) : Prop := (rzB t p = true ∧ GivesT w (rzT t p) true e w') ∨ (rzB t p = false ∧ GivesTN w e w')
set_option maxHeartbeats 16000000 in
set_option maxRecDepth 100000 in
theorem raise_any (t : Ta) (A : Option Addr) (c : Nat) (p : Int) (w : World) (h : TAt w t A) :
    Calls Try.prog 39 #[tv t A c, .int .i64 p] w (RzI t p w) := by
  have HC0 := Lib.hid (CR.new w 29 29 t A c)
  obtain ⟨b, hb⟩ : ∃ b, gB t = b := ⟨_, rfl⟩
  have HG := Lib.hid (fun w' (hb' : Below w.heap.size w w') => valid_w hb A c w' (h.kept hb'))
  have HA := Lib.hid h.x
  clear h
  cases b with
  | false =>
    have HN := Lib.hid (rzB_bad (p := p) hb)
    clear hb
    go_enter Try.func39, Try.ntmps39
    go_wp2_with (first | (go_at_call 18; refine (HG.out _ HC0.out.bw).mono ?_; rintro e w1 ⟨rfl, hb1⟩; have HC1 := Lib.hid (HC0.out.call hb1); clear hb1; refine Hid.out ?_) | fail)
    obtain ⟨_, ⟨hlr, r0, r1, hfr⟩, _⟩ := HC1.out
    refine Lib.hid ?_
    go_wp2_with fail
    refine bodyPost_ret (v := .tuple #[tv ⟨0, []⟩ none 0, .bool false]) (by simp [results, Try.results39, go_sem, r0, r1]) rfl (.inr ⟨HN.out, rfl, two_set HC1.out.bw (by omega)⟩)
  | true =>
    by_cases e1 : p < -100
    · have HN := Lib.hid (rzB_low (t := t) (p := p) (by omega))
      clear hb
      go_enter Try.func39, Try.ntmps39
      go_wp2_with (first | (go_at_call 18; refine (HG.out _ HC0.out.bw).mono ?_; rintro e w1 ⟨rfl, hb1⟩; have HC1 := Lib.hid (HC0.out.call hb1); clear hb1; refine Hid.out ?_) | fail)
      obtain ⟨_, ⟨hlr, r0, r1, hfr⟩, _⟩ := HC1.out
      refine Lib.hid ?_
      go_wp2_with fail
      refine bodyPost_ret (v := .tuple #[tv ⟨0, []⟩ none 0, .bool false]) (by simp [results, Try.results39, go_sem, r0, r1]) rfl (.inr ⟨HN.out, rfl, two_set HC1.out.bw (by omega)⟩)
    by_cases e2 : 100 < p
    · have HN := Lib.hid (rzB_low (t := t) (p := p) (by omega))
      clear hb
      go_enter Try.func39, Try.ntmps39
      go_wp2_with (first | (go_at_call 18; refine (HG.out _ HC0.out.bw).mono ?_; rintro e w1 ⟨rfl, hb1⟩; have HC1 := Lib.hid (HC0.out.call hb1); clear hb1; refine Hid.out ?_) | fail)
      obtain ⟨_, ⟨hlr, r0, r1, hfr⟩, _⟩ := HC1.out
      refine Lib.hid ?_
      go_wp2_with fail
      refine bodyPost_ret (v := .tuple #[tv ⟨0, []⟩ none 0, .bool false]) (by simp [results, Try.results39, go_sem, r0, r1]) rfl (.inr ⟨HN.out, rfl, two_set HC1.out.bw (by omega)⟩)
    have hp0 : -100 ≤ p := by omega
    have hp9 : p ≤ 100 := by omega
    have d1 : decide (p < -100) = false := by simp; omega
    have d2 : decide (100 < p) = false := by simp; omega
    clear e1 e2
    have HGB := Lib.hid hb
    have hg := (gB_of hb).2.1
    have hfee := (gB_of hb).1
    have HRB := Lib.hid (rzB_res hb ⟨hp0, hp9⟩)
    have HRF := Lib.hid (fun w => raised_any t.fee p w hfee.1 hfee.2 hp0 hp9)
    obtain ⟨i0, hi0, hz0, hz1, hz2⟩ := info_parts infoC
    clear hb
    obtain ⟨rf, hrf⟩ : ∃ rf, rz t.fee p = rf := ⟨_, rfl⟩
    rw [hrf] at HRF
    have HRE := Lib.hid hrf
    clear hrf hfee
    go_enter Try.func39, Try.ntmps39
    go_wp2_with (first | (go_at_call 18; refine (HG.out _ HC0.out.bw).mono ?_; rintro e w1 ⟨rfl, hb1⟩; have HC1 := Lib.hid (HC0.out.call hb1); clear hb1; refine Hid.out ?_) | fail)
    obtain ⟨⟨hla, q0, q1, _⟩, ⟨hlr, _, _, _⟩, _⟩ := HC1.out
    have HO := Lib.hid (OT.start w1 29 rf)
    have HB := Lib.hid (alloc_below w1 (.cells #[.int .i64 rf, .slice none 0 0] 29))
    clear HC0 HG
    refine Lib.hid ?_
    go_wp2_with (first | (go_at_call 72; refine (HRF.out _).mono ?_; rintro e w3 ⟨rfl, hw⟩; replace hw := hw.symm; subst hw) | fail)
    clear q0 q1 d1 d2
    go_loopw [29] (fun i wr => ∃ (k : Nat) (v : Value), k ≤ t.bs.length ∧ i = .int .i64 (k : Int) ∧ Hid (OT wr w1.heap.size rf v (rzL t.bs p k)) ∧ Hid (Below w1.heap.size w1 wr)) (fun i _ => t.bs.length - (intOf i).toNat)
    case atStart => exact ⟨0, _, Nat.zero_le _, rfl, HO, HB⟩
    case round =>
      clear HO HB
      obtain ⟨k, v, hk, rfl, hO, HB⟩ := hrel
      obtain ⟨⟨hl0, q0, q1, _⟩, _, hba⟩ := HC1.out.call HB.out
      by_cases hlt : k < t.bs.length
      · have HCr := Lib.hid (HC1.out.call HB.out)
        have HAr := Lib.hid (HA.out.kept HCr.out.bw (Nat.le_refl _))
        obtain ⟨bb, off, hA, hbl, h0, h1⟩ := HAr.out.at_ hlt
        subst hA
        have hk0 : (0 : Int) ≤ (k : Int) := by omega
        have hkn : (k : Int) < (t.bs.length : Int) := by omega
        have hle := rzL_len t.bs p k
        have HV := Lib.hid (rzL_succ t.bs p k)
        have hxy := ((gB_of HGB.out).at_ hlt).2
        have HRK := Lib.hid (fun w => raised_any (cAt t.bs k).pr p w hxy.1 (by omega) hp0 hp9)
        generalize (cAt t.bs k).up = x at *
        generalize (cAt t.bs k).pr = y at *
        obtain ⟨z, hzz⟩ : ∃ z, rz y p = z := ⟨_, rfl⟩
        rw [hzz] at HRK HV
        have hbz := hba.size
        have hbb : bb < w.heap.size := by
          rcases HA.out with h | ⟨b', off', hA', hlt', _⟩
          · rw [h] at hlt; simp at hlt
          · simp only [Option.some.injEq, Addr.mk.injEq, and_true] at hA'
            omega
        clear hzz hxy hbl
        have HOb := Lib.hid (hO.out.on (alloc_below wr (.cells #[.int .i64 x, .int .i64 y] 62)))
        have HBb := Lib.hid (HB.out.alloc HB.out.size (.cells #[.int .i64 x, .int .i64 y] 62))
        have HQb := Lib.hid (C2.new wr 62 (.int .i64 x) (.int .i64 y))
        obtain ⟨X, hX⟩ : ∃ X, X = wr.heap.size := ⟨_, rfl⟩
        have hneX := Lib.hid (show some X ≠ v.ownBlock by rw [hX]; exact hO.out.nw (Nat.le_refl _))
        have hltX := Lib.hid (show w1.heap.size < X by rw [hX]; exact hO.out.lt)
        go_wp2
        generalize hWa : wr.alloc (.cells #[.int .i64 x, .int .i64 y] 62) = wb at *
        clear hWa q0 q1 h0 h1 hO HB HCr HAr hba
        rw [← hX] at *
        obtain ⟨hXw, e0, e1, _⟩ := HQb.out
        have hzb := HBb.out.size
        have ho := HOb.out.own
        unfold COwn at ho
        obtain ⟨o0, o1, of, ol, _⟩ := HOb.out
        have hne0 := Lib.hid (HOb.out.ne (b := w.heap.size) (by omega))
        have hne1 := Lib.hid (HOb.out.ne (b := bb) (by omega))
        have hW := Lib.hid (((Below.refl wb.heap.size wb).alloc (Nat.le_refl _) (.cells #[.int .i64 x, .int .i64 z] 62)).drew)
        refine wp_region_held_drew (S := fun w' => w'.cell? ⟨X, 0, none⟩ = some (.int .i64 x) ∧ w'.cell? ⟨X, 1, none⟩ = some (.int .i64 y)) (by kernel_rfl) (by exact ⟨e0, e1⟩) (fun hHeld => ?_)
        refine wpAnyH_take (i := 0) (v := .pointer (some ⟨w1.heap.size, 1, none⟩)) rfl (by kernel_rfl) (by kernel_rfl) (by kernel_rfl) (fun _ _ _ h => h) (Or.inl ⟨by kernel_rfl, ?_⟩) (by assumption) ?_
        · (intro w hSw; (try dsimp only at hSw); go_simp)
        simp only [Act.put, List.setIfInBounds_toArray]
        refine wpAnyH_take (i := 2) (v := .pointer (some ⟨X, 0, none⟩)) rfl (by kernel_rfl) (by kernel_rfl) (by kernel_rfl) (fun _ _ _ h => h) (Or.inl ⟨by kernel_rfl, ?_⟩) (by assumption) ?_
        · (intro w hSw; (try dsimp only at hSw); go_simp)
        simp only [Act.put]
        refine wpAnyH_take (i := 3) (v := .int .i64 x) rfl (by kernel_rfl) (by kernel_rfl) (by kernel_rfl) (fun _ _ _ h => h) (Or.inl ⟨by kernel_rfl, ?_⟩) (by assumption) ?_
        · (intro w hSw; (try dsimp only at hSw); go_simp)
        simp only [Act.put]
        refine wpAnyH_take (i := 4) (v := .pointer (some ⟨X, 1, none⟩)) rfl (by kernel_rfl) (by kernel_rfl) (by kernel_rfl) (fun _ _ _ h => h) (Or.inl ⟨by kernel_rfl, ?_⟩) (by assumption) ?_
        · (intro w hSw; (try dsimp only at hSw); go_simp)
        simp only [Act.put]
        refine wpAnyH_take (i := 5) (v := .int .i64 y) rfl (by kernel_rfl) (by kernel_rfl) (by kernel_rfl) (fun _ _ _ h => h) (Or.inl ⟨by kernel_rfl, ?_⟩) (by assumption) ?_
        · (intro w hSw; (try dsimp only at hSw); go_simp)
        simp only [Act.put]
        refine wpAnyH_take (i := 6) (v := .int .i64 p) rfl (by kernel_rfl) (by kernel_rfl) (by kernel_rfl) (fun _ _ _ h => h) (Or.inl ⟨by kernel_rfl, ?_⟩) (by assumption) ?_
        · (intro w hSw; (try dsimp only at hSw); go_simp)
        simp only [Act.put]
        refine wpAnyH_ready (rs := [1, 7]) (by kernel_rfl) (by simp) ?_
        refine AllReadyH.cons rfl (fun K hK => ?_) (AllReadyH.cons rfl (fun K hK => ?_) AllReadyH.nil)
        · go_simp
          refine hK.out _ _ (by first | assumption | go_keep) (fun hHeld => ?_)
          clear hK K
          refine wpAnyH_ready (rs := [7]) (by kernel_rfl) (by simp) ?_
          refine AllReadyH.cons rfl (fun K hK => ?_) AllReadyH.nil
          go_simp
          go_at_call 72
          refine (HRK.out _).mono ?_
          rintro e wq ⟨rfl, hw⟩
          replace hw := hw.symm
          subst hw
          refine hK.out _ _ ⟨e0, e1⟩ (fun hHeld => ?_)
          clear hK K
          refine wpAnyH_take (i := 8) (v := .agg #[.int .i64 x, .int .i64 z]) rfl (by kernel_rfl) (by kernel_rfl) (by kernel_rfl) (fun _ _ _ h => h) (Or.inl ⟨by kernel_rfl, ?_⟩) (by assumption) ?_
          · (intro w hSw; (try dsimp only at hSw); go_simp)
          simp only [Act.put]
          refine wpAnyH_ready (rs := [9]) (by kernel_rfl) (by simp) ?_
          refine AllReadyH.cons rfl (fun K hK => ?_) AllReadyH.nil
          go_simp
          refine hK.out _ _ (by first | assumption | go_keep) (fun hHeld => ?_)
          clear hK K
          refine wpAnyH_ready (rs := [10]) (by kernel_rfl) (by simp) ?_
          refine AllReadyH.cons rfl (fun K hK => ?_) AllReadyH.nil
          refine step_append_lies _ (by rfl) _ _ _ (by rfl) (w1.heap.size + 1) 62 i0 _ 2 16 Try.underlying27 hi0 hz0 hz1 hz2 rfl (by omega) v (rzL t.bs p k).length (ccs (rzL t.bs p k)) (by rfl) ((ho.alloc _).drew)
            ⟨wb.heap.size, 0, none⟩ 1 1 (ccs2 ⟨x, z⟩) (by rfl) (by rfl) (cells_new2 wb _ _ _) (ccs2_one _)
            (by omega) (by simp only [maxLen]; omega) (by omega) (by simp; omega) (wb.heap.size + 1) (by simp) ?_
          intro gg cap' w4 hown4 hgrow _ _
          have g7 := (HOb.out.on hW.out).grown hgrow
          have g71 := g7.2.1
          have g7f := g7.2.2.1
          have g7l := g7.2.2.2
          have hltX2 := hltX.out
          have h04 := (hgrow.cell_far ⟨X, 0, none⟩ (by show X < _; simp; omega) hneX.out).trans ((hW.out.cell (p := ⟨X, 0, none⟩) hXw).trans e0)
          have h14 := (hgrow.cell_far ⟨X, 1, none⟩ (by show X < _; simp; omega) hneX.out).trans ((hW.out.cell (p := ⟨X, 1, none⟩) hXw).trans e1)
          refine hK.out _ _ ⟨h04, h14⟩ (fun hHeld => ?_)
          clear hK K
          refine wpAnyH_ready (rs := [11]) (by kernel_rfl) (by simp) ?_
          refine AllReadyH.cons rfl (fun K hK => ?_) AllReadyH.nil
          go_simp
          refine hK.out _ _ (by first | assumption | go_keep) (fun hHeld => ?_)
          clear hK K
          refine wpAnyH_ready (rs := [12]) (by kernel_rfl) (by simp) ?_
          refine AllReadyH.cons rfl (fun K hK => ?_) AllReadyH.nil
          go_simp
          refine hK.out _ _ ⟨(World.cell?_setCell_far _ _ _ _ (by show w1.heap.size ≠ X; omega)).trans h04, (World.cell?_setCell_far _ _ _ _ (by show w1.heap.size ≠ X; omega)).trans h14⟩ (fun hHeld => ?_)
          clear hK K
          refine wpAnyH_done (by kernel_rfl) ?_ _
          have HPU := Lib.hid ((HOb.out.on hW.out).push (p := ⟨x, z⟩) hown4 hgrow)
          have HBF := Lib.hid ((HOb.out.on hW.out).below (v' := .slice (some ⟨gg, 0, none⟩) ((rzL t.bs p k).length + 1) cap') (HBb.out.trans (hW.out.mono HBb.out.size)) hgrow (Nat.le_refl _))
          rw [hle] at HPU HBF
          rw [← HV.out] at HPU
          go_wp2
          go_roundw
          case rel => exact ⟨k + 1, _, by omega, by go_num, HPU, HBF⟩
          case measure => simp [intOf]; omega
        · go_simp
          go_at_call 72
          refine (HRK.out _).mono ?_
          rintro e wq ⟨rfl, hw⟩
          replace hw := hw.symm
          subst hw
          refine hK.out _ _ ⟨e0, e1⟩ (fun hHeld => ?_)
          clear hK K
          refine wpAnyH_take (i := 8) (v := .agg #[.int .i64 x, .int .i64 z]) rfl (by kernel_rfl) (by kernel_rfl) (by kernel_rfl) (fun _ _ _ h => h) (Or.inl ⟨by kernel_rfl, ?_⟩) (by assumption) ?_
          · (intro w hSw; (try dsimp only at hSw); go_simp)
          simp only [Act.put]
          refine wpAnyH_ready (rs := [1, 9]) (by kernel_rfl) (by simp) ?_
          refine AllReadyH.cons rfl (fun K hK => ?_) (AllReadyH.cons rfl (fun K hK => ?_) AllReadyH.nil)
          · go_simp
            refine hK.out _ _ (by first | assumption | go_keep) (fun hHeld => ?_)
            clear hK K
            refine wpAnyH_ready (rs := [9]) (by kernel_rfl) (by simp) ?_
            refine AllReadyH.cons rfl (fun K hK => ?_) AllReadyH.nil
            go_simp
            refine hK.out _ _ (by first | assumption | go_keep) (fun hHeld => ?_)
            clear hK K
            refine wpAnyH_ready (rs := [10]) (by kernel_rfl) (by simp) ?_
            refine AllReadyH.cons rfl (fun K hK => ?_) AllReadyH.nil
            refine step_append_lies _ (by rfl) _ _ _ (by rfl) (w1.heap.size + 1) 62 i0 _ 2 16 Try.underlying27 hi0 hz0 hz1 hz2 rfl (by omega) v (rzL t.bs p k).length (ccs (rzL t.bs p k)) (by rfl) ((ho.alloc _).drew)
              ⟨wb.heap.size, 0, none⟩ 1 1 (ccs2 ⟨x, z⟩) (by rfl) (by rfl) (cells_new2 wb _ _ _) (ccs2_one _)
              (by omega) (by simp only [maxLen]; omega) (by omega) (by simp; omega) (wb.heap.size + 1) (by simp) ?_
            intro gg cap' w4 hown4 hgrow _ _
            have g7 := (HOb.out.on hW.out).grown hgrow
            have g71 := g7.2.1
            have g7f := g7.2.2.1
            have g7l := g7.2.2.2
            have hltX2 := hltX.out
            have h04 := (hgrow.cell_far ⟨X, 0, none⟩ (by show X < _; simp; omega) hneX.out).trans ((hW.out.cell (p := ⟨X, 0, none⟩) hXw).trans e0)
            have h14 := (hgrow.cell_far ⟨X, 1, none⟩ (by show X < _; simp; omega) hneX.out).trans ((hW.out.cell (p := ⟨X, 1, none⟩) hXw).trans e1)
            refine hK.out _ _ ⟨h04, h14⟩ (fun hHeld => ?_)
            clear hK K
            refine wpAnyH_ready (rs := [11]) (by kernel_rfl) (by simp) ?_
            refine AllReadyH.cons rfl (fun K hK => ?_) AllReadyH.nil
            go_simp
            refine hK.out _ _ (by first | assumption | go_keep) (fun hHeld => ?_)
            clear hK K
            refine wpAnyH_ready (rs := [12]) (by kernel_rfl) (by simp) ?_
            refine AllReadyH.cons rfl (fun K hK => ?_) AllReadyH.nil
            go_simp
            refine hK.out _ _ ⟨(World.cell?_setCell_far _ _ _ _ (by show w1.heap.size ≠ X; omega)).trans h04, (World.cell?_setCell_far _ _ _ _ (by show w1.heap.size ≠ X; omega)).trans h14⟩ (fun hHeld => ?_)
            clear hK K
            refine wpAnyH_done (by kernel_rfl) ?_ _
            have HPU := Lib.hid ((HOb.out.on hW.out).push (p := ⟨x, z⟩) hown4 hgrow)
            have HBF := Lib.hid ((HOb.out.on hW.out).below (v' := .slice (some ⟨gg, 0, none⟩) ((rzL t.bs p k).length + 1) cap') (HBb.out.trans (hW.out.mono HBb.out.size)) hgrow (Nat.le_refl _))
            rw [hle] at HPU HBF
            rw [← HV.out] at HPU
            go_wp2
            go_roundw
            case rel => exact ⟨k + 1, _, by omega, by go_num, HPU, HBF⟩
            case measure => simp [intOf]; omega
          · go_simp
            refine hK.out _ _ (by first | assumption | go_keep) (fun hHeld => ?_)
            clear hK K
            refine wpAnyH_ready (rs := [1]) (by kernel_rfl) (by simp) ?_
            refine AllReadyH.cons rfl (fun K hK => ?_) AllReadyH.nil
            go_simp
            refine hK.out _ _ (by first | assumption | go_keep) (fun hHeld => ?_)
            clear hK K
            refine wpAnyH_ready (rs := [10]) (by kernel_rfl) (by simp) ?_
            refine AllReadyH.cons rfl (fun K hK => ?_) AllReadyH.nil
            refine step_append_lies _ (by rfl) _ _ _ (by rfl) (w1.heap.size + 1) 62 i0 _ 2 16 Try.underlying27 hi0 hz0 hz1 hz2 rfl (by omega) v (rzL t.bs p k).length (ccs (rzL t.bs p k)) (by rfl) ((ho.alloc _).drew)
              ⟨wb.heap.size, 0, none⟩ 1 1 (ccs2 ⟨x, z⟩) (by rfl) (by rfl) (cells_new2 wb _ _ _) (ccs2_one _)
              (by omega) (by simp only [maxLen]; omega) (by omega) (by simp; omega) (wb.heap.size + 1) (by simp) ?_
            intro gg cap' w4 hown4 hgrow _ _
            have g7 := (HOb.out.on hW.out).grown hgrow
            have g71 := g7.2.1
            have g7f := g7.2.2.1
            have g7l := g7.2.2.2
            have hltX2 := hltX.out
            have h04 := (hgrow.cell_far ⟨X, 0, none⟩ (by show X < _; simp; omega) hneX.out).trans ((hW.out.cell (p := ⟨X, 0, none⟩) hXw).trans e0)
            have h14 := (hgrow.cell_far ⟨X, 1, none⟩ (by show X < _; simp; omega) hneX.out).trans ((hW.out.cell (p := ⟨X, 1, none⟩) hXw).trans e1)
            refine hK.out _ _ ⟨h04, h14⟩ (fun hHeld => ?_)
            clear hK K
            refine wpAnyH_ready (rs := [11]) (by kernel_rfl) (by simp) ?_
            refine AllReadyH.cons rfl (fun K hK => ?_) AllReadyH.nil
            go_simp
            refine hK.out _ _ (by first | assumption | go_keep) (fun hHeld => ?_)
            clear hK K
            refine wpAnyH_ready (rs := [12]) (by kernel_rfl) (by simp) ?_
            refine AllReadyH.cons rfl (fun K hK => ?_) AllReadyH.nil
            go_simp
            refine hK.out _ _ ⟨(World.cell?_setCell_far _ _ _ _ (by show w1.heap.size ≠ X; omega)).trans h04, (World.cell?_setCell_far _ _ _ _ (by show w1.heap.size ≠ X; omega)).trans h14⟩ (fun hHeld => ?_)
            clear hK K
            refine wpAnyH_done (by kernel_rfl) ?_ _
            have HPU := Lib.hid ((HOb.out.on hW.out).push (p := ⟨x, z⟩) hown4 hgrow)
            have HBF := Lib.hid ((HOb.out.on hW.out).below (v' := .slice (some ⟨gg, 0, none⟩) ((rzL t.bs p k).length + 1) cap') (HBb.out.trans (hW.out.mono HBb.out.size)) hgrow (Nat.le_refl _))
            rw [hle] at HPU HBF
            rw [← HV.out] at HPU
            go_wp2
            go_roundw
            case rel => exact ⟨k + 1, _, by omega, by go_num, HPU, HBF⟩
            case measure => simp [intOf]; omega
      · have e : k = t.bs.length := by omega
        subst e
        have hll := rzL_len t.bs p t.bs.length
        obtain ⟨g0, cp, rfl, hg0, _⟩ := World.ownsRow.form hO.out.own (by omega)
        have HTT := Lib.hid (show TAt wr (rzT t p) (some ⟨g0, 0, none⟩) from ⟨own_cat hO.out.own, by show (rzL t.bs p t.bs.length).length ≤ 1048576; omega⟩)
        obtain ⟨b2, hb2⟩ : ∃ b2, gB (rzT t p) = b2 := ⟨_, rfl⟩
        have HG2 := Lib.hid (valid_w hb2 (some ⟨g0, 0, none⟩) cp wr HTT.out)
        have HVE := Lib.hid (show tv (rzT t p) (some ⟨g0, 0, none⟩) cp = .agg #[.int .i64 rf, .slice (some ⟨g0, 0, none⟩) (rzL t.bs p t.bs.length).length cp] by rw [← HRE.out]; rfl)
        rw [HVE.out] at HG2
        have HR2 := Lib.hid (HRB.out.trans hb2)
        have hltO := hO.out.lt
        obtain ⟨o0, o1, of, ol, _⟩ := hO.out
        clear hk hba hb2 q0 q1 hll
        go_wp2_with (first | (go_at_call 18; refine HG2.out.mono ?_; rintro e w8 ⟨rfl, hb8⟩; have HO8 := Lib.hid (hO.out.on hb8); have HB8 := Lib.hid (HB.out.trans (hb8.mono HB.out.size)); clear hb8; refine Hid.out ?_) | fail)
        obtain ⟨_, ⟨hlr2, r0, r1, hfr⟩, hbz⟩ := (HC1.out.call HB8.out)
        clear o0 o1 of ol
        obtain ⟨o0, o1, of, ol, _⟩ := HO8.out
        have hne2 : w1.heap.size ≠ w.heap.size + 1 := by omega
        cases b2 with
        | true =>
          have HF := Lib.hid (gives_t HC1.out HB8.out HO8.out rfl)
          clear hbz
          refine Lib.hid ?_
          go_wp2_with fail
          refine bodyPost_ret (v := .tuple #[.agg #[.int .i64 rf, .slice (some ⟨g0, 0, none⟩) (rzL t.bs p t.bs.length).length cp], .bool true]) (by simp [results, Try.results39, go_sem, r0, r1]) rfl (.inl ⟨HR2.out, ?_⟩)
          have e : rzT t p = ⟨rf, rzL t.bs p t.bs.length⟩ := by rw [← HRE.out]; rfl
          rw [e]
          exact HF.out
        | false =>
          have HBW := Lib.hid hbz
          clear hbz
          refine Lib.hid ?_
          go_wp2_with fail
          refine bodyPost_ret (v := .tuple #[tv ⟨0, []⟩ none 0, .bool false]) (by simp [results, Try.results39, go_sem, r0, r1]) rfl (.inr ⟨HR2.out, rfl, two_set HBW.out (by omega)⟩)
end Go.Proofs.Ytidlpoambmeiiaa.S14
