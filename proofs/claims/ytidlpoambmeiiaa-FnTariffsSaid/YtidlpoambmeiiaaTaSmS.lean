/- SimplerTariff of the model: contracts. Conditions: each theorem's own premises. -/
import Derived.Test.YtidlpoambmeiiaaTaSm
namespace Go.Proofs.Ytidlpoambmeiiaa.S14
open Go.RowKit Go.Sort P14

set_option maxHeartbeats 8000000 in
set_option maxRecDepth 100000 in
theorem ssimp_any (t : Ta) (A : Option Addr) (c : Nat) (w : World) (h : TAt w t A) :
    Calls Try.prog 41 #[tv t A c] w (SmI t w) := by
  have HC0 := Lib.hid (CR.new w 29 29 t A c)
  obtain ⟨b, hb⟩ : ∃ b, gB t = b := ⟨_, rfl⟩
  have HG := Lib.hid (fun w' (hb' : Below w.heap.size w w') => sgood_w hb A c w' (h.kept hb'))
  have HA := Lib.hid h.x
  clear h
  cases b with
  | false =>
    have HN := Lib.hid hb
    clear hb
    go_enter Try.func41, Try.ntmps41
    go_wp2_with (first | (go_at_call 53; refine (HG.out _ HC0.out.bw).mono ?_; rintro e w1 ⟨rfl, hb1⟩; have HC1 := Lib.hid (HC0.out.call hb1); clear hb1; refine Hid.out ?_) | fail)
    obtain ⟨_, ⟨hlr, r0, r1, hfr⟩, _⟩ := HC1.out
    refine Lib.hid ?_
    go_wp2_with fail
    refine bodyPost_ret (v := .tuple #[tv ⟨0, []⟩ none 0, .bool false]) (by simp [results, Try.results41, go_sem, r0, r1]) rfl (.inr ⟨HN.out, rfl, two_set HC1.out.bw (by omega)⟩)
  | true =>
    have HGB := Lib.hid hb
    have hg := (gB_of hb).2.1
    obtain ⟨i0, hi0, hz0, hz1, hz2⟩ := info_parts infoC
    clear hb
    go_enter Try.func41, Try.ntmps41
    go_wp2_with (first | (go_at_call 53; refine (HG.out _ HC0.out.bw).mono ?_; rintro e w1 ⟨rfl, hb1⟩; have HC1 := Lib.hid (HC0.out.call hb1); clear hb1; refine Hid.out ?_) | fail)
    obtain ⟨⟨hla, q0, q1, _⟩, ⟨hlr, _, _, _⟩, _⟩ := HC1.out
    have HO := Lib.hid (OT.start w1 29 t.fee)
    have HB := Lib.hid (alloc_below w1 (.cells #[.int .i64 t.fee, .slice none 0 0] 29))
    clear HC0 HG
    refine Lib.hid ?_
    go_wp2_with fail
    clear q0 q1
    go_loopw [5] (fun i wr => ∃ (k : Nat) (v : Value), k ≤ t.bs.length ∧ i = .int .i64 (k : Int) ∧ Hid (OT wr w1.heap.size t.fee v (smL t.bs k)) ∧ Hid (Below w1.heap.size w1 wr)) (fun i _ => t.bs.length - (intOf i).toNat)
    case atStart => exact ⟨0, _, Nat.zero_le _, rfl, HO, HB⟩
    case round =>
      clear HO HB
      obtain ⟨k, v, hk, rfl, hO, HB⟩ := hrel
      obtain ⟨⟨hl0, q0, q1, _⟩, _, hba⟩ := HC1.out.call HB.out
      by_cases hlt : k < t.bs.length
      · have HCr := Lib.hid (HC1.out.call HB.out)
        have HAr := Lib.hid (HA.out.kept HCr.out.bw (Nat.le_refl _))
        obtain ⟨bb, off, hA, hbl, h0, h1⟩ := HAr.out.at_ hlt
        subst hA
        have hk0 : (0 : Int) ≤ (k : Int) := by omega
        have hkn : (k : Int) < (t.bs.length : Int) := by omega
        have hle := smL_len t.bs k
        have HSY := Lib.hid (fun h => smL_yes (bs := t.bs) (k := k) h)
        have HSN := Lib.hid (fun h => smL_no (bs := t.bs) (k := k) h)
        obtain ⟨p, hp⟩ : ∃ p, cAt t.bs k = p := ⟨_, rfl⟩
        rw [hp] at h0 h1 HSY
        have HP := Lib.hid hp
        clear hp
        obtain ⟨x, y⟩ := p
        simp only at h0 h1
        have hG := @cell_g
        have hkw : IntKind.i64.wrap ((k : Int) + 1) = (k : Int) + 1 := IntWalk.i64_in _ (by omega)
        have hbz := hba.size
        have hbb : bb < w.heap.size := by
          rcases HA.out with h | ⟨b', off', hA', hlt', _⟩
          · rw [h] at hlt; simp at hlt
          · simp only [Option.some.injEq, Addr.mk.injEq, and_true] at hA'
            omega
        by_cases he : k + 1 = t.bs.length
        · have HV := Lib.hid (HSY.out (.inl he))
          have d1 : decide ((k : Int) + 1 < ((t.bs.length : Nat) : Int)) = false := by simp; omega
          clear he
          go_wp2
          refine region_below (by kernel_rfl) (by kernel_rfl) ?_
          repeat (first | go_big_quiet_step (fail))
          refine wpQuiet_nil ?_
          intro wb hb1
          have HOb := Lib.hid (hO.out.on hb1)
          have HBb := Lib.hid (HB.out.trans (hb1.mono HB.out.size))
          have hzb := hb1.size
          obtain ⟨⟨_, p0, p1, _⟩, _, hbab⟩ := HC1.out.call HBb.out
          have e0 := (hb1.cell (p := ⟨bb, off + k * 2, none⟩) hbl).trans h0
          have e1 := (hb1.cell (p := ⟨bb, off + k * 2 + 1, none⟩) hbl).trans h1
          clear hb1 q0 q1 h0 h1 hO HB hba
          have ho := HOb.out.own
          unfold COwn at ho
          obtain ⟨o0, o1, of, ol, _⟩ := HOb.out
          have hne0 := Lib.hid (HOb.out.ne (b := w.heap.size) (by omega))
          have hne1 := Lib.hid (HOb.out.ne (b := bb) (by omega))
          have hW := Lib.hid (((Below.refl wb.heap.size wb).alloc (Nat.le_refl _) (.cells #[.int .i64 x, .int .i64 y] 62)).drew)
          have hbw : bb < wb.heap.size := by omega
          go_wp2
          refine wp_region_held_drew (S := fun w' => w'.cell? ⟨w.heap.size, 1, none⟩ = some (.slice (some ⟨bb, off, none⟩) t.bs.length c) ∧ w'.cell? ⟨bb, off + k * 2, none⟩ = some (.int .i64 x) ∧ w'.cell? ⟨bb, off + k * 2 + 1, none⟩ = some (.int .i64 y)) (by kernel_rfl) (by exact ⟨p1, e0, e1⟩) (fun hHeld => ?_)
          refine wpAnyH_take (i := 0) (v := .pointer (some ⟨w1.heap.size, 1, none⟩)) rfl (by kernel_rfl) (by kernel_rfl) (by kernel_rfl) (fun _ _ _ h => h) (Or.inl ⟨by kernel_rfl, ?_⟩) (by assumption) ?_
          · (intro w hSw; (try dsimp only at hSw); go_simp)
          simp only [Act.put, List.setIfInBounds_toArray]
          refine wpAnyH_take (i := 2) (v := .pointer (some ⟨w.heap.size, 1, none⟩)) rfl (by kernel_rfl) (by kernel_rfl) (by kernel_rfl) (fun _ _ _ h => h) (Or.inl ⟨by kernel_rfl, ?_⟩) (by assumption) ?_
          · (intro w hSw; (try dsimp only at hSw); go_simp)
          simp only [Act.put]
          refine wpAnyH_take (i := 3) (v := .slice (some ⟨bb, off, none⟩) t.bs.length c) rfl (by kernel_rfl) (by kernel_rfl) (by kernel_rfl) (fun _ _ _ h => h) (Or.inl ⟨by kernel_rfl, ?_⟩) (by assumption) ?_
          · (intro w hSw; (try dsimp only at hSw); go_simp)
          simp only [Act.put]
          refine wpAnyH_take (i := 4) (v := .int .i64 (k : Int)) rfl (by kernel_rfl) (by kernel_rfl) (by kernel_rfl) (fun _ _ _ h => h) (Or.inl ⟨by kernel_rfl, ?_⟩) (by assumption) ?_
          · (intro w hSw; (try dsimp only at hSw); go_simp)
          simp only [Act.put]
          refine wpAnyH_take (i := 5) (v := .pointer (some ⟨bb, off + k * 2, none⟩)) rfl (by kernel_rfl) (by kernel_rfl) (by kernel_rfl) (fun _ _ _ h => h) (Or.inl ⟨by kernel_rfl, ?_⟩) (by assumption) ?_
          · (intro w hSw; (try dsimp only at hSw); go_simp)
          simp only [Act.put]
          refine wpAnyH_take (i := 6) (v := .agg #[.int .i64 x, .int .i64 y]) rfl (by kernel_rfl) (by kernel_rfl) (by kernel_rfl) (fun _ _ _ h => h) (Or.inl ⟨by kernel_rfl, ?_⟩) (by assumption) ?_
          · (intro w hSw; (try dsimp only at hSw); go_simp)
          simp only [Act.put]
          refine wpAnyH_ready (rs := [1, 7]) (by kernel_rfl) (by simp) ?_
          refine AllReadyH.cons rfl (fun K hK => ?_) (AllReadyH.cons rfl (fun K hK => ?_) AllReadyH.nil)
          · go_simp
            refine hK.out _ _ (by first | assumption | go_keep) (fun hHeld => ?_)
            clear hK K
            refine wpAnyH_ready (rs := [7]) (by kernel_rfl) (by simp) ?_
            refine AllReadyH.cons rfl (fun K hK => ?_) AllReadyH.nil
            go_simp
            refine hK.out _ _ (by first | assumption | go_keep) (fun hHeld => ?_)
            clear hK K
            refine wpAnyH_ready (rs := [8]) (by kernel_rfl) (by simp) ?_
            refine AllReadyH.cons rfl (fun K hK => ?_) AllReadyH.nil
            refine step_append_lies _ (by rfl) _ _ _ (by rfl) (w1.heap.size + 1) 62 i0 _ 2 16 Try.underlying27 hi0 hz0 hz1 hz2 rfl (by omega) v (smL t.bs k).length (ccs (smL t.bs k)) (by rfl) ((ho.alloc _).drew)
              ⟨wb.heap.size, 0, none⟩ 1 1 (ccs2 ⟨x, y⟩) (by rfl) (by rfl) (cells_new2 wb _ _ _) (ccs2_one _)
              (by omega) (by simp only [maxLen]; omega) (by omega) (by simp; omega) (wb.heap.size + 1) (by simp) ?_
            intro gg cap' w4 hown4 hgrow _ _
            have g7 := (HOb.out.on hW.out).grown hgrow
            have g71 := g7.2.1
            have g7f := g7.2.2.1
            have g7l := g7.2.2.2
            have c04 := (hgrow.cell_far ⟨w.heap.size, 1, none⟩ (by show w.heap.size < _; simp; omega) hne0.out).trans ((hW.out.cell (p := ⟨w.heap.size, 1, none⟩) (by show w.heap.size < _; omega)).trans p1)
            have h04 := (hgrow.cell_far ⟨bb, off + k * 2, none⟩ (by show bb < _; simp; omega) hne1.out).trans ((hW.out.cell (p := ⟨bb, off + k * 2, none⟩) hbw).trans e0)
            have h14 := (hgrow.cell_far ⟨bb, off + k * 2 + 1, none⟩ (by show bb < _; simp; omega) hne1.out).trans ((hW.out.cell (p := ⟨bb, off + k * 2 + 1, none⟩) hbw).trans e1)
            refine hK.out _ _ ⟨c04, h04, h14⟩ (fun hHeld => ?_)
            clear hK K
            refine wpAnyH_ready (rs := [9]) (by kernel_rfl) (by simp) ?_
            refine AllReadyH.cons rfl (fun K hK => ?_) AllReadyH.nil
            go_simp
            refine hK.out _ _ (by first | assumption | go_keep) (fun hHeld => ?_)
            clear hK K
            refine wpAnyH_ready (rs := [10]) (by kernel_rfl) (by simp) ?_
            refine AllReadyH.cons rfl (fun K hK => ?_) AllReadyH.nil
            go_simp
            refine hK.out _ _ ⟨(World.cell?_setCell_far _ _ _ _ (by show w1.heap.size ≠ w.heap.size; omega)).trans c04, (World.cell?_setCell_far _ _ _ _ (by show w1.heap.size ≠ bb; omega)).trans h04, (World.cell?_setCell_far _ _ _ _ (by show w1.heap.size ≠ bb; omega)).trans h14⟩ (fun hHeld => ?_)
            clear hK K
            refine wpAnyH_done (by kernel_rfl) ?_ _
            have HPU := Lib.hid ((HOb.out.on hW.out).push (p := ⟨x, y⟩) hown4 hgrow)
            have HBF := Lib.hid ((HOb.out.on hW.out).below (v' := .slice (some ⟨gg, 0, none⟩) ((smL t.bs k).length + 1) cap') (HBb.out.trans (hW.out.mono HBb.out.size)) hgrow (Nat.le_refl _))
            rw [← HV.out] at HPU
            go_wp2
            go_roundw
            case rel => exact ⟨k + 1, _, by omega, by go_num, HPU, HBF⟩
            case measure => simp [intOf]; omega
          · go_simp
            refine hK.out _ _ (by first | assumption | go_keep) (fun hHeld => ?_)
            clear hK K
            refine wpAnyH_ready (rs := [1]) (by kernel_rfl) (by simp) ?_
            refine AllReadyH.cons rfl (fun K hK => ?_) AllReadyH.nil
            go_simp
            refine hK.out _ _ (by first | assumption | go_keep) (fun hHeld => ?_)
            clear hK K
            refine wpAnyH_ready (rs := [8]) (by kernel_rfl) (by simp) ?_
            refine AllReadyH.cons rfl (fun K hK => ?_) AllReadyH.nil
            refine step_append_lies _ (by rfl) _ _ _ (by rfl) (w1.heap.size + 1) 62 i0 _ 2 16 Try.underlying27 hi0 hz0 hz1 hz2 rfl (by omega) v (smL t.bs k).length (ccs (smL t.bs k)) (by rfl) ((ho.alloc _).drew)
              ⟨wb.heap.size, 0, none⟩ 1 1 (ccs2 ⟨x, y⟩) (by rfl) (by rfl) (cells_new2 wb _ _ _) (ccs2_one _)
              (by omega) (by simp only [maxLen]; omega) (by omega) (by simp; omega) (wb.heap.size + 1) (by simp) ?_
            intro gg cap' w4 hown4 hgrow _ _
            have g7 := (HOb.out.on hW.out).grown hgrow
            have g71 := g7.2.1
            have g7f := g7.2.2.1
            have g7l := g7.2.2.2
            have c04 := (hgrow.cell_far ⟨w.heap.size, 1, none⟩ (by show w.heap.size < _; simp; omega) hne0.out).trans ((hW.out.cell (p := ⟨w.heap.size, 1, none⟩) (by show w.heap.size < _; omega)).trans p1)
            have h04 := (hgrow.cell_far ⟨bb, off + k * 2, none⟩ (by show bb < _; simp; omega) hne1.out).trans ((hW.out.cell (p := ⟨bb, off + k * 2, none⟩) hbw).trans e0)
            have h14 := (hgrow.cell_far ⟨bb, off + k * 2 + 1, none⟩ (by show bb < _; simp; omega) hne1.out).trans ((hW.out.cell (p := ⟨bb, off + k * 2 + 1, none⟩) hbw).trans e1)
            refine hK.out _ _ ⟨c04, h04, h14⟩ (fun hHeld => ?_)
            clear hK K
            refine wpAnyH_ready (rs := [9]) (by kernel_rfl) (by simp) ?_
            refine AllReadyH.cons rfl (fun K hK => ?_) AllReadyH.nil
            go_simp
            refine hK.out _ _ (by first | assumption | go_keep) (fun hHeld => ?_)
            clear hK K
            refine wpAnyH_ready (rs := [10]) (by kernel_rfl) (by simp) ?_
            refine AllReadyH.cons rfl (fun K hK => ?_) AllReadyH.nil
            go_simp
            refine hK.out _ _ ⟨(World.cell?_setCell_far _ _ _ _ (by show w1.heap.size ≠ w.heap.size; omega)).trans c04, (World.cell?_setCell_far _ _ _ _ (by show w1.heap.size ≠ bb; omega)).trans h04, (World.cell?_setCell_far _ _ _ _ (by show w1.heap.size ≠ bb; omega)).trans h14⟩ (fun hHeld => ?_)
            clear hK K
            refine wpAnyH_done (by kernel_rfl) ?_ _
            have HPU := Lib.hid ((HOb.out.on hW.out).push (p := ⟨x, y⟩) hown4 hgrow)
            have HBF := Lib.hid ((HOb.out.on hW.out).below (v' := .slice (some ⟨gg, 0, none⟩) ((smL t.bs k).length + 1) cap') (HBb.out.trans (hW.out.mono HBb.out.size)) hgrow (Nat.le_refl _))
            rw [← HV.out] at HPU
            go_wp2
            go_roundw
            case rel => exact ⟨k + 1, _, by omega, by go_num, HPU, HBF⟩
            case measure => simp [intOf]; omega
        · have hk2 : (k : Int) + 1 < ((t.bs.length : Nat) : Int) := by omega
          have d1 : decide ((k : Int) + 1 < ((t.bs.length : Nat) : Int)) = true := by simp; omega
          have hk3 : (0 : Int) ≤ (k : Int) + 1 := by omega
          obtain ⟨b', off', hA, hbl', _, g1⟩ := HAr.out.at_ (show k + 1 < t.bs.length by omega)
          simp only [Option.some.injEq, Addr.mk.injEq, and_true] at hA
          obtain ⟨rfl, rfl⟩ := hA
          have HST := Lib.hid (show stays t.bs k ↔ (cAt t.bs (k + 1)).pr ≠ y from ⟨fun h => by rcases h with h | h; exact absurd h he; rw [HP.out] at h; exact h, fun h => .inr (by rw [HP.out]; exact h)⟩)
          generalize (cAt t.bs (k + 1)).pr = z at *
          clear he
          by_cases hzy : z = y
          · have HV := Lib.hid (HSN.out (fun h => HST.out.1 h hzy))
            have d2 : (z == y) = true := by simp [hzy]
            clear hzy
            go_wp2
            refine region_below (by kernel_rfl) (by kernel_rfl) ?_
            repeat (first | go_big_quiet_step (fail))
            refine wpQuiet_nil ?_
            intro wb hb1
            have HOb := Lib.hid (hO.out.on hb1)
            have HBb := Lib.hid (HB.out.trans (hb1.mono HB.out.size))
            have hzb := hb1.size
            clear hb1 hba
            rw [← HV.out] at HOb
            go_wp2
            go_roundw
            case rel => exact ⟨k + 1, v, by omega, by go_num, HOb, HBb⟩
            case measure => simp [intOf]; omega
          · have HV := Lib.hid (HSY.out (HST.out.2 hzy))
            have d2 : (z == y) = false := by simp [hzy]
            clear hzy
            go_wp2
            refine region_below (by kernel_rfl) (by kernel_rfl) ?_
            repeat (first | go_big_quiet_step (fail))
            refine wpQuiet_nil ?_
            intro wb hb1
            have HOb := Lib.hid (hO.out.on hb1)
            have HBb := Lib.hid (HB.out.trans (hb1.mono HB.out.size))
            have hzb := hb1.size
            obtain ⟨⟨_, p0, p1, _⟩, _, hbab⟩ := HC1.out.call HBb.out
            have e0 := (hb1.cell (p := ⟨bb, off + k * 2, none⟩) hbl).trans h0
            have e1 := (hb1.cell (p := ⟨bb, off + k * 2 + 1, none⟩) hbl).trans h1
            clear hb1 q0 q1 h0 h1 hO HB hba
            have ho := HOb.out.own
            unfold COwn at ho
            obtain ⟨o0, o1, of, ol, _⟩ := HOb.out
            have hne0 := Lib.hid (HOb.out.ne (b := w.heap.size) (by omega))
            have hne1 := Lib.hid (HOb.out.ne (b := bb) (by omega))
            have hW := Lib.hid (((Below.refl wb.heap.size wb).alloc (Nat.le_refl _) (.cells #[.int .i64 x, .int .i64 y] 62)).drew)
            have hbw : bb < wb.heap.size := by omega
            go_wp2
            refine wp_region_held_drew (S := fun w' => w'.cell? ⟨w.heap.size, 1, none⟩ = some (.slice (some ⟨bb, off, none⟩) t.bs.length c) ∧ w'.cell? ⟨bb, off + k * 2, none⟩ = some (.int .i64 x) ∧ w'.cell? ⟨bb, off + k * 2 + 1, none⟩ = some (.int .i64 y)) (by kernel_rfl) (by exact ⟨p1, e0, e1⟩) (fun hHeld => ?_)
            refine wpAnyH_take (i := 0) (v := .pointer (some ⟨w1.heap.size, 1, none⟩)) rfl (by kernel_rfl) (by kernel_rfl) (by kernel_rfl) (fun _ _ _ h => h) (Or.inl ⟨by kernel_rfl, ?_⟩) (by assumption) ?_
            · (intro w hSw; (try dsimp only at hSw); go_simp)
            simp only [Act.put, List.setIfInBounds_toArray]
            refine wpAnyH_take (i := 2) (v := .pointer (some ⟨w.heap.size, 1, none⟩)) rfl (by kernel_rfl) (by kernel_rfl) (by kernel_rfl) (fun _ _ _ h => h) (Or.inl ⟨by kernel_rfl, ?_⟩) (by assumption) ?_
            · (intro w hSw; (try dsimp only at hSw); go_simp)
            simp only [Act.put]
            refine wpAnyH_take (i := 3) (v := .slice (some ⟨bb, off, none⟩) t.bs.length c) rfl (by kernel_rfl) (by kernel_rfl) (by kernel_rfl) (fun _ _ _ h => h) (Or.inl ⟨by kernel_rfl, ?_⟩) (by assumption) ?_
            · (intro w hSw; (try dsimp only at hSw); go_simp)
            simp only [Act.put]
            refine wpAnyH_take (i := 4) (v := .int .i64 (k : Int)) rfl (by kernel_rfl) (by kernel_rfl) (by kernel_rfl) (fun _ _ _ h => h) (Or.inl ⟨by kernel_rfl, ?_⟩) (by assumption) ?_
            · (intro w hSw; (try dsimp only at hSw); go_simp)
            simp only [Act.put]
            refine wpAnyH_take (i := 5) (v := .pointer (some ⟨bb, off + k * 2, none⟩)) rfl (by kernel_rfl) (by kernel_rfl) (by kernel_rfl) (fun _ _ _ h => h) (Or.inl ⟨by kernel_rfl, ?_⟩) (by assumption) ?_
            · (intro w hSw; (try dsimp only at hSw); go_simp)
            simp only [Act.put]
            refine wpAnyH_take (i := 6) (v := .agg #[.int .i64 x, .int .i64 y]) rfl (by kernel_rfl) (by kernel_rfl) (by kernel_rfl) (fun _ _ _ h => h) (Or.inl ⟨by kernel_rfl, ?_⟩) (by assumption) ?_
            · (intro w hSw; (try dsimp only at hSw); go_simp)
            simp only [Act.put]
            refine wpAnyH_ready (rs := [1, 7]) (by kernel_rfl) (by simp) ?_
            refine AllReadyH.cons rfl (fun K hK => ?_) (AllReadyH.cons rfl (fun K hK => ?_) AllReadyH.nil)
            · go_simp
              refine hK.out _ _ (by first | assumption | go_keep) (fun hHeld => ?_)
              clear hK K
              refine wpAnyH_ready (rs := [7]) (by kernel_rfl) (by simp) ?_
              refine AllReadyH.cons rfl (fun K hK => ?_) AllReadyH.nil
              go_simp
              refine hK.out _ _ (by first | assumption | go_keep) (fun hHeld => ?_)
              clear hK K
              refine wpAnyH_ready (rs := [8]) (by kernel_rfl) (by simp) ?_
              refine AllReadyH.cons rfl (fun K hK => ?_) AllReadyH.nil
              refine step_append_lies _ (by rfl) _ _ _ (by rfl) (w1.heap.size + 1) 62 i0 _ 2 16 Try.underlying27 hi0 hz0 hz1 hz2 rfl (by omega) v (smL t.bs k).length (ccs (smL t.bs k)) (by rfl) ((ho.alloc _).drew)
                ⟨wb.heap.size, 0, none⟩ 1 1 (ccs2 ⟨x, y⟩) (by rfl) (by rfl) (cells_new2 wb _ _ _) (ccs2_one _)
                (by omega) (by simp only [maxLen]; omega) (by omega) (by simp; omega) (wb.heap.size + 1) (by simp) ?_
              intro gg cap' w4 hown4 hgrow _ _
              have g7 := (HOb.out.on hW.out).grown hgrow
              have g71 := g7.2.1
              have g7f := g7.2.2.1
              have g7l := g7.2.2.2
              have c04 := (hgrow.cell_far ⟨w.heap.size, 1, none⟩ (by show w.heap.size < _; simp; omega) hne0.out).trans ((hW.out.cell (p := ⟨w.heap.size, 1, none⟩) (by show w.heap.size < _; omega)).trans p1)
              have h04 := (hgrow.cell_far ⟨bb, off + k * 2, none⟩ (by show bb < _; simp; omega) hne1.out).trans ((hW.out.cell (p := ⟨bb, off + k * 2, none⟩) hbw).trans e0)
              have h14 := (hgrow.cell_far ⟨bb, off + k * 2 + 1, none⟩ (by show bb < _; simp; omega) hne1.out).trans ((hW.out.cell (p := ⟨bb, off + k * 2 + 1, none⟩) hbw).trans e1)
              refine hK.out _ _ ⟨c04, h04, h14⟩ (fun hHeld => ?_)
              clear hK K
              refine wpAnyH_ready (rs := [9]) (by kernel_rfl) (by simp) ?_
              refine AllReadyH.cons rfl (fun K hK => ?_) AllReadyH.nil
              go_simp
              refine hK.out _ _ (by first | assumption | go_keep) (fun hHeld => ?_)
              clear hK K
              refine wpAnyH_ready (rs := [10]) (by kernel_rfl) (by simp) ?_
              refine AllReadyH.cons rfl (fun K hK => ?_) AllReadyH.nil
              go_simp
              refine hK.out _ _ ⟨(World.cell?_setCell_far _ _ _ _ (by show w1.heap.size ≠ w.heap.size; omega)).trans c04, (World.cell?_setCell_far _ _ _ _ (by show w1.heap.size ≠ bb; omega)).trans h04, (World.cell?_setCell_far _ _ _ _ (by show w1.heap.size ≠ bb; omega)).trans h14⟩ (fun hHeld => ?_)
              clear hK K
              refine wpAnyH_done (by kernel_rfl) ?_ _
              have HPU := Lib.hid ((HOb.out.on hW.out).push (p := ⟨x, y⟩) hown4 hgrow)
              have HBF := Lib.hid ((HOb.out.on hW.out).below (v' := .slice (some ⟨gg, 0, none⟩) ((smL t.bs k).length + 1) cap') (HBb.out.trans (hW.out.mono HBb.out.size)) hgrow (Nat.le_refl _))
              rw [← HV.out] at HPU
              go_wp2
              go_roundw
              case rel => exact ⟨k + 1, _, by omega, by go_num, HPU, HBF⟩
              case measure => simp [intOf]; omega
            · go_simp
              refine hK.out _ _ (by first | assumption | go_keep) (fun hHeld => ?_)
              clear hK K
              refine wpAnyH_ready (rs := [1]) (by kernel_rfl) (by simp) ?_
              refine AllReadyH.cons rfl (fun K hK => ?_) AllReadyH.nil
              go_simp
              refine hK.out _ _ (by first | assumption | go_keep) (fun hHeld => ?_)
              clear hK K
              refine wpAnyH_ready (rs := [8]) (by kernel_rfl) (by simp) ?_
              refine AllReadyH.cons rfl (fun K hK => ?_) AllReadyH.nil
              refine step_append_lies _ (by rfl) _ _ _ (by rfl) (w1.heap.size + 1) 62 i0 _ 2 16 Try.underlying27 hi0 hz0 hz1 hz2 rfl (by omega) v (smL t.bs k).length (ccs (smL t.bs k)) (by rfl) ((ho.alloc _).drew)
                ⟨wb.heap.size, 0, none⟩ 1 1 (ccs2 ⟨x, y⟩) (by rfl) (by rfl) (cells_new2 wb _ _ _) (ccs2_one _)
                (by omega) (by simp only [maxLen]; omega) (by omega) (by simp; omega) (wb.heap.size + 1) (by simp) ?_
              intro gg cap' w4 hown4 hgrow _ _
              have g7 := (HOb.out.on hW.out).grown hgrow
              have g71 := g7.2.1
              have g7f := g7.2.2.1
              have g7l := g7.2.2.2
              have c04 := (hgrow.cell_far ⟨w.heap.size, 1, none⟩ (by show w.heap.size < _; simp; omega) hne0.out).trans ((hW.out.cell (p := ⟨w.heap.size, 1, none⟩) (by show w.heap.size < _; omega)).trans p1)
              have h04 := (hgrow.cell_far ⟨bb, off + k * 2, none⟩ (by show bb < _; simp; omega) hne1.out).trans ((hW.out.cell (p := ⟨bb, off + k * 2, none⟩) hbw).trans e0)
              have h14 := (hgrow.cell_far ⟨bb, off + k * 2 + 1, none⟩ (by show bb < _; simp; omega) hne1.out).trans ((hW.out.cell (p := ⟨bb, off + k * 2 + 1, none⟩) hbw).trans e1)
              refine hK.out _ _ ⟨c04, h04, h14⟩ (fun hHeld => ?_)
              clear hK K
              refine wpAnyH_ready (rs := [9]) (by kernel_rfl) (by simp) ?_
              refine AllReadyH.cons rfl (fun K hK => ?_) AllReadyH.nil
              go_simp
              refine hK.out _ _ (by first | assumption | go_keep) (fun hHeld => ?_)
              clear hK K
              refine wpAnyH_ready (rs := [10]) (by kernel_rfl) (by simp) ?_
              refine AllReadyH.cons rfl (fun K hK => ?_) AllReadyH.nil
              go_simp
              refine hK.out _ _ ⟨(World.cell?_setCell_far _ _ _ _ (by show w1.heap.size ≠ w.heap.size; omega)).trans c04, (World.cell?_setCell_far _ _ _ _ (by show w1.heap.size ≠ bb; omega)).trans h04, (World.cell?_setCell_far _ _ _ _ (by show w1.heap.size ≠ bb; omega)).trans h14⟩ (fun hHeld => ?_)
              clear hK K
              refine wpAnyH_done (by kernel_rfl) ?_ _
              have HPU := Lib.hid ((HOb.out.on hW.out).push (p := ⟨x, y⟩) hown4 hgrow)
              have HBF := Lib.hid ((HOb.out.on hW.out).below (v' := .slice (some ⟨gg, 0, none⟩) ((smL t.bs k).length + 1) cap') (HBb.out.trans (hW.out.mono HBb.out.size)) hgrow (Nat.le_refl _))
              rw [← HV.out] at HPU
              go_wp2
              go_roundw
              case rel => exact ⟨k + 1, _, by omega, by go_num, HPU, HBF⟩
              case measure => simp [intOf]; omega
      · have e : k = t.bs.length := by omega
        subst e
        have hpos := smL_pos (bs := t.bs) (by omega)
        obtain ⟨g0, cp, rfl, hg0, _⟩ := World.ownsRow.form hO.out.own hpos
        obtain ⟨_, ⟨hlr2, r0, r1, hfr⟩, hbz⟩ := (HC1.out.call HB.out)
        obtain ⟨o0, o1, of, ol, _⟩ := hO.out
        have HF := Lib.hid (gives_t HC1.out HB.out hO.out rfl)
        have HL := Lib.hid (And.intro HGB.out (show smT t = ⟨t.fee, smL t.bs t.bs.length⟩ from rfl))
        have hne2 : w1.heap.size ≠ w.heap.size + 1 := by omega
        clear hk hbz hba
        go_wp2
        refine bodyPost_ret (v := .tuple #[.agg #[.int .i64 t.fee, .slice (some ⟨g0, 0, none⟩) (smL t.bs t.bs.length).length cp], .bool true]) (by simp [results, Try.results41, go_sem, r0, r1]) rfl (.inl ⟨HL.out.1, ?_⟩)
        exact HF.out
end Go.Proofs.Ytidlpoambmeiiaa.S14
