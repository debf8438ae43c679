/- A curve, drawn: contracts. Conditions: each theorem's own premises. -/
import Derived.Test.YtpldbakllegheabCvDI
import Derived.Deep.DeepCutAuto
namespace Go.Proofs.Ytpldbakllegheab.S7
open Go.RowKit Go.Sort P7

set_option maxHeartbeats 1500000 in
set_option maxRecDepth 100000 in
theorem curve_any (B g : Nat) (a : Option Addr) (n cap KC : Nat) (w : World) (hK : KC ≤ 800000) (h : S1.St B g a n cap KC w) (hgw : g < w.heap.size) :
    Calls Try.prog 39 #[.pointer (some ⟨g, 0, none⟩)] w (CrvPost B g a n cap (KC + 60) w) := by
  have HS := Lib.hid h
  have hBg := h.bg
  obtain ⟨i0, hi0, hz0, hz1, hz2⟩ := info_parts infoC
  have HP0 := Lib.hid (show DI w (w.alloc (.cells #[] 38)) B g a n cap KC w.heap.size 0 0 [] from ⟨S1.st_new h _, World.grownBy_alloc w _ (some g), own_emptyC w _ (Nat.le_refl _), rfl, Nat.le_refl _, hgw⟩)
  clear h
  go_enter Try.func39, Try.ntmps39
  have HTI := Lib.hid (show S1.Ti (w.heap.size + 1) [50, 100, 1000] ((w.alloc (.cells #[] 38)).alloc (.cells #[.int .i64 50, .int .i64 100, .int .i64 1000] 3)) from by have := S1.ti_new (w.alloc (.cells #[] 38)) [50, 100, 1000] 3; rw [alloc_size] at this; exact this)
  refine Hid.out ?_
  refine Lib.hid ?_
  go_wp2_with (first | (go_at_call 41; refine (S1.among_any B g a n cap KC (w.heap.size + 1) 3 3 [50, 100, 1000] _ rfl (by omega) (by simp) (by simp) (HP0.out.alloc _).st HTI.out (by omega)).mono ?_; rintro e w1 ⟨⟨z0, rfl⟩, hs, hg⟩; refine Hid.out ?_) | fail)
  have HP1 := Lib.hid ((HP0.out.alloc (.cells #[.int .i64 50, .int .i64 100, .int .i64 1000] 3)).call hs hg)
  clear hs hg HP0 HTI
  refine Lib.hid ?_
  go_wp2_with (first | (go_at_call 42; refine (S1.pick_any B g a n cap (KC + 2) 4 _ (by omega) (by omega) (by omega) HP1.out.st).mono ?_; rintro e w2 ⟨r0, rfl, hr00, hr09, hs, hg⟩; refine Hid.out ?_) | fail)
  have HP2 := Lib.hid (HP1.out.call hs hg)
  clear hs hg
  obtain ⟨N0, rfl, hN⟩ := nat_in hr00 hr09
  obtain ⟨N, hNN⟩ : ∃ N : Nat, 2 + (N0 : Int) = (N : Int) := ⟨2 + N0, by omega⟩
  have hN2 : 2 ≤ N := by omega
  have hN5 : N ≤ 5 := by omega
  have HNN := Lib.hid hNN
  clear hr00 hr09 hN HP1 hNN
  refine Lib.hid ?_
  go_wp2_with fail
  go_loopw [3, 4, 5, 6] (fun v f hd nn wr => ∃ (r k gv cv : Nat) (x y : Int) (cs : List Cp), r + k = N ∧ v = .slice (some ⟨gv, 0, none⟩) k cv ∧ f = .int .i64 x ∧ hd = .int .i64 y ∧ nn = .int .i64 (r : Int) ∧ Hid (DI w wr B g a n cap (KC + 4 + 4 * k) gv cv k cs)) (fun _ _ _ nn _ => (intOf nn).toNat)
  case atStart => exact ⟨N, 0, _, _, 0, z0, [], by omega, rfl, rfl, rfl, by rw [HNN.out, IntWalk.wrap64_in _ (by omega)], Lib.hid (HP2.out.more (by omega))⟩
  case round =>
    clear HP2 HNN
    obtain ⟨r, k, gv, cv, x, y, cs, hrk, rfl, rfl, rfl, rfl, HP⟩ := hrel
    by_cases hlt : 0 < r
    · skip
      have hgz := HP.out.gr.size
      have hgv := HP.out.lo
      go_wp2_with (at_builtin; go_must (refine wpList_append_own _ rfl _ _ 24 rfl w.heap.size 38 i0 _ 2 16 Try.underlying24 hi0 hz0 hz1 hz2 rfl (by omega) _ _ _ rfl (HP.out.own.alloc _) ⟨wr.heap.size, 0, none⟩ 1 1 (ccs2 ⟨x, y⟩) rfl rfl (cell_two' (c := ⟨x, y⟩) rfl) ?c2 ?c3 ?c4 ?c5 ?_))
      case c2 => intro u hu; exact ccs_one [⟨x, y⟩] u (by simpa [ccs] using hu)
      case c3 => unfold maxLen; omega
      case c4 => omega
      case c5 => simp; omega
      intro v' w3 hown' hgrow hnil
      obtain ⟨g5, c5, hv5, hg5⟩ := own_slC hown' (fun e => hnil e)
      subst hv5
      have HP3 := Lib.hid ((HP.out.alloc (.cells #[.int .i64 x, .int .i64 y] 38)).push hgrow hown' hg5)
      clear hown' hgrow hnil
      refine Hid.out ?_
      refine Lib.hid ?_
      go_wp2_with (first | (go_at_call 41; refine (S1.among_any B g a n cap (KC + 4 + 4 * k) w3.heap.size 4 4 [1, 5, 10, 30] _ rfl (by omega) (by simp) (by simp) (HP3.out.alloc _).st (fun j hj => S1.ti_new w3 [1, 5, 10, 30] 3 j hj) (by have := HP3.out.gr.size; omega)).mono ?_; rintro e w4 ⟨⟨z1, rfl⟩, hs, hg⟩; refine Hid.out ?_) | fail)
      have HP4 := Lib.hid ((HP3.out.alloc (.cells #[.int .i64 1, .int .i64 5, .int .i64 10, .int .i64 30] 3)).call hs hg)
      clear hs hg
      refine Lib.hid ?_
      go_wp2_with (first | (go_at_call 41; refine (S1.among_any B g a n cap (KC + 4 + 4 * k + 2) w4.heap.size 3 3 [1, 3, 7] _ rfl (by omega) (by simp) (by simp) (HP4.out.alloc _).st (fun j hj => S1.ti_new w4 [1, 3, 7] 3 j hj) (by have := HP4.out.gr.size; omega)).mono ?_; rintro e w5 ⟨⟨z2, rfl⟩, hs, hg⟩; refine Hid.out ?_) | fail)
      have HP5 := Lib.hid ((HP4.out.alloc (.cells #[.int .i64 1, .int .i64 3, .int .i64 7] 3)).call hs hg)
      clear hs hg
      clear HP HP3 HP4
      refine Lib.hid ?_
      go_wp2_with fail
      go_roundw
      case rel => exact ⟨r - 1, k + 1, g5, c5, _, _, _, by omega, rfl, rfl, rfl, by congr 1; omega, Lib.hid (HP5.out.more (by omega))⟩
      case measure => simp [intOf]; omega
    · have e : r = 0 := by omega
      subst e
      have hk2 : 2 ≤ k := by omega
      have hk5 : k ≤ 5 := by omega
      have HPx := Lib.hid (HP.out.more (show KC + 4 + 4 * k ≤ KC + 24 by omega))
      have hk1 : (1 : Int) ≤ (k : Int) := by omega
      have hk9 : (k : Int) ≤ 1000000 := by omega
      clear HP hrk
      refine Hid.out ?_
      refine Lib.hid ?_
      go_wp2_with (first | (go_at_call 42; refine (S1.pick_any B g a n cap (KC + 24) k _ (by omega) hk1 hk9 HPx.out.st).mono ?_; rintro e w3 ⟨i, rfl, hi0, hi9, hs, hg⟩; refine Hid.out ?_) | fail)
      have HP3 := Lib.hid (HPx.out.call hs hg)
      clear hs hg
      obtain ⟨I, rfl, hI'⟩ := nat_in hi0 hi9
      have hI : I < k := by omega
      have hI0 : (0 : Int) ≤ (I : Int) := by omega
      obtain ⟨_, _, hgv3, hcat⟩ := HP3.out.facts
      obtain ⟨bb, oo, hA, _, c0, c1⟩ := hcat.at_ (show I < cs.length by rw [HP3.out.len]; exact hI)
      simp only [Option.some.injEq, Addr.mk.injEq, and_true] at hA
      obtain ⟨rfl, rfl⟩ := hA
      rw [Nat.zero_add] at c0 c1
      generalize (cAt cs I).fl = X at *
      generalize (cAt cs I).hd = Y at *
      have hgr3 := HP3.out.gr.size
      have hlo3 := HP3.out.lo
      clear HPx hcat hi0 hi9
      have HPb := Lib.hid (HP3.out.alloc (.cells #[.int .i64 X, .int .i64 Y] 38))
      refine Lib.hid ?_
      go_wp2_with (first | (go_at_call 42; refine (S1.pick_any B g a n cap (KC + 26) 30 _ (by omega) (by omega) (by omega) HPb.out.st).mono ?_; rintro e w4 ⟨q, rfl, hq0, hq9, hs, hg⟩; refine Hid.out ?_) | fail)
      have HP4 := Lib.hid (HPb.out.call hs hg)
      have hgw4 : g < w.heap.size := HP4.out.gw
      have x0 : w4.cell? ⟨w3.heap.size, 0, none⟩ = some (.int .i64 X) := (hg.cell_far ⟨w3.heap.size, 0, none⟩ (by simp) (by simp; omega)).trans (by rw [World.cell?_alloc_at _ _ _ _ rfl]; rfl)
      have x1 : w4.cell? ⟨w3.heap.size, 1, none⟩ = some (.int .i64 Y) := (hg.cell_far ⟨w3.heap.size, 1, none⟩ (by simp) (by simp; omega)).trans (by rw [World.cell?_alloc_at _ _ _ _ rfl]; rfl)
      have f0 : ∀ o, w4.frozen? ⟨w3.heap.size, o, none⟩ = false := fun o => by rw [World.frozen?_of_block (a := ⟨w3.heap.size, o, none⟩) (hg.block w3.heap.size (by simp) (by simp; omega))]; simp
      have hz4 : w3.heap.size < w4.heap.size := by have := hg.size; simp at this; omega
      clear HPb hs hg c0 c1 HP3
      by_cases hqq0 : q = 0
      · subst hqq0
        refine Lib.hid ?_
        go_wp2_with (first | (go_at_call 41; refine (S1.among_any B g a n cap (KC + 28) w4.heap.size 4 4 [(-1), 1, 1000, 1001] _ rfl (by omega) (by simp) (by simp) (HP4.out.alloc _).st (fun j hj => S1.ti_new w4 [(-1), 1, 1000, 1001] 3 j hj) (by omega)).mono ?_; rintro e w5 ⟨⟨z3, rfl⟩, hs, hg⟩; refine Hid.out ?_) | fail)
        have HP5 := Lib.hid ((HP4.out.alloc (.cells #[.int .i64 (-1), .int .i64 1, .int .i64 1000, .int .i64 1001] 3)).call hs hg)
        have hb5 : w3.heap.size < (w4.alloc (.cells #[.int .i64 (-1), .int .i64 1, .int .i64 1000, .int .i64 1001] 3)).heap.size := by simp; omega
        have y0 : w5.cell? ⟨w3.heap.size, 0, none⟩ = some (.int .i64 X) := (hg.cell_far ⟨w3.heap.size, 0, none⟩ hb5 (by simp; omega)).trans ((World.cell?_alloc_past _ _ _ hz4).trans x0)
        have y1 : w5.cell? ⟨w3.heap.size, 1, none⟩ = some (.int .i64 Y) := (hg.cell_far ⟨w3.heap.size, 1, none⟩ hb5 (by simp; omega)).trans ((World.cell?_alloc_past _ _ _ hz4).trans x1)
        have g0 : ∀ o, w5.frozen? ⟨w3.heap.size, o, none⟩ = false := fun o => by rw [World.frozen?_of_block (a := ⟨w3.heap.size, o, none⟩) (hg.block w3.heap.size hb5 (by simp; omega)), World.frozen?_alloc_past _ _ _ hz4]; exact f0 o
        have HP6 := Lib.hid (HP5.out.box w3.heap.size 0 (.int .i64 z3) hgr3 (by omega))
        have u0 : (w5.setCell ⟨w3.heap.size, 0, none⟩ (.int .i64 z3)).cell? ⟨w3.heap.size, 0, none⟩ = some (.int .i64 z3) := World.cell?_setCell_same _ _ _ (by rw [y0])
        have u1 : (w5.setCell ⟨w3.heap.size, 0, none⟩ (.int .i64 z3)).cell? ⟨w3.heap.size, 1, none⟩ = some (.int .i64 Y) := (World.cell?_setCell_other _ ⟨w3.heap.size, 0, none⟩ ⟨w3.heap.size, 1, none⟩ _ (by simp)).trans y1
        clear hs hg x0 x1 f0 HP4 HP5
        obtain ⟨_, _, hgvx, hcatx⟩ := HP6.out.facts
        obtain ⟨bb, oo, hA, _, d0, d1⟩ := hcatx.at_ (show I < cs.length by rw [HP6.out.len]; exact hI)
        simp only [Option.some.injEq, Addr.mk.injEq, and_true] at hA
        obtain ⟨rfl, rfl⟩ := hA
        rw [Nat.zero_add] at d0 d1
        have hfz := fun o => HP6.out.own.frozenAt o
        generalize (cAt cs I).fl = p0 at *
        generalize (cAt cs I).hd = p1 at *
        have HF := Lib.hid (HP6.out.set I hI z3 Y)
        clear hcatx
        refine Lib.hid ?_
        go_wp2_with fail
        go_ret
        exact crv_post HF.out (by omega) (by omega) (by omega)
      by_cases hqq1 : q = 1
      · subst hqq1
        refine Lib.hid ?_
        go_wp2_with (first | (go_at_call 41; refine (S1.among_any B g a n cap (KC + 28) w4.heap.size 3 3 [(-1), 0, 1001] _ rfl (by omega) (by simp) (by simp) (HP4.out.alloc _).st (fun j hj => S1.ti_new w4 [(-1), 0, 1001] 3 j hj) (by omega)).mono ?_; rintro e w5 ⟨⟨z3, rfl⟩, hs, hg⟩; refine Hid.out ?_) | fail)
        have HP5 := Lib.hid ((HP4.out.alloc (.cells #[.int .i64 (-1), .int .i64 0, .int .i64 1001] 3)).call hs hg)
        have hb5 : w3.heap.size < (w4.alloc (.cells #[.int .i64 (-1), .int .i64 0, .int .i64 1001] 3)).heap.size := by simp; omega
        have y0 : w5.cell? ⟨w3.heap.size, 0, none⟩ = some (.int .i64 X) := (hg.cell_far ⟨w3.heap.size, 0, none⟩ hb5 (by simp; omega)).trans ((World.cell?_alloc_past _ _ _ hz4).trans x0)
        have y1 : w5.cell? ⟨w3.heap.size, 1, none⟩ = some (.int .i64 Y) := (hg.cell_far ⟨w3.heap.size, 1, none⟩ hb5 (by simp; omega)).trans ((World.cell?_alloc_past _ _ _ hz4).trans x1)
        have g0 : ∀ o, w5.frozen? ⟨w3.heap.size, o, none⟩ = false := fun o => by rw [World.frozen?_of_block (a := ⟨w3.heap.size, o, none⟩) (hg.block w3.heap.size hb5 (by simp; omega)), World.frozen?_alloc_past _ _ _ hz4]; exact f0 o
        have HP6 := Lib.hid (HP5.out.box w3.heap.size 1 (.int .i64 z3) hgr3 (by omega))
        have u1 : (w5.setCell ⟨w3.heap.size, 1, none⟩ (.int .i64 z3)).cell? ⟨w3.heap.size, 1, none⟩ = some (.int .i64 z3) := World.cell?_setCell_same _ _ _ (by rw [y1])
        have u0 : (w5.setCell ⟨w3.heap.size, 1, none⟩ (.int .i64 z3)).cell? ⟨w3.heap.size, 0, none⟩ = some (.int .i64 X) := (World.cell?_setCell_other _ ⟨w3.heap.size, 1, none⟩ ⟨w3.heap.size, 0, none⟩ _ (by simp)).trans y0
        clear hs hg x0 x1 f0 HP4 HP5
        obtain ⟨_, _, hgvx, hcatx⟩ := HP6.out.facts
        obtain ⟨bb, oo, hA, _, d0, d1⟩ := hcatx.at_ (show I < cs.length by rw [HP6.out.len]; exact hI)
        simp only [Option.some.injEq, Addr.mk.injEq, and_true] at hA
        obtain ⟨rfl, rfl⟩ := hA
        rw [Nat.zero_add] at d0 d1
        have hfz := fun o => HP6.out.own.frozenAt o
        generalize (cAt cs I).fl = p0 at *
        generalize (cAt cs I).hd = p1 at *
        have HF := Lib.hid (HP6.out.set I hI X z3)
        clear hcatx
        refine Lib.hid ?_
        go_wp2_with fail
        go_ret
        exact crv_post HF.out (by omega) (by omega) (by omega)
      by_cases hqq2 : q = 2
      · subst hqq2
        obtain ⟨hkc, hcm, _, _⟩ := HP4.out.facts
        refine Lib.hid ?_
        go_wp2_with fail
        go_ret
        exact crv_one HP4.out (by omega) (by omega)
      by_cases hqq3 : q = 3
      · subst hqq3
        refine Lib.hid ?_
        have HP4' := Lib.hid (HP4.out.more (show KC + 28 ≤ KC + 28 + 2 * k by omega))
        clear HP4 x0 x1 f0
        go_wp2_with fail
        go_loopw [3, 4, 5] (fun v f hd wr => ∃ (j gv cv : Nat) (x y : Int) (cs : List Cp), 2 ≤ j ∧ j ≤ 7 ∧ v = .slice (some ⟨gv, 0, none⟩) j cv ∧ f = .int .i64 x ∧ hd = .int .i64 y ∧ Hid (DI w wr B g a n cap (KC + 28 + 2 * j) gv cv j cs)) (fun v _ _ _ => 8 - (match v with | .slice _ l _ => l | _ => 0))
        case atStart => exact ⟨k, gv, cv, x, y, cs, by omega, by omega, rfl, rfl, rfl, HP4'⟩
        case round =>
          obtain ⟨j, gv, cv, x, y, cs, hj2, hj7, rfl, rfl, rfl, HP⟩ := hrel
          clear HP4'
          refine Hid.out ?_
          refine Lib.hid ?_
          go_wp2_with (first | (go_at_call 42; refine (S1.pick_any B g a n cap (KC + 28 + 2 * j) 2 _ (by omega) (by omega) (by omega) HP.out.st).mono ?_; rintro e w5 ⟨p, rfl, hp0, hp9, hs, hg⟩; refine Hid.out ?_) | fail)
          have HP5 := Lib.hid (HP.out.call hs hg)
          clear hs hg
          obtain ⟨P0, rfl, hP⟩ := nat_in hp0 hp9
          clear hp0 hp9 HP
          by_cases hlt2 : j < 6 + P0
          · have hltI : (j : Int) < 6 + (P0 : Int) := by omega
            refine Lib.hid ?_
            have hgz := HP5.out.gr.size
            have hgv := HP5.out.lo
            go_wp2_with (at_builtin; go_must (refine wpList_append_own _ rfl _ _ 24 rfl w.heap.size 38 i0 _ 2 16 Try.underlying24 hi0 hz0 hz1 hz2 rfl (by omega) _ _ _ rfl (HP5.out.own.alloc _) ⟨w5.heap.size, 0, none⟩ 1 1 (ccs2 ⟨x, y⟩) rfl rfl (cell_two' (c := ⟨x, y⟩) rfl) ?c2 ?c3 ?c4 ?c5 ?_))
            case c2 => intro u hu; exact ccs_one [⟨x, y⟩] u (by simpa [ccs] using hu)
            case c3 => unfold maxLen; omega
            case c4 => omega
            case c5 => simp; omega
            intro v' w6 hown' hgrow hnil
            obtain ⟨g5, c5, hv5, hg5⟩ := own_slC hown' (fun e => hnil e)
            subst hv5
            have HP6 := Lib.hid ((HP5.out.alloc (.cells #[.int .i64 x, .int .i64 y] 38)).push hgrow hown' hg5)
            clear hown' hgrow hnil
            refine Hid.out ?_
            refine Lib.hid ?_
            go_wp2_with fail
            go_roundw
            case rel => exact ⟨j + 1, g5, c5, _, _, _, by omega, by omega, rfl, rfl, rfl, Lib.hid (HP6.out.more (by omega))⟩
            case measure => simp; omega
          · have hltI : ¬ ((j : Int) < 6 + (P0 : Int)) := by omega
            refine Lib.hid ?_
            go_wp2_with fail
            go_ret
            exact crv_post HP5.out (by omega) (by omega) (by omega)
      obtain ⟨_, _, hgvx, hcatx⟩ := HP4.out.facts
      obtain ⟨bb, oo, hA, _, d0, d1⟩ := hcatx.at_ (show I < cs.length by rw [HP4.out.len]; exact hI)
      simp only [Option.some.injEq, Addr.mk.injEq, and_true] at hA
      obtain ⟨rfl, rfl⟩ := hA
      rw [Nat.zero_add] at d0 d1
      have hfz := fun o => HP4.out.own.frozenAt o
      generalize (cAt cs I).fl = p0 at *
      generalize (cAt cs I).hd = p1 at *
      have HF := Lib.hid (HP4.out.set I hI X Y)
      clear hcatx
      refine Lib.hid ?_
      go_wp2_with fail
      go_ret
      exact crv_post HF.out (by omega) (by omega) (by omega)
end Go.Proofs.Ytpldbakllegheab.S7
