/- A network, drawn: contracts. Conditions: each theorem's own premises. -/
import Derived.Test.YtlkomipjamelkabNwDI
import Derived.Test.YtlkomipjamelkabWoA
import Derived.Deep.DeepCutAuto
namespace Go.Proofs.Ytlkomipjamelkab.S2
open Go.RowKit Go.Sort P2

set_option maxHeartbeats 1500000 in
set_option maxRecDepth 100000 in
theorem network_any (B g : Nat) (a : Option Addr) (n cap KC : Nat) (w : World) (hK : KC ≤ 800000) (h : S1.St B g a n cap KC w) (hgw : g < w.heap.size) :
    Calls Try.prog 140 #[.pointer (some ⟨g, 0, none⟩)] w (NetPost B g a n cap (KC + 200) 11 w) := by
  have HS1 := Lib.hid (S1.st_new h (nb 0 none 0 0))
  have hBg := h.bg
  obtain ⟨i0, hi0, hz0, hz1, hz2⟩ := info_parts infoP
  have HG1 := Lib.hid (show w.grownBy (w.alloc (nb 0 none 0 0)) (some g) from World.grownBy_alloc w _ (some g))
  have HR1 := Lib.hid (TN.made w (.int .i64 0) (.slice none 0 0))
  clear h
  go_enter Try.func140, Try.ntmps140
  refine Hid.out ?_
  refine Lib.hid ?_
  go_wp2_with (first | (go_at_call 109; refine (S1.pick_any B g a n cap KC 7 _ (by omega) (by omega) (by omega) HS1.out).mono ?_; rintro e w1 ⟨r0, rfl, hr0, hr9, hs, hg⟩; refine Hid.out ?_) | fail)
  obtain ⟨N0, rfl, hN0⟩ := nat_in hr0 hr9
  obtain ⟨N, hNN⟩ : ∃ N : Nat, 1 + (N0 : Int) = (N : Int) := ⟨1 + N0, by omega⟩
  have hN1 : 1 ≤ N := by omega
  have hN7 : N ≤ 7 := by omega
  have hNW : wrap64 (1 + (N0 : Int)) = (N : Int) := by rw [hNN]; exact IntWalk.wrap64_in _ (by omega)
  have HP0 := Lib.hid (NI.start (N : Int) hs (S1.grown_trans HG1.out hg) hgw (HR1.out.grown hg (by omega)))
  have hz1' := HP0.out.lo
  have hRc := HP0.out.res.cell
  have hzT := HP0.out.box.lt
  obtain ⟨T, hT⟩ : ∃ T, w1.heap.size = T := ⟨_, rfl⟩
  rw [hT] at HP0 hz1' hzT
  clear hs hg HS1 HG1 HR1 hr0 hr9
  refine Lib.hid ?_
  go_wp2_with fail
  go_loopw [4, 5] (fun id nd wr => ∃ (k I : Nat) (A : Option Addr) (c : Nat) (ps : List Pp), id = .int .i64 (I : Int) ∧ nd = .int .i64 (k : Int) ∧ 2 ≤ k ∧ k ≤ 8 ∧ I ≤ 3 * k ∧ ps.length + 2 ≤ k ∧ Hid (NI w wr B g a n cap (KC + 2 + 10 * k) T (N : Int) (.slice A ps.length c) ps)) (fun _ nd _ => 9 - (intOf nd).toNat)
  case atStart => exact ⟨2, 0, none, 0, [], rfl, rfl, by omega, by omega, by omega, by simp, Lib.hid (HP0.out.more (by omega))⟩
  case round =>
    clear HP0
    obtain ⟨k, I, A, c, ps, rfl, rfl, hk2, hk8, hIk, hpl, HP⟩ := hrel
    obtain ⟨c0, c1⟩ := HP.out.box.cell
    have hTl := HP.out.box.lt
    by_cases hlt : k ≤ N
    · have hltI : (k : Int) ≤ (N : Int) := by omega
      refine Hid.out ?_
      refine Lib.hid ?_
      go_wp2_with (first | (go_at_call 118; refine (S1.one_any B g a n cap (KC + 2 + 10 * k) 10 _ (by omega) (by omega) (by omega) HP.out.st).mono ?_; rintro e w3 ⟨b3, rfl, hs, hg⟩; refine Hid.out ?_) | fail)
      have HP3 := Lib.hid (HP.out.call hs hg)
      clear hs hg c0 c1 HP
      cases b3 with
      | true =>
        refine Lib.hid ?_
        go_wp2_with fail
        go_roundw
        case rel => exact ⟨k + 1, I, A, c, ps, rfl, by go_num, by omega, by omega, by omega, by omega, Lib.hid (HP3.out.more (by omega))⟩
        case measure => simp [intOf]; omega
      | false =>
        refine Lib.hid ?_
        go_wp2_with (first | (go_at_call 109; refine (S1.pick_any B g a n cap (KC + 2 + 10 * k + 2) 3 _ (by omega) (by omega) (by omega) HP3.out.st).mono ?_; rintro e w4 ⟨r4, rfl, hr40, hr49, hs, hg⟩; refine Hid.out ?_) | fail)
        have HP4 := Lib.hid (HP3.out.call hs hg)
        clear hs hg
        obtain ⟨R4, rfl, hR4⟩ := nat_in hr40 hr49
        obtain ⟨J, hJ⟩ : ∃ J : Nat, (I : Int) + 1 + (R4 : Int) = (J : Int) := ⟨I + 1 + R4, by omega⟩
        have hJ3 : J ≤ 3 * (k + 1) := by omega
        have hk1 : (1 : Int) ≤ (k : Int) - 1 := by omega
        have hk9 : (k : Int) - 1 ≤ 1000000 := by omega
        clear hr40 hr49 HP3
        refine Lib.hid ?_
        go_wp2_with (first | (go_at_call 109; refine (S1.pick_any B g a n cap (KC + 2 + 10 * k + 4) ((k : Int) - 1) _ (by omega) hk1 hk9 HP4.out.st).mono ?_; rintro e w5 ⟨r5, rfl, hr50, hr59, hs, hg⟩; refine Hid.out ?_) | fail)
        have HP5 := Lib.hid (HP4.out.call hs hg)
        clear hs hg
        obtain ⟨R5, rfl, hR5⟩ := nat_in hr50 hr59
        obtain ⟨F, hF⟩ : ∃ F : Nat, 1 + (R5 : Int) = (F : Int) := ⟨1 + R5, by omega⟩
        clear hr50 hr59 HP4
        refine Lib.hid ?_
        go_wp2_with (first | (go_at_call 109; refine (S1.pick_any B g a n cap (KC + 2 + 10 * k + 6) 9 _ (by omega) (by omega) (by omega) HP5.out.st).mono ?_; rintro e w6 ⟨r6, rfl, hr60, hr69, hs, hg⟩; refine Hid.out ?_) | fail)
        have HP6 := Lib.hid (HP5.out.call hs hg)
        clear hs hg
        obtain ⟨R6, rfl, hR6⟩ := nat_in hr60 hr69
        obtain ⟨Z, hZ⟩ : ∃ Z : Nat, 1 + (R6 : Int) = (Z : Int) := ⟨1 + R6, by omega⟩
        clear hr60 hr69 HP5
        have hPT : T < w6.heap.size := HP6.out.box.lt
        have hPR : w.heap.size < w6.heap.size := by omega
        have hPv := HP6.out.new
        have HPb := Lib.hid (HP6.out.alloc (.cells #[.int .i64 (J : Int), .int .i64 (F : Int), .int .i64 (k : Int), .int .i64 (Z : Int)] 40))
        have HX6 := Lib.hid (PX.made w6 ⟨J, F, k, Z⟩)
        obtain ⟨P, hP⟩ : ∃ P, w6.heap.size = P := ⟨_, rfl⟩
        rw [hP] at hPT hPR hPv
        rw [hP] at HX6
        refine Lib.hid ?_
        go_wp2_with (first | (go_at_call 118; refine (S1.one_any B g a n cap (KC + 2 + 10 * k + 8) 2 _ (by omega) (by omega) (by omega) HPb.out.st).mono ?_; rintro e w7 ⟨b7, rfl, hs, hg⟩; refine Hid.out ?_) | fail)
        have HP7 := Lib.hid (HPb.out.call hs hg)
        have HX7 := Lib.hid (HX6.out.grown hg (by omega))
        clear hs hg HX6 HPb HP6
        have hz7 := HX7.out.lt
        cases b7 with
        | false =>
          have hc1 := HP7.out.box.cell.2
          have hcf := HP7.out.box.frozen 1
          obtain ⟨x0, x1, x2, x3⟩ := HX7.out.cells
          dsimp only at x0 x1 x2 x3
          refine Lib.hid ?_
          have hCN := cells_newP w7 ⟨J, F, k, Z⟩
          go_wp2_with (at_builtin; go_must (refine wpList_append_own _ rfl _ _ 24 rfl w.heap.size 40 i0 _ 4 32 Try.underlying24 hi0 hz0 hz1 hz2 rfl (by omega) _ _ _ rfl (HP7.out.own.alloc _) ⟨w7.heap.size, 0, none⟩ 1 1 (pcs4 ⟨J, F, k, Z⟩) rfl rfl hCN (by intro u hu; simp [pcs4] at hu; rcases hu with rfl | rfl | rfl | rfl <;> rfl) (by unfold maxLen; omega) (by omega) (by simp; omega) ?_))
          intro v' w8 hown' hgrow hnil
          obtain ⟨d0, d1, df, q, c', rfl⟩ := (HP7.out.alloc _).mid hgrow hown'
          have HPn := Lib.hid ((HP7.out.alloc _).push hgrow hown')
          clear hown' hgrow hnil
          go_wp2_with fail
          go_roundw
          case rel => exact ⟨k + 1, J, some ⟨q, 0, none⟩, c', ps ++ [⟨J, F, k, Z⟩], rfl, by go_num, by omega, by omega, by omega, by rw [List.length_append]; simp; omega, Lib.hid (by have := HPn.out.more (show KC + 2 + 10 * k + 8 + 2 ≤ KC + 2 + 10 * (k + 1) by omega); rw [List.length_append]; exact this)⟩
          case measure => simp [intOf]; omega
        | true =>
          have HX8 := Lib.hid (HX7.out.whole ⟨J, k, F, Z⟩)
          have HP8 := Lib.hid (HP7.out.swap P ⟨J, k, F, Z⟩ hPR (by omega) hPv)
          have hxf := HX7.out.frozen
          obtain ⟨x0, x1, x2, x3⟩ := HX7.out.cells
          obtain ⟨y0, y1, y2, y3⟩ := HX8.out.cells
          have hc1 := HP8.out.box.cell.2
          have hcf := HP8.out.box.frozen 1
          dsimp only at x0 x1 x2 x3 y0 y1 y2 y3 hc1 hcf HP8
          refine Lib.hid ?_
          have hCN := cells_newP ((((w7.setCell ⟨P, 0, none⟩ (.int .i64 (J : Int))).setCell ⟨P, 1, none⟩ (.int .i64 (k : Int))).setCell ⟨P, 2, none⟩ (.int .i64 (F : Int))).setCell ⟨P, 3, none⟩ (.int .i64 (Z : Int))) ⟨J, k, F, Z⟩
          rw [show ((((w7.setCell ⟨P, 0, none⟩ (.int .i64 (J : Int))).setCell ⟨P, 1, none⟩ (.int .i64 (k : Int))).setCell ⟨P, 2, none⟩ (.int .i64 (F : Int))).setCell ⟨P, 3, none⟩ (.int .i64 (Z : Int))).heap.size = w7.heap.size from by simp] at hCN
          go_wp2_with (at_builtin; go_must (refine wpList_append_own _ rfl _ _ 24 rfl w.heap.size 40 i0 _ 4 32 Try.underlying24 hi0 hz0 hz1 hz2 rfl (by omega) _ _ _ rfl (HP8.out.own.alloc _) ⟨w7.heap.size, 0, none⟩ 1 1 (pcs4 ⟨J, k, F, Z⟩) rfl rfl hCN (by intro u hu; simp [pcs4] at hu; rcases hu with rfl | rfl | rfl | rfl <;> rfl) (by unfold maxLen; omega) (by omega) (by simp; omega) ?_))
          intro v' w8 hown' hgrow hnil
          obtain ⟨d0, d1, df, q, c', rfl⟩ := (HP8.out.alloc _).mid hgrow hown'
          have HPn := Lib.hid ((HP8.out.alloc _).push hgrow hown')
          clear hown' hgrow hnil
          go_wp2_with fail
          go_roundw
          case rel => exact ⟨k + 1, J, some ⟨q, 0, none⟩, c', ps ++ [⟨J, k, F, Z⟩], rfl, by go_num, by omega, by omega, by omega, by rw [List.length_append]; simp; omega, Lib.hid (by have := HPn.out.more (show KC + 2 + 10 * k + 8 + 2 ≤ KC + 2 + 10 * (k + 1) by omega); rw [List.length_append]; exact this)⟩
          case measure => simp [intOf]; omega
    · have hltI : ¬ (k : Int) ≤ (N : Int) := by omega
      have HPx := Lib.hid (HP.out.more (show KC + 2 + 10 * k ≤ KC + 100 by omega))
      have hp6 : ps.length ≤ 6 := by omega
      have hI24 : I ≤ 24 := by omega
      clear HP hpl hIk
      refine Hid.out ?_
      refine Lib.hid ?_
      go_wp2_with (first | (go_at_call 109; refine (S1.pick_any B g a n cap (KC + 100) 4 _ (by omega) (by omega) (by omega) HPx.out.st).mono ?_; rintro e w3 ⟨r3, rfl, hr30, hr39, hs, hg⟩; refine Hid.out ?_) | fail)
      have HP3 := Lib.hid (HPx.out.call hs hg)
      clear hs hg
      obtain ⟨R, rfl, hR⟩ := nat_in hr30 hr39
      clear hr30 hr39 HPx c0 c1 hTl
      refine Lib.hid ?_
      go_wp2_with fail
      go_loopw [4, 7] (fun id q wr => ∃ (r j I : Nat) (A : Option Addr) (c : Nat) (ps : List Pp), r + j = R ∧ I ≤ 24 + 3 * j ∧ id = .int .i64 (I : Int) ∧ q = .int .i64 (r : Int) ∧ ps.length ≤ 6 + j ∧ Hid (NI w wr B g a n cap (KC + 102 + 10 * j) T (N : Int) (.slice A ps.length c) ps)) (fun _ q _ => (intOf q).toNat)
      case atStart => exact ⟨R, 0, I, A, c, ps, by omega, by omega, rfl, rfl, by omega, Lib.hid (HP3.out.more (by omega))⟩
      case round =>
        clear HP3
        obtain ⟨r, j, I, A, c, ps, hrj, hIj, rfl, rfl, hpl, HP⟩ := hrel
        obtain ⟨c0, c1⟩ := HP.out.box.cell
        have hTl := HP.out.box.lt
        have hl10 : (ps.length : Int) < 10 := by omega
        have hRl : w.heap.size < wr.heap.size := HP.out.res.lt
        by_cases hr0 : 0 < r
        · have hrI : (0 : Int) < (r : Int) := by omega
          by_cases hN2 : 1 < N
          · have hNI : (1 : Int) < (N : Int) := by omega
            have hNn : (N : Int) ≠ 0 := by omega
            refine Hid.out ?_
            refine Lib.hid ?_
            go_wp2_with (first | (go_at_call 109; refine (S1.pick_any B g a n cap (KC + 102 + 10 * j) 3 _ (by omega) (by omega) (by omega) HP.out.st).mono ?_; rintro e w4 ⟨r4, rfl, hr40, hr49, hs, hg⟩; refine Hid.out ?_) | fail)
            have HP4 := Lib.hid (HP.out.call hs hg)
            clear hs hg
            obtain ⟨R4, rfl, hR4⟩ := nat_in hr40 hr49
            obtain ⟨J, hJ⟩ : ∃ J : Nat, (I : Int) + 1 + (R4 : Int) = (J : Int) := ⟨I + 1 + R4, by omega⟩
            have hJ3 : J ≤ 24 + 3 * (j + 1) := by omega
            have d0 := HP4.out.box.cell.1
            have hk1 : (1 : Int) ≤ (N : Int) := by omega
            have hk9 : (N : Int) ≤ 1000000 := by omega
            clear hr40 hr49 HP c0 c1 hTl
            refine Lib.hid ?_
            go_wp2_with (first | (go_at_call 109; refine (S1.pick_any B g a n cap (KC + 102 + 10 * j + 2) (N : Int) _ (by omega) hk1 hk9 HP4.out.st).mono ?_; rintro e wq ⟨r5, rfl, hr50, hr59, hs, hg⟩; refine Hid.out ?_) | fail)
            have HP5 := Lib.hid (HP4.out.call hs hg)
            clear hs hg
            obtain ⟨R5, rfl, hR5⟩ := nat_in hr50 hr59
            obtain ⟨F, hF⟩ : ∃ F : Nat, 1 + (R5 : Int) = (F : Int) := ⟨1 + R5, by omega⟩
            have hF8 : F ≤ 8 := by omega
            obtain ⟨M, hM, hM9⟩ : ∃ M : Nat, (F : Int).tmod (N : Int) = (M : Int) ∧ M < N := by
              have := S1.tmod_bd (F : Int) (N : Int) (by omega) (by omega)
              exact ⟨((F : Int).tmod (N : Int)).toNat, by omega, by omega⟩
            obtain ⟨Y, hY⟩ : ∃ Y : Nat, 1 + (M : Int) = (Y : Int) := ⟨1 + M, by omega⟩
            have hYw : IntKind.i64.wrap (Y : Int) = (Y : Int) := IntWalk.i64_in (Y : Int) (by omega)
            clear hr50 hr59 HP4 d0
            obtain ⟨c0, c1⟩ := HP5.out.box.cell
            have hTq := HP5.out.box.lt
            have HPd := Lib.hid HP5.out.drew
            refine Lib.hid ?_
            go_upto_region 17 with (fail)
            refine wp_region_held_drew (S := fun w' => w'.cell? ⟨T, 0, none⟩ = some (.int .i64 (N : Int))) (by kernel_rfl) (by exact c0) (fun hHeld => ?_)
            refine wpAnyH_take (i := 0) (v := .pointer (some ⟨T, 1, none⟩)) rfl (by kernel_rfl) (by kernel_rfl) (by kernel_rfl) (fun _ _ _ h => h) (Or.inl ⟨by rfl, ?_⟩) (by assumption) ?_
            · (intro w hSw; (try dsimp only at hSw); go_simp)
            simp only [Act.put, List.setIfInBounds_toArray]
            refine wpAnyH_take (i := 2) (v := .int .i64 (J : Int)) rfl (by kernel_rfl) (by kernel_rfl) (by kernel_rfl) (fun _ _ _ h => h) (Or.inl ⟨by rfl, ?_⟩) (by assumption) ?_
            · (intro w hSw; (try dsimp only at hSw); go_simp)
            simp only [Act.put]
            refine wpAnyH_take (i := 3) (v := .int .i64 (F : Int)) rfl (by kernel_rfl) (by kernel_rfl) (by kernel_rfl) (fun _ _ _ h => h) (Or.inl ⟨by rfl, ?_⟩) (by assumption) ?_
            · (intro w hSw; (try dsimp only at hSw); go_simp)
            simp only [Act.put]
            refine wpAnyH_take (i := 4) (v := .int .i64 (F : Int)) rfl (by kernel_rfl) (by kernel_rfl) (by kernel_rfl) (fun _ _ _ h => h) (Or.inl ⟨by rfl, ?_⟩) (by assumption) ?_
            · (intro w hSw; (try dsimp only at hSw); go_simp)
            simp only [Act.put]
            refine wpAnyH_take (i := 5) (v := .pointer (some ⟨T, 0, none⟩)) rfl (by kernel_rfl) (by kernel_rfl) (by kernel_rfl) (fun _ _ _ h => h) (Or.inl ⟨by rfl, ?_⟩) (by assumption) ?_
            · (intro w hSw; (try dsimp only at hSw); go_simp)
            simp only [Act.put]
            refine wpAnyH_take (i := 6) (v := .int .i64 (N : Int)) rfl (by kernel_rfl) (by kernel_rfl) (by kernel_rfl) (fun _ _ _ h => h) (Or.inl ⟨by rfl, ?_⟩) (by assumption) ?_
            · (intro w hSw; (try dsimp only at hSw); go_simp)
            simp only [Act.put]
            refine wpAnyH_take (i := 7) (v := .int .i64 (M : Int)) rfl (by kernel_rfl) (by kernel_rfl) (by kernel_rfl) (fun _ _ _ h => h) (Or.inl ⟨by rfl, ?_⟩) (by assumption) ?_
            · (intro w hSw; (try dsimp only at hSw); go_simp; (try first | omega | assumption))
            simp only [Act.put]
            refine wpAnyH_take (i := 8) (v := .int .i64 (Y : Int)) rfl (by kernel_rfl) (by kernel_rfl) (by kernel_rfl) (fun _ _ _ h => h) (Or.inl ⟨by rfl, ?_⟩) (by assumption) ?_
            · (intro w hSw; (try dsimp only at hSw); go_simp; (try first | omega | assumption))
            simp only [Act.put]
            refine wpAnyH_take (i := 9) (v := .pointer (some ⟨g, 0, none⟩)) rfl (by kernel_rfl) (by kernel_rfl) (by kernel_rfl) (fun _ _ _ h => h) (Or.inl ⟨by rfl, ?_⟩) (by assumption) ?_
            · (intro w hSw; (try dsimp only at hSw); go_simp)
            simp only [Act.put]
            refine wpAnyH_ready (rs := [1, 10]) (by kernel_rfl) (by simp) ?_
            refine AllReadyH.cons rfl (fun K hK => ?_) (AllReadyH.cons rfl (fun K hK => ?_) AllReadyH.nil)
            · skip
              go_simp
              refine hK.out _ _ (by first | assumption | go_keep) (fun hHeld => ?_)
              clear hK K
              refine wpAnyH_ready (rs := [10]) (by kernel_rfl) (by simp) ?_
              refine AllReadyH.cons rfl (fun K hK => ?_) AllReadyH.nil
              go_simp
              go_at_call 109
              refine (S1.pick_any B g a n cap (KC + 102 + 10 * j + 4) 9 _ (by omega) (by omega) (by omega) HPd.out.st).mono ?_
              rintro e w5 ⟨r7, rfl, hr70, hr79, hs, hg⟩
              obtain ⟨R7, rfl, hR7⟩ := nat_in hr70 hr79
              obtain ⟨Z, hZ⟩ : ∃ Z : Nat, 1 + (R7 : Int) = (Z : Int) := ⟨1 + R7, by omega⟩
              have hZw : IntKind.i64.wrap (Z : Int) = (Z : Int) := IntWalk.i64_in (Z : Int) (by omega)
              have HP6 := Lib.hid (HPd.out.call hs hg)
              clear hs hg hr70 hr79
              obtain ⟨e0, e1⟩ := HP6.out.box.cell
              have hT6 := HP6.out.box.lt
              have hRl6 : w.heap.size < w5.heap.size := HP6.out.res.lt
              refine hK.out _ _ (by exact e0) (fun hHeld => ?_)
              clear hK K
              refine wpAnyH_take (i := 11) (v := .int .i64 (Z : Int)) rfl (by kernel_rfl) (by kernel_rfl) (by kernel_rfl) (fun _ _ _ h => h) (Or.inl ⟨by rfl, ?_⟩) (by assumption) ?_
              · (intro w hSw; (try dsimp only at hSw); go_simp; (try first | omega | assumption))
              simp only [Act.put]
              refine wpAnyH_take (i := 12) (v := .agg #[.int .i64 (J : Int), .int .i64 (F : Int), .int .i64 (Y : Int), .int .i64 (Z : Int)]) rfl (by kernel_rfl) (by kernel_rfl) (by kernel_rfl) (fun _ _ _ h => h) (Or.inl ⟨by rfl, ?_⟩) (by assumption) ?_
              · (intro w hSw; (try dsimp only at hSw); go_simp)
              simp only [Act.put]
              refine wpAnyH_ready (rs := [13]) (by kernel_rfl) (by simp) ?_
              refine AllReadyH.cons rfl (fun K hK => ?_) AllReadyH.nil
              go_simp
              refine hK.out _ _ (by first | assumption | go_keep) (fun hHeld => ?_)
              clear hK K
              refine wpAnyH_ready (rs := [14]) (by kernel_rfl) (by simp) ?_
              refine AllReadyH.cons rfl (fun K hK => ?_) AllReadyH.nil
              refine step_append_own _ (by rfl) _ _ _ (by rfl) w.heap.size 40 i0 _ 4 32 Try.underlying24 hi0 hz0 hz1 hz2 rfl (by omega) (.slice A ps.length c) ps.length (pcs ps) (by rfl) (HP6.out.own.alloc _) ⟨w5.heap.size, 0, none⟩ 1 1 (pcs4 ⟨J, F, Y, Z⟩) (by rfl) rfl (cells_newP w5 ⟨J, F, Y, Z⟩) (by intro u hu; simp [pcs4] at hu; rcases hu with rfl | rfl | rfl | rfl <;> rfl) (by simp only [maxLen]; omega) (by omega) (by simp; omega) ?_
              intro v' w8 hown' hgrow hnil
              obtain ⟨d0, d1, df, q, c', rfl⟩ := (HP6.out.alloc _).mid hgrow hown'
              have HPn := Lib.hid ((HP6.out.alloc _).push hgrow hown')
              clear hown' hgrow hnil
              refine hK.out _ _ (by exact d0) (fun hHeld => ?_)
              clear hK K
              refine wpAnyH_take (i := 15) (v := .pointer (some ⟨T, 1, none⟩)) rfl (by kernel_rfl) (by kernel_rfl) (by kernel_rfl) (fun _ _ _ h => h) (Or.inl ⟨by rfl, ?_⟩) (by assumption) ?_
              · (intro w hSw; (try dsimp only at hSw); go_simp)
              simp only [Act.put]
              refine wpAnyH_ready (rs := [16]) (by kernel_rfl) (by simp) ?_
              refine AllReadyH.cons rfl (fun K hK => ?_) AllReadyH.nil
              go_simp
              refine hK.out _ _ (by exact HPn.out.box.cell.1) (fun hHeld => ?_)
              clear hK K
              refine wpAnyH_done (by kernel_rfl) ?_ _
              clear HP5 HPd HP6 c0 c1
              go_wp2_with fail
              go_roundw
              case rel => exact ⟨r - 1, j + 1, J, some ⟨q, 0, none⟩, c', ps ++ [⟨J, F, Y, Z⟩], by omega, by omega, rfl, by congr 1; omega, by rw [List.length_append]; simp; omega, Lib.hid (by have := HPn.out.more (show KC + 102 + 10 * j + 4 + 2 ≤ KC + 102 + 10 * (j + 1) by omega); rw [List.length_append]; exact this)⟩
              case measure => simp [intOf]; omega
            · skip
              go_simp
              go_at_call 109
              refine (S1.pick_any B g a n cap (KC + 102 + 10 * j + 4) 9 _ (by omega) (by omega) (by omega) HPd.out.st).mono ?_
              rintro e w5 ⟨r7, rfl, hr70, hr79, hs, hg⟩
              obtain ⟨R7, rfl, hR7⟩ := nat_in hr70 hr79
              obtain ⟨Z, hZ⟩ : ∃ Z : Nat, 1 + (R7 : Int) = (Z : Int) := ⟨1 + R7, by omega⟩
              have hZw : IntKind.i64.wrap (Z : Int) = (Z : Int) := IntWalk.i64_in (Z : Int) (by omega)
              have HP6 := Lib.hid (HPd.out.call hs hg)
              clear hs hg hr70 hr79
              obtain ⟨e0, e1⟩ := HP6.out.box.cell
              have hT6 := HP6.out.box.lt
              have hRl6 : w.heap.size < w5.heap.size := HP6.out.res.lt
              refine hK.out _ _ (by exact e0) (fun hHeld => ?_)
              clear hK K
              refine wpAnyH_take (i := 11) (v := .int .i64 (Z : Int)) rfl (by kernel_rfl) (by kernel_rfl) (by kernel_rfl) (fun _ _ _ h => h) (Or.inl ⟨by rfl, ?_⟩) (by assumption) ?_
              · (intro w hSw; (try dsimp only at hSw); go_simp; (try first | omega | assumption))
              simp only [Act.put]
              refine wpAnyH_take (i := 12) (v := .agg #[.int .i64 (J : Int), .int .i64 (F : Int), .int .i64 (Y : Int), .int .i64 (Z : Int)]) rfl (by kernel_rfl) (by kernel_rfl) (by kernel_rfl) (fun _ _ _ h => h) (Or.inl ⟨by rfl, ?_⟩) (by assumption) ?_
              · (intro w hSw; (try dsimp only at hSw); go_simp)
              simp only [Act.put]
              refine wpAnyH_ready (rs := [1, 13]) (by kernel_rfl) (by simp) ?_
              refine AllReadyH.cons rfl (fun K hK => ?_) (AllReadyH.cons rfl (fun K hK => ?_) AllReadyH.nil)
              · skip
                go_simp
                refine hK.out _ _ (by first | assumption | go_keep) (fun hHeld => ?_)
                clear hK K
                refine wpAnyH_ready (rs := [13]) (by kernel_rfl) (by simp) ?_
                refine AllReadyH.cons rfl (fun K hK => ?_) AllReadyH.nil
                go_simp
                refine hK.out _ _ (by first | assumption | go_keep) (fun hHeld => ?_)
                clear hK K
                refine wpAnyH_ready (rs := [14]) (by kernel_rfl) (by simp) ?_
                refine AllReadyH.cons rfl (fun K hK => ?_) AllReadyH.nil
                refine step_append_own _ (by rfl) _ _ _ (by rfl) w.heap.size 40 i0 _ 4 32 Try.underlying24 hi0 hz0 hz1 hz2 rfl (by omega) (.slice A ps.length c) ps.length (pcs ps) (by rfl) (HP6.out.own.alloc _) ⟨w5.heap.size, 0, none⟩ 1 1 (pcs4 ⟨J, F, Y, Z⟩) (by rfl) rfl (cells_newP w5 ⟨J, F, Y, Z⟩) (by intro u hu; simp [pcs4] at hu; rcases hu with rfl | rfl | rfl | rfl <;> rfl) (by simp only [maxLen]; omega) (by omega) (by simp; omega) ?_
                intro v' w8 hown' hgrow hnil
                obtain ⟨d0, d1, df, q, c', rfl⟩ := (HP6.out.alloc _).mid hgrow hown'
                have HPn := Lib.hid ((HP6.out.alloc _).push hgrow hown')
                clear hown' hgrow hnil
                refine hK.out _ _ (by exact d0) (fun hHeld => ?_)
                clear hK K
                refine wpAnyH_take (i := 15) (v := .pointer (some ⟨T, 1, none⟩)) rfl (by kernel_rfl) (by kernel_rfl) (by kernel_rfl) (fun _ _ _ h => h) (Or.inl ⟨by rfl, ?_⟩) (by assumption) ?_
                · (intro w hSw; (try dsimp only at hSw); go_simp)
                simp only [Act.put]
                refine wpAnyH_ready (rs := [16]) (by kernel_rfl) (by simp) ?_
                refine AllReadyH.cons rfl (fun K hK => ?_) AllReadyH.nil
                go_simp
                refine hK.out _ _ (by exact HPn.out.box.cell.1) (fun hHeld => ?_)
                clear hK K
                refine wpAnyH_done (by kernel_rfl) ?_ _
                clear HP5 HPd HP6 c0 c1
                go_wp2_with fail
                go_roundw
                case rel => exact ⟨r - 1, j + 1, J, some ⟨q, 0, none⟩, c', ps ++ [⟨J, F, Y, Z⟩], by omega, by omega, rfl, by congr 1; omega, by rw [List.length_append]; simp; omega, Lib.hid (by have := HPn.out.more (show KC + 102 + 10 * j + 4 + 2 ≤ KC + 102 + 10 * (j + 1) by omega); rw [List.length_append]; exact this)⟩
                case measure => simp [intOf]; omega
              · skip
                go_simp
                refine hK.out _ _ (by first | assumption | go_keep) (fun hHeld => ?_)
                clear hK K
                refine wpAnyH_ready (rs := [1]) (by kernel_rfl) (by simp) ?_
                refine AllReadyH.cons rfl (fun K hK => ?_) AllReadyH.nil
                go_simp
                refine hK.out _ _ (by first | assumption | go_keep) (fun hHeld => ?_)
                clear hK K
                refine wpAnyH_ready (rs := [14]) (by kernel_rfl) (by simp) ?_
                refine AllReadyH.cons rfl (fun K hK => ?_) AllReadyH.nil
                refine step_append_own _ (by rfl) _ _ _ (by rfl) w.heap.size 40 i0 _ 4 32 Try.underlying24 hi0 hz0 hz1 hz2 rfl (by omega) (.slice A ps.length c) ps.length (pcs ps) (by rfl) (HP6.out.own.alloc _) ⟨w5.heap.size, 0, none⟩ 1 1 (pcs4 ⟨J, F, Y, Z⟩) (by rfl) rfl (cells_newP w5 ⟨J, F, Y, Z⟩) (by intro u hu; simp [pcs4] at hu; rcases hu with rfl | rfl | rfl | rfl <;> rfl) (by simp only [maxLen]; omega) (by omega) (by simp; omega) ?_
                intro v' w8 hown' hgrow hnil
                obtain ⟨d0, d1, df, q, c', rfl⟩ := (HP6.out.alloc _).mid hgrow hown'
                have HPn := Lib.hid ((HP6.out.alloc _).push hgrow hown')
                clear hown' hgrow hnil
                refine hK.out _ _ (by exact d0) (fun hHeld => ?_)
                clear hK K
                refine wpAnyH_take (i := 15) (v := .pointer (some ⟨T, 1, none⟩)) rfl (by kernel_rfl) (by kernel_rfl) (by kernel_rfl) (fun _ _ _ h => h) (Or.inl ⟨by rfl, ?_⟩) (by assumption) ?_
                · (intro w hSw; (try dsimp only at hSw); go_simp)
                simp only [Act.put]
                refine wpAnyH_ready (rs := [16]) (by kernel_rfl) (by simp) ?_
                refine AllReadyH.cons rfl (fun K hK => ?_) AllReadyH.nil
                go_simp
                refine hK.out _ _ (by exact HPn.out.box.cell.1) (fun hHeld => ?_)
                clear hK K
                refine wpAnyH_done (by kernel_rfl) ?_ _
                clear HP5 HPd HP6 c0 c1
                go_wp2_with fail
                go_roundw
                case rel => exact ⟨r - 1, j + 1, J, some ⟨q, 0, none⟩, c', ps ++ [⟨J, F, Y, Z⟩], by omega, by omega, rfl, by congr 1; omega, by rw [List.length_append]; simp; omega, Lib.hid (by have := HPn.out.more (show KC + 102 + 10 * j + 4 + 2 ≤ KC + 102 + 10 * (j + 1) by omega); rw [List.length_append]; exact this)⟩
                case measure => simp [intOf]; omega
          · have hNI : ¬ (1 : Int) < (N : Int) := by omega
            have hRc := HP.out.res.cell
            have hRf := HP.out.res.frozen
            obtain ⟨r0, r1⟩ := hRc
            go_wp2_with fail
            refine bodyPost_ret (v := .agg #[.int .i64 (N : Int), .slice A ps.length c]) (by simp [results, Try.results140, go_sem, r0, r1]) rfl (HP.out.done (by omega) (by omega) (by omega))
        · have hrI : ¬ (0 : Int) < (r : Int) := by omega
          have hRc := HP.out.res.cell
          have hRf := HP.out.res.frozen
          obtain ⟨r0, r1⟩ := hRc
          go_wp2_with fail
          refine bodyPost_ret (v := .agg #[.int .i64 (N : Int), .slice A ps.length c]) (by simp [results, Try.results140, go_sem, r0, r1]) rfl (HP.out.done (by omega) (by omega) (by omega))
end Go.Proofs.Ytlkomipjamelkab.S2
