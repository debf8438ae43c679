/- A tariff, drawn: contracts. Conditions: each theorem's own premises. -/
import Derived.Test.YtidlpoambmeiiaaTaDI
import Derived.Deep.DeepCutAuto
namespace Go.Proofs.Ytidlpoambmeiiaa.S14
open Go.RowKit Go.Sort P14

theorem nat_in {r m : Int} (h0 : 0 ≤ r) (h9 : r < m) : ∃ k : Nat, r = (k : Int) ∧ (k : Int) < m := ⟨r.toNat, by omega, by omega⟩
theorem TI.drew {w wr : World} {B g : Nat} {a : Option Addr} {n cap K T : Nat} {f : Int} {v : Value} {l : List Bl} (h : TI w wr B g a n cap K T f v l) : TI w wr.drew B g a n cap K T f v l := h.draw 1
theorem lit_cat (w : World) (ty : TypeId) (L : List Bl) : CAt (w.alloc (.cells (ccs L).toArray ty)) (some ⟨w.heap.size, 0, none⟩) L ∧ CAt (w.alloc (.cells (ccs L).toArray ty)) (some ⟨w.heap.size, 2, none⟩) (L.drop 1) := by
  have hc : ∀ o, (w.alloc (.cells (ccs L).toArray ty)).cell? ⟨w.heap.size, o, none⟩ = (ccs L)[o]? := fun o => by
    rw [World.cell?_alloc_at _ _ _ _ rfl]
    show (ccs L).toArray[o]? = _
    simp
  refine ⟨.inr ⟨_, _, rfl, by simp, fun i hi => ?_⟩, .inr ⟨_, _, rfl, by simp, fun i hi => ?_⟩⟩
  · rw [hc, hc, Nat.zero_add]
    have h0 := ccs_get L i hi 0 (by omega)
    have h1 := ccs_get L i hi 1 (by omega)
    rw [Nat.add_zero] at h0
    exact ⟨h0, h1⟩
  · rw [List.length_drop] at hi
    rw [hc, hc]
    have h0 := ccs_get L (i + 1) (by omega) 0 (by omega)
    have h1 := ccs_get L (i + 1) (by omega) 1 (by omega)
    have e : cAt (L.drop 1) i = cAt L (i + 1) := by unfold cAt; simp [List.getD]
    rw [e]
    rw [show 2 + i * 2 = (i + 1) * 2 + 0 by omega, show (i + 1) * 2 + 0 + 1 = (i + 1) * 2 + 1 by omega]
    exact ⟨h0, h1⟩
set_option maxHeartbeats 3000000 in
set_option maxRecDepth 100000 in
theorem tariff_any (B g : Nat) (a : Option Addr) (n cap KC : Nat) (w : World) (hK : KC ≤ 800000) (h : S1.St B g a n cap KC w) (hgw : g < w.heap.size) :
    Calls Try.prog 74 #[.pointer (some ⟨g, 0, none⟩)] w (TaPost B g a n cap (KC + 30) w) := by
  have hBg := h.bg
  obtain ⟨i0, hi0, hz0, hz1, hz2⟩ := info_parts infoC
  have HS0 := Lib.hid (S1.st_new h (.cells #[.int .i64 0, .slice none 0 0] 29))
  have HG0 := Lib.hid (show w.grownBy (w.alloc (.cells #[.int .i64 0, .slice none 0 0] 29)) (some g) from World.grownBy_alloc w _ (some g))
  have HR0 := Lib.hid (C2.new w 29 (.int .i64 0) (.slice none 0 0))
  have HTI := Lib.hid (show S1.Ti (w.heap.size + 1) [0, 0, 500, 100000] ((w.alloc (.cells #[.int .i64 0, .slice none 0 0] 29)).alloc (.cells #[.int .i64 0, .int .i64 0, .int .i64 500, .int .i64 100000] 3)) from by have := S1.ti_new (w.alloc (.cells #[.int .i64 0, .slice none 0 0] 29)) [0, 0, 500, 100000] 3; rw [alloc_size] at this; exact this)
  clear h
  go_enter Try.func74, Try.ntmps74
  refine Hid.out ?_
  refine Lib.hid ?_
  go_wp2_with (first | (go_at_call 77; refine (S1.among_any B g a n cap KC (w.heap.size + 1) 4 4 [0, 0, 500, 100000] _ rfl (by omega) (by simp) (by simp) (S1.st_new HS0.out _) HTI.out (by omega)).mono ?_; rintro e w1 ⟨⟨z0, rfl⟩, hs, hg⟩; refine Hid.out ?_) | fail)
  have hg1 := S1.grown_trans (S1.grown_new HG0.out (.cells #[.int .i64 0, .int .i64 0, .int .i64 500, .int .i64 100000] 3)) hg
  have hr1 := (HR0.out.kept (alloc_below _ (.cells #[.int .i64 0, .int .i64 0, .int .i64 500, .int .i64 100000] 3))).far hg (by omega)
  have HP0 := Lib.hid (show TI w (w1.alloc (.cells #[.int .i64 z0, .slice none 0 0] 29)) B g a n cap (KC + 2) w1.heap.size z0 (.slice none 0 0) [] from ⟨S1.st_new hs _, S1.grown_new hg1 _, OT.start w1 _ z0, hr1.lt, hgw, hr1.kept (alloc_below _ _)⟩)
  obtain ⟨T, hT⟩ : ∃ T, w1.heap.size = T := ⟨_, rfl⟩
  rw [hT] at HP0
  clear hs hg hg1 hr1 HS0 HG0 HR0 HTI
  refine Lib.hid ?_
  go_wp2_with (first | (go_at_call 78; refine (S1.pick_any B g a n cap (KC + 2) 5 _ (by omega) (by omega) (by omega) HP0.out.st).mono ?_; rintro e w2 ⟨r0, rfl, hr00, hr09, hs, hg⟩; refine Hid.out ?_) | fail)
  have HP2 := Lib.hid (HP0.out.call hs hg)
  clear hs hg
  obtain ⟨N, rfl, hN⟩ := nat_in hr00 hr09
  clear hr00 hr09 HP0
  refine Lib.hid ?_
  go_wp2_with fail
  go_loopw [4, 5] (fun up nn wr => ∃ (r : Nat) (x : Int) (v : Value) (l : List Bl), r + l.length = N ∧ up = .int .i64 x ∧ nn = .int .i64 (r : Int) ∧ Hid (TI w wr B g a n cap (KC + 4 + 4 * l.length) T z0 v l)) (fun _ nn _ => (intOf nn).toNat)
  case atStart => exact ⟨N, 0, _, [], by simp, rfl, rfl, Lib.hid (HP2.out.more (by omega))⟩
  case round =>
    clear HP2
    obtain ⟨r, x, v, l, hrk, rfl, rfl, HP⟩ := hrel
    by_cases hlt : 0 < r
    · have hltI : (0 : Int) < (r : Int) := by omega
      refine Hid.out ?_
      refine Lib.hid ?_
      go_wp2_with (first | (go_at_call 77; refine (S1.among_any B g a n cap (KC + 4 + 4 * l.length) wr.heap.size 5 5 [1, 10, 50, 100, 20000] _ rfl (by omega) (by simp) (by simp) (HP.out.alloc _).st (fun j hj => S1.ti_new wr [1, 10, 50, 100, 20000] 3 j hj) (by have := HP.out.gr.size; omega)).mono ?_; rintro e w3 ⟨⟨z1, rfl⟩, hs, hg⟩; refine Hid.out ?_) | fail)
      have HP3 := Lib.hid ((HP.out.alloc (.cells #[.int .i64 1, .int .i64 10, .int .i64 50, .int .i64 100, .int .i64 20000] 3)).call hs hg)
      obtain ⟨X, hX⟩ : ∃ X, wrap64 (x + z1) = X := ⟨_, rfl⟩
      clear hs hg HP
      have HPd := Lib.hid HP3.out.drew
      obtain ⟨k0a, k1a, kfa, kla, _⟩ := HP3.out.out
      refine Lib.hid ?_
      go_wp2_with fail
      refine wp_region_held_drew (S := fun w' => True) (by kernel_rfl) (by trivial) (fun hHeld => ?_)
      refine wpAnyH_take (i := 0) (v := .pointer (some ⟨T, 1, none⟩)) rfl (by kernel_rfl) (by kernel_rfl) (by kernel_rfl) (fun _ _ _ h => h) (Or.inl ⟨by kernel_rfl, ?_⟩) (by assumption) ?_
      · (intro w hSw; (try dsimp only at hSw); go_simp)
      simp only [Act.put, List.setIfInBounds_toArray]
      refine wpAnyH_take (i := 2) (v := .int .i64 X) rfl (by kernel_rfl) (by kernel_rfl) (by kernel_rfl) (fun _ _ _ h => h) (Or.inl ⟨by kernel_rfl, ?_⟩) (by assumption) ?_
      · (intro w hSw; (try dsimp only at hSw); go_simp)
      simp only [Act.put]
      refine wpAnyH_take (i := 3) (v := .pointer (some ⟨g, 0, none⟩)) rfl (by kernel_rfl) (by kernel_rfl) (by kernel_rfl) (fun _ _ _ h => h) (Or.inl ⟨by kernel_rfl, ?_⟩) (by assumption) ?_
      · (intro w hSw; (try dsimp only at hSw); go_simp)
      simp only [Act.put]
      refine wpAnyH_ready (rs := [1, 4]) (by kernel_rfl) (by simp) ?_
      refine AllReadyH.cons rfl (fun K hK => ?_) (AllReadyH.cons rfl (fun K hK => ?_) AllReadyH.nil)
      · skip
        go_simp
        refine hK.out _ _ (by trivial) (fun hHeld => ?_)
        clear hK K
        refine wpAnyH_ready (rs := [4]) (by kernel_rfl) (by simp) ?_
        refine AllReadyH.cons rfl (fun K hK => ?_) AllReadyH.nil
        go_simp
        refine hK.out _ _ (by trivial) (fun hHeld => ?_)
        clear hK K
        refine wpAnyH_ready (rs := [5]) (by kernel_rfl) (by simp) ?_
        refine AllReadyH.cons rfl (fun K hK => ?_) AllReadyH.nil
        go_simp
        go_at_call 77
        refine (S1.among_any B g a n cap (KC + 4 + 4 * l.length + 2) w3.drew.heap.size 6 6 [0, 1, 5, 5, 20, 1000] _ rfl (by omega) (by simp) (by simp) (HPd.out.alloc (.cells #[.int .i64 0, .int .i64 1, .int .i64 5, .int .i64 5, .int .i64 20, .int .i64 1000] 3)).st (fun j hj => S1.ti_new w3.drew [0, 1, 5, 5, 20, 1000] 3 j hj) (by have := HPd.out.gr.size; have := HPd.out.gw; omega)).mono ?_
        rintro e w5 ⟨⟨z, rfl⟩, hs, hg⟩
        have HP6 := Lib.hid ((HPd.out.alloc (.cells #[.int .i64 0, .int .i64 1, .int .i64 5, .int .i64 5, .int .i64 20, .int .i64 1000] 3)).call hs hg)
        clear hs hg
        obtain ⟨_, e1, _, e3, _⟩ := HP6.out.out
        have e4 := HP6.out.gr.size
        have e5 := HP6.out.lo
        refine hK.out _ _ (by trivial) (fun hHeld => ?_)
        clear hK K
        refine wpAnyH_take (i := 6) (v := .agg #[.int .i64 X, .int .i64 z]) rfl (by kernel_rfl) (by kernel_rfl) (by kernel_rfl) (fun _ _ _ h => h) (Or.inl ⟨by kernel_rfl, ?_⟩) (by assumption) ?_
        · (intro w hSw; (try dsimp only at hSw); go_simp)
        simp only [Act.put]
        refine wpAnyH_ready (rs := [7]) (by kernel_rfl) (by simp) ?_
        refine AllReadyH.cons rfl (fun K hK => ?_) AllReadyH.nil
        go_simp
        refine hK.out _ _ (by trivial) (fun hHeld => ?_)
        clear hK K
        refine wpAnyH_ready (rs := [8]) (by kernel_rfl) (by simp) ?_
        refine AllReadyH.cons rfl (fun K hK => ?_) AllReadyH.nil
        refine step_append_lies _ (by rfl) _ _ _ (by rfl) (T + 1) 62 i0 _ 2 16 Try.underlying27 hi0 hz0 hz1 hz2 rfl (by omega) v l.length (ccs l) (by rfl) (World.ownsRow.alloc HP6.out.out.own _)
          ⟨w5.heap.size, 0, none⟩ 1 1 (ccs2 ⟨X, z⟩) (by rfl) (by rfl) (cells_new2 w5 _ _ _) (ccs2_one _)
          (by omega) (by simp only [maxLen]; omega) (by omega) (by simp; omega) (w5.heap.size + 1) (by simp) ?_
        intro gg cap' w4 hown4 hgrow _ _
        obtain ⟨_, d1, df, dl⟩ := (HP6.out.alloc _).out.grown hgrow
        have HPn := Lib.hid ((HP6.out.alloc _).push (p := ⟨X, z⟩) hown4 hgrow)
        clear hown4 hgrow
        refine hK.out _ _ (by trivial) (fun hHeld => ?_)
        clear hK K
        refine wpAnyH_take (i := 9) (v := .pointer (some ⟨T, 1, none⟩)) rfl (by kernel_rfl) (by kernel_rfl) (by kernel_rfl) (fun _ _ _ h => h) (Or.inl ⟨by kernel_rfl, ?_⟩) (by assumption) ?_
        · (intro w hSw; (try dsimp only at hSw); go_simp)
        simp only [Act.put]
        refine wpAnyH_ready (rs := [10]) (by kernel_rfl) (by simp) ?_
        refine AllReadyH.cons rfl (fun K hK => ?_) AllReadyH.nil
        go_simp
        refine hK.out _ _ (by trivial) (fun hHeld => ?_)
        clear hK K
        refine wpAnyH_done (by kernel_rfl) ?_ _
        clear HP6 HPd e1 e3 e4 e5
        go_wp2_with fail
        go_roundw
        case rel => exact ⟨r - 1, X, _, l ++ [⟨X, z⟩], by rw [List.length_append]; simp; omega, rfl, by congr 1; omega, Lib.hid (HPn.out.more (by rw [List.length_append]; simp; omega))⟩
        case measure => simp [intOf]; omega
      · skip
        go_simp
        refine hK.out _ _ (by trivial) (fun hHeld => ?_)
        clear hK K
        refine wpAnyH_ready (rs := [1, 5]) (by kernel_rfl) (by simp) ?_
        refine AllReadyH.cons rfl (fun K hK => ?_) (AllReadyH.cons rfl (fun K hK => ?_) AllReadyH.nil)
        · skip
          go_simp
          refine hK.out _ _ (by trivial) (fun hHeld => ?_)
          clear hK K
          refine wpAnyH_ready (rs := [5]) (by kernel_rfl) (by simp) ?_
          refine AllReadyH.cons rfl (fun K hK => ?_) AllReadyH.nil
          go_simp
          go_at_call 77
          refine (S1.among_any B g a n cap (KC + 4 + 4 * l.length + 2) w3.drew.heap.size 6 6 [0, 1, 5, 5, 20, 1000] _ rfl (by omega) (by simp) (by simp) (HPd.out.alloc (.cells #[.int .i64 0, .int .i64 1, .int .i64 5, .int .i64 5, .int .i64 20, .int .i64 1000] 3)).st (fun j hj => S1.ti_new w3.drew [0, 1, 5, 5, 20, 1000] 3 j hj) (by have := HPd.out.gr.size; have := HPd.out.gw; omega)).mono ?_
          rintro e w5 ⟨⟨z, rfl⟩, hs, hg⟩
          have HP6 := Lib.hid ((HPd.out.alloc (.cells #[.int .i64 0, .int .i64 1, .int .i64 5, .int .i64 5, .int .i64 20, .int .i64 1000] 3)).call hs hg)
          clear hs hg
          obtain ⟨_, e1, _, e3, _⟩ := HP6.out.out
          have e4 := HP6.out.gr.size
          have e5 := HP6.out.lo
          refine hK.out _ _ (by trivial) (fun hHeld => ?_)
          clear hK K
          refine wpAnyH_take (i := 6) (v := .agg #[.int .i64 X, .int .i64 z]) rfl (by kernel_rfl) (by kernel_rfl) (by kernel_rfl) (fun _ _ _ h => h) (Or.inl ⟨by kernel_rfl, ?_⟩) (by assumption) ?_
          · (intro w hSw; (try dsimp only at hSw); go_simp)
          simp only [Act.put]
          refine wpAnyH_ready (rs := [7]) (by kernel_rfl) (by simp) ?_
          refine AllReadyH.cons rfl (fun K hK => ?_) AllReadyH.nil
          go_simp
          refine hK.out _ _ (by trivial) (fun hHeld => ?_)
          clear hK K
          refine wpAnyH_ready (rs := [8]) (by kernel_rfl) (by simp) ?_
          refine AllReadyH.cons rfl (fun K hK => ?_) AllReadyH.nil
          refine step_append_lies _ (by rfl) _ _ _ (by rfl) (T + 1) 62 i0 _ 2 16 Try.underlying27 hi0 hz0 hz1 hz2 rfl (by omega) v l.length (ccs l) (by rfl) (World.ownsRow.alloc HP6.out.out.own _)
            ⟨w5.heap.size, 0, none⟩ 1 1 (ccs2 ⟨X, z⟩) (by rfl) (by rfl) (cells_new2 w5 _ _ _) (ccs2_one _)
            (by omega) (by simp only [maxLen]; omega) (by omega) (by simp; omega) (w5.heap.size + 1) (by simp) ?_
          intro gg cap' w4 hown4 hgrow _ _
          obtain ⟨_, d1, df, dl⟩ := (HP6.out.alloc _).out.grown hgrow
          have HPn := Lib.hid ((HP6.out.alloc _).push (p := ⟨X, z⟩) hown4 hgrow)
          clear hown4 hgrow
          refine hK.out _ _ (by trivial) (fun hHeld => ?_)
          clear hK K
          refine wpAnyH_take (i := 9) (v := .pointer (some ⟨T, 1, none⟩)) rfl (by kernel_rfl) (by kernel_rfl) (by kernel_rfl) (fun _ _ _ h => h) (Or.inl ⟨by kernel_rfl, ?_⟩) (by assumption) ?_
          · (intro w hSw; (try dsimp only at hSw); go_simp)
          simp only [Act.put]
          refine wpAnyH_ready (rs := [10]) (by kernel_rfl) (by simp) ?_
          refine AllReadyH.cons rfl (fun K hK => ?_) AllReadyH.nil
          go_simp
          refine hK.out _ _ (by trivial) (fun hHeld => ?_)
          clear hK K
          refine wpAnyH_done (by kernel_rfl) ?_ _
          clear HP6 HPd e1 e3 e4 e5
          go_wp2_with fail
          go_roundw
          case rel => exact ⟨r - 1, X, _, l ++ [⟨X, z⟩], by rw [List.length_append]; simp; omega, rfl, by congr 1; omega, Lib.hid (HPn.out.more (by rw [List.length_append]; simp; omega))⟩
          case measure => simp [intOf]; omega
        · skip
          go_simp
          go_at_call 77
          refine (S1.among_any B g a n cap (KC + 4 + 4 * l.length + 2) w3.drew.heap.size 6 6 [0, 1, 5, 5, 20, 1000] _ rfl (by omega) (by simp) (by simp) (HPd.out.alloc (.cells #[.int .i64 0, .int .i64 1, .int .i64 5, .int .i64 5, .int .i64 20, .int .i64 1000] 3)).st (fun j hj => S1.ti_new w3.drew [0, 1, 5, 5, 20, 1000] 3 j hj) (by have := HPd.out.gr.size; have := HPd.out.gw; omega)).mono ?_
          rintro e w5 ⟨⟨z, rfl⟩, hs, hg⟩
          have HP6 := Lib.hid ((HPd.out.alloc (.cells #[.int .i64 0, .int .i64 1, .int .i64 5, .int .i64 5, .int .i64 20, .int .i64 1000] 3)).call hs hg)
          clear hs hg
          obtain ⟨_, e1, _, e3, _⟩ := HP6.out.out
          have e4 := HP6.out.gr.size
          have e5 := HP6.out.lo
          refine hK.out _ _ (by trivial) (fun hHeld => ?_)
          clear hK K
          refine wpAnyH_take (i := 6) (v := .agg #[.int .i64 X, .int .i64 z]) rfl (by kernel_rfl) (by kernel_rfl) (by kernel_rfl) (fun _ _ _ h => h) (Or.inl ⟨by kernel_rfl, ?_⟩) (by assumption) ?_
          · (intro w hSw; (try dsimp only at hSw); go_simp)
          simp only [Act.put]
          refine wpAnyH_ready (rs := [1, 7]) (by kernel_rfl) (by simp) ?_
          refine AllReadyH.cons rfl (fun K hK => ?_) (AllReadyH.cons rfl (fun K hK => ?_) AllReadyH.nil)
          · skip
            go_simp
            refine hK.out _ _ (by trivial) (fun hHeld => ?_)
            clear hK K
            refine wpAnyH_ready (rs := [7]) (by kernel_rfl) (by simp) ?_
            refine AllReadyH.cons rfl (fun K hK => ?_) AllReadyH.nil
            go_simp
            refine hK.out _ _ (by trivial) (fun hHeld => ?_)
            clear hK K
            refine wpAnyH_ready (rs := [8]) (by kernel_rfl) (by simp) ?_
            refine AllReadyH.cons rfl (fun K hK => ?_) AllReadyH.nil
            refine step_append_lies _ (by rfl) _ _ _ (by rfl) (T + 1) 62 i0 _ 2 16 Try.underlying27 hi0 hz0 hz1 hz2 rfl (by omega) v l.length (ccs l) (by rfl) (World.ownsRow.alloc HP6.out.out.own _)
              ⟨w5.heap.size, 0, none⟩ 1 1 (ccs2 ⟨X, z⟩) (by rfl) (by rfl) (cells_new2 w5 _ _ _) (ccs2_one _)
              (by omega) (by simp only [maxLen]; omega) (by omega) (by simp; omega) (w5.heap.size + 1) (by simp) ?_
            intro gg cap' w4 hown4 hgrow _ _
            obtain ⟨_, d1, df, dl⟩ := (HP6.out.alloc _).out.grown hgrow
            have HPn := Lib.hid ((HP6.out.alloc _).push (p := ⟨X, z⟩) hown4 hgrow)
            clear hown4 hgrow
            refine hK.out _ _ (by trivial) (fun hHeld => ?_)
            clear hK K
            refine wpAnyH_take (i := 9) (v := .pointer (some ⟨T, 1, none⟩)) rfl (by kernel_rfl) (by kernel_rfl) (by kernel_rfl) (fun _ _ _ h => h) (Or.inl ⟨by kernel_rfl, ?_⟩) (by assumption) ?_
            · (intro w hSw; (try dsimp only at hSw); go_simp)
            simp only [Act.put]
            refine wpAnyH_ready (rs := [10]) (by kernel_rfl) (by simp) ?_
            refine AllReadyH.cons rfl (fun K hK => ?_) AllReadyH.nil
            go_simp
            refine hK.out _ _ (by trivial) (fun hHeld => ?_)
            clear hK K
            refine wpAnyH_done (by kernel_rfl) ?_ _
            clear HP6 HPd e1 e3 e4 e5
            go_wp2_with fail
            go_roundw
            case rel => exact ⟨r - 1, X, _, l ++ [⟨X, z⟩], by rw [List.length_append]; simp; omega, rfl, by congr 1; omega, Lib.hid (HPn.out.more (by rw [List.length_append]; simp; omega))⟩
            case measure => simp [intOf]; omega
          · skip
            go_simp
            refine hK.out _ _ (by trivial) (fun hHeld => ?_)
            clear hK K
            refine wpAnyH_ready (rs := [1]) (by kernel_rfl) (by simp) ?_
            refine AllReadyH.cons rfl (fun K hK => ?_) AllReadyH.nil
            go_simp
            refine hK.out _ _ (by trivial) (fun hHeld => ?_)
            clear hK K
            refine wpAnyH_ready (rs := [8]) (by kernel_rfl) (by simp) ?_
            refine AllReadyH.cons rfl (fun K hK => ?_) AllReadyH.nil
            refine step_append_lies _ (by rfl) _ _ _ (by rfl) (T + 1) 62 i0 _ 2 16 Try.underlying27 hi0 hz0 hz1 hz2 rfl (by omega) v l.length (ccs l) (by rfl) (World.ownsRow.alloc HP6.out.out.own _)
              ⟨w5.heap.size, 0, none⟩ 1 1 (ccs2 ⟨X, z⟩) (by rfl) (by rfl) (cells_new2 w5 _ _ _) (ccs2_one _)
              (by omega) (by simp only [maxLen]; omega) (by omega) (by simp; omega) (w5.heap.size + 1) (by simp) ?_
            intro gg cap' w4 hown4 hgrow _ _
            obtain ⟨_, d1, df, dl⟩ := (HP6.out.alloc _).out.grown hgrow
            have HPn := Lib.hid ((HP6.out.alloc _).push (p := ⟨X, z⟩) hown4 hgrow)
            clear hown4 hgrow
            refine hK.out _ _ (by trivial) (fun hHeld => ?_)
            clear hK K
            refine wpAnyH_take (i := 9) (v := .pointer (some ⟨T, 1, none⟩)) rfl (by kernel_rfl) (by kernel_rfl) (by kernel_rfl) (fun _ _ _ h => h) (Or.inl ⟨by kernel_rfl, ?_⟩) (by assumption) ?_
            · (intro w hSw; (try dsimp only at hSw); go_simp)
            simp only [Act.put]
            refine wpAnyH_ready (rs := [10]) (by kernel_rfl) (by simp) ?_
            refine AllReadyH.cons rfl (fun K hK => ?_) AllReadyH.nil
            go_simp
            refine hK.out _ _ (by trivial) (fun hHeld => ?_)
            clear hK K
            refine wpAnyH_done (by kernel_rfl) ?_ _
            clear HP6 HPd e1 e3 e4 e5
            go_wp2_with fail
            go_roundw
            case rel => exact ⟨r - 1, X, _, l ++ [⟨X, z⟩], by rw [List.length_append]; simp; omega, rfl, by congr 1; omega, Lib.hid (HPn.out.more (by rw [List.length_append]; simp; omega))⟩
            case measure => simp [intOf]; omega
    · have e : r = 0 := by omega
      subst e
      have hk4 : l.length ≤ 4 := by omega
      have HPx := Lib.hid (HP.out.more (show KC + 4 + 4 * l.length ≤ KC + 20 by omega))
      have HPd := Lib.hid HPx.out.drew
      clear HP hrk hlt
      obtain ⟨k0b, k1b, kfb, klb, _⟩ := HPx.out.out
      refine Hid.out ?_
      refine Lib.hid ?_
      go_upto_region 8 with (fail)
      go_cut [] (fun wx => ∃ (q c : Nat) (l : List Bl), Hid (TI w wx B g a n cap (KC + 22) T z0 (.slice (some ⟨q, 0, none⟩) l.length c) l) ∧ 1 ≤ l.length ∧ l.length ≤ 5)
      case first =>
        refine wp_region_held_drew (S := fun w' => True) (by kernel_rfl) (by trivial) (fun hHeld => ?_)
        refine wpAnyH_take (i := 0) (v := .pointer (some ⟨T, 1, none⟩)) rfl (by kernel_rfl) (by kernel_rfl) (by kernel_rfl) (fun _ _ _ h => h) (Or.inl ⟨by kernel_rfl, ?_⟩) (by assumption) ?_
        · (intro w hSw; (try dsimp only at hSw); go_simp)
        simp only [Act.put, List.setIfInBounds_toArray]
        refine wpAnyH_take (i := 2) (v := .pointer (some ⟨g, 0, none⟩)) rfl (by kernel_rfl) (by kernel_rfl) (by kernel_rfl) (fun _ _ _ h => h) (Or.inl ⟨by kernel_rfl, ?_⟩) (by assumption) ?_
        · (intro w hSw; (try dsimp only at hSw); go_simp)
        simp only [Act.put]
        refine wpAnyH_ready (rs := [1, 3]) (by kernel_rfl) (by simp) ?_
        refine AllReadyH.cons rfl (fun K hK => ?_) (AllReadyH.cons rfl (fun K hK => ?_) AllReadyH.nil)
        · skip
          go_simp
          refine hK.out _ _ (by trivial) (fun hHeld => ?_)
          clear hK K
          refine wpAnyH_ready (rs := [3]) (by kernel_rfl) (by simp) ?_
          refine AllReadyH.cons rfl (fun K hK => ?_) AllReadyH.nil
          go_simp
          refine hK.out _ _ (by trivial) (fun hHeld => ?_)
          clear hK K
          refine wpAnyH_ready (rs := [4]) (by kernel_rfl) (by simp) ?_
          refine AllReadyH.cons rfl (fun K hK => ?_) AllReadyH.nil
          go_simp
          go_at_call 77
          refine (S1.among_any B g a n cap (KC + 20) wr.drew.heap.size 5 5 [0, 2, 5, 30, 1000] _ rfl (by omega) (by simp) (by simp) (HPd.out.alloc (.cells #[.int .i64 0, .int .i64 2, .int .i64 5, .int .i64 30, .int .i64 1000] 3)).st (fun j hj => S1.ti_new wr.drew [0, 2, 5, 30, 1000] 3 j hj) (by have := HPd.out.gr.size; have := HPd.out.gw; omega)).mono ?_
          rintro e w5 ⟨⟨z, rfl⟩, hs, hg⟩
          have HP6 := Lib.hid ((HPd.out.alloc (.cells #[.int .i64 0, .int .i64 2, .int .i64 5, .int .i64 30, .int .i64 1000] 3)).call hs hg)
          clear hs hg
          obtain ⟨_, e1, _, e3, _⟩ := HP6.out.out
          have e4 := HP6.out.gr.size
          have e5 := HP6.out.lo
          refine hK.out _ _ (by trivial) (fun hHeld => ?_)
          clear hK K
          refine wpAnyH_take (i := 5) (v := .agg #[.int .i64 100000, .int .i64 z]) rfl (by kernel_rfl) (by kernel_rfl) (by kernel_rfl) (fun _ _ _ h => h) (Or.inl ⟨by kernel_rfl, ?_⟩) (by assumption) ?_
          · (intro w hSw; (try dsimp only at hSw); go_simp)
          simp only [Act.put]
          refine wpAnyH_ready (rs := [6]) (by kernel_rfl) (by simp) ?_
          refine AllReadyH.cons rfl (fun K hK => ?_) AllReadyH.nil
          go_simp
          refine hK.out _ _ (by trivial) (fun hHeld => ?_)
          clear hK K
          refine wpAnyH_ready (rs := [7]) (by kernel_rfl) (by simp) ?_
          refine AllReadyH.cons rfl (fun K hK => ?_) AllReadyH.nil
          refine step_append_lies _ (by rfl) _ _ _ (by rfl) (T + 1) 62 i0 _ 2 16 Try.underlying27 hi0 hz0 hz1 hz2 rfl (by omega) v l.length (ccs l) (by rfl) (World.ownsRow.alloc HP6.out.out.own _)
            ⟨w5.heap.size, 0, none⟩ 1 1 (ccs2 ⟨100000, z⟩) (by rfl) (by rfl) (cells_new2 w5 _ _ _) (ccs2_one _)
            (by omega) (by simp only [maxLen]; omega) (by omega) (by simp; omega) (w5.heap.size + 1) (by simp) ?_
          intro gg cap' w4 hown4 hgrow _ _
          obtain ⟨_, d1, df, dl⟩ := (HP6.out.alloc _).out.grown hgrow
          have HPn := Lib.hid ((HP6.out.alloc _).push (p := ⟨100000, z⟩) hown4 hgrow)
          clear hown4 hgrow
          refine hK.out _ _ (by trivial) (fun hHeld => ?_)
          clear hK K
          refine wpAnyH_take (i := 8) (v := .pointer (some ⟨T, 1, none⟩)) rfl (by kernel_rfl) (by kernel_rfl) (by kernel_rfl) (fun _ _ _ h => h) (Or.inl ⟨by kernel_rfl, ?_⟩) (by assumption) ?_
          · (intro w hSw; (try dsimp only at hSw); go_simp)
          simp only [Act.put]
          refine wpAnyH_ready (rs := [9]) (by kernel_rfl) (by simp) ?_
          refine AllReadyH.cons rfl (fun K hK => ?_) AllReadyH.nil
          go_simp
          refine hK.out _ _ (by trivial) (fun hHeld => ?_)
          clear hK K
          refine wpAnyH_done (by kernel_rfl) ?_ _
          clear HP6 HPd e1 e3 e4 e5
          go_wp2_with fail
          go_meet
          refine ⟨gg, cap', l ++ [⟨100000, z⟩], Lib.hid ?_, by rw [List.length_append]; simp, by rw [List.length_append]; simp; omega⟩
          have := HPn.out.more (show KC + 20 + 2 ≤ KC + 22 by omega)
          rw [List.length_append]
          exact this
        · skip
          go_simp
          refine hK.out _ _ (by trivial) (fun hHeld => ?_)
          clear hK K
          refine wpAnyH_ready (rs := [1, 4]) (by kernel_rfl) (by simp) ?_
          refine AllReadyH.cons rfl (fun K hK => ?_) (AllReadyH.cons rfl (fun K hK => ?_) AllReadyH.nil)
          · skip
            go_simp
            refine hK.out _ _ (by trivial) (fun hHeld => ?_)
            clear hK K
            refine wpAnyH_ready (rs := [4]) (by kernel_rfl) (by simp) ?_
            refine AllReadyH.cons rfl (fun K hK => ?_) AllReadyH.nil
            go_simp
            go_at_call 77
            refine (S1.among_any B g a n cap (KC + 20) wr.drew.heap.size 5 5 [0, 2, 5, 30, 1000] _ rfl (by omega) (by simp) (by simp) (HPd.out.alloc (.cells #[.int .i64 0, .int .i64 2, .int .i64 5, .int .i64 30, .int .i64 1000] 3)).st (fun j hj => S1.ti_new wr.drew [0, 2, 5, 30, 1000] 3 j hj) (by have := HPd.out.gr.size; have := HPd.out.gw; omega)).mono ?_
            rintro e w5 ⟨⟨z, rfl⟩, hs, hg⟩
            have HP6 := Lib.hid ((HPd.out.alloc (.cells #[.int .i64 0, .int .i64 2, .int .i64 5, .int .i64 30, .int .i64 1000] 3)).call hs hg)
            clear hs hg
            obtain ⟨_, e1, _, e3, _⟩ := HP6.out.out
            have e4 := HP6.out.gr.size
            have e5 := HP6.out.lo
            refine hK.out _ _ (by trivial) (fun hHeld => ?_)
            clear hK K
            refine wpAnyH_take (i := 5) (v := .agg #[.int .i64 100000, .int .i64 z]) rfl (by kernel_rfl) (by kernel_rfl) (by kernel_rfl) (fun _ _ _ h => h) (Or.inl ⟨by kernel_rfl, ?_⟩) (by assumption) ?_
            · (intro w hSw; (try dsimp only at hSw); go_simp)
            simp only [Act.put]
            refine wpAnyH_ready (rs := [6]) (by kernel_rfl) (by simp) ?_
            refine AllReadyH.cons rfl (fun K hK => ?_) AllReadyH.nil
            go_simp
            refine hK.out _ _ (by trivial) (fun hHeld => ?_)
            clear hK K
            refine wpAnyH_ready (rs := [7]) (by kernel_rfl) (by simp) ?_
            refine AllReadyH.cons rfl (fun K hK => ?_) AllReadyH.nil
            refine step_append_lies _ (by rfl) _ _ _ (by rfl) (T + 1) 62 i0 _ 2 16 Try.underlying27 hi0 hz0 hz1 hz2 rfl (by omega) v l.length (ccs l) (by rfl) (World.ownsRow.alloc HP6.out.out.own _)
              ⟨w5.heap.size, 0, none⟩ 1 1 (ccs2 ⟨100000, z⟩) (by rfl) (by rfl) (cells_new2 w5 _ _ _) (ccs2_one _)
              (by omega) (by simp only [maxLen]; omega) (by omega) (by simp; omega) (w5.heap.size + 1) (by simp) ?_
            intro gg cap' w4 hown4 hgrow _ _
            obtain ⟨_, d1, df, dl⟩ := (HP6.out.alloc _).out.grown hgrow
            have HPn := Lib.hid ((HP6.out.alloc _).push (p := ⟨100000, z⟩) hown4 hgrow)
            clear hown4 hgrow
            refine hK.out _ _ (by trivial) (fun hHeld => ?_)
            clear hK K
            refine wpAnyH_take (i := 8) (v := .pointer (some ⟨T, 1, none⟩)) rfl (by kernel_rfl) (by kernel_rfl) (by kernel_rfl) (fun _ _ _ h => h) (Or.inl ⟨by kernel_rfl, ?_⟩) (by assumption) ?_
            · (intro w hSw; (try dsimp only at hSw); go_simp)
            simp only [Act.put]
            refine wpAnyH_ready (rs := [9]) (by kernel_rfl) (by simp) ?_
            refine AllReadyH.cons rfl (fun K hK => ?_) AllReadyH.nil
            go_simp
            refine hK.out _ _ (by trivial) (fun hHeld => ?_)
            clear hK K
            refine wpAnyH_done (by kernel_rfl) ?_ _
            clear HP6 HPd e1 e3 e4 e5
            go_wp2_with fail
            go_meet
            refine ⟨gg, cap', l ++ [⟨100000, z⟩], Lib.hid ?_, by rw [List.length_append]; simp, by rw [List.length_append]; simp; omega⟩
            have := HPn.out.more (show KC + 20 + 2 ≤ KC + 22 by omega)
            rw [List.length_append]
            exact this
          · skip
            go_simp
            go_at_call 77
            refine (S1.among_any B g a n cap (KC + 20) wr.drew.heap.size 5 5 [0, 2, 5, 30, 1000] _ rfl (by omega) (by simp) (by simp) (HPd.out.alloc (.cells #[.int .i64 0, .int .i64 2, .int .i64 5, .int .i64 30, .int .i64 1000] 3)).st (fun j hj => S1.ti_new wr.drew [0, 2, 5, 30, 1000] 3 j hj) (by have := HPd.out.gr.size; have := HPd.out.gw; omega)).mono ?_
            rintro e w5 ⟨⟨z, rfl⟩, hs, hg⟩
            have HP6 := Lib.hid ((HPd.out.alloc (.cells #[.int .i64 0, .int .i64 2, .int .i64 5, .int .i64 30, .int .i64 1000] 3)).call hs hg)
            clear hs hg
            obtain ⟨_, e1, _, e3, _⟩ := HP6.out.out
            have e4 := HP6.out.gr.size
            have e5 := HP6.out.lo
            refine hK.out _ _ (by trivial) (fun hHeld => ?_)
            clear hK K
            refine wpAnyH_take (i := 5) (v := .agg #[.int .i64 100000, .int .i64 z]) rfl (by kernel_rfl) (by kernel_rfl) (by kernel_rfl) (fun _ _ _ h => h) (Or.inl ⟨by kernel_rfl, ?_⟩) (by assumption) ?_
            · (intro w hSw; (try dsimp only at hSw); go_simp)
            simp only [Act.put]
            refine wpAnyH_ready (rs := [1, 6]) (by kernel_rfl) (by simp) ?_
            refine AllReadyH.cons rfl (fun K hK => ?_) (AllReadyH.cons rfl (fun K hK => ?_) AllReadyH.nil)
            · skip
              go_simp
              refine hK.out _ _ (by trivial) (fun hHeld => ?_)
              clear hK K
              refine wpAnyH_ready (rs := [6]) (by kernel_rfl) (by simp) ?_
              refine AllReadyH.cons rfl (fun K hK => ?_) AllReadyH.nil
              go_simp
              refine hK.out _ _ (by trivial) (fun hHeld => ?_)
              clear hK K
              refine wpAnyH_ready (rs := [7]) (by kernel_rfl) (by simp) ?_
              refine AllReadyH.cons rfl (fun K hK => ?_) AllReadyH.nil
              refine step_append_lies _ (by rfl) _ _ _ (by rfl) (T + 1) 62 i0 _ 2 16 Try.underlying27 hi0 hz0 hz1 hz2 rfl (by omega) v l.length (ccs l) (by rfl) (World.ownsRow.alloc HP6.out.out.own _)
                ⟨w5.heap.size, 0, none⟩ 1 1 (ccs2 ⟨100000, z⟩) (by rfl) (by rfl) (cells_new2 w5 _ _ _) (ccs2_one _)
                (by omega) (by simp only [maxLen]; omega) (by omega) (by simp; omega) (w5.heap.size + 1) (by simp) ?_
              intro gg cap' w4 hown4 hgrow _ _
              obtain ⟨_, d1, df, dl⟩ := (HP6.out.alloc _).out.grown hgrow
              have HPn := Lib.hid ((HP6.out.alloc _).push (p := ⟨100000, z⟩) hown4 hgrow)
              clear hown4 hgrow
              refine hK.out _ _ (by trivial) (fun hHeld => ?_)
              clear hK K
              refine wpAnyH_take (i := 8) (v := .pointer (some ⟨T, 1, none⟩)) rfl (by kernel_rfl) (by kernel_rfl) (by kernel_rfl) (fun _ _ _ h => h) (Or.inl ⟨by kernel_rfl, ?_⟩) (by assumption) ?_
              · (intro w hSw; (try dsimp only at hSw); go_simp)
              simp only [Act.put]
              refine wpAnyH_ready (rs := [9]) (by kernel_rfl) (by simp) ?_
              refine AllReadyH.cons rfl (fun K hK => ?_) AllReadyH.nil
              go_simp
              refine hK.out _ _ (by trivial) (fun hHeld => ?_)
              clear hK K
              refine wpAnyH_done (by kernel_rfl) ?_ _
              clear HP6 HPd e1 e3 e4 e5
              go_wp2_with fail
              go_meet
              refine ⟨gg, cap', l ++ [⟨100000, z⟩], Lib.hid ?_, by rw [List.length_append]; simp, by rw [List.length_append]; simp; omega⟩
              have := HPn.out.more (show KC + 20 + 2 ≤ KC + 22 by omega)
              rw [List.length_append]
              exact this
            · skip
              go_simp
              refine hK.out _ _ (by trivial) (fun hHeld => ?_)
              clear hK K
              refine wpAnyH_ready (rs := [1]) (by kernel_rfl) (by simp) ?_
              refine AllReadyH.cons rfl (fun K hK => ?_) AllReadyH.nil
              go_simp
              refine hK.out _ _ (by trivial) (fun hHeld => ?_)
              clear hK K
              refine wpAnyH_ready (rs := [7]) (by kernel_rfl) (by simp) ?_
              refine AllReadyH.cons rfl (fun K hK => ?_) AllReadyH.nil
              refine step_append_lies _ (by rfl) _ _ _ (by rfl) (T + 1) 62 i0 _ 2 16 Try.underlying27 hi0 hz0 hz1 hz2 rfl (by omega) v l.length (ccs l) (by rfl) (World.ownsRow.alloc HP6.out.out.own _)
                ⟨w5.heap.size, 0, none⟩ 1 1 (ccs2 ⟨100000, z⟩) (by rfl) (by rfl) (cells_new2 w5 _ _ _) (ccs2_one _)
                (by omega) (by simp only [maxLen]; omega) (by omega) (by simp; omega) (w5.heap.size + 1) (by simp) ?_
              intro gg cap' w4 hown4 hgrow _ _
              obtain ⟨_, d1, df, dl⟩ := (HP6.out.alloc _).out.grown hgrow
              have HPn := Lib.hid ((HP6.out.alloc _).push (p := ⟨100000, z⟩) hown4 hgrow)
              clear hown4 hgrow
              refine hK.out _ _ (by trivial) (fun hHeld => ?_)
              clear hK K
              refine wpAnyH_take (i := 8) (v := .pointer (some ⟨T, 1, none⟩)) rfl (by kernel_rfl) (by kernel_rfl) (by kernel_rfl) (fun _ _ _ h => h) (Or.inl ⟨by kernel_rfl, ?_⟩) (by assumption) ?_
              · (intro w hSw; (try dsimp only at hSw); go_simp)
              simp only [Act.put]
              refine wpAnyH_ready (rs := [9]) (by kernel_rfl) (by simp) ?_
              refine AllReadyH.cons rfl (fun K hK => ?_) AllReadyH.nil
              go_simp
              refine hK.out _ _ (by trivial) (fun hHeld => ?_)
              clear hK K
              refine wpAnyH_done (by kernel_rfl) ?_ _
              clear HP6 HPd e1 e3 e4 e5
              go_wp2_with fail
              go_meet
              refine ⟨gg, cap', l ++ [⟨100000, z⟩], Lib.hid ?_, by rw [List.length_append]; simp, by rw [List.length_append]; simp; omega⟩
              have := HPn.out.more (show KC + 20 + 2 ≤ KC + 22 by omega)
              rw [List.length_append]
              exact this
      case rest =>
        obtain ⟨q, c, l2, HP, hl1, hl5⟩ := hcut
        obtain ⟨w2, hw2⟩ : ∃ w2, w2 = wc := ⟨_, rfl⟩
        subst hw2
        clear HPx HPd k0b k1b kfb klb hk4
        have hk1 : (1 : Int) ≤ (l2.length : Int) := by omega
        have hk9 : (l2.length : Int) ≤ 1000000 := by omega
        obtain ⟨k0c, k1c, kfc, klc, _⟩ := HP.out.out
        refine Lib.hid ?_
        go_wp2_with (first | (go_at_call 78; refine (S1.pick_any B g a n cap (KC + 22) (l2.length : Int) _ (by omega) hk1 hk9 HP.out.st).mono ?_; rintro e w3 ⟨i, rfl, hi0, hi9, hs, hg⟩; refine Hid.out ?_) | fail)
        have HP3 := Lib.hid (HP.out.call hs hg)
        clear hs hg
        clear k0c k1c kfc klc
        obtain ⟨I, rfl, hI'⟩ := nat_in hi0 hi9
        have hI : I < l2.length := by omega
        have hI0 : (0 : Int) ≤ (I : Int) := by omega
        obtain ⟨bb, oo, hA, hbl, c0, c1⟩ := (TFr.at_ (HP3.out.fr rfl)).at_ hI
        simp only [Option.some.injEq, Addr.mk.injEq, and_true] at hA
        obtain ⟨rfl, rfl⟩ := hA
        rw [Nat.zero_add] at c0 c1
        generalize (cAt l2 I).up = X at *
        generalize (cAt l2 I).pr = Y at *
        clear HP hi0 hi9
        obtain ⟨k0d, k1d, kfd, kld, _⟩ := HP3.out.out
        have HPb := Lib.hid (HP3.out.alloc (.cells #[.int .i64 X, .int .i64 Y] 62))
        have HQb := Lib.hid (C2.new w3 62 (.int .i64 X) (.int .i64 Y))
        have HP3q := Lib.hid HP3.out.out.own
        have hgT : T < w3.heap.size := HP3.out.out.lt
        have hgw3 : w.heap.size < w3.heap.size := HP3.out.res.lt
        refine Lib.hid ?_
        go_wp2_with (first | (go_at_call 78; refine (S1.pick_any B g a n cap (KC + 24) 40 _ (by omega) (by omega) (by omega) HPb.out.st).mono ?_; rintro e w4 ⟨k, rfl, hk0, hk99, hs, hg⟩; refine Hid.out ?_) | fail)
        have HP4 := Lib.hid (HPb.out.call hs hg)
        have HQ4 := Lib.hid (C2.far HQb.out hg (by have := HP3.out.gr.size; omega))
        clear hs hg HPb HQb HP3 c0 c1 hbl k0d k1d kfd kld
        by_cases hkk0 : k = 0
        · subst hkk0
          refine Lib.hid ?_
          go_wp2_with (first | (go_at_call 77; refine (S1.among_any B g a n cap (KC + 26) w4.heap.size 2 2 [(-1), 100001] _ rfl (by omega) (by simp) (by simp) (HP4.out.alloc _).st (fun j hj => S1.ti_new w4 [(-1), 100001] 3 j hj) (by have := HP4.out.gr.size; omega)).mono ?_; rintro e w5 ⟨⟨z3, rfl⟩, hs, hg⟩; refine Hid.out ?_) | fail)
          have HP5 := Lib.hid ((HP4.out.alloc (.cells #[.int .i64 (-1), .int .i64 100001] 3)).call hs hg)
          have HQ5 := Lib.hid (C2.far (C2.kept HQ4.out (alloc_below w4 (.cells #[.int .i64 (-1), .int .i64 100001] 3))) hg (by have := HP4.out.gw; omega))
          clear hs hg
          obtain ⟨k0e, k1e, kfe, kle, _⟩ := HP5.out.out
          obtain ⟨xle, x0e, x1e, xfe⟩ := HQ5.out
          have HP6 := Lib.hid (HP5.out.fee z3)
          have HQ6 := Lib.hid (C2.far HQ5.out (grown_set (grown_refl _ (some T)) 0 (.int .i64 z3)) (by omega))
          clear HP4 HQ4 HP5 HQ5
          obtain ⟨k0, k1, kf, kl, _⟩ := HP6.out.out
          obtain ⟨rl, r0, r1, rf⟩ := HP6.out.res
          obtain ⟨xl, x0, x1, _⟩ := HQ6.out
          obtain ⟨bb, oo, hA, hbl, d0, d1⟩ := (TFr.at_ (HP6.out.fr rfl)).at_ hI
          simp only [Option.some.injEq, Addr.mk.injEq, and_true] at hA
          obtain ⟨rfl, rfl⟩ := hA
          rw [Nat.zero_add] at d0 d1
          have hfz := fun o => World.ownsRow.frozenAt HP6.out.out.own o
          have hqq := (World.ownsRow.lt HP6.out.out.own q rfl).1
          have hlo := HP6.out.lo
          have hn1 : T ≠ q := by omega
          have hn2 : w.heap.size ≠ q := by omega
          have hn3 : w.heap.size ≠ T := by omega
          have hn4 : q ≠ T := by omega
          have hn5 : q ≠ w.heap.size := by omega
          have hn6 : T ≠ w.heap.size := by omega
          generalize (cAt l2 I).up = p0 at *
          generalize (cAt l2 I).pr = p1 at *
          have HF := Lib.hid (HP6.out.row I hI X Y)
          have HFP := Lib.hid (fun x y => ta_post (x := x) (y := y) (c := c) (K' := KC + 30) HF.out.st HF.out.gr hgw (HF.out.fr (by simp)) (by rw [List.length_set]; omega) (by omega))
          refine Lib.hid ?_
          go_wp2_with fail
          refine bodyPost_ret (v := .agg #[.int .i64 z3, .slice (some ⟨q, 0, none⟩) l2.length c]) (by simp [results, Try.results74, go_sem, r0, r1]) rfl ?_
          have := HFP.out (.int .i64 z3) (.slice (some ⟨q, 0, none⟩) l2.length c)
          rw [List.length_set] at this
          exact this
        by_cases hkk1 : k = 1
        · subst hkk1
          refine Lib.hid ?_
          go_wp2_with (first | (go_at_call 77; refine (S1.among_any B g a n cap (KC + 26) w4.heap.size 4 4 [0, 1, 99999, 100001] _ rfl (by omega) (by simp) (by simp) (HP4.out.alloc _).st (fun j hj => S1.ti_new w4 [0, 1, 99999, 100001] 3 j hj) (by have := HP4.out.gr.size; omega)).mono ?_; rintro e w5 ⟨⟨z3, rfl⟩, hs, hg⟩; refine Hid.out ?_) | fail)
          have HP5 := Lib.hid ((HP4.out.alloc (.cells #[.int .i64 0, .int .i64 1, .int .i64 99999, .int .i64 100001] 3)).call hs hg)
          have HQ5 := Lib.hid (C2.far (C2.kept HQ4.out (alloc_below w4 (.cells #[.int .i64 0, .int .i64 1, .int .i64 99999, .int .i64 100001] 3))) hg (by have := HP4.out.gw; omega))
          clear hs hg
          obtain ⟨k0e, k1e, kfe, kle, _⟩ := HP5.out.out
          obtain ⟨xle, x0e, x1e, xfe⟩ := HQ5.out
          have hx6 : (w5.setCell ⟨w3.heap.size, 0, none⟩ (.int .i64 z3)).cell? ⟨w3.heap.size, 0, none⟩ = some (.int .i64 z3) := World.cell?_setCell_same _ _ _ x0e
          have hx7 : (w5.setCell ⟨w3.heap.size, 0, none⟩ (.int .i64 z3)).cell? ⟨w3.heap.size, 1, none⟩ = some (.int .i64 Y) := (World.cell?_setCell_other _ _ _ _ (by simp)).trans x1e
          have hgx := grown_set (grown_refl w5 (some w3.heap.size)) 0 (.int .i64 z3)
          have hqw := (World.ownsRow.lt HP3q.out q rfl).2
          have HP6 := Lib.hid (TI.far HP5.out hgx hgw3 ⟨(hgx.cell_far ⟨T, 0, none⟩ kle (by simp; omega)).trans k0e, (hgx.cell_far ⟨T, 1, none⟩ kle (by simp; omega)).trans k1e, fun o => by rw [World.frozen?_setCell]; exact kfe o, by simpa using kle, World.ownsRow.kept HP5.out.out.own hgx (.inr (by simp [Value.ownBlock]; omega))⟩)
          have HQ6 : Hid (C2 (w5.setCell ⟨w3.heap.size, 0, none⟩ (.int .i64 z3)) w3.heap.size (.int .i64 z3) (.int .i64 Y)) := Lib.hid ⟨by simpa using xle, hx6, hx7, fun o => by rw [World.frozen?_setCell]; exact xfe o⟩
          clear HP4 HQ4 HP5 HQ5 hgx
          obtain ⟨k0, k1, kf, kl, _⟩ := HP6.out.out
          obtain ⟨rl, r0, r1, rf⟩ := HP6.out.res
          obtain ⟨xl, x0, x1, _⟩ := HQ6.out
          obtain ⟨bb, oo, hA, hbl, d0, d1⟩ := (TFr.at_ (HP6.out.fr rfl)).at_ hI
          simp only [Option.some.injEq, Addr.mk.injEq, and_true] at hA
          obtain ⟨rfl, rfl⟩ := hA
          rw [Nat.zero_add] at d0 d1
          have hfz := fun o => World.ownsRow.frozenAt HP6.out.out.own o
          have hqq := (World.ownsRow.lt HP6.out.out.own q rfl).1
          have hlo := HP6.out.lo
          have hn1 : T ≠ q := by omega
          have hn2 : w.heap.size ≠ q := by omega
          have hn3 : w.heap.size ≠ T := by omega
          have hn4 : q ≠ T := by omega
          have hn5 : q ≠ w.heap.size := by omega
          have hn6 : T ≠ w.heap.size := by omega
          generalize (cAt l2 I).up = p0 at *
          generalize (cAt l2 I).pr = p1 at *
          have HF := Lib.hid (HP6.out.row I hI z3 Y)
          have HFP := Lib.hid (fun x y => ta_post (x := x) (y := y) (c := c) (K' := KC + 30) HF.out.st HF.out.gr hgw (HF.out.fr (by simp)) (by rw [List.length_set]; omega) (by omega))
          refine Lib.hid ?_
          go_wp2_with fail
          refine bodyPost_ret (v := .agg #[.int .i64 z0, .slice (some ⟨q, 0, none⟩) l2.length c]) (by simp [results, Try.results74, go_sem, r0, r1]) rfl ?_
          have := HFP.out (.int .i64 z0) (.slice (some ⟨q, 0, none⟩) l2.length c)
          rw [List.length_set] at this
          exact this
        by_cases hkk2 : k = 2
        · subst hkk2
          refine Lib.hid ?_
          go_wp2_with (first | (go_at_call 77; refine (S1.among_any B g a n cap (KC + 26) w4.heap.size 2 2 [(-1), 1001] _ rfl (by omega) (by simp) (by simp) (HP4.out.alloc _).st (fun j hj => S1.ti_new w4 [(-1), 1001] 3 j hj) (by have := HP4.out.gr.size; omega)).mono ?_; rintro e w5 ⟨⟨z3, rfl⟩, hs, hg⟩; refine Hid.out ?_) | fail)
          have HP5 := Lib.hid ((HP4.out.alloc (.cells #[.int .i64 (-1), .int .i64 1001] 3)).call hs hg)
          have HQ5 := Lib.hid (C2.far (C2.kept HQ4.out (alloc_below w4 (.cells #[.int .i64 (-1), .int .i64 1001] 3))) hg (by have := HP4.out.gw; omega))
          clear hs hg
          obtain ⟨k0e, k1e, kfe, kle, _⟩ := HP5.out.out
          obtain ⟨xle, x0e, x1e, xfe⟩ := HQ5.out
          have hx6 : (w5.setCell ⟨w3.heap.size, 1, none⟩ (.int .i64 z3)).cell? ⟨w3.heap.size, 1, none⟩ = some (.int .i64 z3) := World.cell?_setCell_same _ _ _ x1e
          have hx7 : (w5.setCell ⟨w3.heap.size, 1, none⟩ (.int .i64 z3)).cell? ⟨w3.heap.size, 0, none⟩ = some (.int .i64 X) := (World.cell?_setCell_other _ _ _ _ (by simp)).trans x0e
          have hgx := grown_set (grown_refl w5 (some w3.heap.size)) 1 (.int .i64 z3)
          have hqw := (World.ownsRow.lt HP3q.out q rfl).2
          have HP6 := Lib.hid (TI.far HP5.out hgx hgw3 ⟨(hgx.cell_far ⟨T, 0, none⟩ kle (by simp; omega)).trans k0e, (hgx.cell_far ⟨T, 1, none⟩ kle (by simp; omega)).trans k1e, fun o => by rw [World.frozen?_setCell]; exact kfe o, by simpa using kle, World.ownsRow.kept HP5.out.out.own hgx (.inr (by simp [Value.ownBlock]; omega))⟩)
          have HQ6 : Hid (C2 (w5.setCell ⟨w3.heap.size, 1, none⟩ (.int .i64 z3)) w3.heap.size (.int .i64 X) (.int .i64 z3)) := Lib.hid ⟨by simpa using xle, hx7, hx6, fun o => by rw [World.frozen?_setCell]; exact xfe o⟩
          clear HP4 HQ4 HP5 HQ5 hgx
          obtain ⟨k0, k1, kf, kl, _⟩ := HP6.out.out
          obtain ⟨rl, r0, r1, rf⟩ := HP6.out.res
          obtain ⟨xl, x0, x1, _⟩ := HQ6.out
          obtain ⟨bb, oo, hA, hbl, d0, d1⟩ := (TFr.at_ (HP6.out.fr rfl)).at_ hI
          simp only [Option.some.injEq, Addr.mk.injEq, and_true] at hA
          obtain ⟨rfl, rfl⟩ := hA
          rw [Nat.zero_add] at d0 d1
          have hfz := fun o => World.ownsRow.frozenAt HP6.out.out.own o
          have hqq := (World.ownsRow.lt HP6.out.out.own q rfl).1
          have hlo := HP6.out.lo
          have hn1 : T ≠ q := by omega
          have hn2 : w.heap.size ≠ q := by omega
          have hn3 : w.heap.size ≠ T := by omega
          have hn4 : q ≠ T := by omega
          have hn5 : q ≠ w.heap.size := by omega
          have hn6 : T ≠ w.heap.size := by omega
          generalize (cAt l2 I).up = p0 at *
          generalize (cAt l2 I).pr = p1 at *
          have HF := Lib.hid (HP6.out.row I hI X z3)
          have HFP := Lib.hid (fun x y => ta_post (x := x) (y := y) (c := c) (K' := KC + 30) HF.out.st HF.out.gr hgw (HF.out.fr (by simp)) (by rw [List.length_set]; omega) (by omega))
          refine Lib.hid ?_
          go_wp2_with fail
          refine bodyPost_ret (v := .agg #[.int .i64 z0, .slice (some ⟨q, 0, none⟩) l2.length c]) (by simp [results, Try.results74, go_sem, r0, r1]) rfl ?_
          have := HFP.out (.int .i64 z0) (.slice (some ⟨q, 0, none⟩) l2.length c)
          rw [List.length_set] at this
          exact this
        by_cases hkk3 : k = 3
        · subst hkk3
          have HL := Lib.hid (lit_cat w4 62 [⟨1, 0⟩, ⟨2, 0⟩, ⟨3, 0⟩, ⟨4, 0⟩, ⟨5, 0⟩, ⟨100000, 0⟩])
          have HP5 := Lib.hid (HP4.out.alloc (.cells #[.int .i64 1, .int .i64 0, .int .i64 2, .int .i64 0, .int .i64 3, .int .i64 0, .int .i64 4, .int .i64 0, .int .i64 5, .int .i64 0, .int .i64 100000, .int .i64 0] 62))
          have hw4 := new_lt w4 (.cells #[.int .i64 1, .int .i64 0, .int .i64 2, .int .i64 0, .int .i64 3, .int .i64 0, .int .i64 4, .int .i64 0, .int .i64 5, .int .i64 0, .int .i64 100000, .int .i64 0] 62)
          have hg4 := HP4.out.gr.size
          have hlo4 := HP4.out.lo
          refine Lib.hid ?_
          go_wp2_with (first | (go_at_call 78; refine (S1.pick_any B g a n cap (KC + 26) 2 _ (by omega) (by omega) (by omega) HP5.out.st).mono ?_; rintro e w5 ⟨p, rfl, hp0, hp9, hs, hg⟩; refine Hid.out ?_) | fail)
          have HP6 := Lib.hid (HP5.out.call hs hg)
          have hl0 := (HL.out.1.far hg (by omega))
          have hl2 := (HL.out.2.far hg (by omega))
          have hRl : w4.heap.size < w5.heap.size := Nat.lt_of_lt_of_le hw4 hg.size
          obtain ⟨k0, k1, kf, kl, _⟩ := HP6.out.out
          obtain ⟨rl, r0, r1, rf⟩ := HP6.out.res
          have hkl4 := HP4.out.out.lt
          have hn3 : w.heap.size ≠ T := by omega
          have hn6 : T ≠ w.heap.size := by omega
          have hbg6 := HP6.out.st.bg
          have hgw6 := HP6.out.gw
          clear hs hg HP5 HL
          by_cases hpp : p = 0
          · subst hpp
            have hgT2 := grown_set (grown_refl w5 (some T)) 1 (.slice (some ⟨w4.heap.size, 2, none⟩) 5 5)
            have HFP := Lib.hid (fun x y => ta_post (w := w) (wr := w5.setCell ⟨T, 1, none⟩ (.slice (some ⟨w4.heap.size, 2, none⟩) 5 5)) (B := B) (g := g) (a := a) (n := n) (cap := cap) (K := KC + 28) (K' := KC + 30) (f := z0) (l := [⟨2, 0⟩, ⟨3, 0⟩, ⟨4, 0⟩, ⟨5, 0⟩, ⟨100000, 0⟩]) (A := some ⟨w4.heap.size, 2, none⟩) (c := 5) (x := x) (y := y) (S1.st_far HP6.out.st (by omega) (by omega)) (S1.grown_setnew HP6.out.gr (by omega)) hgw (.inr ⟨w4.heap.size, 2, rfl, by omega, by simpa using hRl, hl2.far hgT2 (by omega)⟩) (by simp) (by omega))
            refine Lib.hid ?_
            go_wp2_with fail
            refine bodyPost_ret (v := .agg #[.int .i64 z0, .slice (some ⟨w4.heap.size, 2, none⟩) 5 5]) (by simp [results, Try.results74, go_sem, r0, r1]) rfl ?_
            exact HFP.out _ _
          · have hpp1 : p = 1 := by omega
            subst hpp1
            have hgT2 := grown_set (grown_refl w5 (some T)) 1 (.slice (some ⟨w4.heap.size, 0, none⟩) 6 6)
            have HFP := Lib.hid (fun x y => ta_post (w := w) (wr := w5.setCell ⟨T, 1, none⟩ (.slice (some ⟨w4.heap.size, 0, none⟩) 6 6)) (B := B) (g := g) (a := a) (n := n) (cap := cap) (K := KC + 28) (K' := KC + 30) (f := z0) (l := [⟨1, 0⟩, ⟨2, 0⟩, ⟨3, 0⟩, ⟨4, 0⟩, ⟨5, 0⟩, ⟨100000, 0⟩]) (A := some ⟨w4.heap.size, 0, none⟩) (c := 6) (x := x) (y := y) (S1.st_far HP6.out.st (by omega) (by omega)) (S1.grown_setnew HP6.out.gr (by omega)) hgw (.inr ⟨w4.heap.size, 0, rfl, by omega, by simpa using hRl, hl0.far hgT2 (by omega)⟩) (by simp) (by omega))
            refine Lib.hid ?_
            go_wp2_with fail
            refine bodyPost_ret (v := .agg #[.int .i64 z0, .slice (some ⟨w4.heap.size, 0, none⟩) 6 6]) (by simp [results, Try.results74, go_sem, r0, r1]) rfl ?_
            exact HFP.out _ _
        by_cases hkk4 : k = 4
        · subst hkk4
          have HP5 := Lib.hid (HP4.out.alloc (.cells #[] 62))
          obtain ⟨k0, k1, kf, kl, _⟩ := HP5.out.out
          obtain ⟨rl, r0, r1, rf⟩ := HP5.out.res
          have hlo4 := HP4.out.lo
          have hbg6 := HP5.out.st.bg
          have hgw6 := HP5.out.gw
          have hn3 : w.heap.size ≠ T := by omega
          have hn6 : T ≠ w.heap.size := by omega
          have HFP := Lib.hid (fun x y => ta_post (w := w) (wr := (w4.alloc (.cells #[] 62)).setCell ⟨T, 1, none⟩ (.slice (some ⟨w4.heap.size, 0, none⟩) 0 0)) (B := B) (g := g) (a := a) (n := n) (cap := cap) (K := KC + 26) (K' := KC + 30) (f := z0) (l := []) (A := some ⟨w4.heap.size, 0, none⟩) (c := 0) (x := x) (y := y) (S1.st_far HP5.out.st (by omega) (by omega)) (S1.grown_setnew HP5.out.gr (by omega)) hgw (.inl rfl) (by simp) (by omega))
          refine Lib.hid ?_
          go_wp2_with fail
          refine bodyPost_ret (v := .agg #[.int .i64 z0, .slice (some ⟨w4.heap.size, 0, none⟩) 0 0]) (by simp [results, Try.results74, go_sem, r0, r1]) rfl ?_
          exact HFP.out _ _
        obtain ⟨k0, k1, kf, kl, _⟩ := HP4.out.out
        obtain ⟨rl, r0, r1, rf⟩ := HP4.out.res
        obtain ⟨xl, x0, x1, _⟩ := HQ4.out
        obtain ⟨bb, oo, hA, hbl, d0, d1⟩ := (TFr.at_ (HP4.out.fr rfl)).at_ hI
        simp only [Option.some.injEq, Addr.mk.injEq, and_true] at hA
        obtain ⟨rfl, rfl⟩ := hA
        rw [Nat.zero_add] at d0 d1
        have hfz := fun o => World.ownsRow.frozenAt HP4.out.out.own o
        have hqq := (World.ownsRow.lt HP4.out.out.own q rfl).1
        have hlo := HP4.out.lo
        have hn1 : T ≠ q := by omega
        have hn2 : w.heap.size ≠ q := by omega
        have hn3 : w.heap.size ≠ T := by omega
        have hn4 : q ≠ T := by omega
        have hn5 : q ≠ w.heap.size := by omega
        have hn6 : T ≠ w.heap.size := by omega
        generalize (cAt l2 I).up = p0 at *
        generalize (cAt l2 I).pr = p1 at *
        have HF := Lib.hid (HP4.out.row I hI X Y)
        have HFP := Lib.hid (fun x y => ta_post (x := x) (y := y) (c := c) (K' := KC + 30) HF.out.st HF.out.gr hgw (HF.out.fr (by simp)) (by rw [List.length_set]; omega) (by omega))
        refine Lib.hid ?_
        go_wp2_with fail
        refine bodyPost_ret (v := .agg #[.int .i64 z0, .slice (some ⟨q, 0, none⟩) l2.length c]) (by simp [results, Try.results74, go_sem, r0, r1]) rfl ?_
        have := HFP.out (.int .i64 z0) (.slice (some ⟨q, 0, none⟩) l2.length c)
        rw [List.length_set] at this
        exact this
end Go.Proofs.Ytidlpoambmeiiaa.S14
