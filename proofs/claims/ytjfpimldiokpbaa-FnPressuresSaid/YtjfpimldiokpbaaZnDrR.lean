/- How the law on pressures draws an elevation, a rule and a level: contracts. Conditions: each theorem's own premises. -/
import Derived.Test.YtjfpimldiokpbaaZnDr
namespace Go.Proofs.Ytjfpimldiokpbaa.S12
open Go.RowKit Go.Sort P12

/-- A number, a rule and a level, drawn. -/
def ZxPost (w : World) (e : Ending) (w' : World) : Prop :=
  ∃ z x y z2 : Int, e = .returned (.tuple #[.int .i64 z, rv x y, .int .i64 z2]) ∧ Below w.heap.size w w'
set_option maxHeartbeats 8000000 in
set_option maxRecDepth 100000 in
theorem drd_any (a : Option Addr) (n cap : Nat) (w : World) (hc : S1.Cd w.heap.size a n w) (hn : n ≤ 65536) :
    Calls Try.prog 42 #[.slice a n cap] w (ZxPost w) := by
  have HD0 := Lib.hid (ZC.start cap hc hn)
  have hl0 := HD0.out.zw
  clear hc
  go_enter Try.func42, Try.ntmps42
  go_wp2_with (first | (go_at_call 68; refine (rule_draw (w.heap.size + 1) (w.heap.size + 1) a n cap 0 _ (by omega) HD0.out.st (by have := HD0.out.zw; omega)).mono ?_; rintro e w1 ⟨⟨x, y, rfl⟩, hs, hg⟩; refine Hid.out ?_) | fail)
  have HD1 := Lib.hid (HD0.out.call hs hg)
  clear hs hg HD0
  have HZ := Lib.hid (HD1.out.rule x y)
  have hT : w.heap.size + 2 ≤ w1.heap.size := HD1.out.zw
  have hne : w1.heap.size ≠ w.heap.size := by omega
  clear HD1
  refine Lib.hid ?_
  go_upto_region 3 with (fail)
  obtain ⟨wa, hwa⟩ : ∃ wa, w1.alloc (rb 25 x y) = wa := ⟨_, rfl⟩
  rw [hwa] at HZ ⊢
  have hzA : wa.heap.size = w1.heap.size + 1 := by rw [← hwa]; simp
  have hza : w1.heap.size < wa.heap.size := by omega
  clear hwa hzA
  obtain ⟨t9, t0, t1⟩ := HZ.out.tb
  have HZd := Lib.hid HZ.out.drew
  refine wp_region_held_drew (S := fun w' => w'.cell? ⟨w1.heap.size, 0, none⟩ = some (.int .i64 x) ∧ w'.cell? ⟨w1.heap.size, 1, none⟩ = some (.int .i64 y)) (by kernel_rfl) (by exact ⟨t0, t1⟩) (fun hHeld => ?_)
  clear HZ
  refine wpAnyH_take (i := 0) (v := .pointer (some ⟨w.heap.size + 1, 0, none⟩)) rfl (by kernel_rfl) (by kernel_rfl) (by kernel_rfl) (fun _ _ _ h => h) (Or.inl ⟨by kernel_rfl, ?_⟩) (by assumption) ?_
  · (intro w hSw; (try dsimp only at hSw); go_simp)
  simp only [Act.put, List.setIfInBounds_toArray]
  refine wpAnyH_take (i := 2) (v := .pointer (some ⟨w.heap.size + 1, 0, none⟩)) rfl (by kernel_rfl) (by kernel_rfl) (by kernel_rfl) (fun _ _ _ h => h) (Or.inl ⟨by kernel_rfl, ?_⟩) (by assumption) ?_
  · (intro w hSw; (try dsimp only at hSw); go_simp)
  simp only [Act.put]
  refine wpAnyH_take (i := 8) (v := .agg #[.int .i64 x, .int .i64 y]) rfl (by kernel_rfl) (by kernel_rfl) (by kernel_rfl) (fun _ _ _ h => h) (Or.inl ⟨by kernel_rfl, ?_⟩) (by assumption) ?_
  · (intro w hSw; (try dsimp only at hSw); go_simp)
  simp only [Act.put]
  refine wpAnyH_take (i := 9) (v := .pointer (some ⟨w.heap.size + 1, 0, none⟩)) rfl (by kernel_rfl) (by kernel_rfl) (by kernel_rfl) (fun _ _ _ h => h) (Or.inl ⟨by kernel_rfl, ?_⟩) (by assumption) ?_
  · (intro w hSw; (try dsimp only at hSw); go_simp)
  simp only [Act.put, List.getElem_toArray, List.getElem_cons_succ, List.getElem_cons_zero]
  refine wpAnyH_ready (rs := [1, 3]) (by kernel_rfl) (by simp) ?_
  refine AllReadyH.cons rfl (fun K hK => ?_) (AllReadyH.cons rfl (fun K hK => ?_) AllReadyH.nil)
  · go_simp
    have HZL := Lib.hid (HZd.out.alloc (.cells #[.int .i64 0, .int .i64 5, .int .i64 40, .int .i64 300, .int .i64 1000, .int .i64 (-1), .int .i64 1001] 3))
    have HTL := Lib.hid (show S1.Ti wa.heap.size [0, 5, 40, 300, 1000, -1, 1001] (wa.drew.alloc (.cells #[.int .i64 0, .int .i64 5, .int .i64 40, .int .i64 300, .int .i64 1000, .int .i64 (-1), .int .i64 1001] 3)) from fun j hj => S1.ti_new wa.drew [0, 5, 40, 300, 1000, -1, 1001] 3 j hj)
    obtain ⟨_, r0, r1⟩ := HZL.out.tb
    refine hK.out _ _ (by exact ⟨r0, r1⟩) (fun hHeld => ?_)
    clear hK K t0 t1 r0 r1
    refine wpAnyH_ready (rs := [3]) (by kernel_rfl) (by simp) ?_
    refine AllReadyH.cons rfl (fun K hK => ?_) AllReadyH.nil
    go_simp
    go_at_call 71
    refine (S1.pick_any (w.heap.size + 1) (w.heap.size + 1) a n cap (0 + 20) 24 _ (by omega) (by omega) (by omega) HZL.out.st).mono ?_
    rintro e w4 ⟨r, rfl, hr0, hr1, hs, hg⟩
    have HD4 := Lib.hid (HZL.out.call hs hg)
    have HT4 := Lib.hid (show S1.Ti wa.heap.size [0, 5, 40, 300, 1000, -1, 1001] w4 from S1.ti_grown HTL.out hg (by omega))
    clear hs hg HZL HTL
    obtain ⟨_, n0, n1⟩ := HD4.out.tb
    refine hK.out _ _ (by exact ⟨n0, n1⟩) (fun hHeld => ?_)
    clear hK K
    clear n0 n1
    have hq : r / 11 = 0 ∨ r / 11 = 1 ∨ r / 11 = 2 := by omega
    rcases hq with hq | hq | hq
    · have e9 : IntKind.i64.wrap (r.tdiv 11) = 0 := by rw [Int.tdiv_eq_ediv_of_nonneg hr0, hq]; exact IntWalk.i64_in _ (by omega)
      have e8 : IntKind.i64.wrap 5 = 5 := IntWalk.i64_in _ (by omega)
      refine wpAnyH_take (i := 4) (v := .int .i64 0) rfl (by kernel_rfl) (by kernel_rfl) (by kernel_rfl) (fun _ _ _ h => h) (Or.inl ⟨by kernel_rfl, ?_⟩) (by assumption) ?_
      · (intro w hSw; (try dsimp only at hSw); go_simp)
      simp only [Act.put]
      refine wpAnyH_take (i := 5) (v := .int .i64 5) rfl (by kernel_rfl) (by kernel_rfl) (by kernel_rfl) (fun _ _ _ h => h) (Or.inl ⟨by kernel_rfl, ?_⟩) (by assumption) ?_
      · (intro w hSw; (try dsimp only at hSw); go_simp)
      simp only [Act.put]
      clear e9 e8 hq
      refine wpAnyH_take (i := 6) (v := .slice (some ⟨wa.heap.size, 0, none⟩) 5 7) rfl (by kernel_rfl) (by kernel_rfl) (by kernel_rfl) (fun _ _ _ h => h) (Or.inl ⟨by kernel_rfl, ?_⟩) (by assumption) ?_
      · (intro w hSw; (try dsimp only at hSw); go_simp)
      simp only [Act.put]
      refine wpAnyH_ready (rs := [7]) (by kernel_rfl) (by simp) ?_
      refine AllReadyH.cons rfl (fun K hK => ?_) AllReadyH.nil
      go_simp
      go_at_call 70
      refine (S1.among_any (w.heap.size + 1) (w.heap.size + 1) a n cap (0 + 20 + 2) wa.heap.size 5 7 [0, 5, 40, 300, 1000] _ rfl (by omega) (by simp) (by simp) HD4.out.st (S1.ti_take (N := 5) HT4.out (by simp)) (by omega)).mono ?_
      rintro e w6 ⟨⟨z, rfl⟩, hs, hg⟩
      have HD6 := Lib.hid (HD4.out.call hs hg)
      clear hs hg HD4 HT4
      obtain ⟨_, n0, n1⟩ := HD6.out.tb
      refine hK.out _ _ (by exact ⟨n0, n1⟩) (fun hHeld => ?_)
      clear hK K
      refine wpAnyH_ready (rs := [10]) (by kernel_rfl) (by simp) ?_
      refine AllReadyH.cons rfl (fun K hK => ?_) AllReadyH.nil
      go_simp
      go_at_call 69
      refine (level_draw (w.heap.size + 1) (w.heap.size + 1) a n cap ((0 + 20 + 2) + 2) _ (by omega) HD6.out.st).mono ?_
      rintro e w7 ⟨⟨z2, rfl⟩, hs, hg⟩
      have HD7 := Lib.hid (HD6.out.call hs hg)
      clear hs hg HD6 n0 n1
      obtain ⟨_, n0, n1⟩ := HD7.out.tb
      obtain ⟨_, m0, m1⟩ := HD7.out.rb
      obtain ⟨k0, k1⟩ := HD7.out.rf.out
      refine hK.out _ _ (by exact ⟨n0, n1⟩) (fun hHeld => ?_)
      clear hK K
      refine wpAnyH_ready (rs := [11]) (by kernel_rfl) (by simp) ?_
      refine AllReadyH.cons rfl (fun K hK => ?_) AllReadyH.nil
      go_simp
      refine hK.out _ _ (by exact ⟨n0, n1⟩) (fun hHeld => ?_)
      clear hK K
      refine wpAnyH_ready (rs := [12]) (by kernel_rfl) (by simp) ?_
      refine AllReadyH.cons rfl (fun K hK => ?_) AllReadyH.nil
      go_simp
      obtain ⟨_, v0, v1⟩ := (HD7.out.tb.set_far 0 (.int .i64 x) hne).set_far 1 (.int .i64 y) hne
      refine hK.out _ _ (by exact ⟨v0, v1⟩) (fun hHeld => ?_)
      clear hK K
      refine wpAnyH_ready (rs := [13]) (by kernel_rfl) (by simp) ?_
      refine AllReadyH.cons rfl (fun K hK => ?_) AllReadyH.nil
      go_simp
      refine hK.out _ _ (by exact ⟨v0, v1⟩) (fun hHeld => ?_)
      clear hK K
      refine wpAnyH_done (by kernel_rfl) ?_ _
      clear hHeld v0 v1 n0 n1
      go_wp2_with fail
      refine bodyPost_ret (v := .tuple #[.int .i64 z, rv x y, .int .i64 z2]) (by simp [results, Try.results42, go_sem, m0, m1]) rfl ⟨z, x, y, z2, rfl, put_below HD7.out.bw (Nat.le_refl _) _ _⟩
    · have e9 : IntKind.i64.wrap (r.tdiv 11) = 1 := by rw [Int.tdiv_eq_ediv_of_nonneg hr0, hq]; exact IntWalk.i64_in _ (by omega)
      have e8 : IntKind.i64.wrap 6 = 6 := IntWalk.i64_in _ (by omega)
      refine wpAnyH_take (i := 4) (v := .int .i64 1) rfl (by kernel_rfl) (by kernel_rfl) (by kernel_rfl) (fun _ _ _ h => h) (Or.inl ⟨by kernel_rfl, ?_⟩) (by assumption) ?_
      · (intro w hSw; (try dsimp only at hSw); go_simp)
      simp only [Act.put]
      refine wpAnyH_take (i := 5) (v := .int .i64 6) rfl (by kernel_rfl) (by kernel_rfl) (by kernel_rfl) (fun _ _ _ h => h) (Or.inl ⟨by kernel_rfl, ?_⟩) (by assumption) ?_
      · (intro w hSw; (try dsimp only at hSw); go_simp)
      simp only [Act.put]
      clear e9 e8 hq
      refine wpAnyH_take (i := 6) (v := .slice (some ⟨wa.heap.size, 0, none⟩) 6 7) rfl (by kernel_rfl) (by kernel_rfl) (by kernel_rfl) (fun _ _ _ h => h) (Or.inl ⟨by kernel_rfl, ?_⟩) (by assumption) ?_
      · (intro w hSw; (try dsimp only at hSw); go_simp)
      simp only [Act.put]
      refine wpAnyH_ready (rs := [7]) (by kernel_rfl) (by simp) ?_
      refine AllReadyH.cons rfl (fun K hK => ?_) AllReadyH.nil
      go_simp
      go_at_call 70
      refine (S1.among_any (w.heap.size + 1) (w.heap.size + 1) a n cap (0 + 20 + 2) wa.heap.size 6 7 [0, 5, 40, 300, 1000, -1] _ rfl (by omega) (by simp) (by simp) HD4.out.st (S1.ti_take (N := 6) HT4.out (by simp)) (by omega)).mono ?_
      rintro e w6 ⟨⟨z, rfl⟩, hs, hg⟩
      have HD6 := Lib.hid (HD4.out.call hs hg)
      clear hs hg HD4 HT4
      obtain ⟨_, n0, n1⟩ := HD6.out.tb
      refine hK.out _ _ (by exact ⟨n0, n1⟩) (fun hHeld => ?_)
      clear hK K
      refine wpAnyH_ready (rs := [10]) (by kernel_rfl) (by simp) ?_
      refine AllReadyH.cons rfl (fun K hK => ?_) AllReadyH.nil
      go_simp
      go_at_call 69
      refine (level_draw (w.heap.size + 1) (w.heap.size + 1) a n cap ((0 + 20 + 2) + 2) _ (by omega) HD6.out.st).mono ?_
      rintro e w7 ⟨⟨z2, rfl⟩, hs, hg⟩
      have HD7 := Lib.hid (HD6.out.call hs hg)
      clear hs hg HD6 n0 n1
      obtain ⟨_, n0, n1⟩ := HD7.out.tb
      obtain ⟨_, m0, m1⟩ := HD7.out.rb
      obtain ⟨k0, k1⟩ := HD7.out.rf.out
      refine hK.out _ _ (by exact ⟨n0, n1⟩) (fun hHeld => ?_)
      clear hK K
      refine wpAnyH_ready (rs := [11]) (by kernel_rfl) (by simp) ?_
      refine AllReadyH.cons rfl (fun K hK => ?_) AllReadyH.nil
      go_simp
      refine hK.out _ _ (by exact ⟨n0, n1⟩) (fun hHeld => ?_)
      clear hK K
      refine wpAnyH_ready (rs := [12]) (by kernel_rfl) (by simp) ?_
      refine AllReadyH.cons rfl (fun K hK => ?_) AllReadyH.nil
      go_simp
      obtain ⟨_, v0, v1⟩ := (HD7.out.tb.set_far 0 (.int .i64 x) hne).set_far 1 (.int .i64 y) hne
      refine hK.out _ _ (by exact ⟨v0, v1⟩) (fun hHeld => ?_)
      clear hK K
      refine wpAnyH_ready (rs := [13]) (by kernel_rfl) (by simp) ?_
      refine AllReadyH.cons rfl (fun K hK => ?_) AllReadyH.nil
      go_simp
      refine hK.out _ _ (by exact ⟨v0, v1⟩) (fun hHeld => ?_)
      clear hK K
      refine wpAnyH_done (by kernel_rfl) ?_ _
      clear hHeld v0 v1 n0 n1
      go_wp2_with fail
      refine bodyPost_ret (v := .tuple #[.int .i64 z, rv x y, .int .i64 z2]) (by simp [results, Try.results42, go_sem, m0, m1]) rfl ⟨z, x, y, z2, rfl, put_below HD7.out.bw (Nat.le_refl _) _ _⟩
    · have e9 : IntKind.i64.wrap (r.tdiv 11) = 2 := by rw [Int.tdiv_eq_ediv_of_nonneg hr0, hq]; exact IntWalk.i64_in _ (by omega)
      have e8 : IntKind.i64.wrap 7 = 7 := IntWalk.i64_in _ (by omega)
      refine wpAnyH_take (i := 4) (v := .int .i64 2) rfl (by kernel_rfl) (by kernel_rfl) (by kernel_rfl) (fun _ _ _ h => h) (Or.inl ⟨by kernel_rfl, ?_⟩) (by assumption) ?_
      · (intro w hSw; (try dsimp only at hSw); go_simp)
      simp only [Act.put]
      refine wpAnyH_take (i := 5) (v := .int .i64 7) rfl (by kernel_rfl) (by kernel_rfl) (by kernel_rfl) (fun _ _ _ h => h) (Or.inl ⟨by kernel_rfl, ?_⟩) (by assumption) ?_
      · (intro w hSw; (try dsimp only at hSw); go_simp)
      simp only [Act.put]
      clear e9 e8 hq
      refine wpAnyH_take (i := 6) (v := .slice (some ⟨wa.heap.size, 0, none⟩) 7 7) rfl (by kernel_rfl) (by kernel_rfl) (by kernel_rfl) (fun _ _ _ h => h) (Or.inl ⟨by kernel_rfl, ?_⟩) (by assumption) ?_
      · (intro w hSw; (try dsimp only at hSw); go_simp)
      simp only [Act.put]
      refine wpAnyH_ready (rs := [7]) (by kernel_rfl) (by simp) ?_
      refine AllReadyH.cons rfl (fun K hK => ?_) AllReadyH.nil
      go_simp
      go_at_call 70
      refine (S1.among_any (w.heap.size + 1) (w.heap.size + 1) a n cap (0 + 20 + 2) wa.heap.size 7 7 [0, 5, 40, 300, 1000, -1, 1001] _ rfl (by omega) (by simp) (by simp) HD4.out.st (S1.ti_take (N := 7) HT4.out (by simp)) (by omega)).mono ?_
      rintro e w6 ⟨⟨z, rfl⟩, hs, hg⟩
      have HD6 := Lib.hid (HD4.out.call hs hg)
      clear hs hg HD4 HT4
      obtain ⟨_, n0, n1⟩ := HD6.out.tb
      refine hK.out _ _ (by exact ⟨n0, n1⟩) (fun hHeld => ?_)
      clear hK K
      refine wpAnyH_ready (rs := [10]) (by kernel_rfl) (by simp) ?_
      refine AllReadyH.cons rfl (fun K hK => ?_) AllReadyH.nil
      go_simp
      go_at_call 69
      refine (level_draw (w.heap.size + 1) (w.heap.size + 1) a n cap ((0 + 20 + 2) + 2) _ (by omega) HD6.out.st).mono ?_
      rintro e w7 ⟨⟨z2, rfl⟩, hs, hg⟩
      have HD7 := Lib.hid (HD6.out.call hs hg)
      clear hs hg HD6 n0 n1
      obtain ⟨_, n0, n1⟩ := HD7.out.tb
      obtain ⟨_, m0, m1⟩ := HD7.out.rb
      obtain ⟨k0, k1⟩ := HD7.out.rf.out
      refine hK.out _ _ (by exact ⟨n0, n1⟩) (fun hHeld => ?_)
      clear hK K
      refine wpAnyH_ready (rs := [11]) (by kernel_rfl) (by simp) ?_
      refine AllReadyH.cons rfl (fun K hK => ?_) AllReadyH.nil
      go_simp
      refine hK.out _ _ (by exact ⟨n0, n1⟩) (fun hHeld => ?_)
      clear hK K
      refine wpAnyH_ready (rs := [12]) (by kernel_rfl) (by simp) ?_
      refine AllReadyH.cons rfl (fun K hK => ?_) AllReadyH.nil
      go_simp
      obtain ⟨_, v0, v1⟩ := (HD7.out.tb.set_far 0 (.int .i64 x) hne).set_far 1 (.int .i64 y) hne
      refine hK.out _ _ (by exact ⟨v0, v1⟩) (fun hHeld => ?_)
      clear hK K
      refine wpAnyH_ready (rs := [13]) (by kernel_rfl) (by simp) ?_
      refine AllReadyH.cons rfl (fun K hK => ?_) AllReadyH.nil
      go_simp
      refine hK.out _ _ (by exact ⟨v0, v1⟩) (fun hHeld => ?_)
      clear hK K
      refine wpAnyH_done (by kernel_rfl) ?_ _
      clear hHeld v0 v1 n0 n1
      go_wp2_with fail
      refine bodyPost_ret (v := .tuple #[.int .i64 z, rv x y, .int .i64 z2]) (by simp [results, Try.results42, go_sem, m0, m1]) rfl ⟨z, x, y, z2, rfl, put_below HD7.out.bw (Nat.le_refl _) _ _⟩
  · go_simp
    go_at_call 71
    refine (S1.pick_any (w.heap.size + 1) (w.heap.size + 1) a n cap (0 + 20) 24 _ (by omega) (by omega) (by omega) HZd.out.st).mono ?_
    rintro e w3 ⟨r, rfl, hr0, hr1, hs, hg⟩
    have HD3 := Lib.hid (HZd.out.call hs hg)
    have hgz3 := hg.size
    clear hs hg HZd
    obtain ⟨_, n0, n1⟩ := HD3.out.tb
    have hg3 := st_lt HD3.out.st
    refine hK.out _ _ (by exact ⟨n0, n1⟩) (fun hHeld => ?_)
    clear hK K
    clear t0 t1
    have hq : r / 11 = 0 ∨ r / 11 = 1 ∨ r / 11 = 2 := by omega
    rcases hq with hq | hq | hq
    · have e9 : IntKind.i64.wrap (r.tdiv 11) = 0 := by rw [Int.tdiv_eq_ediv_of_nonneg hr0, hq]; exact IntWalk.i64_in _ (by omega)
      have e8 : IntKind.i64.wrap 5 = 5 := IntWalk.i64_in _ (by omega)
      refine wpAnyH_take (i := 4) (v := .int .i64 0) rfl (by kernel_rfl) (by kernel_rfl) (by kernel_rfl) (fun _ _ _ h => h) (Or.inl ⟨by kernel_rfl, ?_⟩) (by assumption) ?_
      · (intro w hSw; (try dsimp only at hSw); go_simp)
      simp only [Act.put]
      refine wpAnyH_take (i := 5) (v := .int .i64 5) rfl (by kernel_rfl) (by kernel_rfl) (by kernel_rfl) (fun _ _ _ h => h) (Or.inl ⟨by kernel_rfl, ?_⟩) (by assumption) ?_
      · (intro w hSw; (try dsimp only at hSw); go_simp)
      simp only [Act.put]
      clear e9 e8 hq
      refine wpAnyH_ready (rs := [1]) (by kernel_rfl) (by simp) ?_
      refine AllReadyH.cons rfl (fun K hK => ?_) AllReadyH.nil
      go_simp
      have HD4 := Lib.hid (HD3.out.alloc (.cells #[.int .i64 0, .int .i64 5, .int .i64 40, .int .i64 300, .int .i64 1000, .int .i64 (-1), .int .i64 1001] 3))
      have HT4 := Lib.hid (show S1.Ti w3.heap.size [0, 5, 40, 300, 1000, -1, 1001] (w3.alloc (.cells #[.int .i64 0, .int .i64 5, .int .i64 40, .int .i64 300, .int .i64 1000, .int .i64 (-1), .int .i64 1001] 3)) from fun j hj => S1.ti_new w3 [0, 5, 40, 300, 1000, -1, 1001] 3 j hj)
      obtain ⟨_, r0, r1⟩ := HD4.out.tb
      refine hK.out _ _ (by exact ⟨r0, r1⟩) (fun hHeld => ?_)
      clear hK K
      clear r0 r1 n0 n1 HD3
      refine wpAnyH_take (i := 6) (v := .slice (some ⟨w3.heap.size, 0, none⟩) 5 7) rfl (by kernel_rfl) (by kernel_rfl) (by kernel_rfl) (fun _ _ _ h => h) (Or.inl ⟨by kernel_rfl, ?_⟩) (by assumption) ?_
      · (intro w hSw; (try dsimp only at hSw); go_simp)
      simp only [Act.put]
      refine wpAnyH_ready (rs := [7]) (by kernel_rfl) (by simp) ?_
      refine AllReadyH.cons rfl (fun K hK => ?_) AllReadyH.nil
      go_simp
      go_at_call 70
      refine (S1.among_any (w.heap.size + 1) (w.heap.size + 1) a n cap (0 + 20 + 2) w3.heap.size 5 7 [0, 5, 40, 300, 1000] _ rfl (by omega) (by simp) (by simp) HD4.out.st (S1.ti_take (N := 5) HT4.out (by simp)) (by omega)).mono ?_
      rintro e w6 ⟨⟨z, rfl⟩, hs, hg⟩
      have HD6 := Lib.hid (HD4.out.call hs hg)
      clear hs hg HD4 HT4
      obtain ⟨_, n0, n1⟩ := HD6.out.tb
      refine hK.out _ _ (by exact ⟨n0, n1⟩) (fun hHeld => ?_)
      clear hK K
      refine wpAnyH_ready (rs := [10]) (by kernel_rfl) (by simp) ?_
      refine AllReadyH.cons rfl (fun K hK => ?_) AllReadyH.nil
      go_simp
      go_at_call 69
      refine (level_draw (w.heap.size + 1) (w.heap.size + 1) a n cap ((0 + 20 + 2) + 2) _ (by omega) HD6.out.st).mono ?_
      rintro e w7 ⟨⟨z2, rfl⟩, hs, hg⟩
      have HD7 := Lib.hid (HD6.out.call hs hg)
      clear hs hg HD6 n0 n1
      obtain ⟨_, n0, n1⟩ := HD7.out.tb
      obtain ⟨_, m0, m1⟩ := HD7.out.rb
      obtain ⟨k0, k1⟩ := HD7.out.rf.out
      refine hK.out _ _ (by exact ⟨n0, n1⟩) (fun hHeld => ?_)
      clear hK K
      refine wpAnyH_ready (rs := [11]) (by kernel_rfl) (by simp) ?_
      refine AllReadyH.cons rfl (fun K hK => ?_) AllReadyH.nil
      go_simp
      refine hK.out _ _ (by exact ⟨n0, n1⟩) (fun hHeld => ?_)
      clear hK K
      refine wpAnyH_ready (rs := [12]) (by kernel_rfl) (by simp) ?_
      refine AllReadyH.cons rfl (fun K hK => ?_) AllReadyH.nil
      go_simp
      obtain ⟨_, v0, v1⟩ := (HD7.out.tb.set_far 0 (.int .i64 x) hne).set_far 1 (.int .i64 y) hne
      refine hK.out _ _ (by exact ⟨v0, v1⟩) (fun hHeld => ?_)
      clear hK K
      refine wpAnyH_ready (rs := [13]) (by kernel_rfl) (by simp) ?_
      refine AllReadyH.cons rfl (fun K hK => ?_) AllReadyH.nil
      go_simp
      refine hK.out _ _ (by exact ⟨v0, v1⟩) (fun hHeld => ?_)
      clear hK K
      refine wpAnyH_done (by kernel_rfl) ?_ _
      clear hHeld v0 v1 n0 n1
      go_wp2_with fail
      refine bodyPost_ret (v := .tuple #[.int .i64 z, rv x y, .int .i64 z2]) (by simp [results, Try.results42, go_sem, m0, m1]) rfl ⟨z, x, y, z2, rfl, put_below HD7.out.bw (Nat.le_refl _) _ _⟩
    · have e9 : IntKind.i64.wrap (r.tdiv 11) = 1 := by rw [Int.tdiv_eq_ediv_of_nonneg hr0, hq]; exact IntWalk.i64_in _ (by omega)
      have e8 : IntKind.i64.wrap 6 = 6 := IntWalk.i64_in _ (by omega)
      refine wpAnyH_take (i := 4) (v := .int .i64 1) rfl (by kernel_rfl) (by kernel_rfl) (by kernel_rfl) (fun _ _ _ h => h) (Or.inl ⟨by kernel_rfl, ?_⟩) (by assumption) ?_
      · (intro w hSw; (try dsimp only at hSw); go_simp)
      simp only [Act.put]
      refine wpAnyH_take (i := 5) (v := .int .i64 6) rfl (by kernel_rfl) (by kernel_rfl) (by kernel_rfl) (fun _ _ _ h => h) (Or.inl ⟨by kernel_rfl, ?_⟩) (by assumption) ?_
      · (intro w hSw; (try dsimp only at hSw); go_simp)
      simp only [Act.put]
      clear e9 e8 hq
      refine wpAnyH_ready (rs := [1]) (by kernel_rfl) (by simp) ?_
      refine AllReadyH.cons rfl (fun K hK => ?_) AllReadyH.nil
      go_simp
      have HD4 := Lib.hid (HD3.out.alloc (.cells #[.int .i64 0, .int .i64 5, .int .i64 40, .int .i64 300, .int .i64 1000, .int .i64 (-1), .int .i64 1001] 3))
      have HT4 := Lib.hid (show S1.Ti w3.heap.size [0, 5, 40, 300, 1000, -1, 1001] (w3.alloc (.cells #[.int .i64 0, .int .i64 5, .int .i64 40, .int .i64 300, .int .i64 1000, .int .i64 (-1), .int .i64 1001] 3)) from fun j hj => S1.ti_new w3 [0, 5, 40, 300, 1000, -1, 1001] 3 j hj)
      obtain ⟨_, r0, r1⟩ := HD4.out.tb
      refine hK.out _ _ (by exact ⟨r0, r1⟩) (fun hHeld => ?_)
      clear hK K
      clear r0 r1 n0 n1 HD3
      refine wpAnyH_take (i := 6) (v := .slice (some ⟨w3.heap.size, 0, none⟩) 6 7) rfl (by kernel_rfl) (by kernel_rfl) (by kernel_rfl) (fun _ _ _ h => h) (Or.inl ⟨by kernel_rfl, ?_⟩) (by assumption) ?_
      · (intro w hSw; (try dsimp only at hSw); go_simp)
      simp only [Act.put]
      refine wpAnyH_ready (rs := [7]) (by kernel_rfl) (by simp) ?_
      refine AllReadyH.cons rfl (fun K hK => ?_) AllReadyH.nil
      go_simp
      go_at_call 70
      refine (S1.among_any (w.heap.size + 1) (w.heap.size + 1) a n cap (0 + 20 + 2) w3.heap.size 6 7 [0, 5, 40, 300, 1000, -1] _ rfl (by omega) (by simp) (by simp) HD4.out.st (S1.ti_take (N := 6) HT4.out (by simp)) (by omega)).mono ?_
      rintro e w6 ⟨⟨z, rfl⟩, hs, hg⟩
      have HD6 := Lib.hid (HD4.out.call hs hg)
      clear hs hg HD4 HT4
      obtain ⟨_, n0, n1⟩ := HD6.out.tb
      refine hK.out _ _ (by exact ⟨n0, n1⟩) (fun hHeld => ?_)
      clear hK K
      refine wpAnyH_ready (rs := [10]) (by kernel_rfl) (by simp) ?_
      refine AllReadyH.cons rfl (fun K hK => ?_) AllReadyH.nil
      go_simp
      go_at_call 69
      refine (level_draw (w.heap.size + 1) (w.heap.size + 1) a n cap ((0 + 20 + 2) + 2) _ (by omega) HD6.out.st).mono ?_
      rintro e w7 ⟨⟨z2, rfl⟩, hs, hg⟩
      have HD7 := Lib.hid (HD6.out.call hs hg)
      clear hs hg HD6 n0 n1
      obtain ⟨_, n0, n1⟩ := HD7.out.tb
      obtain ⟨_, m0, m1⟩ := HD7.out.rb
      obtain ⟨k0, k1⟩ := HD7.out.rf.out
      refine hK.out _ _ (by exact ⟨n0, n1⟩) (fun hHeld => ?_)
      clear hK K
      refine wpAnyH_ready (rs := [11]) (by kernel_rfl) (by simp) ?_
      refine AllReadyH.cons rfl (fun K hK => ?_) AllReadyH.nil
      go_simp
      refine hK.out _ _ (by exact ⟨n0, n1⟩) (fun hHeld => ?_)
      clear hK K
      refine wpAnyH_ready (rs := [12]) (by kernel_rfl) (by simp) ?_
      refine AllReadyH.cons rfl (fun K hK => ?_) AllReadyH.nil
      go_simp
      obtain ⟨_, v0, v1⟩ := (HD7.out.tb.set_far 0 (.int .i64 x) hne).set_far 1 (.int .i64 y) hne
      refine hK.out _ _ (by exact ⟨v0, v1⟩) (fun hHeld => ?_)
      clear hK K
      refine wpAnyH_ready (rs := [13]) (by kernel_rfl) (by simp) ?_
      refine AllReadyH.cons rfl (fun K hK => ?_) AllReadyH.nil
      go_simp
      refine hK.out _ _ (by exact ⟨v0, v1⟩) (fun hHeld => ?_)
      clear hK K
      refine wpAnyH_done (by kernel_rfl) ?_ _
      clear hHeld v0 v1 n0 n1
      go_wp2_with fail
      refine bodyPost_ret (v := .tuple #[.int .i64 z, rv x y, .int .i64 z2]) (by simp [results, Try.results42, go_sem, m0, m1]) rfl ⟨z, x, y, z2, rfl, put_below HD7.out.bw (Nat.le_refl _) _ _⟩
    · have e9 : IntKind.i64.wrap (r.tdiv 11) = 2 := by rw [Int.tdiv_eq_ediv_of_nonneg hr0, hq]; exact IntWalk.i64_in _ (by omega)
      have e8 : IntKind.i64.wrap 7 = 7 := IntWalk.i64_in _ (by omega)
      refine wpAnyH_take (i := 4) (v := .int .i64 2) rfl (by kernel_rfl) (by kernel_rfl) (by kernel_rfl) (fun _ _ _ h => h) (Or.inl ⟨by kernel_rfl, ?_⟩) (by assumption) ?_
      · (intro w hSw; (try dsimp only at hSw); go_simp)
      simp only [Act.put]
      refine wpAnyH_take (i := 5) (v := .int .i64 7) rfl (by kernel_rfl) (by kernel_rfl) (by kernel_rfl) (fun _ _ _ h => h) (Or.inl ⟨by kernel_rfl, ?_⟩) (by assumption) ?_
      · (intro w hSw; (try dsimp only at hSw); go_simp)
      simp only [Act.put]
      clear e9 e8 hq
      refine wpAnyH_ready (rs := [1]) (by kernel_rfl) (by simp) ?_
      refine AllReadyH.cons rfl (fun K hK => ?_) AllReadyH.nil
      go_simp
      have HD4 := Lib.hid (HD3.out.alloc (.cells #[.int .i64 0, .int .i64 5, .int .i64 40, .int .i64 300, .int .i64 1000, .int .i64 (-1), .int .i64 1001] 3))
      have HT4 := Lib.hid (show S1.Ti w3.heap.size [0, 5, 40, 300, 1000, -1, 1001] (w3.alloc (.cells #[.int .i64 0, .int .i64 5, .int .i64 40, .int .i64 300, .int .i64 1000, .int .i64 (-1), .int .i64 1001] 3)) from fun j hj => S1.ti_new w3 [0, 5, 40, 300, 1000, -1, 1001] 3 j hj)
      obtain ⟨_, r0, r1⟩ := HD4.out.tb
      refine hK.out _ _ (by exact ⟨r0, r1⟩) (fun hHeld => ?_)
      clear hK K
      clear r0 r1 n0 n1 HD3
      refine wpAnyH_take (i := 6) (v := .slice (some ⟨w3.heap.size, 0, none⟩) 7 7) rfl (by kernel_rfl) (by kernel_rfl) (by kernel_rfl) (fun _ _ _ h => h) (Or.inl ⟨by kernel_rfl, ?_⟩) (by assumption) ?_
      · (intro w hSw; (try dsimp only at hSw); go_simp)
      simp only [Act.put]
      refine wpAnyH_ready (rs := [7]) (by kernel_rfl) (by simp) ?_
      refine AllReadyH.cons rfl (fun K hK => ?_) AllReadyH.nil
      go_simp
      go_at_call 70
      refine (S1.among_any (w.heap.size + 1) (w.heap.size + 1) a n cap (0 + 20 + 2) w3.heap.size 7 7 [0, 5, 40, 300, 1000, -1, 1001] _ rfl (by omega) (by simp) (by simp) HD4.out.st (S1.ti_take (N := 7) HT4.out (by simp)) (by omega)).mono ?_
      rintro e w6 ⟨⟨z, rfl⟩, hs, hg⟩
      have HD6 := Lib.hid (HD4.out.call hs hg)
      clear hs hg HD4 HT4
      obtain ⟨_, n0, n1⟩ := HD6.out.tb
      refine hK.out _ _ (by exact ⟨n0, n1⟩) (fun hHeld => ?_)
      clear hK K
      refine wpAnyH_ready (rs := [10]) (by kernel_rfl) (by simp) ?_
      refine AllReadyH.cons rfl (fun K hK => ?_) AllReadyH.nil
      go_simp
      go_at_call 69
      refine (level_draw (w.heap.size + 1) (w.heap.size + 1) a n cap ((0 + 20 + 2) + 2) _ (by omega) HD6.out.st).mono ?_
      rintro e w7 ⟨⟨z2, rfl⟩, hs, hg⟩
      have HD7 := Lib.hid (HD6.out.call hs hg)
      clear hs hg HD6 n0 n1
      obtain ⟨_, n0, n1⟩ := HD7.out.tb
      obtain ⟨_, m0, m1⟩ := HD7.out.rb
      obtain ⟨k0, k1⟩ := HD7.out.rf.out
      refine hK.out _ _ (by exact ⟨n0, n1⟩) (fun hHeld => ?_)
      clear hK K
      refine wpAnyH_ready (rs := [11]) (by kernel_rfl) (by simp) ?_
      refine AllReadyH.cons rfl (fun K hK => ?_) AllReadyH.nil
      go_simp
      refine hK.out _ _ (by exact ⟨n0, n1⟩) (fun hHeld => ?_)
      clear hK K
      refine wpAnyH_ready (rs := [12]) (by kernel_rfl) (by simp) ?_
      refine AllReadyH.cons rfl (fun K hK => ?_) AllReadyH.nil
      go_simp
      obtain ⟨_, v0, v1⟩ := (HD7.out.tb.set_far 0 (.int .i64 x) hne).set_far 1 (.int .i64 y) hne
      refine hK.out _ _ (by exact ⟨v0, v1⟩) (fun hHeld => ?_)
      clear hK K
      refine wpAnyH_ready (rs := [13]) (by kernel_rfl) (by simp) ?_
      refine AllReadyH.cons rfl (fun K hK => ?_) AllReadyH.nil
      go_simp
      refine hK.out _ _ (by exact ⟨v0, v1⟩) (fun hHeld => ?_)
      clear hK K
      refine wpAnyH_done (by kernel_rfl) ?_ _
      clear hHeld v0 v1 n0 n1
      go_wp2_with fail
      refine bodyPost_ret (v := .tuple #[.int .i64 z, rv x y, .int .i64 z2]) (by simp [results, Try.results42, go_sem, m0, m1]) rfl ⟨z, x, y, z2, rfl, put_below HD7.out.bw (Nat.le_refl _) _ _⟩
end Go.Proofs.Ytjfpimldiokpbaa.S12
