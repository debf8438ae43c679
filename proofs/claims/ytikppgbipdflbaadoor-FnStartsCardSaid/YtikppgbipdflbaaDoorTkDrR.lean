/- How the laws on tanks draw a tank, a day and a number of days: contracts. Conditions: each theorem's own premises. -/
import Derived.Test.YtikppgbipdflbaaDoorTkDr
namespace Go.Proofs.YtikppgbipdflbaaDoor.S11
open Go.RowKit Go.Sort P11

set_option maxHeartbeats 4000000 in
set_option maxRecDepth 100000 in
theorem drep_any (a : Option Addr) (n cap : Nat) (w : World) (hc : S1.Cd w.heap.size a n w) (hn : n ≤ 65536) :
    Calls Tryd.prog 31 #[.slice a n cap] w fun e w' => ∃ (L x y : Int) (q1 c1 : Nat) (l1 : List Int) (q2 c2 : Nat) (l2 : List Int) (d : Int), e = .returned (.tuple #[tv L x y, .slice (some ⟨q1, 0, none⟩) l1.length c1, .slice (some ⟨q2, 0, none⟩) l2.length c2, .int .i64 d]) ∧ l1.length ≤ 14 ∧ l2.length ≤ 14 ∧ w.heap.size ≤ q1 ∧ w.heap.size ≤ q2 ∧ IAt w' (some ⟨q1, 0, none⟩) l1 ∧ IAt w' (some ⟨q2, 0, none⟩) l2 ∧ Below w.heap.size w w' := by
  have HR := Lib.hid (drun_any a n cap _ (hc.later (alloc_below w (tb 27 0 0 0)) (Nat.le_refl _)) hn)
  have HT := Lib.hid (BT.new w 27 0 0 0)
  have HF := Lib.hid (FZ.new w #[.int .i64 0, .int .i64 0, .int .i64 0] 27)
  have HC := Lib.hid hc
  clear hc
  go_enter Tryd.func31, Tryd.ntmps31
  go_wp2_with (first | (go_at_call 15; refine HR.out.mono ?_; rintro e w1 ⟨L, x, y, q1, c1, l1, q2, c2, l2, rfl, hl1, hl2, hq1, hq2, ha1, ha2, hb⟩; refine Hid.out ?_) | fail)
  simp at hq1 hq2
  have hz1 := hb.size
  simp at hz1
  have hBB : Below w.heap.size w w1 := (alloc_below w _).trans (hb.mono (by simp))
  have hst := S1.st_start cap (HC.out.later (hBB.trans ((alloc_below w1 (tb 27 L x y)).mono (by omega))) (Nat.le_refl _)) hn
  have hzW : (w1.alloc (tb 27 L x y)).heap.size = w1.heap.size + 1 := by simp
  rw [hzW] at hst
  have HDs := Lib.hid (show DS w ((w1.alloc (tb 27 L x y)).alloc (.cells #[.slice a n cap, .int .i64 0, .int .u64 0] 64)) (w1.heap.size + 1) a n cap 0 from
    ⟨hst, ((HT.out.kept hb).kept (alloc_below _ _)).kept (alloc_below _ _), (((HF.out.kept hb (by simp)).kept (alloc_below _ _) (by omega)).kept (alloc_below _ _) (by omega)), hBB.trans ((two_below w1 _ _).mono (by omega)), by omega⟩)
  have HTs := Lib.hid ((BT.new w1 27 L x y).kept (alloc_below _ (.cells #[.slice a n cap, .int .i64 0, .int .u64 0] 64)))
  have HA := Lib.hid ((ha1.kept (two_below w1 (tb 27 L x y) (.cells #[.slice a n cap, .int .i64 0, .int .u64 0] 64)) (Nat.le_refl _)))
  have HB := Lib.hid ((ha2.kept (two_below w1 (tb 27 L x y) (.cells #[.slice a n cap, .int .i64 0, .int .u64 0] 64)) (Nat.le_refl _)))
  obtain ⟨W2, hW2⟩ : ∃ W2, W2 = (w1.alloc (tb 27 L x y)).alloc (.cells #[.slice a n cap, .int .i64 0, .int .u64 0] 64) := ⟨_, rfl⟩
  rw [← hW2] at HDs HTs HA HB
  have hW2z : W2.heap.size = w1.heap.size + 2 := by rw [hW2]; simp
  obtain ⟨g, hg0⟩ : ∃ g, g = w1.heap.size + 1 := ⟨_, rfl⟩
  rw [← hg0] at HDs
  have HGG := Lib.hid hg0
  have HW2 := Lib.hid hW2
  have hq1n : q1 ≠ w.heap.size := by omega
  have hq2n : q2 ≠ w.heap.size := by omega
  have hwn : w1.heap.size ≠ w.heap.size := by omega
  have hA1 : l1 = [] ∨ q1 < w1.heap.size := iat_lt ha1
  have hA2 : l2 = [] ∨ q2 < w1.heap.size := iat_lt ha2
  have hgn : w1.heap.size ≠ g := by omega
  have hgw : w.heap.size ≠ g := by omega
  clear hst hb ha1 ha2 HT HF HR HC hBB hW2
  refine Lib.hid ?_
  go_upto_region 3 with (fail)
  rw [← HW2.out, ← HGG.out]
  have HXd := Lib.hid (show DS w (W2.alloc (.cells #[.int .i64 0, .int .i64 1, .int .i64 2, .int .i64 5, .int .i64 20, .int .i64 21, .int .i64 (-1)] 3)).drew g a n cap 0 from
    ⟨(HDs.out.alloc _).st.other (Below.refl _ _).drew, (HDs.out.alloc (.cells #[.int .i64 0, .int .i64 1, .int .i64 2, .int .i64 5, .int .i64 20, .int .i64 21, .int .i64 (-1)] 3)).rb, (HDs.out.alloc (.cells #[.int .i64 0, .int .i64 1, .int .i64 2, .int .i64 5, .int .i64 20, .int .i64 21, .int .i64 (-1)] 3)).rf, (HDs.out.alloc (.cells #[.int .i64 0, .int .i64 1, .int .i64 2, .int .i64 5, .int .i64 20, .int .i64 21, .int .i64 (-1)] 3)).bw.drew, HDs.out.gw⟩)
  have HTd := Lib.hid (show BT (W2.alloc (.cells #[.int .i64 0, .int .i64 1, .int .i64 2, .int .i64 5, .int .i64 20, .int .i64 21, .int .i64 (-1)] 3)).drew w1.heap.size L x y from HTs.out.kept (alloc_below W2 (.cells #[.int .i64 0, .int .i64 1, .int .i64 2, .int .i64 5, .int .i64 20, .int .i64 21, .int .i64 (-1)] 3)).drew)
  have HAd := Lib.hid (show IAt (W2.alloc (.cells #[.int .i64 0, .int .i64 1, .int .i64 2, .int .i64 5, .int .i64 20, .int .i64 21, .int .i64 (-1)] 3)).drew (some ⟨q1, 0, none⟩) l1 from HA.out.kept (alloc_below W2 (.cells #[.int .i64 0, .int .i64 1, .int .i64 2, .int .i64 5, .int .i64 20, .int .i64 21, .int .i64 (-1)] 3)).drew (Nat.le_refl _))
  have HBd := Lib.hid (show IAt (W2.alloc (.cells #[.int .i64 0, .int .i64 1, .int .i64 2, .int .i64 5, .int .i64 20, .int .i64 21, .int .i64 (-1)] 3)).drew (some ⟨q2, 0, none⟩) l2 from HB.out.kept (alloc_below W2 (.cells #[.int .i64 0, .int .i64 1, .int .i64 2, .int .i64 5, .int .i64 20, .int .i64 21, .int .i64 (-1)] 3)).drew (Nat.le_refl _))
  have HTi := Lib.hid (show S1.Ti W2.heap.size [0, 1, 2, 5, 20, 21, -1] (W2.alloc (.cells #[.int .i64 0, .int .i64 1, .int .i64 2, .int .i64 5, .int .i64 20, .int .i64 21, .int .i64 (-1)] 3)).drew from fun j hj => S1.ti_new W2 [0, 1, 2, 5, 20, 21, -1] 3 j hj)
  have hg2 : W2.heap.size ≠ g := by have := HGG.out; omega
  obtain ⟨p0, p1, p2⟩ : W2.drew.cell? ⟨w1.heap.size, 0, none⟩ = some (.int .i64 L) ∧ W2.drew.cell? ⟨w1.heap.size, 1, none⟩ = some (.int .i64 x) ∧ W2.drew.cell? ⟨w1.heap.size, 2, none⟩ = some (.int .i64 y) := HTs.out.2
  obtain ⟨r0, r1, r2⟩ := HTd.out.2
  have hq1g : l1 = [] ∨ q1 ≠ g := by have := HGG.out; rcases hA1 with h | h; exact .inl h; exact .inr (by omega)
  have hq2g : l2 = [] ∨ q2 ≠ g := by have := HGG.out; rcases hA2 with h | h; exact .inl h; exact .inr (by omega)
  clear HTs HA HB HDs
  refine wp_region_held_drew (S := fun w' => w'.cell? ⟨w1.heap.size, 0, none⟩ = some (.int .i64 L) ∧ w'.cell? ⟨w1.heap.size, 1, none⟩ = some (.int .i64 x) ∧ w'.cell? ⟨w1.heap.size, 2, none⟩ = some (.int .i64 y)) (by kernel_rfl) (by exact ⟨p0, p1, p2⟩) (fun hHeld => ?_)
  refine wpAnyH_take (i := 0) (v := tv L x y) rfl (by kernel_rfl) (by kernel_rfl) (by kernel_rfl) (fun _ _ _ h => h) (Or.inl ⟨by kernel_rfl, ?_⟩) (by assumption) ?_
  · (intro w hSw; (try dsimp only at hSw); go_simp)
  simp only [Act.put, List.setIfInBounds_toArray]
  refine wpAnyH_take (i := 1) (v := .slice (some ⟨q1, 0, none⟩) l1.length c1) rfl (by kernel_rfl) (by kernel_rfl) (by kernel_rfl) (fun _ _ _ h => h) (Or.inl ⟨by kernel_rfl, ?_⟩) (by assumption) ?_
  · (intro w hSw; (try dsimp only at hSw); go_simp)
  simp only [Act.put]
  refine wpAnyH_take (i := 2) (v := .slice (some ⟨q2, 0, none⟩) l2.length c2) rfl (by kernel_rfl) (by kernel_rfl) (by kernel_rfl) (fun _ _ _ h => h) (Or.inl ⟨by kernel_rfl, ?_⟩) (by assumption) ?_
  · (intro w hSw; (try dsimp only at hSw); go_simp)
  simp only [Act.put]
  refine wpAnyH_take (i := 3) (v := .pointer (some ⟨g, 0, none⟩)) rfl (by kernel_rfl) (by kernel_rfl) (by kernel_rfl) (fun _ _ _ h => h) (Or.inl ⟨by kernel_rfl, ?_⟩) (by assumption) ?_
  · (intro w hSw; (try dsimp only at hSw); go_simp)
  simp only [Act.put]
  refine wpAnyH_ready (rs := [4]) (by kernel_rfl) (by simp) ?_
  refine AllReadyH.cons rfl (fun K hK => ?_) AllReadyH.nil
  go_simp
  refine hK.out _ _ (by exact ⟨r0, r1, r2⟩) (fun hHeld => ?_)
  clear hK K
  refine wpAnyH_ready (rs := [5]) (by kernel_rfl) (by simp) ?_
  refine AllReadyH.cons rfl (fun K hK => ?_) AllReadyH.nil
  go_simp
  go_at_call 45
  rw [← hW2z, ← HGG.out]
  refine (S1.among_any g g a n cap 0 W2.heap.size 7 7 [0, 1, 2, 5, 20, 21, -1] _ rfl (by omega) (by simp) (by simp) HXd.out.st HTi.out hg2).mono ?_
  rintro e w4 ⟨⟨z, rfl⟩, hs, hg⟩
  have HD4 := Lib.hid (HXd.out.call hs hg)
  obtain ⟨_, n0, n1, n2⟩ := HTd.out.far hg hgn
  obtain ⟨_, m0, m1, m2⟩ := HD4.out.rb
  obtain ⟨k0, k1, k2⟩ := HD4.out.rf.out
  have HA4 := Lib.hid (iat_gr HAd.out hg hq1g)
  have HB4 := Lib.hid (iat_gr HBd.out hg hq2g)
  clear hs hg
  refine hK.out _ _ (by exact ⟨n0, n1, n2⟩) (fun hHeld => ?_)
  clear hK K
  refine wpAnyH_ready (rs := [6]) (by kernel_rfl) (by simp) ?_
  refine AllReadyH.cons rfl (fun K hK => ?_) AllReadyH.nil
  go_simp
  have v0 := (put_far w4 w.heap.size w1.heap.size 0 (.int .i64 L) (.int .i64 x) (.int .i64 y) hwn).trans n0
  have v1 := (put_far w4 w.heap.size w1.heap.size 1 (.int .i64 L) (.int .i64 x) (.int .i64 y) hwn).trans n1
  have v2 := (put_far w4 w.heap.size w1.heap.size 2 (.int .i64 L) (.int .i64 x) (.int .i64 y) hwn).trans n2
  refine hK.out _ _ (by exact ⟨v0, v1, v2⟩) (fun hHeld => ?_)
  clear hK K
  refine wpAnyH_ready (rs := [7]) (by kernel_rfl) (by simp) ?_
  refine AllReadyH.cons rfl (fun K hK => ?_) AllReadyH.nil
  go_simp
  refine hK.out _ _ (by exact ⟨v0, v1, v2⟩) (fun hHeld => ?_)
  clear hK K
  refine wpAnyH_ready (rs := [8]) (by kernel_rfl) (by simp) ?_
  refine AllReadyH.cons rfl (fun K hK => ?_) AllReadyH.nil
  go_simp
  refine hK.out _ _ (by exact ⟨v0, v1, v2⟩) (fun hHeld => ?_)
  clear hK K
  refine wpAnyH_ready (rs := [9]) (by kernel_rfl) (by simp) ?_
  refine AllReadyH.cons rfl (fun K hK => ?_) AllReadyH.nil
  go_simp
  refine hK.out _ _ (by exact ⟨v0, v1, v2⟩) (fun hHeld => ?_)
  clear hK K
  refine wpAnyH_done (by kernel_rfl) ?_ _
  go_wp2_with fail
  refine bodyPost_ret (v := .tuple #[tv L x y, .slice (some ⟨q1, 0, none⟩) l1.length c1, .slice (some ⟨q2, 0, none⟩) l2.length c2, .int .i64 z]) (by simp [results, Tryd.results31, go_sem, m0, m1, m2]) rfl ⟨L, x, y, q1, c1, l1, q2, c2, l2, z, rfl, hl1, hl2, by omega, by omega, iat_put HA4.out hq1n, iat_put HB4.out hq2n, put_below HD4.out.bw (Nat.le_refl _) _ _ _⟩
end Go.Proofs.YtikppgbipdflbaaDoor.S11
