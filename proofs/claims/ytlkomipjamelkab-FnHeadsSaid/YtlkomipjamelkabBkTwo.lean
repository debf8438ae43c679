/- The pipes at each node: what the program's pipesByNode returns: contracts. Conditions: each theorem's own premises. -/
import Derived.Test.YtlkomipjamelkabBkOne
import Derived.Deep.RegionHeld3
import Derived.Deep.Draws
import Derived.Deep.DeepCutAuto
namespace Go.Proofs.Ytlkomipjamelkab.S2
open Go.RowKit P2

theorem infoPS : (Try.prog.info? 24).map (fun i => (i.zero, i.size, i.bytes)) = some (some (.slice none 0 0), 1, 24) := by kernel_rfl

/-- A slice of the pipes at each node. -/
def ByNode (w : World) (lo G N : Nat) (ps : List Pp) : Prop := ∃ vs B, lo ≤ B ∧ Bk w B G N (rowOf ps) vs

/-- The relation of the loop, one bucket at a time. -/
theorem made_bk (w : World) (N : Nat) (ps : List Pp) : Bk (w.alloc (.cells (madeCells #[.slice none 0 0] N) 24)) (w.heap.size + 1) w.heap.size N (rowTo ps 0) (fun _ => .slice none 0 0) :=
  ⟨World.rowIs_made _ _ _ _, fun i _ => by rw [rowTo_zero]; exact World.ownsRow_nil _ _ _ _, fun _ _ _ _ _ _ h => by simp [Value.ownBlock] at h, by omega⟩

set_option maxHeartbeats 4000000 in
set_option maxRecDepth 100000 in
theorem bynode_any (N : Nat) (A : Option Addr) (cap : Nat) (ps : List Pp) (w : World) (h : PAt w A ps) (hg : P2.Good N ps) :
    Calls Try.prog 126 #[nv N A ps.length cap] w fun e w' => (∃ G, e = .returned (.slice (some ⟨G, 0, none⟩) (N + 1) (N + 1)) ∧ ByNode w' w.heap.size G (N + 1) ps) ∧ Below w.heap.size w w' := by
  have HA := Lib.hid h
  have HG := Lib.hid hg
  have hN : N ≤ 8 := by have := hg.2.1; omega
  have hl := hg.2.2.1
  clear h hg
  obtain ⟨i0, hi0, hz0, hz1, hz2⟩ := info_parts infoP
  have hmk : ∀ wx : World, (Instr.makeSlice 120 (.int .i64 ((N : Int) + 1)) (.int .i64 ((N : Int) + 1))).run Try.prog wx = .ok (.slice (some ⟨wx.heap.size, 0, none⟩) (N + 1) (N + 1)) (wx.alloc (.cells (madeCells #[.slice none 0 0] (N + 1)) 24)) := fun wx => by
    rw [show ((N : Int) + 1) = ((N + 1 : Nat) : Int) by omega]
    exact run_make_row' (P := Try.prog) 120 24 (.slice none 0 0) 24 Try.underlying120 infoPS rfl .i64 .i64 (N + 1) (by omega) (by omega) wx
  have hN0 : 0 ≤ (N : Int) := by omega
  have hN1 : (N : Int) ≤ 8 := by omega
  go_enter Try.func126, Try.ntmps126
  go_wp2
  clear hmk
  go_loopw [13] (fun i wr => ∃ (k : Nat) (vs : Nat → Value), k ≤ ps.length ∧ i = .int .i64 k ∧ Hid (Bk wr (w.heap.size + 2) (w.heap.size + 1) (N + 1) (rowTo ps k) vs) ∧ Below (w.heap.size + 1) (w.alloc (.cells #[.int .i64 N, .slice A ps.length cap] 26)) wr) (fun i _ => ps.length - (intOf i).toNat)
  case atStart => exact ⟨0, _, Nat.zero_le _, rfl, Lib.hid (by simpa using made_bk (w.alloc (.cells #[.int .i64 N, .slice A ps.length cap] 26)) (N + 1) ps), (Below.refl _ _).alloc (by simp) _⟩
  case round =>
    obtain ⟨k, vs, hk, rfl, hbk, hb⟩ := hrel
    by_cases hlt : k < ps.length
    · obtain ⟨b, off, hA, hbl, h0, h1, h2, h3⟩ := HA.out.at_ hlt
      subst hA
      obtain ⟨hc, hf⟩ := bcell (W := w.alloc (.cells #[.int .i64 N, .slice (some ⟨b, off, none⟩) ps.length cap] 26)) (by simpa using hb)
      have hz := hbk.out.row.lt
      have hok := (HG.out.2.2.2 k hlt _ (pAt_get ps k hlt)).1
      have hst := Lib.hid (fun a c => rowTo_step ps k a c hlt)
      generalize pAt ps k = p at *
      obtain ⟨id, fr, tt, sz⟩ := p
      obtain ⟨a, rfl⟩ : ∃ a : Nat, fr = a := ⟨fr.toNat, by have := hok.2.2.1; simp at this; omega⟩
      obtain ⟨c, rfl⟩ : ∃ c : Nat, tt = c := ⟨tt.toNat, by have := hok.2.2.2.2.1; simp at this; omega⟩
      have ha1 : a < N + 1 := by have := hok.2.2.2.1; simp at this; omega
      have hc1 : c < N + 1 := by have := hok.2.2.2.2.2.1; simp at this; omega
      have hac : a ≠ c := by have := hok.2.2.2.2.2.2.1; simp at this; omega
      have hst' := Lib.hid (hst.out a c rfl rfl hac)
      clear hok hst
      have ca := hbk.out.row.cell ha1
      have fa := hbk.out.row.frozen a
      have la := rowTo_len ps k a
      have HO := Lib.hid (hbk.out.own a ha1)
      have hne : w.heap.size + 1 ≠ wr.heap.size := by omega
      have ha0 : (0 : Int) ≤ (a : Int) := by omega
      have haN : (a : Int) < (N : Int) + 1 := by omega
      have hzw : w.heap.size < wr.heap.size := by omega
      obtain ⟨f1, hf1⟩ : ∃ f1, f1 = upd (rowTo ps k) a (rowTo ps k a ++ [⟨id, a, c, sz⟩]) := ⟨_, rfl⟩
      have l1 : (f1 c).length ≤ k + 1 := by rw [hf1]; unfold upd; rw [if_neg (by omega)]; have := rowTo_len ps k c; omega
      rw [← hf1] at hst'
      have HF1 := Lib.hid hf1
      clear hf1
      have hpbn : some wr.heap.size ≠ (vs a).ownBlock := fun e => by have := (HO.out.lt _ e.symm).2; omega
      have hGn : some (w.heap.size + 1) ≠ (vs a).ownBlock := fun e => by have := (HO.out.lt _ e.symm).1; omega
      have hW1 := Lib.hid ((((Below.refl wr.heap.size wr).alloc (Nat.le_refl _) (.cells #[.int .i64 id, .int .i64 a, .int .i64 c, .int .i64 sz] 40)).alloc (by simp) (.cells #[.int .i64 id, .int .i64 a, .int .i64 c, .int .i64 sz] 40)).drew)
      go_upto_region 5 with (fail)
      go_cut [5] (fun s5 wx => s5 = .pointer (some ⟨wr.heap.size, 0, none⟩) ∧ (∃ vs1, Hid (Bk wx (w.heap.size + 2) (w.heap.size + 1) (N + 1) f1 vs1) ∧ Hid (∀ j, j < N + 1 → (vs1 j).ownBlock ≠ some wr.heap.size)) ∧ Below (w.heap.size + 1) (w.alloc (.cells #[.int .i64 N, .slice (some ⟨b, off, none⟩) ps.length cap] 26)) wx ∧ wr.heap.size < wx.heap.size ∧ wx.cell? ⟨wr.heap.size, 0, none⟩ = some (.int .i64 id) ∧ wx.cell? ⟨wr.heap.size, 1, none⟩ = some (.int .i64 a) ∧ wx.cell? ⟨wr.heap.size, 2, none⟩ = some (.int .i64 c) ∧ wx.cell? ⟨wr.heap.size, 3, none⟩ = some (.int .i64 sz))
      case first =>
        refine wp_region_held_drew (S := fun w' => w'.cell? ⟨wr.heap.size, 0, none⟩ = some (.int .i64 id) ∧ w'.cell? ⟨wr.heap.size, 1, none⟩ = some (.int .i64 a) ∧ w'.cell? ⟨wr.heap.size, 2, none⟩ = some (.int .i64 c) ∧ w'.cell? ⟨wr.heap.size, 3, none⟩ = some (.int .i64 sz)) (by kernel_rfl) (by go_keep) (fun hHeld => ?_)
        refine wpAnyH_take (i := 0) (v := .slice (some ⟨w.heap.size + 1, 0, none⟩) (N + 1) (N + 1)) rfl (by kernel_rfl) (by kernel_rfl) (by kernel_rfl) (fun _ _ _ h => h) (Or.inl ⟨by rfl, ?_⟩) (by assumption) ?_
        · (intro w hSw; (try dsimp only at hSw); go_simp)
        simp only [Act.put, List.setIfInBounds_toArray]
        refine wpAnyH_take (i := 1) (v := .pointer (some ⟨wr.heap.size, 1, none⟩)) rfl (by kernel_rfl) (by kernel_rfl) (by kernel_rfl) (fun _ _ _ h => h) (Or.inl ⟨by rfl, ?_⟩) (by assumption) ?_
        · (intro w hSw; (try dsimp only at hSw); go_simp)
        simp only [Act.put]
        refine wpAnyH_take (i := 2) (v := .int .i64 (a : Int)) rfl (by kernel_rfl) (by kernel_rfl) (by kernel_rfl) (fun _ _ _ h => h) (Or.inl ⟨by rfl, ?_⟩) (by assumption) ?_
        · (intro w hSw; (try dsimp only at hSw); go_simp)
        simp only [Act.put]
        refine wpAnyH_take (i := 3) (v := .slice (some ⟨w.heap.size + 1, 0, none⟩) (N + 1) (N + 1)) rfl (by kernel_rfl) (by kernel_rfl) (by kernel_rfl) (fun _ _ _ h => h) (Or.inl ⟨by rfl, ?_⟩) (by assumption) ?_
        · (intro w hSw; (try dsimp only at hSw); go_simp)
        simp only [Act.put]
        refine wpAnyH_take (i := 4) (v := .pointer (some ⟨wr.heap.size, 1, none⟩)) rfl (by kernel_rfl) (by kernel_rfl) (by kernel_rfl) (fun _ _ _ h => h) (Or.inl ⟨by rfl, ?_⟩) (by assumption) ?_
        · (intro w hSw; (try dsimp only at hSw); go_simp)
        simp only [Act.put]
        refine wpAnyH_take (i := 5) (v := .int .i64 (a : Int)) rfl (by kernel_rfl) (by kernel_rfl) (by kernel_rfl) (fun _ _ _ h => h) (Or.inl ⟨by rfl, ?_⟩) (by assumption) ?_
        · (intro w hSw; (try dsimp only at hSw); go_simp)
        simp only [Act.put]
        refine wpAnyH_take (i := 6) (v := .pointer (some ⟨w.heap.size + 1, a, none⟩)) rfl (by kernel_rfl) (by kernel_rfl) (by kernel_rfl) (fun _ _ _ h => h) (Or.inl ⟨by rfl, ?_⟩) (by assumption) ?_
        · (intro w hSw; (try dsimp only at hSw); go_simp)
        simp only [Act.put]
        refine wpAnyH_take (i := 8) (v := .agg #[.int .i64 id, .int .i64 a, .int .i64 c, .int .i64 sz]) rfl (by kernel_rfl) (by kernel_rfl) (by kernel_rfl) (fun _ _ _ h => h) (Or.inl ⟨by rfl, ?_⟩) (by assumption) ?_
        · (intro w hSw; (try dsimp only at hSw); go_simp)
        simp only [Act.put]
        refine wpAnyH_ready (rs := [7, 9]) (by kernel_rfl) (by simp) ?_
        refine AllReadyH.cons rfl (fun K hK => ?_) (AllReadyH.cons rfl (fun K hK => ?_) AllReadyH.nil)
        · go_simp
          refine hK.out _ _ (by first | assumption | go_keep) (fun hHeld => ?_)
          clear hK K
          refine wpAnyH_ready (rs := [9]) (by kernel_rfl) (by simp) ?_
          refine AllReadyH.cons rfl (fun K hK => ?_) AllReadyH.nil
          go_simp
          refine hK.out _ _ (by first | assumption | go_keep) (fun hHeld => ?_)
          clear hK K
          refine wpAnyH_ready (rs := [10]) (by kernel_rfl) (by simp) ?_
          refine AllReadyH.cons rfl (fun K hK => ?_) AllReadyH.nil
          refine step_append_lies _ (by rfl) _ _ _ (by rfl) (w.heap.size + 2) 40 i0 _ 4 32 Try.underlying24 hi0 hz0 hz1 hz2 rfl (by omega) (vs a) (rowTo ps k a).length (pcs (rowTo ps k a)) (by rfl) (((HO.out.alloc _).alloc _).drew)
            ⟨wr.heap.size + 1, 0, none⟩ 1 1 [.int .i64 id, .int .i64 a, .int .i64 c, .int .i64 sz] (by rfl) (by rfl) (World.news_of_block (cs := #[.int .i64 id, .int .i64 a, .int .i64 c, .int .i64 sz]) (t := 40) (fr := (0, 0)) (by have h := heap_alloc_new (wr.alloc (.cells #[.int .i64 id, .int .i64 a, .int .i64 c, .int .i64 sz] 40)) (.cells #[.int .i64 id, .int .i64 a, .int .i64 c, .int .i64 sz] 40); rwa [show (wr.alloc (.cells #[.int .i64 id, .int .i64 a, .int .i64 c, .int .i64 sz] 40)).heap.size = wr.heap.size + 1 by simp] at h)) (by simp [Value.oneCell'])
            (by omega) (by simp only [maxLen]; omega) (by omega) (by simp; omega) (wr.heap.size + 2) (by simp) ?_
          intro gg cap' w1 hown1 hgrow hat hlt1
          have hHeld2 := hHeld
          refine hK.out _ _ (by rcases hHeld2 with ⟨q0, q1, q2, q3⟩; exact ⟨(hgrow.cell_far _ (by simp; omega) hpbn).trans q0, (hgrow.cell_far _ (by simp; omega) hpbn).trans q1, (hgrow.cell_far _ (by simp; omega) hpbn).trans q2, (hgrow.cell_far _ (by simp; omega) hpbn).trans q3⟩) (fun hHeld => ?_)
          clear hK K hHeld2
          have cell1 : w1.cell? ⟨w.heap.size + 1, a, none⟩ = some (vs a) := (hgrow.cell_far _ (by simp; omega) hGn).trans ((hW1.out.cell (p := ⟨w.heap.size + 1, a, none⟩) hz).trans ca)
          have froz1 : w1.frozen? ⟨w.heap.size + 1, a, none⟩ = false := (hgrow.frozen_far _ (by simp; omega) hGn).trans ((hW1.out.frozen (p := ⟨w.heap.size + 1, a, none⟩) hz).trans fa)
          refine wpAnyH_ready (rs := [11]) (by kernel_rfl) (by simp) ?_
          refine AllReadyH.cons rfl (fun K hK => ?_) AllReadyH.nil
          go_simp
          refine hK.out _ _ (by first | assumption | go_keep) (fun hHeld => ?_)
          clear hK K
          refine wpAnyH_ready (rs := [12]) (by kernel_rfl) (by simp) ?_
          refine AllReadyH.cons rfl (fun K hK => ?_) AllReadyH.nil
          go_simp
          refine hK.out _ _ (by first | assumption | go_keep) (fun hHeld => ?_)
          clear hK K
          refine wpAnyH_done (by kernel_rfl) ?_ _
          go_wp2_with fail
          go_meet
          refine ⟨rfl, ⟨_, Lib.hid (by rw [HF1.out]; exact Bk.push (p := ⟨id, a, c, sz⟩) hbk.out ha1 hW1.out hgrow hown1 hat (by omega)), Lib.hid (Bk.push_ne hbk.out ha1 hat (Nat.le_refl _) (by omega))⟩, ?_, ?_, hHeld⟩
          · exact (((((hb.alloc (by omega) _).alloc (by simp; omega) _).drew).grown hgrow (by simp; omega) (fun g hg => by have := (HO.out.lt g hg).1; omega))).setCell (by show w.heap.size + 1 ≤ w.heap.size + 1; omega) _
          · have := hgrow.size; simp at this ⊢; omega
        · go_simp
          refine hK.out _ _ (by first | assumption | go_keep) (fun hHeld => ?_)
          clear hK K
          refine wpAnyH_ready (rs := [7]) (by kernel_rfl) (by simp) ?_
          refine AllReadyH.cons rfl (fun K hK => ?_) AllReadyH.nil
          go_simp
          refine hK.out _ _ (by first | assumption | go_keep) (fun hHeld => ?_)
          clear hK K
          refine wpAnyH_ready (rs := [10]) (by kernel_rfl) (by simp) ?_
          refine AllReadyH.cons rfl (fun K hK => ?_) AllReadyH.nil
          refine step_append_lies _ (by rfl) _ _ _ (by rfl) (w.heap.size + 2) 40 i0 _ 4 32 Try.underlying24 hi0 hz0 hz1 hz2 rfl (by omega) (vs a) (rowTo ps k a).length (pcs (rowTo ps k a)) (by rfl) (((HO.out.alloc _).alloc _).drew)
            ⟨wr.heap.size + 1, 0, none⟩ 1 1 [.int .i64 id, .int .i64 a, .int .i64 c, .int .i64 sz] (by rfl) (by rfl) (World.news_of_block (cs := #[.int .i64 id, .int .i64 a, .int .i64 c, .int .i64 sz]) (t := 40) (fr := (0, 0)) (by have h := heap_alloc_new (wr.alloc (.cells #[.int .i64 id, .int .i64 a, .int .i64 c, .int .i64 sz] 40)) (.cells #[.int .i64 id, .int .i64 a, .int .i64 c, .int .i64 sz] 40); rwa [show (wr.alloc (.cells #[.int .i64 id, .int .i64 a, .int .i64 c, .int .i64 sz] 40)).heap.size = wr.heap.size + 1 by simp] at h)) (by simp [Value.oneCell'])
            (by omega) (by simp only [maxLen]; omega) (by omega) (by simp; omega) (wr.heap.size + 2) (by simp) ?_
          intro gg cap' w1 hown1 hgrow hat hlt1
          have hHeld2 := hHeld
          refine hK.out _ _ (by rcases hHeld2 with ⟨q0, q1, q2, q3⟩; exact ⟨(hgrow.cell_far _ (by simp; omega) hpbn).trans q0, (hgrow.cell_far _ (by simp; omega) hpbn).trans q1, (hgrow.cell_far _ (by simp; omega) hpbn).trans q2, (hgrow.cell_far _ (by simp; omega) hpbn).trans q3⟩) (fun hHeld => ?_)
          clear hK K hHeld2
          have cell1 : w1.cell? ⟨w.heap.size + 1, a, none⟩ = some (vs a) := (hgrow.cell_far _ (by simp; omega) hGn).trans ((hW1.out.cell (p := ⟨w.heap.size + 1, a, none⟩) hz).trans ca)
          have froz1 : w1.frozen? ⟨w.heap.size + 1, a, none⟩ = false := (hgrow.frozen_far _ (by simp; omega) hGn).trans ((hW1.out.frozen (p := ⟨w.heap.size + 1, a, none⟩) hz).trans fa)
          refine wpAnyH_ready (rs := [11]) (by kernel_rfl) (by simp) ?_
          refine AllReadyH.cons rfl (fun K hK => ?_) AllReadyH.nil
          go_simp
          refine hK.out _ _ (by first | assumption | go_keep) (fun hHeld => ?_)
          clear hK K
          refine wpAnyH_ready (rs := [12]) (by kernel_rfl) (by simp) ?_
          refine AllReadyH.cons rfl (fun K hK => ?_) AllReadyH.nil
          go_simp
          refine hK.out _ _ (by first | assumption | go_keep) (fun hHeld => ?_)
          clear hK K
          refine wpAnyH_done (by kernel_rfl) ?_ _
          go_wp2_with fail
          go_meet
          refine ⟨rfl, ⟨_, Lib.hid (by rw [HF1.out]; exact Bk.push (p := ⟨id, a, c, sz⟩) hbk.out ha1 hW1.out hgrow hown1 hat (by omega)), Lib.hid (Bk.push_ne hbk.out ha1 hat (Nat.le_refl _) (by omega))⟩, ?_, ?_, hHeld⟩
          · exact (((((hb.alloc (by omega) _).alloc (by simp; omega) _).drew).grown hgrow (by simp; omega) (fun g hg => by have := (HO.out.lt g hg).1; omega))).setCell (by show w.heap.size + 1 ≤ w.heap.size + 1; omega) _
          · have := hgrow.size; simp at this ⊢; omega
      case rest =>
        obtain ⟨rfl, ⟨vs1, hbk1, hpb1⟩, hb1, hzx, hHeld0⟩ := hcut
        have hzc := hbk1.out.row.lt
        have cc := hbk1.out.row.cell hc1
        have fc := hbk1.out.row.frozen c
        have HO1 := Lib.hid (hbk1.out.own c hc1)
        have hpbn : some wr.heap.size ≠ (vs1 c).ownBlock := fun e => hpb1.out c hc1 e.symm
        have hGn : some (w.heap.size + 1) ≠ (vs1 c).ownBlock := fun e => by have := (HO1.out.lt _ e.symm).1; omega
        have hc0 : (0 : Int) ≤ (c : Int) := by omega
        have hcN : (c : Int) < (N : Int) + 1 := by omega
        have hW2 := Lib.hid (((Below.refl wc.heap.size wc).alloc (Nat.le_refl _) (.cells #[.int .i64 id, .int .i64 a, .int .i64 c, .int .i64 sz] 40)).drew)
        go_wp2_with fail
        refine wp_region_held_drew (S := fun w' => w'.cell? ⟨wr.heap.size, 0, none⟩ = some (.int .i64 id) ∧ w'.cell? ⟨wr.heap.size, 1, none⟩ = some (.int .i64 a) ∧ w'.cell? ⟨wr.heap.size, 2, none⟩ = some (.int .i64 c) ∧ w'.cell? ⟨wr.heap.size, 3, none⟩ = some (.int .i64 sz)) (by kernel_rfl) (by go_keep) (fun hHeld => ?_)
        refine wpAnyH_take (i := 0) (v := .slice (some ⟨w.heap.size + 1, 0, none⟩) (N + 1) (N + 1)) rfl (by kernel_rfl) (by kernel_rfl) (by kernel_rfl) (fun _ _ _ h => h) (Or.inl ⟨by rfl, ?_⟩) (by assumption) ?_
        · (intro w hSw; (try dsimp only at hSw); go_simp)
        simp only [Act.put, List.setIfInBounds_toArray]
        refine wpAnyH_take (i := 1) (v := .pointer (some ⟨wr.heap.size, 2, none⟩)) rfl (by kernel_rfl) (by kernel_rfl) (by kernel_rfl) (fun _ _ _ h => h) (Or.inl ⟨by rfl, ?_⟩) (by assumption) ?_
        · (intro w hSw; (try dsimp only at hSw); go_simp)
        simp only [Act.put]
        refine wpAnyH_take (i := 2) (v := .int .i64 (c : Int)) rfl (by kernel_rfl) (by kernel_rfl) (by kernel_rfl) (fun _ _ _ h => h) (Or.inl ⟨by rfl, ?_⟩) (by assumption) ?_
        · (intro w hSw; (try dsimp only at hSw); go_simp)
        simp only [Act.put]
        refine wpAnyH_take (i := 3) (v := .slice (some ⟨w.heap.size + 1, 0, none⟩) (N + 1) (N + 1)) rfl (by kernel_rfl) (by kernel_rfl) (by kernel_rfl) (fun _ _ _ h => h) (Or.inl ⟨by rfl, ?_⟩) (by assumption) ?_
        · (intro w hSw; (try dsimp only at hSw); go_simp)
        simp only [Act.put]
        refine wpAnyH_take (i := 4) (v := .pointer (some ⟨wr.heap.size, 2, none⟩)) rfl (by kernel_rfl) (by kernel_rfl) (by kernel_rfl) (fun _ _ _ h => h) (Or.inl ⟨by rfl, ?_⟩) (by assumption) ?_
        · (intro w hSw; (try dsimp only at hSw); go_simp)
        simp only [Act.put]
        refine wpAnyH_take (i := 5) (v := .int .i64 (c : Int)) rfl (by kernel_rfl) (by kernel_rfl) (by kernel_rfl) (fun _ _ _ h => h) (Or.inl ⟨by rfl, ?_⟩) (by assumption) ?_
        · (intro w hSw; (try dsimp only at hSw); go_simp)
        simp only [Act.put]
        refine wpAnyH_take (i := 6) (v := .pointer (some ⟨w.heap.size + 1, c, none⟩)) rfl (by kernel_rfl) (by kernel_rfl) (by kernel_rfl) (fun _ _ _ h => h) (Or.inl ⟨by rfl, ?_⟩) (by assumption) ?_
        · (intro w hSw; (try dsimp only at hSw); go_simp)
        simp only [Act.put]
        refine wpAnyH_take (i := 8) (v := .agg #[.int .i64 id, .int .i64 a, .int .i64 c, .int .i64 sz]) rfl (by kernel_rfl) (by kernel_rfl) (by kernel_rfl) (fun _ _ _ h => h) (Or.inl ⟨by rfl, ?_⟩) (by assumption) ?_
        · (intro w hSw; (try dsimp only at hSw); go_simp)
        simp only [Act.put]
        refine wpAnyH_ready (rs := [7, 9]) (by kernel_rfl) (by simp) ?_
        refine AllReadyH.cons rfl (fun K hK => ?_) (AllReadyH.cons rfl (fun K hK => ?_) AllReadyH.nil)
        · go_simp
          refine hK.out _ _ (by first | assumption | go_keep) (fun hHeld => ?_)
          clear hK K
          refine wpAnyH_ready (rs := [9]) (by kernel_rfl) (by simp) ?_
          refine AllReadyH.cons rfl (fun K hK => ?_) AllReadyH.nil
          go_simp
          refine hK.out _ _ (by first | assumption | go_keep) (fun hHeld => ?_)
          clear hK K
          refine wpAnyH_ready (rs := [10]) (by kernel_rfl) (by simp) ?_
          refine AllReadyH.cons rfl (fun K hK => ?_) AllReadyH.nil
          refine step_append_lies _ (by rfl) _ _ _ (by rfl) (w.heap.size + 2) 40 i0 _ 4 32 Try.underlying24 hi0 hz0 hz1 hz2 rfl (by omega) (vs1 c) (f1 c).length (pcs (f1 c)) (by rfl) ((HO1.out.alloc _).drew)
            ⟨wc.heap.size, 0, none⟩ 1 1 [.int .i64 id, .int .i64 a, .int .i64 c, .int .i64 sz] (by rfl) (by rfl) (World.news_of_block (cs := #[.int .i64 id, .int .i64 a, .int .i64 c, .int .i64 sz]) (t := 40) (fr := (0, 0)) (by exact heap_alloc_new wc (.cells #[.int .i64 id, .int .i64 a, .int .i64 c, .int .i64 sz] 40))) (by simp [Value.oneCell'])
            (by omega) (by simp only [maxLen]; omega) (by omega) (by simp; omega) (wc.heap.size + 1) (by simp) ?_
          intro gg cap' w1 hown1 hgrow hat hlt1
          have hHeld2 := hHeld
          refine hK.out _ _ (by rcases hHeld2 with ⟨q0, q1, q2, q3⟩; exact ⟨(hgrow.cell_far _ (by simp; omega) hpbn).trans q0, (hgrow.cell_far _ (by simp; omega) hpbn).trans q1, (hgrow.cell_far _ (by simp; omega) hpbn).trans q2, (hgrow.cell_far _ (by simp; omega) hpbn).trans q3⟩) (fun hHeld => ?_)
          clear hK K hHeld2
          have cell1 : w1.cell? ⟨w.heap.size + 1, c, none⟩ = some (vs1 c) := (hgrow.cell_far _ (by simp; omega) hGn).trans ((hW2.out.cell (p := ⟨w.heap.size + 1, c, none⟩) hzc).trans cc)
          have froz1 : w1.frozen? ⟨w.heap.size + 1, c, none⟩ = false := (hgrow.frozen_far _ (by simp; omega) hGn).trans ((hW2.out.frozen (p := ⟨w.heap.size + 1, c, none⟩) hzc).trans fc)
          refine wpAnyH_ready (rs := [11]) (by kernel_rfl) (by simp) ?_
          refine AllReadyH.cons rfl (fun K hK => ?_) AllReadyH.nil
          go_simp
          refine hK.out _ _ (by first | assumption | go_keep) (fun hHeld => ?_)
          clear hK K
          refine wpAnyH_ready (rs := [12]) (by kernel_rfl) (by simp) ?_
          refine AllReadyH.cons rfl (fun K hK => ?_) AllReadyH.nil
          go_simp
          refine hK.out _ _ (by first | assumption | go_keep) (fun hHeld => ?_)
          clear hK K
          refine wpAnyH_done (by kernel_rfl) ?_ _
          go_wp2
          go_roundw
          case rel => exact ⟨k + 1, _, by omega, by go_num, Lib.hid ((Bk.push (p := ⟨id, a, c, sz⟩) hbk1.out hc1 hW2.out hgrow hown1 hat (by omega)).congr (fun i _ => hst'.out i)), (((hb1.alloc (by omega) _).drew.grown hgrow (by simp; omega) (fun g hg => by have := (HO1.out.lt g hg).1; omega))).setCell (by show w.heap.size + 1 ≤ w.heap.size + 1; omega) _⟩
          case measure => simp [intOf]; omega
        · go_simp
          refine hK.out _ _ (by first | assumption | go_keep) (fun hHeld => ?_)
          clear hK K
          refine wpAnyH_ready (rs := [7]) (by kernel_rfl) (by simp) ?_
          refine AllReadyH.cons rfl (fun K hK => ?_) AllReadyH.nil
          go_simp
          refine hK.out _ _ (by first | assumption | go_keep) (fun hHeld => ?_)
          clear hK K
          refine wpAnyH_ready (rs := [10]) (by kernel_rfl) (by simp) ?_
          refine AllReadyH.cons rfl (fun K hK => ?_) AllReadyH.nil
          refine step_append_lies _ (by rfl) _ _ _ (by rfl) (w.heap.size + 2) 40 i0 _ 4 32 Try.underlying24 hi0 hz0 hz1 hz2 rfl (by omega) (vs1 c) (f1 c).length (pcs (f1 c)) (by rfl) ((HO1.out.alloc _).drew)
            ⟨wc.heap.size, 0, none⟩ 1 1 [.int .i64 id, .int .i64 a, .int .i64 c, .int .i64 sz] (by rfl) (by rfl) (World.news_of_block (cs := #[.int .i64 id, .int .i64 a, .int .i64 c, .int .i64 sz]) (t := 40) (fr := (0, 0)) (by exact heap_alloc_new wc (.cells #[.int .i64 id, .int .i64 a, .int .i64 c, .int .i64 sz] 40))) (by simp [Value.oneCell'])
            (by omega) (by simp only [maxLen]; omega) (by omega) (by simp; omega) (wc.heap.size + 1) (by simp) ?_
          intro gg cap' w1 hown1 hgrow hat hlt1
          have hHeld2 := hHeld
          refine hK.out _ _ (by rcases hHeld2 with ⟨q0, q1, q2, q3⟩; exact ⟨(hgrow.cell_far _ (by simp; omega) hpbn).trans q0, (hgrow.cell_far _ (by simp; omega) hpbn).trans q1, (hgrow.cell_far _ (by simp; omega) hpbn).trans q2, (hgrow.cell_far _ (by simp; omega) hpbn).trans q3⟩) (fun hHeld => ?_)
          clear hK K hHeld2
          have cell1 : w1.cell? ⟨w.heap.size + 1, c, none⟩ = some (vs1 c) := (hgrow.cell_far _ (by simp; omega) hGn).trans ((hW2.out.cell (p := ⟨w.heap.size + 1, c, none⟩) hzc).trans cc)
          have froz1 : w1.frozen? ⟨w.heap.size + 1, c, none⟩ = false := (hgrow.frozen_far _ (by simp; omega) hGn).trans ((hW2.out.frozen (p := ⟨w.heap.size + 1, c, none⟩) hzc).trans fc)
          refine wpAnyH_ready (rs := [11]) (by kernel_rfl) (by simp) ?_
          refine AllReadyH.cons rfl (fun K hK => ?_) AllReadyH.nil
          go_simp
          refine hK.out _ _ (by first | assumption | go_keep) (fun hHeld => ?_)
          clear hK K
          refine wpAnyH_ready (rs := [12]) (by kernel_rfl) (by simp) ?_
          refine AllReadyH.cons rfl (fun K hK => ?_) AllReadyH.nil
          go_simp
          refine hK.out _ _ (by first | assumption | go_keep) (fun hHeld => ?_)
          clear hK K
          refine wpAnyH_done (by kernel_rfl) ?_ _
          go_wp2
          go_roundw
          case rel => exact ⟨k + 1, _, by omega, by go_num, Lib.hid ((Bk.push (p := ⟨id, a, c, sz⟩) hbk1.out hc1 hW2.out hgrow hown1 hat (by omega)).congr (fun i _ => hst'.out i)), (((hb1.alloc (by omega) _).drew.grown hgrow (by simp; omega) (fun g hg => by have := (HO1.out.lt g hg).1; omega))).setCell (by show w.heap.size + 1 ≤ w.heap.size + 1; omega) _⟩
          case measure => simp [intOf]; omega
    · have hfin := Lib.hid (hbk.out.congr (g := rowOf ps) (fun i _ => rowTo_all ps k i (by omega)))
      go_wp2
      go_ret
      exact ⟨⟨_, rfl, _, _, by omega, hfin.out⟩, below_box hb⟩
end Go.Proofs.Ytlkomipjamelkab.S2
