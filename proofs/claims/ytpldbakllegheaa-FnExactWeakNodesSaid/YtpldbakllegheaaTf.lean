/- The tree as water comes to it, as the program builds it: contracts. Conditions: each theorem's own premises. -/
import Derived.Test.YtpldbakllegheaaBrA
import Derived.Test.YtpldbakllegheaaAmB
import Derived.Test.YtpldbakllegheaaDistOne
import Derived.StillTailTactics
namespace Go.Proofs.Ytpldbakllegheaa.S2
open Go.RowKit P2

set_option maxHeartbeats 2000000 in
set_option maxRecDepth 100000 in
theorem tf_node {n : Int} {ps : List Pp} {x : Int} (hv : nodeB n ps x = false) (A : Option Addr) (cap : Nat) (w : World) (h : PAt w A ps) (hm : ps.length ≤ maxLen) :
    Calls Try.prog 89 #[nv n A ps.length cap, .int .i64 x] w fun e w' => e = .returned (.tuple #[bv 0 ⟨0, 0, 0, 0⟩ none 0 0, .bool false]) ∧ Below w.heap.size w w' := by
  have HW0 := Lib.hid (show Below w.heap.size w ((w.alloc (nb n A ps.length cap)).alloc (.cells #[.int .i64 0, .int .i64 0, .int .i64 0, .int .i64 0, .int .i64 0, .slice none 0 0] 102)) from ((Below.refl _ _).alloc (Nat.le_refl _) _).alloc (by simp) _)
  have HB3 := Lib.hid (fun w1 (hb : Below ((w.alloc (nb n A ps.length cap)).alloc (.cells #[.int .i64 0, .int .i64 0, .int .i64 0, .int .i64 0, .int .i64 0, .slice none 0 0] 102)).heap.size ((w.alloc (nb n A ps.length cap)).alloc (.cells #[.int .i64 0, .int .i64 0, .int .i64 0, .int .i64 0, .int .i64 0, .slice none 0 0] 102)) w1) => (show Below (w.heap.size + 1) (w.alloc (nb n A ps.length cap)) w1 from ((Below.refl _ _).alloc (by simp) _).trans (hb.mono (by simp))))
  have HR0 := Lib.hid (show WRow ((w.alloc (nb n A ps.length cap)).alloc (.cells #[.int .i64 0, .int .i64 0, .int .i64 0, .int .i64 0, .int .i64 0, .slice none 0 0] 102)) (w.heap.size + 1) (bcs 0 ⟨0, 0, 0, 0⟩ (.slice none 0 0)) from by
    have e : w.heap.size + 1 = (w.alloc (nb n A ps.length cap)).heap.size := by simp
    unfold WRow
    rw [e]
    exact heap_alloc_new _ _)
  have H := Lib.hid (fun w' (hb : Below w.heap.size w w') => node_v hv A cap w' (h.kept hb (Nat.le_refl _)) hm)
  clear h hv
  go_enter Try.func89, Try.ntmps89
  go_wp2_with (first
    | (go_at_call 110; refine (H.out _ HW0.out).mono ?_; rintro e w1 ⟨rfl, hb1⟩; have HB1 := Lib.hid (HB3.out _ hb1); have HT1 := Lib.hid (HR0.out.kept (hb1.block _ (by simp))); obtain ⟨b0, b1⟩ := box2 HB1.out; have hz1 := HT1.out.lt; have hy1 : w.heap.size < w1.heap.size := (by omega); clear hb1)
    | ((with_reducible refine wpB_store rfl _ _ rfl rfl (w.heap.size + 1) rfl 0 ⟨0, 0, 0, 0⟩ none 0 0 rfl 0 ⟨0, 0, 0, 0⟩ none 0 0 HT1.out ?_); intro w7 he7 hg7; refine Hid.out ?_))
  have s0 : w7.cell? ⟨w.heap.size + 1, 0, none⟩ = some (.int .i64 0) := he7.cell 0
  have s1 : w7.cell? ⟨w.heap.size + 1, 1, none⟩ = some (.int .i64 0) := he7.cell 1
  have s2 : w7.cell? ⟨w.heap.size + 1, 2, none⟩ = some (.int .i64 0) := he7.cell 2
  have s3 : w7.cell? ⟨w.heap.size + 1, 3, none⟩ = some (.int .i64 0) := he7.cell 3
  have s4 : w7.cell? ⟨w.heap.size + 1, 4, none⟩ = some (.int .i64 0) := he7.cell 4
  have s5 : w7.cell? ⟨w.heap.size + 1, 5, none⟩ = some (.slice none 0 0) := he7.cell 5
  have HB7 := Lib.hid ((below_box HB1.out).grown hg7 (below_box HB1.out).size (fun g hg => by simp at hg; omega))
  clear hg7 he7
  refine Lib.hid ?_
  go_wp2
  exact bodyPost_ret (v := .tuple #[.agg #[.int .i64 0, .int .i64 0, .int .i64 0, .int .i64 0, .int .i64 0, .slice none 0 0], .bool false]) (by simp [results, Try.results89, go_sem, s0, s1, s2, s3, s4, s5]) rfl ⟨rfl, HB7.out⟩

set_option maxHeartbeats 2000000 in
set_option maxRecDepth 100000 in
theorem tf_tree {N : Nat} {ps : List Pp} {x : Int} (hv : nodeB N ps x = true) (ht : treeB N ps = false) (A : Option Addr) (cap : Nat) (w : World) (h : PAt w A ps) (hm : ps.length ≤ maxLen) :
    Calls Try.prog 89 #[nv N A ps.length cap, .int .i64 x] w fun e w' => e = .returned (.tuple #[bv 0 ⟨0, 0, 0, 0⟩ none 0 0, .bool false]) ∧ Below w.heap.size w w' := by
  have HW0 := Lib.hid (show Below w.heap.size w ((w.alloc (nb N A ps.length cap)).alloc (.cells #[.int .i64 0, .int .i64 0, .int .i64 0, .int .i64 0, .int .i64 0, .slice none 0 0] 102)) from ((Below.refl _ _).alloc (Nat.le_refl _) _).alloc (by simp) _)
  have HB3 := Lib.hid (fun w1 (hb : Below ((w.alloc (nb N A ps.length cap)).alloc (.cells #[.int .i64 0, .int .i64 0, .int .i64 0, .int .i64 0, .int .i64 0, .slice none 0 0] 102)).heap.size ((w.alloc (nb N A ps.length cap)).alloc (.cells #[.int .i64 0, .int .i64 0, .int .i64 0, .int .i64 0, .int .i64 0, .slice none 0 0] 102)) w1) => (show Below (w.heap.size + 1) (w.alloc (nb N A ps.length cap)) w1 from ((Below.refl _ _).alloc (by simp) _).trans (hb.mono (by simp))))
  have HR0 := Lib.hid (show WRow ((w.alloc (nb N A ps.length cap)).alloc (.cells #[.int .i64 0, .int .i64 0, .int .i64 0, .int .i64 0, .int .i64 0, .slice none 0 0] 102)) (w.heap.size + 1) (bcs 0 ⟨0, 0, 0, 0⟩ (.slice none 0 0)) from by
    have e : w.heap.size + 1 = (w.alloc (nb N A ps.length cap)).heap.size := by simp
    unfold WRow
    rw [e]
    exact heap_alloc_new _ _)
  have hg := (nodeB_of hv).1
  have H := Lib.hid (fun w' (hb : Below w.heap.size w w') => node_v hv A cap w' (h.kept hb (Nat.le_refl _)) hm)
  have H2 := Lib.hid (fun w' (hb : Below w.heap.size w w') => (ht ▸ istree_any N A cap ps w' (h.kept hb (Nat.le_refl _)) hg : Calls Try.prog 115 #[nv N A ps.length cap] w' fun e w'' => e = .returned (.bool false) ∧ Below w'.heap.size w' w''))
  clear h hv ht hg
  go_enter Try.func89, Try.ntmps89
  go_wp2_with (first
    | (go_at_call 110; refine (H.out _ HW0.out).mono ?_; rintro e w1 ⟨rfl, hb1⟩; have HB1 := Lib.hid (HB3.out _ hb1); have HT1 := Lib.hid (HR0.out.kept (hb1.block _ (by simp))); obtain ⟨b0, b1⟩ := box2 HB1.out; have hz1 := HT1.out.lt; have hy1 : w.heap.size < w1.heap.size := (by omega); clear hb1)
    | (go_at_call 115; refine (H2.out _ (below_box HB1.out)).mono ?_; rintro e w2 ⟨rfl, hb2⟩; have HB2 := Lib.hid (on_call HB1.out hb2); have HT2 := Lib.hid (HT1.out.kept (hb2.block _ hz1)); clear b0 b1; obtain ⟨b0, b1⟩ := box2 HB2.out; have hz2 := HT2.out.lt; have hy2 : w.heap.size < w2.heap.size := (by omega))
    | ((with_reducible refine wpB_store rfl _ _ rfl rfl (w.heap.size + 1) rfl 0 ⟨0, 0, 0, 0⟩ none 0 0 rfl 0 ⟨0, 0, 0, 0⟩ none 0 0 HT2.out ?_); intro w7 he7 hg7; refine Hid.out ?_))
  have s0 : w7.cell? ⟨w.heap.size + 1, 0, none⟩ = some (.int .i64 0) := he7.cell 0
  have s1 : w7.cell? ⟨w.heap.size + 1, 1, none⟩ = some (.int .i64 0) := he7.cell 1
  have s2 : w7.cell? ⟨w.heap.size + 1, 2, none⟩ = some (.int .i64 0) := he7.cell 2
  have s3 : w7.cell? ⟨w.heap.size + 1, 3, none⟩ = some (.int .i64 0) := he7.cell 3
  have s4 : w7.cell? ⟨w.heap.size + 1, 4, none⟩ = some (.int .i64 0) := he7.cell 4
  have s5 : w7.cell? ⟨w.heap.size + 1, 5, none⟩ = some (.slice none 0 0) := he7.cell 5
  have HB7 := Lib.hid ((below_box HB2.out).grown hg7 (below_box HB2.out).size (fun g hg => by simp at hg; omega))
  clear hg7 he7
  refine Lib.hid ?_
  go_wp2
  exact bodyPost_ret (v := .tuple #[.agg #[.int .i64 0, .int .i64 0, .int .i64 0, .int .i64 0, .int .i64 0, .slice none 0 0], .bool false]) (by simp [results, Try.results89, go_sem, s0, s1, s2, s3, s4, s5]) rfl ⟨rfl, HB7.out⟩

theorem bk_rows {w : World} {lo G N : Nat} {ps : List Pp} (h : ByNode w lo G (N + 1) ps) : Rows w G N ps := by
  obtain ⟨vs, B, _, hbk⟩ := h
  refine ⟨hbk.row.lt, fun v hv => ?_⟩
  have ho := hbk.own v (by omega)
  have hc := hbk.row.cell (i := v) (by omega)
  rcases Nat.eq_zero_or_pos (rowOf ps v).length with h0 | h0
  · rcases ho.2 with ⟨hn, _⟩ | ⟨g, cap, cur, hn, _⟩
    · exact ⟨none, 0, by rw [hc, hn, h0], .inl (List.length_eq_zero_iff.1 h0)⟩
    · exact ⟨some ⟨g, 0, none⟩, cap, by rw [hc, hn], .inl (List.length_eq_zero_iff.1 h0)⟩
  · obtain ⟨g, cap, hn, _, _⟩ := ho.form h0
    exact ⟨some ⟨g, 0, none⟩, cap, by rw [hc, hn], own_pat (by rw [← hn]; exact ho)⟩

/-- A tree as it lies there. -/
def TfIs (N : Nat) (ps : List Pp) (t : Nat) (w : World) (e : Ending) (w' : World) : Prop :=
  ∃ A c, e = .returned (.tuple #[bv t ⟨0, 0, 0, 0⟩ A (kidsL ps t ⟨0, 0, 0, 0⟩).length c, .bool true]) ∧ RepIn ps (fun b => w.heap.size ≤ b) (N + 1) w' A t ⟨0, 0, 0, 0⟩ ∧ Below w.heap.size w w'
theorem br_root {N : Nat} {ps : List Pp} (hg : P2.Good N ps) {t : Nat} (h1 : 1 ≤ t) (h2 : t ≤ N) : BrOk N ps t ⟨0, 0, 0, 0⟩ :=
  ⟨by omega, by omega, .inr fun h => by have := (good_pp hg h).1; simp at this⟩

set_option maxHeartbeats 2000000 in
set_option maxRecDepth 100000 in
theorem tf_ok {N t : Nat} {ps : List Pp} (hv : nodeB N ps t = true) (ht : treeB N ps = true) (ha : Acy ps) (A : Option Addr) (cap : Nat) (w : World) (h : PAt w A ps) (hm : ps.length ≤ maxLen) :
    Calls Try.prog 89 #[nv N A ps.length cap, .int .i64 (t : Int)] w (TfIs N ps t w) := by
  have HW0 := Lib.hid (show Below w.heap.size w ((w.alloc (nb N A ps.length cap)).alloc (.cells #[.int .i64 0, .int .i64 0, .int .i64 0, .int .i64 0, .int .i64 0, .slice none 0 0] 102)) from ((Below.refl _ _).alloc (Nat.le_refl _) _).alloc (by simp) _)
  have HB3 := Lib.hid (fun w1 (hb : Below ((w.alloc (nb N A ps.length cap)).alloc (.cells #[.int .i64 0, .int .i64 0, .int .i64 0, .int .i64 0, .int .i64 0, .slice none 0 0] 102)).heap.size ((w.alloc (nb N A ps.length cap)).alloc (.cells #[.int .i64 0, .int .i64 0, .int .i64 0, .int .i64 0, .int .i64 0, .slice none 0 0] 102)) w1) => (show Below (w.heap.size + 1) (w.alloc (nb N A ps.length cap)) w1 from ((Below.refl _ _).alloc (by simp) _).trans (hb.mono (by simp))))
  have HR0 := Lib.hid (show WRow ((w.alloc (nb N A ps.length cap)).alloc (.cells #[.int .i64 0, .int .i64 0, .int .i64 0, .int .i64 0, .int .i64 0, .slice none 0 0] 102)) (w.heap.size + 1) (bcs 0 ⟨0, 0, 0, 0⟩ (.slice none 0 0)) from by
    have e : w.heap.size + 1 = (w.alloc (nb N A ps.length cap)).heap.size := by simp
    unfold WRow
    rw [e]
    exact heap_alloc_new _ _)
  obtain ⟨hg, ht1, ht2⟩ := nodeB_of hv
  have H := Lib.hid (fun w' (hb : Below w.heap.size w w') => node_v hv A cap w' (h.kept hb (Nat.le_refl _)) hm)
  have H2 := Lib.hid (fun w' (hb : Below w.heap.size w w') => (ht ▸ istree_any N A cap ps w' (h.kept hb (Nat.le_refl _)) hg : Calls Try.prog 115 #[nv N A ps.length cap] w' fun e w'' => e = .returned (.bool true) ∧ Below w'.heap.size w' w''))
  have H3 := Lib.hid (fun w' (hb : Below w.heap.size w w') => bynode_any N A cap ps w' (h.kept hb (Nat.le_refl _)) hg)
  have H4 := Lib.hid (fun w' G (hr : Rows w' G N ps) => bat_any hg ha G (N + 1) (N + 1) t ⟨0, 0, 0, 0⟩ w' hr (br_root hg (by omega) (by omega)) (cnt_le _ _ _ _))
  clear h hv ht hg ha
  go_enter Try.func89, Try.ntmps89
  go_wp2_with (first
    | (go_at_call 110; refine (H.out _ HW0.out).mono ?_; rintro e w1 ⟨rfl, hb1⟩; have HB1 := Lib.hid (HB3.out _ hb1); have HT1 := Lib.hid (HR0.out.kept (hb1.block _ (by simp))); obtain ⟨b0, b1⟩ := box2 HB1.out; have hz1 := HT1.out.lt; have hy1 : w.heap.size < w1.heap.size := (by omega); clear hb1)
    | (go_at_call 115; refine (H2.out _ (below_box HB1.out)).mono ?_; rintro e w2 ⟨rfl, hb2⟩; have HB2 := Lib.hid (on_call HB1.out hb2); have HT2 := Lib.hid (HT1.out.kept (hb2.block _ hz1)); clear b0 b1; obtain ⟨b0, b1⟩ := box2 HB2.out; have hz2 := HT2.out.lt; have hy2 : w.heap.size < w2.heap.size := (by omega))
    | (go_at_call 112; refine (H3.out _ (below_box HB2.out)).mono ?_; rintro e w3 ⟨⟨G, rfl, hbk⟩, hb3⟩; have HB3' := Lib.hid (on_call HB2.out hb3); have HT3 := Lib.hid (HT2.out.kept (hb3.block _ hz2)); clear b0 b1; obtain ⟨b0, b1⟩ := box2 HB3'.out; have hz3 := HT3.out.lt; have hy3 : w.heap.size < w3.heap.size := (by omega); have HRW := Lib.hid (bk_rows hbk); clear hbk)
    | (go_at_call 116; refine (H4.out _ G HRW.out).mono ?_; rintro e w4 ⟨A4, c4, rfl, hrep4, hb4⟩; have HB4 := Lib.hid (on_call HB3'.out hb4); have HT4 := Lib.hid (HT3.out.kept (hb4.block _ hz3)); have hz4 := HT4.out.lt; have hsz3 := Lib.hid (below_box HB3'.out).size; have HREP := Lib.hid hrep4; clear hrep4 hb4; obtain ⟨m4, hm4⟩ : ∃ m4, (kidsL ps (t : Int) ⟨0, 0, 0, 0⟩).length = m4 := ⟨_, rfl⟩; have HM4 := Lib.hid hm4; rw [hm4]; clear hm4)
    | ((with_reducible refine wpB_store rfl _ _ rfl rfl (w.heap.size + 1) rfl t ⟨0, 0, 0, 0⟩ A4 m4 c4 rfl 0 ⟨0, 0, 0, 0⟩ none 0 0 HT4.out ?_); intro w7 he7 hg7; refine Hid.out ?_))
  have s0 : w7.cell? ⟨w.heap.size + 1, 0, none⟩ = some (.int .i64 (t : Int)) := he7.cell 0
  have s1 : w7.cell? ⟨w.heap.size + 1, 1, none⟩ = some (.int .i64 0) := he7.cell 1
  have s2 : w7.cell? ⟨w.heap.size + 1, 2, none⟩ = some (.int .i64 0) := he7.cell 2
  have s3 : w7.cell? ⟨w.heap.size + 1, 3, none⟩ = some (.int .i64 0) := he7.cell 3
  have s4 : w7.cell? ⟨w.heap.size + 1, 4, none⟩ = some (.int .i64 0) := he7.cell 4
  have s5 : w7.cell? ⟨w.heap.size + 1, 5, none⟩ = some (.slice A4 m4 c4) := he7.cell 5
  have HB7 := Lib.hid ((below_box HB4.out).grown hg7 (below_box HB4.out).size (fun g hg => by simp at hg; omega))
  have HR7 := Lib.hid (RepIn.kept (Q := fun b => w.heap.size ≤ b) (fun b h _ => (show w.heap.size ≤ b by have h' : w3.heap.size ≤ b := h; omega)) (fun b' hp' hlt' => hg7.block b' hlt' (fun e => by have h' : w3.heap.size ≤ b' := hp'; simp at e; omega)) hg7.size _ _ _ _ HREP.out)
  clear hg7 he7
  refine Lib.hid ?_
  go_wp2
  exact bodyPost_ret (v := .tuple #[.agg #[.int .i64 (t : Int), .int .i64 0, .int .i64 0, .int .i64 0, .int .i64 0, .slice A4 m4 c4], .bool true]) (by simp [results, Try.results89, go_sem, s0, s1, s2, s3, s4, s5]) rfl ⟨A4, c4, by rw [HM4.out], HR7.out, HB7.out⟩
end Go.Proofs.Ytpldbakllegheaa.S2
