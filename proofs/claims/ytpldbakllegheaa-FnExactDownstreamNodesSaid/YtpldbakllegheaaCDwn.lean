/- The law FnExactDownstreamNodes holds of the program: for every network, source and Id DownstreamNodes answers as its model, writes into no argument, and its answer owns its memory. Condition: the arguments are laid out as the row says. -/
import Derived.Test.YtpldbakllegheaaTf
import Derived.Test.YtpldbakllegheaaFindOne
import Derived.Test.YtpldbakllegheaaTflP
import Derived.Test.YtpldbakllegheaaEnI
import Derived.Test.YtpldbakllegheaaNetKit
import Derived.Test.YtpldbakllegheaaSortSh
import Derived.Sort.OwnSortedInts
import Derived.Maps.AppendAt
import Derived.Deep.DeepCutAuto
import Derived.Test.YtpldbakllegheaaTflT
import Derived.Test.YtpldbakllegheaaRows
import Derived.Test.YtpldbakllegheaaOpenOne
import Derived.WalkKit
import Derived.ProofKit
import Derived.OpenShut
import Derived.ChangeOld
import Derived.Below
namespace Go.Proofs.Ytpldbakllegheaa.S2
open Go.RowKit P2

set_option maxHeartbeats 2000000 in
set_option maxRecDepth 100000 in
theorem idn_tf (n : Int) (A : Option Addr) (cap : Nat) (ps : List Pp) (x y : Int) (w : World) (hT : ∀ w', Below w.heap.size w w' → Calls Try.prog 89 #[nv n A ps.length cap, .int .i64 x] w' fun e w'' => e = .returned (.tuple #[bv 0 ⟨0, 0, 0, 0⟩ none 0 0, .bool false]) ∧ Below w'.heap.size w' w'') :
    Calls Try.prog 42 #[nv n A ps.length cap, .int .i64 x, .int .i64 y] w (GivesI w [] false) := by
  have H := Lib.hid hT
  clear hT
  go_enter Try.func42, Try.ntmps42
  go_wp2_with (go_at_call 89; refine (H.out _ ((Below.refl _ _).alloc (Nat.le_refl _) _)).mono ?_; rintro e w1 ⟨rfl, hb1⟩; have hB1 := Lib.hid (((Below.refl w.heap.size w).alloc (Nat.le_refl _) (nb n A ps.length cap)).trans (hb1.mono (by simp))); clear hb1)
  go_ret2
  have h9 := gives_none (hB1.out.alloc hB1.out.size (.cells #[.int .i64 0, .int .i64 0, .int .i64 0, .int .i64 0, .int .i64 0, .slice none 0 0] 102))
  rw [show (w1.alloc (.cells #[.int .i64 0, .int .i64 0, .int .i64 0, .int .i64 0, .int .i64 0, .slice none 0 0] 102)).heap.size = w1.heap.size + 1 from by simp] at h9
  exact h9

set_option maxHeartbeats 2000000 in
set_option maxRecDepth 100000 in
theorem idn_none (N t : Nat) (A : Option Addr) (cap : Nat) (ps : List Pp) (y : Int) (w : World) (h : PAt w A ps) (hg : P2.Good N ps) (hf : FindIs ps y (-1)) (hT : ∀ w', Below w.heap.size w w' → Calls Try.prog 89 #[nv N A ps.length cap, .int .i64 (t : Int)] w' (TfIs N ps t w')) :
    Calls Try.prog 42 #[nv N A ps.length cap, .int .i64 (t : Int), .int .i64 y] w (GivesI w [] false) := by
  have H := Lib.hid hT
  have H2 := Lib.hid (fun w' (hb : Below w.heap.size w w') => place_any N A cap ps y w' (h.kept hb (Nat.le_refl _)) hg)
  have HP := Lib.hid (fun (i : Nat) (f : Bool) (hp : Place ps y i f) => (show f = false from by
    cases f with
    | false => rfl
    | true => have := ((place_find (good_ids hg) hp hf).1 rfl).1; omega))
  clear hT h hf hg
  go_enter Try.func42, Try.ntmps42
  go_wp2_with (first
    | (go_at_call 89; refine (H.out _ ((Below.refl _ _).alloc (Nat.le_refl _) _)).mono ?_; rintro e w1 ⟨A4, c4, rfl, hrep, hb1⟩; have HB1 := Lib.hid (show Below (w.heap.size + 1) (w.alloc (nb N A ps.length cap)) w1 from by simpa using hb1); clear hb1 hrep; obtain ⟨b0, b1⟩ := box2 HB1.out; have hy1 : w.heap.size < w1.heap.size := box_lt HB1.out; generalize (kidsL ps (t : Int) ⟨0, 0, 0, 0⟩).length = m4)
    | (go_at_call 58; refine (H2.out _ ((below_box HB1.out).alloc (below_box HB1.out).size _)).mono ?_; rintro e w2 ⟨⟨i, f, rfl, hp⟩, hb2⟩; obtain rfl := HP.out i f hp; have HB2 := Lib.hid (((below_box HB1.out).alloc (below_box HB1.out).size (.cells #[.int .i64 (t : Int), .int .i64 0, .int .i64 0, .int .i64 0, .int .i64 0, .slice A4 m4 c4] 102)).trans (hb2.mono (by have := (below_box HB1.out).size; simp; omega)))))
  go_ret2
  exact gives_none HB2.out
end Go.Proofs.Ytpldbakllegheaa.S2

namespace Go.Proofs.Ytpldbakllegheaa.S2
open Go.RowKit P2

theorem sort_own {w : World} {B g c : Nat} {l : List Int} (h : IOwn w B (.slice (some ⟨g, 0, none⟩) l.length c) l) (hl : l.length ≤ 1000) :
    Calls Try.prog 94 #[.slice (some ⟨g, 0, none⟩) l.length c] w fun e w' => e = .returned (.tuple #[]) ∧ w'.ownsRow B 3 1 (.slice (some ⟨g, 0, none⟩) l.length c) l.length ((l.mergeSort fun x y => decide (x ≤ y)).map iv) ∧ w.grownBy w' (some g) := by
  rcases h.2 with ⟨h0, _⟩ | ⟨g', c', cur, hv, hbase, hheap, hn, hcap, hsz, htake⟩
  · cases h0
  · have e1 : g' = g ∧ c' = c := by
      have := hv
      simp only [Value.slice.injEq, Option.some.injEq, Addr.mk.injEq, and_true, true_and] at this
      exact ⟨this.1.symm, this.2.symm⟩
    obtain ⟨rfl, rfl⟩ := e1
    rw [Nat.mul_one] at htake
    refine (Try.slices_Sort_int g' 0 c' l w (holds_of_blockI hheap htake) (Array.getElem?_eq_some_iff.1 hheap).1 (by omega)).mono ?_
    rintro e w' ⟨he, n, os, rfl⟩
    exact ⟨he, ownsRow_sortedI (ts := l.mergeSort fun x y => decide (x ≤ y)) (List.length_mergeSort l) hbase hheap hn hcap hsz, grownBy_sortedI _⟩
/-- Sorted, the nodes behind a pipe are the nodes in order. -/
theorem sort_dn {l m : List Int} (hp : l.Perm m) (hm : m.Pairwise (· < ·)) : l.mergeSort (fun x y => decide (x ≤ y)) = m := by
  have h1 : (l.mergeSort (fun x y => decide (x ≤ y))).Perm m := (List.mergeSort_perm l _).trans hp
  have h2 : (l.mergeSort (fun x y => decide (x ≤ y))).Pairwise (fun a b => decide (a ≤ b) = true) := List.pairwise_mergeSort (fun a b c h1 h2 => by simp at h1 h2 ⊢; omega) (fun a b => by simp; omega) l
  have hnd : (l.mergeSort (fun x y => decide (x ≤ y))).Nodup := h1.nodup_iff.2 (hm.imp (fun h => by omega))
  have h3 : (l.mergeSort (fun x y => decide (x ≤ y))).Pairwise (· < ·) := by
    have := h2.and hnd
    exact this.imp (fun ⟨a, b⟩ => by simp at a; omega)
  exact sorted_ext _ _ h3 hm (fun y => h1.mem_iff)

/-- The branch behind a pipe, in a box. -/
def DnC (ps : List Pp) (N : Nat) (w2 wx : World) (z : Int) (p : Pp) (s : Value) : Prop :=
  ∃ T A5 c5 d5, s = .pointer (some ⟨T, 0, none⟩) ∧ BC wx T 0 z p (.slice A5 (kidsL ps z p).length c5) ∧ BrOk N ps z p ∧ cntB N ps z p ≤ d5 ∧ RepIn ps (fun b => b < w2.heap.size) d5 wx A5 z p ∧ w2.heap.size ≤ T ∧ T < wx.heap.size ∧ Below w2.heap.size w2 wx
theorem dnc_a {ps : List Pp} {N : Nat} {w2 w5 : World} {z : Int} {p : Pp} {A5 : Option Addr} {c5 d5 m5 : Nat} (hB : Below w2.heap.size w2 w5) (hbo : BrOk N ps z p) (hcd : cntB N ps z p ≤ d5) (hm5 : (kidsL ps z p).length = m5) (hr : RepIn ps (fun b => b < w2.heap.size) d5 w5 A5 z p) :
    DnC ps N w2 (w5.alloc (.cells #[.int .i64 z, .int .i64 p.id, .int .i64 p.fr, .int .i64 p.to, .int .i64 p.sz, .slice A5 m5 c5] 102)) z p (.pointer (some ⟨w5.heap.size, 0, none⟩)) :=
  ⟨w5.heap.size, A5, c5, d5, rfl, ⟨cells_new6 w5 _ _ _ _ _ _ _ 0 _ rfl, cells_new6 w5 _ _ _ _ _ _ _ 1 _ rfl, cells_new6 w5 _ _ _ _ _ _ _ 2 _ rfl, cells_new6 w5 _ _ _ _ _ _ _ 3 _ rfl, cells_new6 w5 _ _ _ _ _ _ _ 4 _ rfl, by rw [hm5]; exact cells_new6 w5 _ _ _ _ _ _ _ 5 _ rfl⟩, hbo, hcd, hr.below (alloc_belowE w5 _), hB.size, by simp, hB.alloc hB.size _⟩
theorem row6 {w : World} {T : Nat} {t : TypeId} {a0 a1 a2 a3 a4 a5 : Value} (v0 v1 v2 v3 v4 v5 : Value) (h0 : w.heap[T]? = some (.cells #[a0, a1, a2, a3, a4, a5] t (0, 0))) :
    ((((((w.setCell ⟨T, 0, none⟩ v0).setCell ⟨T, 1, none⟩ v1).setCell ⟨T, 2, none⟩ v2).setCell ⟨T, 3, none⟩ v3).setCell ⟨T, 4, none⟩ v4).setCell ⟨T, 5, none⟩ v5).heap[T]? = some (.cells #[v0, v1, v2, v3, v4, v5] t (0, 0)) ∧
    w.grownBy ((((((w.setCell ⟨T, 0, none⟩ v0).setCell ⟨T, 1, none⟩ v1).setCell ⟨T, 2, none⟩ v2).setCell ⟨T, 3, none⟩ v3).setCell ⟨T, 4, none⟩ v4).setCell ⟨T, 5, none⟩ v5) (some T) := by
  have h1 : (w.setCell ⟨T, 0, none⟩ v0).heap[T]? = some (.cells #[v0, a1, a2, a3, a4, a5] t (0, 0)) := heap_setCell_same w T 0 _ _ v0 h0
  have g1 := setCell_off w T 0 v0
  generalize w.setCell ⟨T, 0, none⟩ v0 = w1 at *
  have h2 : (w1.setCell ⟨T, 1, none⟩ v1).heap[T]? = some (.cells #[v0, v1, a2, a3, a4, a5] t (0, 0)) := heap_setCell_same w1 T 1 _ _ v1 h1
  have g2 := g1.trans (setCell_off w1 T 1 v1)
  generalize w1.setCell ⟨T, 1, none⟩ v1 = w2 at *
  have h3 : (w2.setCell ⟨T, 2, none⟩ v2).heap[T]? = some (.cells #[v0, v1, v2, a3, a4, a5] t (0, 0)) := heap_setCell_same w2 T 2 _ _ v2 h2
  have g3 := g2.trans (setCell_off w2 T 2 v2)
  generalize w2.setCell ⟨T, 2, none⟩ v2 = w3 at *
  have h4 : (w3.setCell ⟨T, 3, none⟩ v3).heap[T]? = some (.cells #[v0, v1, v2, v3, a4, a5] t (0, 0)) := heap_setCell_same w3 T 3 _ _ v3 h3
  have g4 := g3.trans (setCell_off w3 T 3 v3)
  generalize w3.setCell ⟨T, 3, none⟩ v3 = w4 at *
  have h5 : (w4.setCell ⟨T, 4, none⟩ v4).heap[T]? = some (.cells #[v0, v1, v2, v3, v4, a5] t (0, 0)) := heap_setCell_same w4 T 4 _ _ v4 h4
  have g5 := g4.trans (setCell_off w4 T 4 v4)
  generalize w4.setCell ⟨T, 4, none⟩ v4 = w5 at *
  exact ⟨heap_setCell_same w5 T 5 _ _ v5 h5, g5.trans (setCell_off w5 T 5 v5)⟩
theorem dnc_w {ps : List Pp} {N T : Nat} {w2 w5 W : World} {z : Int} {p : Pp} {A5 : Option Addr} {c5 d5 m5 : Nat} (hB : Below w2.heap.size w2 w5) (hT : w2.heap.size ≤ T) (hT2 : T < w5.heap.size) (h6 : W.heap[T]? = some (.cells #[.int .i64 z, .int .i64 p.id, .int .i64 p.fr, .int .i64 p.to, .int .i64 p.sz, .slice A5 m5 c5] 102 (0, 0))) (g : w5.grownBy W (some T)) (hbo : BrOk N ps z p) (hcd : cntB N ps z p ≤ d5) (hm5 : (kidsL ps z p).length = m5) (hr : RepIn ps (fun b => b < w2.heap.size) d5 w5 A5 z p) :
    DnC ps N w2 W z p (.pointer (some ⟨T, 0, none⟩)) := by
  refine ⟨T, A5, c5, d5, rfl, ⟨?_, ?_, ?_, ?_, ?_, ?_⟩, hbo, hcd, RepIn.kept (fun _ h _ => h) (fun b' hp' hlt' => g.block b' hlt' (fun e => by have h' : b' < w2.heap.size := hp'; simp at e; omega)) g.size _ _ _ _ hr, hT, Nat.lt_of_lt_of_le hT2 g.size, hB.grown g hB.size (fun y hy => by simp at hy; omega)⟩
  · exact cell_of_row W T 0 _ _ _ h6
  · exact cell_of_row W T 1 _ _ _ h6
  · exact cell_of_row W T 2 _ _ _ h6
  · exact cell_of_row W T 3 _ _ _ h6
  · exact cell_of_row W T 4 _ _ _ h6
  · rw [hm5]; exact cell_of_row W T 5 _ _ _ h6

set_option maxHeartbeats 800000 in
set_option maxRecDepth 100000 in
theorem idn_yes (N t i : Nat) (A : Option Addr) (cap : Nat) (ps : List Pp) (y : Int) (w : World) (h : PAt w A ps) (hm : ps.length ≤ maxLen) (hn : nodeB N ps t = true) (ht : treeB N ps = true) (hi : i < ps.length) (hf : FindIs ps y i) :
    Calls Try.prog 42 #[nv N A ps.length cap, .int .i64 (t : Int), .int .i64 y] w (GivesI w (dnL N ps (pAt ps i) t) true) := by
  obtain ⟨hg, ht1, ht2⟩ := nodeB_of hn
  have hl10 := hg.2.2.1
  have hN8 := hg.2.1
  have ha := (tree_full hg ht).1
  have H := Lib.hid (fun w' (hb : Below w.heap.size w w') => tf_ok hn ht ha A cap w' (h.kept hb (Nat.le_refl _)) hm)
  have H2 := Lib.hid (fun w' (hb : Below w.heap.size w w') => place_any N A cap ps y w' (h.kept hb (Nat.le_refl _)) hg)
  have HP := Lib.hid (fun (j : Nat) (f : Bool) (hp : Place ps y j f) => (show f = true ∧ j = i from by
    cases f with
    | false => have := (place_find (good_ids hg) hp hf).2 rfl; omega
    | true => have := ((place_find (good_ids hg) hp hf).1 rfl).1; exact ⟨rfl, by omega⟩))
  have HA := Lib.hid (fun w' (hb : Below w.heap.size w w') => (h.kept hb (Nat.le_refl _)).at_ hi)
  obtain ⟨z, hfy, hy12, hyb, hys, hyp⟩ := far_end (t := t) hg ht (by omega) (by omega) (pAt_mem hi)
  have HBB := Lib.hid (fun (B : Nat) (p0 : Pp) (A : Option Addr) (cap : Nat) (w : World) (hB : B ≤ w.heap.size) (hr : RepIn ps (fun b => b < B) (N + 1) w A t ⟨0, 0, 0, 0⟩) => bbeh_any (fun b => b < B) B (fun _ h => h) hg ha p0 (N + 1) t ⟨0, 0, 0, 0⟩ A cap w hB (br_root hg (by omega) (by omega)) (cnt_le _ _ _ _) hr)
  have HBN := Lib.hid (fun (B d : Nat) (x : Int) (q : Pp) (A : Option Addr) (cap : Nat) (w : World) => bnodes_any ps (fun b => b < B) hl10 d x q A cap w)
  have HYP := Lib.hid hyp
  have HFY := Lib.hid hfy
  have HDN := Lib.hid (dn_len N ps (pAt ps i) t)
  have HDS := Lib.hid (dn_sorted N ps (pAt ps i) t)
  have hin : (i : Int) < (ps.length : Int) := by omega
  have hi0 : (0 : Int) ≤ (i : Int) := by omega
  clear h hm hn ht hg ha hf hfy hy12 hyb hys hyp
  generalize dnL N ps (pAt ps i) t = DL at *
  generalize pAt ps i = p at *
  go_enter Try.func42, Try.ntmps42
  go_wp2_with (first
    | (go_at_call 89; refine (H.out _ ((Below.refl _ _).alloc (Nat.le_refl _) _)).mono ?_; rintro e w1 ⟨A4, c4, rfl, hrep, hb1⟩; have HB1 := Lib.hid (show Below (w.heap.size + 1) (w.alloc (nb N A ps.length cap)) w1 from by simpa using hb1); have HREP1 := Lib.hid hrep; clear hb1 hrep; obtain ⟨b0, b1⟩ := box2 HB1.out; have hy1 : w.heap.size < w1.heap.size := box_lt HB1.out; obtain ⟨m4, hm4⟩ : ∃ m4, (kidsL ps (t : Int) ⟨0, 0, 0, 0⟩).length = m4 := ⟨_, rfl⟩; rw [hm4] at HBB; rw [hm4]; clear hm4)
    | (go_at_call 58; refine (H2.out _ ((below_box HB1.out).alloc (below_box HB1.out).size _)).mono ?_; rintro e w2 ⟨⟨j', f', rfl, hp'⟩, hb2⟩; obtain ⟨rfl, rfl⟩ := HP.out j' f' hp'; refine Hid.out ?_))
  have hab1 := alloc_belowE w1 (.cells #[.int .i64 (t : Int), .int .i64 0, .int .i64 0, .int .i64 0, .int .i64 0, .slice A4 m4 c4] 102)
  have hb12 : Below w1.heap.size w1 w2 := hab1.trans (hb2.mono (by simp))
  have HX2 := Lib.hid (on_call HB1.out hb12)
  have HB2 := Lib.hid (below_box HX2.out)
  have hz12 : w1.heap.size < w2.heap.size := by have := hb2.size; simp at this; omega
  have HT2 : Hid (BC w2 w1.heap.size 0 t ⟨0, 0, 0, 0⟩ (.slice A4 m4 c4)) := Lib.hid (by
    have hz : w1.heap.size < (w1.alloc (.cells #[.int .i64 (t : Int), .int .i64 0, .int .i64 0, .int .i64 0, .int .i64 0, .slice A4 m4 c4] 102)).heap.size := by simp
    exact ⟨(hb2.cell (p := ⟨w1.heap.size, 0, none⟩) hz).trans (cells_new6 w1 _ _ _ _ _ _ _ 0 _ rfl), (hb2.cell (p := ⟨w1.heap.size, 1, none⟩) hz).trans (cells_new6 w1 _ _ _ _ _ _ _ 1 _ rfl), (hb2.cell (p := ⟨w1.heap.size, 2, none⟩) hz).trans (cells_new6 w1 _ _ _ _ _ _ _ 2 _ rfl), (hb2.cell (p := ⟨w1.heap.size, 3, none⟩) hz).trans (cells_new6 w1 _ _ _ _ _ _ _ 3 _ rfl), (hb2.cell (p := ⟨w1.heap.size, 4, none⟩) hz).trans (cells_new6 w1 _ _ _ _ _ _ _ 4 _ rfl), (hb2.cell (p := ⟨w1.heap.size, 5, none⟩) hz).trans (cells_new6 w1 _ _ _ _ _ _ _ 5 _ rfl)⟩)
  have HREP2 := Lib.hid (RepIn.kept (Q := fun b => b < w2.heap.size) (fun b _ hlt => (show b < w2.heap.size by omega)) (fun b _ hlt => hb12.block b hlt) hb12.size _ _ _ _ HREP1.out)
  have HRPK := Lib.hid (fun w' (hb : Below w2.heap.size w2 w') => HREP2.out.below hb)
  clear b0 b1
  obtain ⟨b0, b1⟩ := box2 HX2.out
  have hy2 := box_lt HX2.out
  obtain ⟨t0, t1, t2, t3, t4, t5⟩ := HT2.out
  obtain ⟨b, off, hA, hbl, p0, p1, p2, p3⟩ := HA.out _ HB2.out
  subst hA
  clear hab1 hb12 hb2 HB1 HREP1 H H2 hp'
  refine Lib.hid ?_
  go_wp2
  go_upto_region 7 with (fail)
  go_cut [12] (fun s wx => DnC ps N w2 wx z p s)
  case first =>
    refine wp_region_held_drew (S := fun w' => w'.cell? ⟨w.heap.size, 1, none⟩ = some (.slice (some ⟨b, off, none⟩) ps.length cap) ∧ w'.cell? ⟨w1.heap.size, 0, none⟩ = some (.int .i64 (t : Int)) ∧ w'.cell? ⟨w1.heap.size, 1, none⟩ = some (.int .i64 0) ∧ w'.cell? ⟨w1.heap.size, 2, none⟩ = some (.int .i64 0) ∧ w'.cell? ⟨w1.heap.size, 3, none⟩ = some (.int .i64 0) ∧ w'.cell? ⟨w1.heap.size, 4, none⟩ = some (.int .i64 0) ∧ w'.cell? ⟨w1.heap.size, 5, none⟩ = some (.slice A4 m4 c4) ∧ w'.cell? ⟨b, off + j' * 4, none⟩ = some (.int .i64 p.id) ∧ w'.cell? ⟨b, off + j' * 4 + 1, none⟩ = some (.int .i64 p.fr) ∧ w'.cell? ⟨b, off + j' * 4 + 2, none⟩ = some (.int .i64 p.to) ∧ w'.cell? ⟨b, off + j' * 4 + 3, none⟩ = some (.int .i64 p.sz)) (by kernel_rfl) (by go_keep) (fun hHeld => ?_)
    refine wpAnyH_take (i := 0) (v := bv (t : Int) ⟨0, 0, 0, 0⟩ A4 m4 c4) rfl (by kernel_rfl) (by kernel_rfl) (by kernel_rfl) (fun _ _ _ h => h) (Or.inl ⟨by rfl, ?_⟩) (by assumption) ?_
    · (intro w hSw; (try dsimp only at hSw); go_simp)
    simp only [Act.put, List.setIfInBounds_toArray]
    refine wpAnyH_take (i := 1) (v := .pointer (some ⟨w.heap.size, 1, none⟩)) rfl (by kernel_rfl) (by kernel_rfl) (by kernel_rfl) (fun _ _ _ h => h) (Or.inl ⟨by rfl, ?_⟩) (by assumption) ?_
    · (intro w hSw; (try dsimp only at hSw); go_simp)
    simp only [Act.put]
    refine wpAnyH_take (i := 2) (v := .slice (some ⟨b, off, none⟩) ps.length cap) rfl (by kernel_rfl) (by kernel_rfl) (by kernel_rfl) (fun _ _ _ h => h) (Or.inl ⟨by rfl, ?_⟩) (by assumption) ?_
    · (intro w hSw; (try dsimp only at hSw); go_simp)
    simp only [Act.put]
    refine wpAnyH_take (i := 3) (v := .int .i64 (j' : Int)) rfl (by kernel_rfl) (by kernel_rfl) (by kernel_rfl) (fun _ _ _ h => h) (Or.inl ⟨by rfl, ?_⟩) (by assumption) ?_
    · (intro w hSw; (try dsimp only at hSw); go_simp)
    simp only [Act.put]
    refine wpAnyH_take (i := 4) (v := .pointer (some ⟨b, off + j' * 4, none⟩)) rfl (by kernel_rfl) (by kernel_rfl) (by kernel_rfl) (fun _ _ _ h => h) (Or.inl ⟨by rfl, ?_⟩) (by assumption) ?_
    · (intro w hSw; (try dsimp only at hSw); go_simp)
    simp only [Act.put]
    refine wpAnyH_take (i := 5) (v := pv p) rfl (by kernel_rfl) (by kernel_rfl) (by kernel_rfl) (fun _ _ _ h => h) (Or.inl ⟨by rfl, ?_⟩) (by assumption) ?_
    · (intro w hSw; (try dsimp only at hSw); go_simp)
    simp only [Act.put]
    refine wpAnyH_ready (rs := [6, 10]) (by kernel_rfl) (by simp) ?_
    refine AllReadyH.cons rfl (fun K hK => ?_) (AllReadyH.cons rfl (fun K hK => ?_) AllReadyH.nil)
    · go_simp
      go_at_call 91
      refine (HBB.out w2.heap.size p A4 c4 _ (by simp) (HRPK.out _ (Below.refl w2.heap.size w2).drew)).mono ?_
      rintro e w5 ⟨hbe, hb5⟩
      rw [HFY.out] at hbe
      obtain ⟨A5, c5, d5, rfl, hbo, hcd, hrep5⟩ := beh_some hbe
      obtain ⟨m5, hm5⟩ : ∃ m5, (kidsL ps z p).length = m5 := ⟨_, rfl⟩
      rw [hm5]
      have hB25 := Lib.hid ((Below.refl w2.heap.size w2).drew.trans (hb5.mono (by simp)))
      refine hK.out _ _ (by (rcases hHeld with ⟨q0, q1, q2, q3, q4, q5, q6, q7, q8, q9, q10⟩; exact ⟨(hb5.cell (p := ⟨w.heap.size, 1, none⟩) (by simp <;> omega)).trans q0, (hb5.cell (p := ⟨w1.heap.size, 0, none⟩) (by simp <;> omega)).trans q1, (hb5.cell (p := ⟨w1.heap.size, 1, none⟩) (by simp <;> omega)).trans q2, (hb5.cell (p := ⟨w1.heap.size, 2, none⟩) (by simp <;> omega)).trans q3, (hb5.cell (p := ⟨w1.heap.size, 3, none⟩) (by simp <;> omega)).trans q4, (hb5.cell (p := ⟨w1.heap.size, 4, none⟩) (by simp <;> omega)).trans q5, (hb5.cell (p := ⟨w1.heap.size, 5, none⟩) (by simp <;> omega)).trans q6, (hb5.cell (p := ⟨b, off + j' * 4, none⟩) (by simp <;> omega)).trans q7, (hb5.cell (p := ⟨b, off + j' * 4 + 1, none⟩) (by simp <;> omega)).trans q8, (hb5.cell (p := ⟨b, off + j' * 4 + 2, none⟩) (by simp <;> omega)).trans q9, (hb5.cell (p := ⟨b, off + j' * 4 + 3, none⟩) (by simp <;> omega)).trans q10⟩)) (fun hHeld => ?_)
      clear hK K hb5
      refine wpAnyH_take (i := 7) (v := .tuple #[bv z p A5 m5 c5, .bool true]) rfl (by kernel_rfl) (by kernel_rfl) (by kernel_rfl) (fun _ _ _ h => h) (Or.inl ⟨by rfl, ?_⟩) (by assumption) ?_
      · (intro w hSw; (try dsimp only at hSw); go_simp)
      simp only [Act.put]
      refine wpAnyH_take (i := 8) (v := bv z p A5 m5 c5) rfl (by kernel_rfl) (by kernel_rfl) (by kernel_rfl) (fun _ _ _ h => h) (Or.inl ⟨by rfl, ?_⟩) (by assumption) ?_
      · (intro w hSw; (try dsimp only at hSw); go_simp)
      simp only [Act.put]
      refine wpAnyH_take (i := 9) (v := .bool true) rfl (by kernel_rfl) (by kernel_rfl) (by kernel_rfl) (fun _ _ _ h => h) (Or.inl ⟨by rfl, ?_⟩) (by assumption) ?_
      · (intro w hSw; (try dsimp only at hSw); go_simp)
      simp only [Act.put]
      refine wpAnyH_ready (rs := [10]) (by kernel_rfl) (by simp) ?_
      refine AllReadyH.cons rfl (fun K hK => ?_) AllReadyH.nil
      go_simp
      refine hK.out _ _ (by first | assumption | go_keep) (fun hHeld => ?_)
      clear hK K
      refine wpAnyH_ready (rs := [11]) (by kernel_rfl) (by simp) ?_
      refine AllReadyH.cons rfl (fun K hK => ?_) AllReadyH.nil
      go_simp
      refine hK.out _ _ (by first | assumption | go_keep) (fun hHeld => ?_)
      clear hK K
      refine wpAnyH_ready (rs := [12]) (by kernel_rfl) (by simp) ?_
      refine AllReadyH.cons rfl (fun K hK => ?_) AllReadyH.nil
      go_simp
      refine hK.out _ _ (by first | assumption | go_keep) (fun hHeld => ?_)
      clear hK K
      refine wpAnyH_done (by kernel_rfl) ?_ _
      go_wp2_with fail
      go_meet
      exact dnc_a hB25.out hbo hcd hm5 hrep5
    · go_simp
      refine hK.out _ _ (by first | assumption | go_keep) (fun hHeld => ?_)
      clear hK K
      refine wpAnyH_ready (rs := [6]) (by kernel_rfl) (by simp) ?_
      refine AllReadyH.cons rfl (fun K hK => ?_) AllReadyH.nil
      go_simp
      go_at_call 91
      refine (HBB.out w2.heap.size p A4 c4 _ (by simp) (HRPK.out _ ((Below.refl w2.heap.size w2).alloc (Nat.le_refl _) (.cells #[.int .i64 0, .int .i64 0, .int .i64 0, .int .i64 0, .int .i64 0, .slice none 0 0] 102)).drew)).mono ?_
      rintro e w5 ⟨hbe, hb5⟩
      rw [HFY.out] at hbe
      obtain ⟨A5, c5, d5, rfl, hbo, hcd, hrep5⟩ := beh_some hbe
      obtain ⟨m5, hm5⟩ : ∃ m5, (kidsL ps z p).length = m5 := ⟨_, rfl⟩
      rw [hm5]
      have hB25 := Lib.hid (((Below.refl w2.heap.size w2).alloc (Nat.le_refl _) (.cells #[.int .i64 0, .int .i64 0, .int .i64 0, .int .i64 0, .int .i64 0, .slice none 0 0] 102)).drew.trans (hb5.mono (by simp)))
      have hwr : w5.heap[w2.heap.size]? = some (.cells #[.int .i64 0, .int .i64 0, .int .i64 0, .int .i64 0, .int .i64 0, .slice none 0 0] 102 (0, 0)) := (hb5.block w2.heap.size (by simp)).trans (heap_alloc_new w2 _)
      have e0 : w5.cell? ⟨w2.heap.size, 0, none⟩ = some (.int .i64 0) := cell_of_row w5 w2.heap.size 0 _ _ _ hwr
      have e1 : w5.cell? ⟨w2.heap.size, 1, none⟩ = some (.int .i64 0) := cell_of_row w5 w2.heap.size 1 _ _ _ hwr
      have e2 : w5.cell? ⟨w2.heap.size, 2, none⟩ = some (.int .i64 0) := cell_of_row w5 w2.heap.size 2 _ _ _ hwr
      have e3 : w5.cell? ⟨w2.heap.size, 3, none⟩ = some (.int .i64 0) := cell_of_row w5 w2.heap.size 3 _ _ _ hwr
      have e4 : w5.cell? ⟨w2.heap.size, 4, none⟩ = some (.int .i64 0) := cell_of_row w5 w2.heap.size 4 _ _ _ hwr
      have e5 : w5.cell? ⟨w2.heap.size, 5, none⟩ = some (.slice none 0 0) := cell_of_row w5 w2.heap.size 5 _ _ _ hwr
      have f0 : w5.frozen? ⟨w2.heap.size, 0, none⟩ = false := by simp [World.frozen?, hwr]
      have f1 : w5.frozen? ⟨w2.heap.size, 1, none⟩ = false := by simp [World.frozen?, hwr]
      have f2 : w5.frozen? ⟨w2.heap.size, 2, none⟩ = false := by simp [World.frozen?, hwr]
      have f3 : w5.frozen? ⟨w2.heap.size, 3, none⟩ = false := by simp [World.frozen?, hwr]
      have f4 : w5.frozen? ⟨w2.heap.size, 4, none⟩ = false := by simp [World.frozen?, hwr]
      have f5 : w5.frozen? ⟨w2.heap.size, 5, none⟩ = false := by simp [World.frozen?, hwr]
      have HWR := Lib.hid hwr
      have hsz5 : w2.heap.size < w5.heap.size := (Array.getElem?_eq_some_iff.1 hwr).1
      clear hwr
      refine hK.out _ _ (by (rcases hHeld with ⟨q0, q1, q2, q3, q4, q5, q6, q7, q8, q9, q10⟩; exact ⟨(hb5.cell (p := ⟨w.heap.size, 1, none⟩) (by simp <;> omega)).trans q0, (hb5.cell (p := ⟨w1.heap.size, 0, none⟩) (by simp <;> omega)).trans q1, (hb5.cell (p := ⟨w1.heap.size, 1, none⟩) (by simp <;> omega)).trans q2, (hb5.cell (p := ⟨w1.heap.size, 2, none⟩) (by simp <;> omega)).trans q3, (hb5.cell (p := ⟨w1.heap.size, 3, none⟩) (by simp <;> omega)).trans q4, (hb5.cell (p := ⟨w1.heap.size, 4, none⟩) (by simp <;> omega)).trans q5, (hb5.cell (p := ⟨w1.heap.size, 5, none⟩) (by simp <;> omega)).trans q6, (hb5.cell (p := ⟨b, off + j' * 4, none⟩) (by simp <;> omega)).trans q7, (hb5.cell (p := ⟨b, off + j' * 4 + 1, none⟩) (by simp <;> omega)).trans q8, (hb5.cell (p := ⟨b, off + j' * 4 + 2, none⟩) (by simp <;> omega)).trans q9, (hb5.cell (p := ⟨b, off + j' * 4 + 3, none⟩) (by simp <;> omega)).trans q10⟩)) (fun hHeld => ?_)
      clear hK K hb5
      have hx5 := hB25.out.size
      have hn1 : w.heap.size ≠ w2.heap.size := by omega
      have hn1b : w2.heap.size ≠ w.heap.size := by omega
      have hn2 : w1.heap.size ≠ w2.heap.size := by omega
      have hn2b : w2.heap.size ≠ w1.heap.size := by omega
      have hn3 : b ≠ w2.heap.size := by omega
      have hn3b : w2.heap.size ≠ b := by omega
      refine wpAnyH_take (i := 7) (v := .tuple #[bv z p A5 m5 c5, .bool true]) rfl (by kernel_rfl) (by kernel_rfl) (by kernel_rfl) (fun _ _ _ h => h) (Or.inl ⟨by rfl, ?_⟩) (by assumption) ?_
      · (intro w hSw; (try dsimp only at hSw); go_simp)
      simp only [Act.put]
      refine wpAnyH_take (i := 8) (v := bv z p A5 m5 c5) rfl (by kernel_rfl) (by kernel_rfl) (by kernel_rfl) (fun _ _ _ h => h) (Or.inl ⟨by rfl, ?_⟩) (by assumption) ?_
      · (intro w hSw; (try dsimp only at hSw); go_simp)
      simp only [Act.put]
      refine wpAnyH_take (i := 9) (v := .bool true) rfl (by kernel_rfl) (by kernel_rfl) (by kernel_rfl) (fun _ _ _ h => h) (Or.inl ⟨by rfl, ?_⟩) (by assumption) ?_
      · (intro w hSw; (try dsimp only at hSw); go_simp)
      simp only [Act.put]
      have h66 := row6 (.int .i64 z) (.int .i64 p.id) (.int .i64 p.fr) (.int .i64 p.to) (.int .i64 p.sz) (.slice A5 m5 c5) HWR.out
      have g66 := Lib.hid h66.2
      have h67 := Lib.hid h66.1
      clear h66
      refine wpAnyH_ready (rs := [11]) (by kernel_rfl) (by simp) ?_
      refine AllReadyH.cons rfl (fun K hK => ?_) AllReadyH.nil
      go_simp
      refine hK.out _ _ (by (rcases hHeld with ⟨q0, q1, q2, q3, q4, q5, q6, q7, q8, q9, q10⟩; exact ⟨(g66.out.cell_far ⟨w.heap.size, 1, none⟩ (by dsimp only; omega) (by simp; omega)).trans q0, (g66.out.cell_far ⟨w1.heap.size, 0, none⟩ (by dsimp only; omega) (by simp; omega)).trans q1, (g66.out.cell_far ⟨w1.heap.size, 1, none⟩ (by dsimp only; omega) (by simp; omega)).trans q2, (g66.out.cell_far ⟨w1.heap.size, 2, none⟩ (by dsimp only; omega) (by simp; omega)).trans q3, (g66.out.cell_far ⟨w1.heap.size, 3, none⟩ (by dsimp only; omega) (by simp; omega)).trans q4, (g66.out.cell_far ⟨w1.heap.size, 4, none⟩ (by dsimp only; omega) (by simp; omega)).trans q5, (g66.out.cell_far ⟨w1.heap.size, 5, none⟩ (by dsimp only; omega) (by simp; omega)).trans q6, (g66.out.cell_far ⟨b, off + j' * 4, none⟩ (by dsimp only; omega) (by simp; omega)).trans q7, (g66.out.cell_far ⟨b, off + j' * 4 + 1, none⟩ (by dsimp only; omega) (by simp; omega)).trans q8, (g66.out.cell_far ⟨b, off + j' * 4 + 2, none⟩ (by dsimp only; omega) (by simp; omega)).trans q9, (g66.out.cell_far ⟨b, off + j' * 4 + 3, none⟩ (by dsimp only; omega) (by simp; omega)).trans q10⟩)) (fun hHeld => ?_)
      clear hK K
      refine wpAnyH_ready (rs := [12]) (by kernel_rfl) (by simp) ?_
      refine AllReadyH.cons rfl (fun K hK => ?_) AllReadyH.nil
      go_simp
      refine hK.out _ _ (by assumption) (fun hHeld => ?_)
      clear hK K
      refine wpAnyH_done (by kernel_rfl) ?_ _
      go_wp2_with fail
      go_meet
      exact dnc_w hB25.out (Nat.le_refl _) hsz5 h67.out g66.out hbo hcd hm5 hrep5
  case rest =>
    obtain ⟨T, A5, c5, d5, rfl, hbc, hbo, hcd, hrep, hT2, hTl, hBw⟩ := hcut
    obtain ⟨wx, hwx⟩ : ∃ wx, wx = wc := ⟨_, rfl⟩
    subst hwx
    obtain ⟨e0, e1, e2, e3, e4, e5⟩ := hbc
    obtain ⟨m5, hm5⟩ : ∃ m5, (kidsL ps z p).length = m5 := ⟨_, rfl⟩
    have HBN5 := Lib.hid (HBN.out w2.heap.size d5 z p A5 c5)
    rw [hm5] at HBN5 e5
    have hperm := HYP.out d5 hbo hcd
    obtain ⟨l, hl⟩ : ∃ l, nodesL ps d5 z p = l := ⟨_, rfl⟩
    rw [hl] at hperm HBN5
    have hl8 : l.length ≤ 8 := by rw [hperm.length_eq]; have := HDN.out; omega
    have HSO := Lib.hid (sort_dn hperm HDS.out)
    have HLL := Lib.hid hperm.length_eq
    have HRX := Lib.hid hrep
    have HBX := Lib.hid hBw
    clear hperm hl hm5 hbo hcd hrep hBw HYP HFY HDN HDS HBN b0 b1 t0 t1 t2 t3 t4 t5 p0 p1 p2 p3
    simp only [Nat.zero_add] at e0 e1 e2 e3 e4 e5
    go_wp2_with (first
      | (go_at_call 92; refine (HBN5.out wx HRX.out (by omega)).mono ?_; rintro e w6 ⟨gN, cN, rfl, hgN, hON, hb6⟩; have HO6 := Lib.hid hON; have HB6 := Lib.hid (HBX.out.trans (hb6.mono HBX.out.size)); clear hON hb6)
      | (go_at_call 94; refine (sort_own HO6.out (by omega)).mono ?_; rintro e w7 ⟨rfl, hO7, hg7⟩))
    rw [HSO.out, HLL.out] at hO7
    go_ret2
    have hz2w := HBX.out.size
    have hy22 := hy2
    exact ⟨gN, cN, by rw [← HLL.out]; rfl, by omega, own_lower (show IOwn w7 wx.heap.size (.slice (some ⟨gN, 0, none⟩) DL.length cN) DL from hO7), HB2.out.trans ((HB6.out.grown hg7 HB6.out.size (fun y hy => by simp at hy; omega)).mono HB2.out.size)⟩
end Go.Proofs.Ytpldbakllegheaa.S2

namespace Go.Proofs.Ytpldbakllegheaa.S2
open Go.RowKit P2

set_option maxHeartbeats 16000000 in
set_option maxRecDepth 100000 in
theorem walkDownstreamNodes (n : Int) (A : Option Addr) (cap : Nat) (ps : List Pp) (x1 : Int) (x2 : Int) (w : World) (h : PAt w A ps) (hm : ps.length ≤ maxLen) (I0 : List Int) (hI0 : I0.length ≤ 1000) (sv0 : Bool)
    (hs : ∀ (A : Option Addr) (cap : Nat) (w : World), PAt w A ps → ps.length ≤ 1048576 → ps.length = cap → Calls Try.prog 41 #[nv n A ps.length cap, .int .i64 x1, .int .i64 x2] w (GivesA w I0 sv0))
    (hi : ∀ (A : Option Addr) (cap : Nat) (w : World), PAt w A ps → ps.length ≤ 1048576 → ps.length = cap → Calls Try.prog 42 #[nv n A ps.length cap, .int .i64 x1, .int .i64 x2] w (GivesI w I0 sv0)) :
    Calls Try.prog 12 #[nv n A ps.length cap, .int .i64 x1, .int .i64 x2] w fun e w' => e = .returned (.bool true) ∧ Below w.heap.size w w' := by
  have HA := Lib.hid h
  have HM := Lib.hid hm
  have HS := Lib.hid hs
  have HI := Lib.hid hi
  clear h hm hs hi
  go_enter Try.func12, Try.ntmps12
  go_wp2_with (go_at_call 15; refine (sznet_le n A ps.length cap _ HM.out).mono ?_; rintro e w1 ⟨⟨r, rfl, hr⟩, hb1⟩; refine Hid.out ?_)
  have hB1 : Below (w.heap.size + 1) (w.alloc (.cells #[.int .i64 n, .slice A ps.length cap] 24)) w1 := by simpa using hb1
  clear hb1
  obtain ⟨b0, b1⟩ := box2 hB1
  have hz1 : w.heap.size < w1.heap.size := box_lt hB1
  by_cases hr0 : r < 0
  · refine Lib.hid ?_
    go_wp2
    go_ret
    exact ⟨rfl, below_box hB1⟩
  have hlen : ps.length ≤ 1048576 := by rcases hr with h | h; exact absurd h hr0; exact h.2.2
  clear hr
  refine Lib.hid ?_
  go_wp2_with (first | (go_at_call 17; refine (tonet_any n A cap ps _ (HA.out.kept (below_box hB1) (Nat.le_refl _)) hlen).mono ?_; rintro e w2 ⟨⟨ga, rfl, hga, hrowa⟩, hb2⟩; refine Hid.out ?_) | fail)
  have hz2 := hb2.size
  have hB2 := on_call hB1 hb2
  clear b0 b1
  obtain ⟨b0, b1⟩ := box2 hB2
  clear hB1 hb2
  have hla := hrowa.lt
  have Ta_2 := Lib.hid hrowa.at_
  clear hrowa
  refine Lib.hid ?_
  go_wp2_with (first | (go_at_call 41; refine (HS.out _ _ _ Ta_2.out hlen rfl).mono ?_; rintro e w3 ⟨gSi, oSi, cSi, rfl, hgSi, hSi, hb3, hlSi⟩; refine Hid.out ?_) | fail)
  have hz3 := hb3.size
  have hB3 := on_call hB2 hb3
  have Ta_3 := Lib.hid (Ta_2.out.kept hb3 (Nat.le_refl _))
  clear b0 b1
  obtain ⟨b0, b1⟩ := box2 hB3
  clear hB2 Ta_2 hb3
  have Ls_3 := Lib.hid hSi
  clear hSi
  clear Ta_3
  refine Lib.hid ?_
  go_wp2_with (first | (go_at_call 17; refine (tonet_any n A cap ps _ (HA.out.kept (below_box hB3) (Nat.le_refl _)) hlen).mono ?_; rintro e w4 ⟨⟨gx, rfl, hgx, hrowx⟩, hb4⟩; refine Hid.out ?_) | fail)
  have hz4 := hb4.size
  have hB4 := on_call hB3 hb4
  have Ls_4 := Lib.hid (Ls_3.out.low hb4 (by omega))
  clear b0 b1
  obtain ⟨b0, b1⟩ := box2 hB4
  clear hB3 Ls_3 hb4
  have hlx := hrowx.lt
  have Rx_4 := Lib.hid hrowx
  clear hrowx
  have hb4a := alloc_below w4 (.cells #[.int .i64 n, .slice (some ⟨gx, 0, none⟩) ps.length ps.length] 31)
  have hz4a : w4.heap.size < (w4.alloc (.cells #[.int .i64 n, .slice (some ⟨gx, 0, none⟩) ps.length ps.length] 31)).heap.size := by simp
  have hB4a := on_call hB4 hb4a
  have Ls_4a := Lib.hid (Ls_4.out.low hb4a (by omega))
  have Rx_4a := Lib.hid (Rx_4.out.kept hb4a (by omega))
  have hqn : w.heap.size < w4.heap.size := by omega
  refine Lib.hid ?_
  go_wp2_with (first | (go_at_call 42; refine (HI.out _ _ _ Rx_4a.out.at_ hlen rfl).mono ?_; rintro e w5 ⟨gIpi, cIpi, rfl, hgIpi, hOpi, hb5⟩; refine Hid.out ?_) | fail)
  replace hb5 : Below (w4.alloc (.cells #[.int .i64 n, .slice (some ⟨gx, 0, none⟩) ps.length ps.length] 31)).heap.size (w4.alloc (.cells #[.int .i64 n, .slice (some ⟨gx, 0, none⟩) ps.length ps.length] 31)) w5 := hb5
  have Bx0_5 := (hb5.cell (p := ⟨w4.heap.size, 0, none⟩) (by dsimp only; omega)).trans (boxA0 (w := w4))
  have Bx1_5 := (hb5.cell (p := ⟨w4.heap.size, 1, none⟩) (by dsimp only; omega)).trans (boxA1 (w := w4))
  have hz5 := hb5.size
  have hB5 := on_call hB4a hb5
  have Ls_5 := Lib.hid (Ls_4a.out.low hb5 (by omega))
  have Rx_5 := Lib.hid (Rx_4a.out.kept hb5 (by omega))
  clear b0 b1
  obtain ⟨b0, b1⟩ := box2 hB5
  clear hB4a Ls_4a Rx_4a hb5
  clear hB4 Ls_4 Rx_4 hqn hb4a
  have hlIpi := iown_lt' hOpi
  have Jpi_5 := Lib.hid hOpi
  clear hOpi
  refine Lib.hid ?_
  go_wp2_with (first | (go_at_call 21; refine (eqints_same _ _ _ _ I0 _ Jpi_5.out.iat Ls_5.out (by omega)).mono ?_; rintro e w6 ⟨rfl, hb6⟩; refine Hid.out ?_) | fail)
  have hz6 := hb6.size
  have hB6 := on_call hB5 hb6
  have Ls_6 := Lib.hid (Ls_5.out.low hb6 (by omega))
  have Rx_6 := Lib.hid (Rx_5.out.kept hb6 (by omega))
  have Bx0_6 := (hb6.cell (p := ⟨w4.heap.size, 0, none⟩) (by dsimp only; omega)).trans Bx0_5
  have Bx1_6 := (hb6.cell (p := ⟨w4.heap.size, 1, none⟩) (by dsimp only; omega)).trans Bx1_5
  have Jpi_6 := Lib.hid (Jpi_5.out.on hb6)
  clear b0 b1
  obtain ⟨b0, b1⟩ := box2 hB6
  clear hB5 Ls_5 Rx_5 Bx0_5 Bx1_5 Jpi_5 hb6
  refine Lib.hid ?_
  go_upto_region 10 with (fail)
  go_cut [53] (fun st wx => st = .bool false ∧ Hid (Below w6.heap.size w6 wx))
  case first =>
    have hA7 := Lib.hid (HA.out.kept (below_box hB6) (Nat.le_refl _))
    have hat7 := Lib.hid Rx_6.out.at_
    have hx4 : w4.heap.size < w6.heap.size := by omega
    go_region_with (first
      | (go_at_call 17; refine (tonet_any n A cap ps w6.drew hA7.out hlen).mono ?_; rintro e wqa ⟨⟨gqa, rfl, hgqa, hrowqa⟩, hbqa⟩; have HBqa := Lib.hid hbqa; have hatqa := Lib.hid hrowqa.at_; have hatqb := Lib.hid (PAt.kept (w := w6.drew) hat7.out hbqa (Nat.le_refl _)); have z0 := (hbqa.cell (p := ⟨w4.heap.size, 0, none⟩) hx4).trans Bx0_6; have z1 := (hbqa.cell (p := ⟨w4.heap.size, 1, none⟩) hx4).trans Bx1_6; clear hgqa hrowqa hbqa)
      | (go_at_call 20; refine (eqnet_same n _ _ _ _ ps wqa hatqb.out hatqa.out hlen).mono ?_; rintro e wqb ⟨rfl, hbqb⟩))
    all_goals
      go_wp2_with fail
      go_meet
      exact ⟨rfl, Lib.hid ((Below.refl w6.heap.size w6).drew.trans (HBqa.out.trans (hbqb.mono HBqa.out.size)))⟩
  case rest =>
    obtain ⟨rfl, hbc⟩ := hcut
    obtain ⟨w7, hwb⟩ : ∃ w7, w7 = wc := ⟨_, rfl⟩
    subst hwb
    have hb7 := hbc.out
    clear hbc
    have hz7 := hb7.size
    have hB7 := on_call hB6 hb7
    have Ls_7 := Lib.hid (Ls_6.out.low hb7 (by omega))
    have Rx_7 := Lib.hid (Rx_6.out.kept hb7 (by omega))
    have Bx0_7 := (hb7.cell (p := ⟨w4.heap.size, 0, none⟩) (by dsimp only; omega)).trans Bx0_6
    have Bx1_7 := (hb7.cell (p := ⟨w4.heap.size, 1, none⟩) (by dsimp only; omega)).trans Bx1_6
    have Jpi_7 := Lib.hid (Jpi_6.out.on hb7)
    clear b0 b1
    obtain ⟨b0, b1⟩ := box2 hB7
    clear hB6 Ls_6 Rx_6 Bx0_6 Bx1_6 Jpi_6 hb7
    have HRX := Rx_7
    clear Rx_7
    refine Lib.hid ?_
    go_wp2_with (first | (go_at_call 24; refine (marknetk_any n gx 1 ps _ HRX.out hlen (by omega)).mono ?_; rintro e w8 ⟨rfl, hg8⟩; refine Hid.out ?_) | fail)
    have hz8 := hg8.size
    have hB8 := hB7.grown hg8 (by omega) (fun k hk => by simp at hk; omega)
    have Ls_8 := Lib.hid (Ls_7.out.far hg8 (by omega))
    have Bx0_8 := (hg8.cell_far ⟨w4.heap.size, 0, none⟩ (by dsimp only; omega) (by simp; omega)).trans Bx0_7
    have Bx1_8 := (hg8.cell_far ⟨w4.heap.size, 1, none⟩ (by dsimp only; omega) (by simp; omega)).trans Bx1_7
    have Jpi_8 := Lib.hid (Jpi_7.out.far hg8 (by omega))
    clear b0 b1
    obtain ⟨b0, b1⟩ := box2 hB8
    clear hB7 Ls_7 Bx0_7 Bx1_7 Jpi_7 hg8
    clear Bx0_8 Bx1_8
    refine Lib.hid ?_
    go_wp2_with (first | (go_at_call 21; refine (eqints_same _ _ _ _ I0 _ Jpi_8.out.iat Ls_8.out (by omega)).mono ?_; rintro e w9 ⟨rfl, hb9⟩; refine Hid.out ?_) | fail)
    have hz9 := hb9.size
    have hB9 := on_call hB8 hb9
    have Ls_9 := Lib.hid (Ls_8.out.low hb9 (by omega))
    have Jpi_9 := Lib.hid (Jpi_8.out.on hb9)
    clear b0 b1
    obtain ⟨b0, b1⟩ := box2 hB9
    clear hB8 Ls_8 Jpi_8 hb9
    have HOJ := Jpi_9
    clear Jpi_9
    refine Lib.hid ?_
    go_wp2_with (first | (go_at_call 25; refine (markints_i _ gIpi cIpi (1) _ I0 _ HOJ.out (by omega) (by omega) (by omega)).mono ?_; rintro e w10 ⟨rfl, hM, hg10⟩; refine Hid.out ?_) | fail)
    have hz10 := hg10.size
    have hB10 := hB9.grown hg10 (by omega) (fun k hk => by simp at hk; omega)
    have Ls_10 := Lib.hid (Ls_9.out.far hg10 (by omega))
    clear b0 b1
    obtain ⟨b0, b1⟩ := box2 hB10
    clear hB9 Ls_9 hg10
    have Ki_10 := Lib.hid hM.iat_marks
    clear hM
    refine Lib.hid ?_
    go_wp2_with (first | (go_at_call 26; refine (heldints_i _ _ (1) I0.length _ _ Ki_10.out (by omega) (by omega) (by omega)).mono ?_; rintro e w11 ⟨rfl, hb11⟩; refine Hid.out ?_) | fail)
    have hz11 := hb11.size
    have hB11 := on_call hB10 hb11
    have Ls_11 := Lib.hid (Ls_10.out.low hb11 (by omega))
    have Ki_11 := Lib.hid (Ki_10.out.low hb11 (by omega))
    clear b0 b1
    obtain ⟨b0, b1⟩ := box2 hB11
    clear hB10 Ls_10 Ki_10 hb11
    refine Lib.hid ?_
    go_wp2_with (first | (go_at_call 17; refine (tonet_any n A cap ps _ (HA.out.kept (below_box hB11) (Nat.le_refl _)) hlen).mono ?_; rintro e w12 ⟨⟨gy, rfl, hgy, hrowy⟩, hb12⟩; refine Hid.out ?_) | fail)
    have hz12 := hb12.size
    have hB12 := on_call hB11 hb12
    have Ls_12 := Lib.hid (Ls_11.out.low hb12 (by omega))
    have Ki_12 := Lib.hid (Ki_11.out.low hb12 (by omega))
    clear b0 b1
    obtain ⟨b0, b1⟩ := box2 hB12
    clear hB11 Ls_11 Ki_11 hb12
    have hly := hrowy.lt
    have Ty_12 := Lib.hid hrowy.at_
    clear hrowy
    refine Lib.hid ?_
    go_wp2_with (first | (go_at_call 42; refine (HI.out _ _ _ Ty_12.out hlen rfl).mono ?_; rintro e w13 ⟨gIhi, cIhi, rfl, hgIhi, hOhi, hb13⟩; refine Hid.out ?_) | fail)
    have hz13 := hb13.size
    have hB13 := on_call hB12 hb13
    have Ls_13 := Lib.hid (Ls_12.out.low hb13 (by omega))
    have Ki_13 := Lib.hid (Ki_12.out.low hb13 (by omega))
    have Ty_13 := Lib.hid (Ty_12.out.kept hb13 (Nat.le_refl _))
    clear b0 b1
    obtain ⟨b0, b1⟩ := box2 hB13
    clear hB12 Ls_12 Ki_12 Ty_12 hb13
    have hlIhi := iown_lt' hOhi
    have Jhi_13 := Lib.hid hOhi
    clear hOhi
    clear Ty_13
    refine Lib.hid ?_
    go_wp2_with (first | (go_at_call 21; refine (eqints_same _ _ _ _ I0 _ Jhi_13.out.iat Ls_13.out (by omega)).mono ?_; rintro e w14 ⟨rfl, hb14⟩; refine Hid.out ?_) | fail)
    have hz14 := hb14.size
    have hB14 := on_call hB13 hb14
    have Ls_14 := Lib.hid (Ls_13.out.low hb14 (by omega))
    have Ki_14 := Lib.hid (Ki_13.out.low hb14 (by omega))
    have Jhi_14 := Lib.hid (Jhi_13.out.on hb14)
    clear b0 b1
    obtain ⟨b0, b1⟩ := box2 hB14
    clear hB13 Ls_13 Ki_13 Jhi_13 hb14
    refine Lib.hid ?_
    go_wp2_with (first | (go_at_call 26; refine (heldints_i _ _ (1) I0.length _ _ Ki_14.out (by omega) (by omega) (by omega)).mono ?_; rintro e w15 ⟨rfl, hb15⟩; refine Hid.out ?_) | fail)
    have hz15 := hb15.size
    have hB15 := on_call hB14 hb15
    have Ls_15 := Lib.hid (Ls_14.out.low hb15 (by omega))
    have Ki_15 := Lib.hid (Ki_14.out.low hb15 (by omega))
    have Jhi_15 := Lib.hid (Jhi_14.out.on hb15)
    clear b0 b1
    obtain ⟨b0, b1⟩ := box2 hB15
    clear hB14 Ls_14 Ki_14 Jhi_14 hb15
    refine Lib.hid ?_
    go_wp2_with fail
    go_ret
    exact ⟨rfl, below_box hB15⟩
end Go.Proofs.Ytpldbakllegheaa.S2

namespace Go.Proofs.Ytpldbakllegheaa.S2
open Go.RowKit P2
theorem law_dwn (n : Int) (A : Option Addr) (cap : Nat) (ps : List Pp) (x y : Int) (w : World) (h : PAt w A ps) (hm : ps.length ≤ maxLen) :
    Calls Try.prog 12 #[nv n A ps.length cap, .int .i64 x, .int .i64 y] w fun e w' => e = .returned (.bool true) ∧ Below w.heap.size w w' := by
  cases hv1 : nodeB n ps x with
  | false => exact walkDownstreamNodes n A cap ps x y w h hm [] (by simp) false (fun A c w h hl _ => sdw_no n A c ps x y w h hl (.inl hv1)) (fun A c w h hl _ => idn_tf n A c ps x y w (fun w' hb => tf_node hv1 A c w' (h.kept hb (Nat.le_refl _)) hm))
  | true =>
    obtain ⟨hg, hx1, hx2⟩ := nodeB_of hv1
    obtain ⟨N, rfl⟩ := good_nat hg
    obtain ⟨X, rfl⟩ : ∃ X : Nat, x = X := ⟨x.toNat, by omega⟩
    cases ht : treeB N ps with
    | false => exact walkDownstreamNodes N A cap ps X y w h hm [] (by simp) false (fun A c w h hl _ => sdw_no N A c ps X y w h hl (.inr (.inr ⟨N, rfl, ht⟩))) (fun A c w h hl _ => idn_tf N A c ps X y w (fun w' hb => tf_tree hv1 ht A c w' (h.kept hb (Nat.le_refl _)) hm))
    | true =>
      obtain ⟨r, hr⟩ := find_ex ps y
      rcases id hr with ⟨rfl, _⟩ | ⟨i, hi, rfl, _⟩
      · exact walkDownstreamNodes N A cap ps X y w h hm [] (by simp) false (fun A c w h hl _ => sdw_no N A c ps X y w h hl (.inr (.inl hr))) (fun A c w h hl _ => idn_none N X A c ps y w h hg hr (fun w' hb => tf_ok hv1 ht (tree_full hg ht).1 A c w' (h.kept hb (Nat.le_refl _)) hm))
      · exact walkDownstreamNodes N A cap ps X y w h hm (dnL N ps (pAt ps i) X) (by have := dn_len N ps (pAt ps i) X; have := hg.2.1; omega) true (fun A c w h hl hcap => sdw_yes N X i A c ps y w h hl hcap hv1 ht hi hr) (fun A c w h hl _ => idn_yes N X i A c ps y w h hm hv1 ht hi hr)
end Go.Proofs.Ytpldbakllegheaa.S2

namespace Go.Proofs.Ytpldbakllegheaa.fnExactDownstreamNodes
open Go.ChangeShapes Go.WideShapes Go.ChangeAt Go.RowKit P2 S2
set_option linter.unusedVariables false

theorem own : ownKnob Try.prog.godebug = none := by kernel_rfl
theorem laidOut : laidOutB Try.prog = true := by kernel_rfl

set_option maxRecDepth 100000 in
theorem lifted (os : Os) (started : os.Started) (H : Type) (enc : TypeId × Value → H) :
    ReturnsInHanded {} Try.checked os 12 .any (Rows.fnExactDownstreamNodesSpec.pre6 enc Try.prog Try.f12 Rows.fnExactDownstreamNodesRow.domain false) (Rows.fnExactDownstreamNodesSpec.post enc Try.prog Try.f12 false true false false) := by
  refine returnsInHanded_of_change (C := Try.checked) own started (by kernel_rfl) Try.func12
    (ChangeSpec.witness6 (enc := enc) (C := Try.checked) false ⟨#[], #[.agg #[.int .i64 0, .slice none 0 0], .int .i64 0, .int .i64 0], []⟩ 8 (by kernel_rfl) (by kernel_rfl) (by kernel_rfl) (by kernel_rfl)) ?_
  intro W base args ds gs before hval0 hW hcnd _
  have hval : ∀ (j : Nat) t v, Try.f12.params[j]? = some t → args[j]? = some v → Value.okWide Try.prog W .any base t v := hval0
  have hW' := hW
  obtain ⟨p, q, hA0, hV, rfl, hfz, hnd⟩ := hW
  have hA : DataW.TrodAll enc Try.prog W 0 (fun _ => true) true Try.f12.params.toList args.toList ds p := hA0
  rw [Try.params12] at hA hval
  obtain ⟨v0, v1, v2, d0, d1, d2, p0, p1, p2, rfl, rfl, rfl, h0, h1, h2⟩ := trodAll_three hA
  obtain ⟨rfl, rfl⟩ := trodVars_none hV
  have k0 := h0
  have lt0 : ∀ x ∈ p0, x.block < W.heap.size := by obtain ⟨m, hm⟩ := k0; exact DataW.trod_lt m _ _ _ hm
  obtain ⟨n0, A0, cap0, ps0, rfl, at0, mx0⟩ := net_open (hval 0 24 v0 rfl rfl) h0
  obtain ⟨a1, rfl, rfl, rfl, w1⟩ := open_int Try.underlying3 (hval 1 3 v1 rfl rfl) h1
  obtain ⟨a2, rfl, rfl, rfl, w2⟩ := open_int Try.underlying3 (hval 2 3 v2 rfl rfl) h2
  clear hA0 hval0
  refine (law_dwn n0 A0 cap0 ps0 a1 a2 W at0 mx0).mono fun e W' ⟨he, bel⟩ => ?_
  subst he
  exact ⟨_, rfl, _, _, _, [], _, [], hW', trodAll_mk1 (shut_bool Try.underlying4 _), trodAll_mk3 (Below.trod laidOut (by kernel_rfl) (of_decide_eq_true (by kernel_rfl)) k0 bel lt0) (shut_int Try.underlying3 w1) (shut_int Try.underlying3 w2), rfl, bel.frame _, fun h => by cases h⟩

theorem proved : Rows.FnExactDownstreamNodesSaid :=
  OpenClaim.holds_of_wide 12 Try.f12 rfl rfl rfl rfl rfl rfl rfl ⟨rfl, rfl, rfl, rfl, rfl⟩ rfl rfl rfl rfl rfl (by kernel_rfl) Try.func12 (by kernel_rfl)
    (of_decide_eq_true (by kernel_rfl)) (by unfold Func.isWrapper; first | (rw [if_pos (by decide +kernel)]; kernel_rfl) | (rw [if_neg (by decide +kernel)]; exact ⟨rfl, rfl⟩))
    (fun os started H enc _ => lifted os started H enc)
end Go.Proofs.Ytpldbakllegheaa.fnExactDownstreamNodes
namespace Go.Proofs.Ytpldbakllegheaa
theorem FnExactDownstreamNodes_holds : Rows.FnExactDownstreamNodesSaid := fnExactDownstreamNodes.proved
#print axioms FnExactDownstreamNodes_holds
end Go.Proofs.Ytpldbakllegheaa
