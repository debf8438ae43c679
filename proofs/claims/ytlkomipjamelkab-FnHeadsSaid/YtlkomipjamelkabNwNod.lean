/- A node of a network, a pipe of it, drawn: contracts. Conditions: each theorem's own premises. -/
import Derived.Test.YtlkomipjamelkabNwAny
import Derived.Deep.DeepCutAuto
namespace Go.Proofs.Ytlkomipjamelkab.S2
open Go.RowKit Go.Sort P2

theorem st_lt {B g : Nat} {a : Option Addr} {n cap K : Nat} {w : World} (h : S1.St B g a n cap K w) : g < w.heap.size := by
  obtain ⟨k, sd, hk, hh⟩ := h.cur
  exact (Array.getElem?_eq_some_iff.1 hh).1
theorem size_alloc (w : World) (o : Obj) : (w.alloc o).heap.size = w.heap.size + 1 := by simp
set_option maxHeartbeats 1000000 in
set_option maxRecDepth 100000 in
theorem node_draw (B g : Nat) (a : Option Addr) (n cap K : Nat) (N : Int) (A : Option Addr) (len c : Nat) (w : World) (hK : K ≤ 800000) (hN9 : N ≤ 1000000) (h : S1.St B g a n cap K w) :
    Calls Try.prog 55 #[.pointer (some ⟨g, 0, none⟩), nv N A len c] w fun e w' => (∃ z : Int, e = .returned (.int .i64 z)) ∧ S1.St B g a n cap (K + 4) w' ∧ w.grownBy w' (some g) := by
  have HS := Lib.hid (S1.st_new h (nb N A len c))
  have HG := Lib.hid (show w.grownBy (w.alloc (nb N A len c)) (some g) from World.grownBy_alloc w _ (some g))
  have hlt := st_lt h
  clear h
  by_cases hN1 : N < 1
  · have d0 : decide (N < 1) = true := decide_eq_true hN1
    have HTI := Lib.hid (show S1.Ti (w.heap.size + 1) [0, 9, 1, (-1)] ((w.alloc (nb N A len c)).alloc (.cells #[.int .i64 0, .int .i64 9, .int .i64 1, .int .i64 (-1)] 3)) from by have := S1.ti_new (w.alloc (nb N A len c)) [0, 9, 1, (-1)] 3; rw [size_alloc] at this; exact this)
    have HS2 := Lib.hid (S1.st_new HS.out (.cells #[.int .i64 0, .int .i64 9, .int .i64 1, .int .i64 (-1)] 3))
    clear hN1
    go_enter Try.func55, Try.ntmps55
    refine Hid.out ?_
    refine Lib.hid ?_
    go_wp2_with (first | (go_at_call 110; refine (S1.among_any B g a n cap K (w.heap.size + 1) 4 4 [0, 9, 1, (-1)] _ rfl (by omega) (by simp) (by simp) HS2.out HTI.out (by omega)).mono ?_; rintro e w9 ⟨⟨z, rfl⟩, hs9, hg9⟩; refine Hid.out ?_) | fail)
    refine Lib.hid ?_
    go_wp2_with fail
    go_ret
    exact ⟨⟨_, rfl⟩, hs9.more (by omega), S1.grown_trans (S1.grown_trans HG.out (World.grownBy_alloc _ _ (some g))) hg9⟩
  · have d0 : decide (N < 1) = false := decide_eq_false hN1
    have h1N : 1 ≤ N := by omega
    clear hN1
    go_enter Try.func55, Try.ntmps55
    refine Hid.out ?_
    refine Lib.hid ?_
    go_wp2_with (first | (go_at_call 118; refine (S1.one_any B g a n cap K 12 _ (by omega) (by omega) (by omega) HS.out).mono ?_; rintro e w1 ⟨b1, rfl, hs, hg⟩; refine Hid.out ?_) | fail)
    have HS1 := Lib.hid hs
    have HG1 := Lib.hid (S1.grown_trans HG.out hg)
    have hz1 : w.heap.size < w1.heap.size := by have := hg.size; simp at this; omega
    have c0 : w1.cell? ⟨w.heap.size, 0, none⟩ = some (.int .i64 N) := (hg.cell_far ⟨w.heap.size, 0, none⟩ (by simp) (by simp; omega)).trans (by rw [World.cell?_alloc_at _ _ _ _ rfl]; rfl)
    clear hs hg HG HS
    cases b1 with
    | true =>
      have HTI := Lib.hid (show S1.Ti (w1.heap.size) [0, 9, 1, (-1)] (w1.alloc (.cells #[.int .i64 0, .int .i64 9, .int .i64 1, .int .i64 (-1)] 3)) from by have := S1.ti_new w1 [0, 9, 1, (-1)] 3; exact this)
      have HS2 := Lib.hid (S1.st_new HS1.out (.cells #[.int .i64 0, .int .i64 9, .int .i64 1, .int .i64 (-1)] 3))
      refine Lib.hid ?_
      go_wp2_with (first | (go_at_call 110; refine (S1.among_any B g a n cap (K + 2) w1.heap.size 4 4 [0, 9, 1, (-1)] _ rfl (by omega) (by simp) (by simp) HS2.out HTI.out (by omega)).mono ?_; rintro e w9 ⟨⟨z, rfl⟩, hs9, hg9⟩; refine Hid.out ?_) | fail)
      refine Lib.hid ?_
      go_wp2_with fail
      go_ret
      exact ⟨⟨_, rfl⟩, hs9, S1.grown_trans (S1.grown_trans HG1.out (World.grownBy_alloc _ _ (some g))) hg9⟩
    | false =>
      refine Lib.hid ?_
      go_wp2_with (first | (go_at_call 109; refine (S1.pick_any B g a n cap (K + 2) N _ (by omega) h1N hN9 HS1.out).mono ?_; rintro e w9 ⟨r, rfl, hr0, hr9, hs9, hg9⟩; refine Hid.out ?_) | fail)
      refine Lib.hid ?_
      go_wp2_with fail
      go_ret
      exact ⟨⟨_, rfl⟩, hs9, S1.grown_trans HG1.out hg9⟩
end Go.Proofs.Ytlkomipjamelkab.S2
