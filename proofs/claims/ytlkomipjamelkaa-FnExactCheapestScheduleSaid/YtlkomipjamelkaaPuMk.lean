/- A fresh row of zeros beside a fresh box of a tank, in any order: facts on memory. Conditions: each theorem's own premises. -/
import Derived.Test.YtlkomipjamelkaaPuRow
import Derived.Deep.DeepCutAuto
namespace Go.Proofs.Ytlkomipjamelkaa.S13
open Go.RowKit Go.Sort P11 S11 P13

/-- A row of n cells, of which the first k hold the numbers of l, beside a tank's box. -/
structure RT (w wr : World) (G H n : Nat) (l : List Int) (k : Nat) (L a b : Int) : Prop where
  row : wr.ownsRow w.heap.size 3 1 (.slice (some ⟨G, 0, none⟩) n n) n (fiI l k)
  bt : BT wr H L a b
  fz : FZ wr H
  ne : G ≠ H
  lo : w.heap.size ≤ H
  bw : Below w.heap.size w wr
theorem RT.call {w wr w2 : World} {G H n : Nat} {l : List Int} {k : Nat} {L a b : Int} (h : RT w wr G H n l k L a b) (hb : Below wr.heap.size wr w2) : RT w w2 G H n l k L a b :=
  ⟨own_on h.row hb, h.bt.kept hb, h.fz.kept hb h.bt.1, h.ne, h.lo, h.bw.trans (hb.mono h.bw.size)⟩
theorem own_put {w : World} {B : Nat} {G H n : Nat} {vs : List Value} (h : w.ownsRow B 3 1 (.slice (some ⟨G, 0, none⟩) n n) n vs) (hne : G ≠ H) (u v t : Value) :
    (((w.setCell ⟨H, 0, none⟩ u).setCell ⟨H, 1, none⟩ v).setCell ⟨H, 2, none⟩ t).ownsRow B 3 1 (.slice (some ⟨G, 0, none⟩) n n) n vs :=
  World.ownsRow.kept h (grown_set (grown_set (grown_set (grown_refl _ (some H)) 0 u) 1 v) 2 t) (.inr (by simp [Value.ownBlock]; omega))
theorem RT.put {w wr : World} {G H n : Nat} {l : List Int} {k : Nat} {L a b : Int} (h : RT w wr G H n l k L a b) (z x y : Int) :
    RT w (((wr.setCell ⟨H, 0, none⟩ (.int .i64 z)).setCell ⟨H, 1, none⟩ (.int .i64 x)).setCell ⟨H, 2, none⟩ (.int .i64 y)) G H n l k z x y :=
  ⟨own_put h.row h.ne _ _ _, h.bt.put z x y, ((h.fz.set _ _).set _ _).set _ _, h.ne, h.lo, put_below h.bw h.lo _ _ _⟩
theorem RT.store {w wr : World} {G H n : Nat} {l : List Int} {k : Nat} {L a b : Int} (h : RT w wr G H n l k L a b) (hk : k < l.length) (hG : w.heap.size ≤ G) : RT w (wr.setCell ⟨G, k, none⟩ (iv (l.getD k 0))) G H n l (k + 1) L a b := by
  have hst := (h.row.stored k (iv (l.getD k 0))).1
  rw [fiI_set l k hk] at hst
  exact ⟨hst, h.bt.set_far k _ (Ne.symm h.ne), h.fz.set _ _, h.ne, h.lo, h.bw.setCell (p := ⟨G, k, none⟩) hG _⟩
theorem RT.lt {w wr : World} {G H n : Nat} {l : List Int} {k : Nat} {L a b : Int} (h : RT w wr G H n l k L a b) : w.heap.size ≤ G ∧ G < wr.heap.size ∧ H < wr.heap.size := ⟨(World.ownsRow.lt h.row G rfl).1, (World.ownsRow.lt h.row G rfl).2, h.bt.1⟩
/-- The two orders in which both are made. -/
theorem rt_a (w : World) (l : List Int) (n : Nat) (hl : l.length = n) (hn : n ≤ 1048576) (t : TypeId) (L a b : Int) :
    RT w ((w.alloc (.cells (madeCells #[.int .i64 0] n) 3)).alloc (tb t L a b)) w.heap.size (w.heap.size + 1) n l 0 L a b := by
  have h1 := made_n l n hl w hn
  have s1 : (w.alloc (.cells (madeCells #[.int .i64 0] n) 3)).heap.size = w.heap.size + 1 := by simp
  have b1 := alloc_below w (.cells (madeCells #[.int .i64 0] n) 3)
  generalize (w.alloc (.cells (madeCells #[.int .i64 0] n) 3)) = w1 at *
  have h2 := BT.new w1 t L a b
  have f2 := FZ.new w1 #[.int .i64 L, .int .i64 a, .int .i64 b] t
  rw [s1] at h2 f2
  exact ⟨own_on h1 (alloc_below _ _), h2, f2, by omega, by omega, b1.trans ((alloc_below _ _).mono b1.size)⟩
theorem rt_b (w : World) (l : List Int) (n : Nat) (hl : l.length = n) (hn : n ≤ 1048576) (t : TypeId) (L a b : Int) :
    RT w ((w.alloc (tb t L a b)).alloc (.cells (madeCells #[.int .i64 0] n) 3)) (w.heap.size + 1) w.heap.size n l 0 L a b := by
  have h2 := BT.new w t L a b
  have f2 : FZ (w.alloc (tb t L a b)) w.heap.size := FZ.new w #[.int .i64 L, .int .i64 a, .int .i64 b] t
  have s1 : (w.alloc (tb t L a b)).heap.size = w.heap.size + 1 := by simp
  have b1 := alloc_below w (tb t L a b)
  generalize w.alloc (tb t L a b) = w1 at *
  have h1 := made_n l n hl w1 hn
  rw [s1] at h1
  have b2 := alloc_below w1 (.cells (madeCells #[.int .i64 0] n) 3)
  have h1' : (w1.alloc (.cells (madeCells #[.int .i64 0] n) 3)).ownsRow w.heap.size 3 1 (.slice (some ⟨w.heap.size + 1, 0, none⟩) n n) n (fiI l 0) := by
    refine ⟨h1.1, ?_⟩
    rcases h1.2 with h | ⟨g, cap, cur, hv, hb, rest⟩
    · exact .inl h
    · exact .inr ⟨g, cap, cur, hv, by omega, rest⟩
  exact ⟨h1', h2.kept b2, f2.kept b2 h2.1, by omega, Nat.le_refl _, b1.trans (b2.mono b1.size)⟩
theorem RT.drew {w wr : World} {G H n : Nat} {l : List Int} {k : Nat} {L a b : Int} (h : RT w wr G H n l k L a b) : RT w wr.drew G H n l k L a b := h.call (Below.refl _ _).drew
theorem RT.undrew {w wr : World} {G H n : Nat} {l : List Int} {k : Nat} {L a b : Int} (h : RT w.drew wr G H n l k L a b) : RT w wr G H n l k L a b :=
  ⟨h.row, h.bt, h.fz, h.ne, h.lo, below_drew_trans h.bw⟩
end Go.Proofs.Ytlkomipjamelkaa.S13
