/- A slice of the call's own that lies in a box and grows there. Conditions: each theorem's own premises. -/
import Derived.Test.YtkgkeohnnpkahaaPfLaw
namespace Go.Proofs.Ytkgkeohnnpkahaa.S6
open Go.RowKit P6

/-- The box g holds the slice v of the call's own, with the numbers l. -/
structure OB (wr : World) (g : Nat) (v : Value) (l : List Int) : Prop where
  cell : wr.cell? ⟨g, 0, none⟩ = some v
  froz : wr.frozen? ⟨g, 0, none⟩ = false
  lt : g < wr.heap.size
  own : IOwn wr (g + 1) v l
theorem OB.start (w : World) (t : TypeId) : OB (w.alloc (.cells #[.slice none 0 0] t)) w.heap.size (.slice none 0 0) [] :=
  ⟨box_at, by simp, by simp, World.ownsRow_nil _ _ _ _⟩
theorem OB.on {wr w1 : World} {g : Nat} {v : Value} {l : List Int} (h : OB wr g v l) (hb : Below wr.heap.size wr w1) : OB w1 g v l :=
  ⟨(hb.cell (p := ⟨g, 0, none⟩) h.lt).trans h.cell, (hb.frozen (p := ⟨g, 0, none⟩) h.lt).trans h.froz, Nat.lt_of_lt_of_le h.lt hb.size, h.own.on hb⟩
theorem OB.push {wr w1 w3 : World} {g : Nat} {v v' : Value} {l : List Int} {x : Int} (h : OB wr g v l) (hb : Below wr.heap.size wr w1)
    (hown : w3.ownsRow (g + 1) 3 1 v' (l.length + 1) (l.map iv ++ [iv x])) (hg : w1.grownBy w3 v.ownBlock) : OB (w3.setCell ⟨g, 0, none⟩ v') g v' (l ++ [x]) := by
  have h1 := h.on hb
  have hne : some g ≠ v.ownBlock := fun e => by have := (World.ownsRow.lt h1.own g e.symm).1; omega
  have hc := (hg.cell_far ⟨g, 0, none⟩ h1.lt hne).trans h1.cell
  have hf : w3.frozen? ⟨g, 0, none⟩ = false := (World.frozen?_of_block (hg.block g h1.lt hne)).trans h1.froz
  refine ⟨World.cell?_setCell_same _ _ _ hc, by rw [World.frozen?_setCell]; exact hf, ?_, ?_⟩
  · have := hg.size; have := h1.lt; simp; omega
  · exact ownsRow_setCell_below (IOwn.push hown) (show g < g + 1 by omega) _
/-- What else lies below stands. -/
theorem OB.below {w wr w1 w3 : World} {B g : Nat} {v v' : Value} {l : List Int} (h : OB wr g v l) (hB : Below B w wr) (hb : Below wr.heap.size wr w1) (hg : w1.grownBy w3 v.ownBlock) (hBg : B ≤ g) : Below B w (w3.setCell ⟨g, 0, none⟩ v') := by
  have h1 := h.on hb
  have h2 : Below B w w1 := hB.trans (hb.mono (by have := h.lt; omega))
  exact (h2.grown hg (by have := h1.lt; omega) (fun k hk => by have := (World.ownsRow.lt h1.own k hk).1; omega)).setCell (p := ⟨g, 0, none⟩) hBg _
theorem own_forms {w : World} {B : Nat} {v : Value} {l : List Int} (h : IOwn w B v l) (h0 : 0 < l.length) : ∃ g cap, v = .slice (some ⟨g, 0, none⟩) l.length cap ∧ B ≤ g := by
  obtain ⟨g, cap, hv, hB, _⟩ := World.ownsRow.form h h0
  exact ⟨g, cap, hv, hB⟩
end Go.Proofs.Ytkgkeohnnpkahaa.S6
