/- Two lists beside a bool. Conditions: each theorem's own premises. -/
import Derived.Test.YtjfpimldiokpbabNetKit
namespace Go.Proofs.Ytjfpimldiokpbab.S2
open Go.RowKit P2

/-- Two fresh slices of numbers beside a bool. -/
def GivesII (w : World) (I J : List Int) (ok : Bool) (e : Ending) (w' : World) : Prop :=
  ∃ g c g2 c2, e = .returned (.tuple #[.slice (some ⟨g, 0, none⟩) I.length c, .slice (some ⟨g2, 0, none⟩) J.length c2, .bool ok]) ∧ w.heap.size ≤ g ∧ w.heap.size ≤ g2 ∧ g ≠ g2 ∧ IOwn w' w.heap.size (.slice (some ⟨g, 0, none⟩) I.length c) I ∧ IOwn w' w.heap.size (.slice (some ⟨g2, 0, none⟩) J.length c2) J ∧ Below w.heap.size w w'
/-- Two slices of numbers beside a bool, made by the call, wherever they start. -/
def GivesAA (w : World) (I J : List Int) (ok : Bool) (e : Ending) (w' : World) : Prop :=
  ∃ g o c g2 o2 c2, e = .returned (.tuple #[.slice (some ⟨g, o, none⟩) I.length c, .slice (some ⟨g2, o2, none⟩) J.length c2, .bool ok]) ∧ w.heap.size ≤ g ∧ w.heap.size ≤ g2 ∧ IAt w' (some ⟨g, o, none⟩) I ∧ IAt w' (some ⟨g2, o2, none⟩) J ∧ Below w.heap.size w w' ∧ g < w'.heap.size ∧ g2 < w'.heap.size
theorem GivesII.any {w : World} {I J : List Int} {ok : Bool} {e : Ending} {w' : World} (h : GivesII w I J ok e w') : GivesAA w I J ok e w' := by
  obtain ⟨g, c, g2, c2, he, hg, hg2, _, hI, hJ, hb⟩ := h
  exact ⟨g, 0, c, g2, 0, c2, he, hg, hg2, hI.iat, hJ.iat, hb, (World.ownsRow.lt hI g rfl).2, (World.ownsRow.lt hJ g2 rfl).2⟩
theorem made_row (l : List Int) (w : World) (hn : l.length ≤ 1048576) : Hid ((w.alloc (.cells (madeCells #[.int .i64 0] l.length) 3)).ownsRow w.heap.size 3 1 (.slice (some ⟨w.heap.size, 0, none⟩) l.length l.length) l.length (fiI l 0)) := Lib.hid (made_own l w hn)
end Go.Proofs.Ytjfpimldiokpbab.S2
