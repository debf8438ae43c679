/- A fresh slice of numbers beside a number and a bool. -/
import Derived.Test.YtlkomipjamelkaaPuGood
namespace Go.Proofs.Ytlkomipjamelkaa.S13
open Go.RowKit P11 S11 P13

def GivesI3 (w : World) (l : List Int) (n : Int) (ok : Bool) (e : Ending) (w' : World) : Prop :=
  ∃ g cap, e = .returned (.tuple #[.slice (some ⟨g, 0, none⟩) l.length cap, .int .i64 n, .bool ok]) ∧ w.heap.size ≤ g ∧ IOwn w' w.heap.size (.slice (some ⟨g, 0, none⟩) l.length cap) l ∧ Below w.heap.size w w'
def GivesA3 (w : World) (l : List Int) (n : Int) (ok : Bool) (e : Ending) (w' : World) : Prop :=
  ∃ g o cap, e = .returned (.tuple #[.slice (some ⟨g, o, none⟩) l.length cap, .int .i64 n, .bool ok]) ∧ w.heap.size ≤ g ∧ IAt w' (some ⟨g, o, none⟩) l ∧ Below w.heap.size w w' ∧ g < w'.heap.size
end Go.Proofs.Ytlkomipjamelkaa.S13
