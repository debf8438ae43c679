/- What the walks of the laws with a slice of numbers need: contracts gathered, and how their facts go on. Conditions: each theorem's own premises. -/
import Derived.Test.YtlkomipjamelkabBoxOne
import Derived.Test.YtlkomipjamelkabMarkNet
import Derived.Deep.DeepCutAuto
namespace Go.Proofs.Ytlkomipjamelkab.S2
open Go.RowKit P2

theorem IAt.low {w w' : World} {g o B : Nat} {l : List Int} (h : IAt w (some ⟨g, o, none⟩) l) (hb : Below B w w') (hg : g < B) : IAt w' (some ⟨g, o, none⟩) l := by
  rcases h with h | ⟨b, off, hA, hlt, h⟩
  · exact .inl h
  · simp only [Option.some.injEq, Addr.mk.injEq, and_true] at hA
    obtain ⟨rfl, rfl⟩ := hA
    exact .inr ⟨g, o, rfl, Nat.lt_of_lt_of_le hlt hb.size, fun i hi => (hb.cell (p := ⟨g, o + i, none⟩) hg).trans (h i hi)⟩
theorem IAt.far {w w' : World} {g o x : Nat} {l : List Int} (h : IAt w (some ⟨g, o, none⟩) l) (hb : w.grownBy w' (some x)) (hg : g ≠ x) : IAt w' (some ⟨g, o, none⟩) l := by
  rcases h with h | ⟨b, off, hA, hlt, h⟩
  · exact .inl h
  · simp only [Option.some.injEq, Addr.mk.injEq, and_true] at hA
    obtain ⟨rfl, rfl⟩ := hA
    exact .inr ⟨g, o, rfl, Nat.lt_of_lt_of_le hlt hb.size, fun i hi => (World.cell?_of_block (hb.block g hlt (by simp; exact hg))).trans (h i hi)⟩
theorem IOwn.far {w w' : World} {B g cap x : Nat} {l : List Int} (h : IOwn w B (.slice (some ⟨g, 0, none⟩) l.length cap) l) (hb : w.grownBy w' (some x)) (hg : g ≠ x) : IOwn w' B (.slice (some ⟨g, 0, none⟩) l.length cap) l :=
  World.ownsRow.kept h hb (.inr (by simp [Value.ownBlock]; exact hg))
theorem iown_lt {w : World} {B g n cap : Nat} {l : List Int} (h : IOwn w B (.slice (some ⟨g, 0, none⟩) n cap) l) : g < w.heap.size := (World.ownsRow.lt h g rfl).2
theorem iown_lt' {w : World} {B g n cap : Nat} {l : List Int} (h : IOwn w B (.slice (some ⟨g, 0, none⟩) n cap) l) : g < w.heap.size := iown_lt h
theorem iown_base {w : World} {B g n cap : Nat} {l : List Int} (h : IOwn w B (.slice (some ⟨g, 0, none⟩) n cap) l) : B ≤ g := (World.ownsRow.lt h g rfl).1
theorem IOwn.iat_marks {w : World} {B g n m cap : Nat} (h : IOwn w B (.slice (some ⟨g, 0, none⟩) n cap) (marksI m n)) : IAt w (some ⟨g, 0, none⟩) (marksI m n) := by
  have e : n = (marksI m n).length := (marksI_len m n).symm
  have h' : IOwn w B (.slice (some ⟨g, 0, none⟩) (marksI m n).length cap) (marksI m n) := by rw [← e]; exact h
  exact h'.iat
end Go.Proofs.Ytlkomipjamelkab.S2
