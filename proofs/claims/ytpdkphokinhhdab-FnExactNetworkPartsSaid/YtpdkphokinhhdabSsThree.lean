/- Slices of slices of ints below a bound: kept through the calls of a law. Conditions: each theorem's own premises. -/
import Derived.Test.YtpdkphokinhhdabPartTwo
namespace Go.Proofs.Ytpdkphokinhhdab.S2
open Go.RowKit Go.Sort P2

/-- The rows ls lie there, all of them in blocks below T. -/
def SB (T : Nat) (w : World) (A : Option Addr) (ls : List (List Int)) : Prop :=
  ls = [] ∨ ∃ b off, A = some ⟨b, off, none⟩ ∧ b < T ∧ ∀ i, i < ls.length → ∃ B c, w.cell? ⟨b, off + i, none⟩ = some (.slice B (rw_ ls i).length c) ∧
    (rw_ ls i = [] ∨ ∃ g o, B = some ⟨g, o, none⟩ ∧ g < T ∧ ∀ j, j < (rw_ ls i).length → w.cell? ⟨g, o + j, none⟩ = some (iv ((rw_ ls i).getD j 0)))
theorem SAt.sb {w : World} {A : Option Addr} {ls : List (List Int)} (h : SAt w A ls) : SB w.heap.size w A ls := h
theorem SB.sat {T : Nat} {w : World} {A : Option Addr} {ls : List (List Int)} (h : SB T w A ls) (hT : T ≤ w.heap.size) : SAt w A ls := by
  rcases h with h | ⟨b, off, hA, hb, hr⟩
  · exact .inl h
  · refine .inr ⟨b, off, hA, by omega, fun i hi => ?_⟩
    obtain ⟨B, c, hc, hI⟩ := hr i hi
    refine ⟨B, c, hc, ?_⟩
    rcases hI with hI | ⟨g, o, hB, hg, hcc⟩
    · exact .inl hI
    · exact .inr ⟨g, o, hB, by omega, hcc⟩
theorem SB.low {T S : Nat} {w w' : World} {A : Option Addr} {ls : List (List Int)} (h : SB T w A ls) (hb : Below S w w') (hT : T ≤ S) : SB T w' A ls := by
  rcases h with h | ⟨b, off, hA, hlt, hr⟩
  · exact .inl h
  · refine .inr ⟨b, off, hA, hlt, fun i hi => ?_⟩
    obtain ⟨B, c, hc, hI⟩ := hr i hi
    refine ⟨B, c, (hb.cell (p := ⟨b, off + i, none⟩) (by show b < S; omega)).trans hc, ?_⟩
    rcases hI with hI | ⟨g, o, hB, hg, hcc⟩
    · exact .inl hI
    · exact .inr ⟨g, o, hB, hg, fun j hj => (hb.cell (p := ⟨g, o + j, none⟩) (by show g < S; omega)).trans (hcc j hj)⟩
theorem SB.far {T k : Nat} {w w' : World} {A : Option Addr} {ls : List (List Int)} (h : SB T w A ls) (hg : w.grownBy w' (some k)) (hk : T ≤ k) : SB T w' A ls := by
  rcases h with h | ⟨b, off, hA, hlt, hr⟩
  · exact .inl h
  · refine .inr ⟨b, off, hA, hlt, fun i hi => ?_⟩
    obtain ⟨B, c, hc, hI⟩ := hr i hi
    refine ⟨B, c, hg.cell hc (by simp; omega), ?_⟩
    rcases hI with hI | ⟨g, o, hB, hgT, hcc⟩
    · exact .inl hI
    · exact .inr ⟨g, o, hB, hgT, fun j hj => hg.cell (hcc j hj) (by simp; omega)⟩
theorem SOwn.far {w w' : World} {B b cap k : Nat} {q : Nat → Nat × Nat} {ls : List (List Int)} (h : SOwn w B b cap q ls) (hg : w.grownBy w' (some k)) (hk : k < B) : SOwn w' B b cap q ls :=
  ⟨⟨Nat.lt_of_lt_of_le h.row.1 hg.size, h.row.2.1, fun i hi => hg.cell (h.row.2.2 i hi) (by have := h.row.2.1; simp; omega)⟩,
   fun i hi => own_far (h.own i hi) hg (by have := (World.ownsRow.lt (h.own i hi) (q i).1 rfl).1; omega), h.dis, h.out⟩
end Go.Proofs.Ytpdkphokinhhdab.S2
