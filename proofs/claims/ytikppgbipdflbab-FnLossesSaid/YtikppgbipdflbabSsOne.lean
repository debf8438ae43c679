/- Slices of slices of ints: what is read, what the call owns; the laws' helpers on them: comparison, marks, marks found again: contracts. Conditions: each theorem's own premises. -/
import Derived.Test.YtikppgbipdflbabLawInts
namespace Go.Proofs.Ytikppgbipdflbab.S2
open Go.RowKit Go.Sort P2

theorem met_at1 {P : Program} {f : FuncId} {args : Array Value} {w : World} {d : Nat} {os : Array Obj} {v : Value}
    (h : ∀ w', Below w.heap.size w w' → Calls P f args w' fun e w'' => e = .returned v ∧ Below w'.heap.size w' w'') : Calls P f args (grow (redrawn w d) os) fun e w'' => e = .returned v ∧ ∃ p : Regrown, w'' = grow (redrawn w p.d) p.os :=
  Calls.regrown_of (h _ (below_regrown w d os))

abbrev rw_ (ls : List (List Int)) (i : Nat) : List Int := ls.getD i []
/-- The rows ls lie there. -/
def SAt (w : World) (A : Option Addr) (ls : List (List Int)) : Prop :=
  ls = [] ∨ ∃ b off, A = some ⟨b, off, none⟩ ∧ b < w.heap.size ∧ ∀ i, i < ls.length → ∃ B c, w.cell? ⟨b, off + i, none⟩ = some (.slice B (rw_ ls i).length c) ∧ IAt w B (rw_ ls i)
theorem SAt.kept {w w' : World} {A : Option Addr} {ls : List (List Int)} {S : Nat} (h : SAt w A ls) (hb : Below S w w') (hS : w.heap.size ≤ S) : SAt w' A ls := by
  rcases h with h | ⟨b, off, hA, hlt, h⟩
  · exact .inl h
  · refine .inr ⟨b, off, hA, Nat.lt_of_lt_of_le hlt hb.size, fun i hi => ?_⟩
    obtain ⟨B, c, hc, hI⟩ := h i hi
    exact ⟨B, c, (hb.cell (p := ⟨b, off + i, none⟩) (by show b < S; omega)).trans hc, hI.kept hb hS⟩
theorem SAt.at_ {w : World} {A : Option Addr} {ls : List (List Int)} (h : SAt w A ls) {i : Nat} (hi : i < ls.length) : ∃ b off B c, A = some ⟨b, off, none⟩ ∧ b < w.heap.size ∧ w.cell? ⟨b, off + i, none⟩ = some (.slice B (rw_ ls i).length c) ∧ IAt w B (rw_ ls i) := by
  rcases h with h | ⟨b, off, hA, hlt, h⟩
  · subst h; simp at hi
  · obtain ⟨B, c, hc, hI⟩ := h i hi
    exact ⟨b, off, B, c, hA, hlt, hc, hI⟩

end Go.Proofs.Ytikppgbipdflbab.S2
