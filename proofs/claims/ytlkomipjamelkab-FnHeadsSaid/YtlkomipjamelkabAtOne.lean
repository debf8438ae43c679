/- The pipes at a node: what the program and the model return: contracts. Conditions: each theorem's own premises. -/
import Derived.Test.YtlkomipjamelkabIntsOne
import Derived.Test.YtlkomipjamelkabGivesNone
import Derived.Test.YtlkomipjamelkabNodeOne
import Derived.Test.YtlkomipjamelkabBkTwo
namespace Go.Proofs.Ytlkomipjamelkab.S2
open Go.RowKit P2

/-- The Ids of the pipes at a node. -/
def atL (ps : List Pp) (x : Int) : List Int := (ps.filter fun p => decide (p.fr = x ∨ p.to = x)).map (·.id)
def idsTo (ps : List Pp) (k : Nat) : List Int := (ps.take k).map (·.id)
theorem idsTo_len (ps : List Pp) (k : Nat) : (idsTo ps k).length ≤ k := by unfold idsTo; rw [List.length_map]; exact List.length_take_le _ _
theorem idsTo_succ (ps : List Pp) (k : Nat) (h : k < ps.length) : idsTo ps (k + 1) = idsTo ps k ++ [(pAt ps k).id] := by
  unfold idsTo
  rw [List.take_succ_eq_append_getElem h, List.map_append]
  simp [pAt, List.getD, h]
theorem idsTo_all (ps : List Pp) (k : Nat) (h : ps.length ≤ k) : idsTo ps k = ps.map (·.id) := by unfold idsTo; rw [List.take_of_length_le h]
theorem rowOf_len (ps : List Pp) (i : Nat) : (rowOf ps i).length ≤ ps.length := List.length_filter_le _ _
theorem atL_row (ps : List Pp) (i : Nat) : atL ps i = (rowOf ps i).map (·.id) := rfl

/-- One bucket, read. -/
theorem ByNode.at_ {w : World} {lo G N : Nat} {ps : List Pp} (h : ByNode w lo G N ps) {i : Nat} (hi : i < N) :
    ∃ A cap, w.cell? ⟨G, i, none⟩ = some (.slice A (rowOf ps i).length cap) ∧ PAt w A (rowOf ps i) ∧ ∀ b, A.map (·.block) = some b → lo ≤ b := by
  obtain ⟨vs, B, hB, hb⟩ := h
  have ho := hb.own i hi
  have hc := hb.row.cell hi
  rcases ho.2 with ⟨hv, h0⟩ | ⟨g, cap, cur, hv, hbg, _⟩
  · rw [hv] at hc
    rw [← h0] at hc
    exact ⟨none, _, hc, .inl (List.length_eq_zero_iff.1 h0), fun b hb => by cases hb⟩
  · rw [hv] at hc ho
    refine ⟨_, _, hc, own_pat ho, fun b hb => ?_⟩
    simp at hb
    omega
theorem ByNode.kept {w w' : World} {lo G N : Nat} {ps : List Pp} (h : ByNode w lo G N ps) (hb : Below w.heap.size w w') : ByNode w' lo G N ps := by
  obtain ⟨vs, B, hB, h⟩ := h
  exact ⟨vs, B, hB, h.kept hb⟩
theorem ByNode.lt {w : World} {lo G N : Nat} {ps : List Pp} (h : ByNode w lo G N ps) : G < w.heap.size := by
  obtain ⟨vs, B, hB, h⟩ := h
  exact h.row.lt
/-- Pipes in another block than the row that grows. -/
theorem PAt.grown {w w' : World} {A : Option Addr} {ps : List Pp} {row : Option Nat} (h : PAt w A ps) (hg : w.grownBy w' row) (hne : ∀ b, A.map (·.block) = some b → row ≠ some b) : PAt w' A ps := by
  rcases h with h | ⟨b, off, hA, hlt, h⟩
  · exact .inl h
  · have hb : w'.heap[b]? = w.heap[b]? := hg.block b hlt (fun e => hne b (by rw [hA]; rfl) e.symm)
    have hc : ∀ o, w'.cell? ⟨b, o, none⟩ = w.cell? ⟨b, o, none⟩ := fun o => World.cell?_of_block hb
    refine .inr ⟨b, off, hA, Nat.lt_of_lt_of_le hlt hg.size, fun i hi => ?_⟩
    obtain ⟨h0, h1, h2, h3⟩ := h i hi
    rw [hc, hc, hc, hc]
    exact ⟨h0, h1, h2, h3⟩
theorem PAt.alloc {w : World} {A : Option Addr} {ps : List Pp} (h : PAt w A ps) (o : Obj) : PAt (w.alloc o) A ps := h.kept ((Below.refl w.heap.size w).alloc (Nat.le_refl _) o) (Nat.le_refl _)
/-- The row lies elsewhere still. -/
theorem far_next {A : Option Addr} {ps : List Pp} {w : World} {v : Value} {g H l cap : Nat} (h : PAt w A ps) (hp : 0 < ps.length) (hne : ∀ b, A.map (·.block) = some b → v.ownBlock ≠ some b) (hat : v.ownBlock = some g ∨ g = H) (hH : w.heap.size ≤ H) :
    ∀ b, A.map (·.block) = some b → (Value.slice (some ⟨g, 0, none⟩) l cap).ownBlock ≠ some b := by
  intro b hb e
  have hgb : g = b := by simpa [Value.ownBlock] using e
  subst hgb
  rcases hat with hat | hat
  · exact hne g hb hat
  · rcases h with h | ⟨b', off, hA, hlt, _⟩
    · subst h; simp at hp
    · rw [hA] at hb
      simp at hb
      omega


end Go.Proofs.Ytlkomipjamelkab.S2
