/- A slice of slices of pipes, each in a row of the call's own: the words for it. Conditions: each theorem's own premises. -/
import Derived.Test.YtlkomipjamelkabToOne
import Derived.Laws.OwnMore
import Derived.Deep.AppendLies
import Derived.OwnWalk
namespace Go.Proofs.Ytlkomipjamelkab.S2
open Go.RowKit P2

theorem own_on {A B : World} {base : Nat} {e : TypeId} {size : Nat} {v : Value} {n : Nat} {xs : List Value} (h : A.ownsRow base e size v n xs) (hb : Below A.heap.size A B) : B.ownsRow base e size v n xs :=
  h.kept ⟨hb.os, hb.tape, hb.output, hb.size, fun k hk _ => hb.block k hk⟩ (Classical.or_iff_not_imp_left.2 fun hn => hn)

def pcs4 (p : Pp) : List Value := [.int .i64 p.id, .int .i64 p.fr, .int .i64 p.to, .int .i64 p.sz]
def pcs (ps : List Pp) : List Value := ps.flatMap pcs4
theorem pcs_snoc (ps : List Pp) (p : Pp) : pcs (ps ++ [p]) = pcs ps ++ pcs4 p := by simp [pcs, List.flatMap_append]
theorem pcs_len (ps : List Pp) : (pcs ps).length = ps.length * 4 := by
  induction ps with
  | nil => rfl
  | cons p ps ih =>
    have e : pcs (p :: ps) = pcs4 p ++ pcs ps := rfl
    rw [e, List.length_append, ih]; simp [pcs4]; omega
theorem pcs_get (ps : List Pp) : ∀ i, i < ps.length → ∀ j, j < 4 → (pcs ps)[i * 4 + j]? = (pcs4 (pAt ps i))[j]? := by
  induction ps with
  | nil => intro i h; simp at h
  | cons p ps ih =>
    intro i hi j hj
    have e : pcs (p :: ps) = pcs4 p ++ pcs ps := rfl
    have l4 : (pcs4 p).length = 4 := rfl
    match i with
    | 0 =>
      have e2 : pAt (p :: ps) 0 = p := by simp [pAt, List.getD]
      rw [e, e2, Nat.zero_mul, Nat.zero_add, List.getElem?_append_left (by omega)]
    | i + 1 =>
      have e2 : pAt (p :: ps) (i + 1) = pAt ps i := by simp [pAt, List.getD]
      rw [e, e2, List.getElem?_append_right (by omega), ← ih i (by simpa using hi) j hj, l4]
      congr 1; omega

/-- Read as pipes. -/
theorem own_pat {w : World} {B cap : Nat} {A : Option Addr} {ps : List Pp} (h : w.ownsRow B 40 4 (.slice A ps.length cap) ps.length (pcs ps)) : PAt w A ps := by
  rcases Nat.eq_zero_or_pos ps.length with h0 | h0
  · exact .inl (List.length_eq_zero_iff.1 h0)
  · obtain ⟨g, cap', hv, _, hlt⟩ := h.form h0
    injection hv with hA
    subst hA
    refine .inr ⟨g, 0, rfl, hlt, fun i hi => ?_⟩
    simp only [Nat.zero_add]
    have hc := fun j (hj : j < 4) => (h.cellAt (i * 4 + j) (by omega)).trans (pcs_get ps i hi j hj)
    exact ⟨hc 0 (by omega), hc 1 (by omega), hc 2 (by omega), hc 3 (by omega)⟩

/-- Block G holds N slices, each with a row of its own from block B on, no two in one block. -/
structure Bk (w : World) (B G N : Nat) (f : Nat → List Pp) (vs : Nat → Value) : Prop where
  row : w.rowIs G 24 N vs
  own : ∀ i, i < N → w.ownsRow B 40 4 (vs i) (f i).length (pcs (f i))
  apart : ∀ i j b, i < N → j < N → i ≠ j → (vs i).ownBlock = some b → (vs j).ownBlock ≠ some b
  lt : G < B

def upd {α : Type} (f : Nat → α) (i : Nat) (x : α) : Nat → α := fun j => if j = i then x else f j

theorem Bk.congr {w : World} {B G N : Nat} {f g : Nat → List Pp} {vs : Nat → Value} (h : Bk w B G N f vs) (e : ∀ i, i < N → f i = g i) : Bk w B G N g vs :=
  ⟨h.row, fun i hi => by rw [← e i hi]; exact h.own i hi, h.apart, h.lt⟩
theorem Bk.kept {w w' : World} {B G N : Nat} {f : Nat → List Pp} {vs : Nat → Value} (h : Bk w B G N f vs) (hb : Below w.heap.size w w') : Bk w' B G N f vs :=
  ⟨h.row.of_block (hb.block G h.row.lt), fun i hi => own_on (h.own i hi) hb, h.apart, h.lt⟩

theorem Bk.push {w W1 w1 : World} {B G N i g H cap : Nat} {f : Nat → List Pp} {vs : Nat → Value} {p : Pp} (h : Bk w B G N f vs) (hi : i < N) (hb : Below w.heap.size w W1)
    (hg : W1.grownBy w1 (vs i).ownBlock) (ho : w1.ownsRow B 40 4 (.slice (some ⟨g, 0, none⟩) ((f i).length + 1) cap) ((f i).length + 1) (pcs (f i) ++ pcs4 p))
    (hat : (vs i).ownBlock = some g ∨ g = H) (hH : w.heap.size ≤ H) :
    Bk (w1.setCell ⟨G, i, none⟩ (.slice (some ⟨g, 0, none⟩) ((f i).length + 1) cap)) B G N (upd f i (f i ++ [p])) (upd vs i (.slice (some ⟨g, 0, none⟩) ((f i).length + 1) cap)) := by
  have hGB := h.lt
  have hGne : some G ≠ (vs i).ownBlock := fun e => by have := ((h.own i hi).lt G e.symm).1; omega
  refine ⟨?_, fun j hj => ?_, fun j k b hj hk hjk hjb => ?_, h.lt⟩
  · have h1 := h.row.of_block (hb.block G h.row.lt)
    exact (h1.of_block (hg.block G h1.lt hGne)).set i _
  · refine ownsRow_setCell_below ?_ hGB _
    unfold upd
    by_cases e : j = i
    · rw [if_pos e, if_pos e]
      rw [pcs_snoc]
      simpa using ho
    · rw [if_neg e, if_neg e]
      refine (own_on (h.own j hj) hb).kept hg ?_
      match hv : (vs j).ownBlock with
      | none => exact .inl rfl
      | some b => exact .inr fun e2 => h.apart j i b hj hi e hv e2.symm
  · unfold upd at hjb ⊢
    by_cases e : j = i
    · rw [if_pos e] at hjb
      rw [if_neg (by omega)]
      have hgb : g = b := by simpa [Value.ownBlock] using hjb
      subst hgb
      rcases hat with hat | hat
      · exact h.apart i k g hi hk (by omega) hat
      · intro e2
        have := ((h.own k hk).lt g e2).2
        omega
    · rw [if_neg e] at hjb
      by_cases e3 : k = i
      · rw [if_pos e3]
        intro e2
        have hgb : g = b := by simpa [Value.ownBlock] using e2
        subst hgb
        rcases hat with hat | hat
        · exact h.apart j i g hj hi e hjb hat
        · have := ((h.own j hj).lt g hjb).2
          omega
      · rw [if_neg e3]
        exact h.apart j k b hj hk hjk hjb

theorem Bk.push_ne {w : World} {B G N i g H l cap x : Nat} {f : Nat → List Pp} {vs : Nat → Value} (h : Bk w B G N f vs) (hi : i < N) (hat : (vs i).ownBlock = some g ∨ g = H) (hx : w.heap.size ≤ x) (hH : H ≠ x) :
    ∀ j, j < N → (upd vs i (.slice (some ⟨g, 0, none⟩) l cap) j).ownBlock ≠ some x := by
  intro j hj e
  unfold upd at e
  by_cases hji : j = i
  · rw [if_pos hji] at e
    have hgx : g = x := by simpa [Value.ownBlock] using e
    rcases hat with hat | hat
    · have := ((h.own i hi).lt g hat).2; omega
    · omega
  · rw [if_neg hji] at e
    have := ((h.own j hj).lt x e).2
    omega

/-- What stands in the bucket of node i. -/
def touchB (i : Nat) (p : Pp) : Bool := decide (p.fr = (i : Int) ∨ p.to = (i : Int))
def rowTo (ps : List Pp) (k i : Nat) : List Pp := (ps.take k).filter (touchB i)
def rowOf (ps : List Pp) (i : Nat) : List Pp := ps.filter (touchB i)
theorem rowTo_len (ps : List Pp) (k i : Nat) : (rowTo ps k i).length ≤ k := Nat.le_trans (List.length_filter_le _ _) (by simp; omega)
theorem rowTo_all (ps : List Pp) (k i : Nat) (h : ps.length ≤ k) : rowTo ps k i = rowOf ps i := by unfold rowTo rowOf; rw [List.take_of_length_le h]
theorem rowTo_zero (ps : List Pp) (i : Nat) : rowTo ps 0 i = [] := by simp [rowTo]
theorem rowTo_step (ps : List Pp) (k a c : Nat) (hk : k < ps.length) (ha : (pAt ps k).fr = (a : Int)) (hc : (pAt ps k).to = (c : Int)) (hne : a ≠ c) (i : Nat) :
    upd (upd (rowTo ps k) a (rowTo ps k a ++ [pAt ps k])) c (upd (rowTo ps k) a (rowTo ps k a ++ [pAt ps k]) c ++ [pAt ps k]) i = rowTo ps (k + 1) i := by
  have e : rowTo ps (k + 1) i = rowTo ps k i ++ if touchB i (pAt ps k) then [pAt ps k] else [] := by
    unfold rowTo
    have h1 : ps.take (k + 1) = ps.take k ++ [pAt ps k] := by
      rw [List.take_succ_eq_append_getElem hk]; simp [pAt, List.getD, hk]
    rw [h1, List.filter_append]
    congr 1
    by_cases ht : touchB i (pAt ps k) <;> simp [ht]
  rw [e]
  unfold upd touchB
  rw [ha, hc]
  by_cases h1 : i = c
  · subst h1
    rw [if_pos rfl, if_neg (by omega)]
    simp
  · rw [if_neg h1]
    by_cases h2 : i = a
    · subst h2
      simp
    · rw [if_neg h2]
      have : ¬ ((a : Int) = (i : Int) ∨ (c : Int) = (i : Int)) := by omega
      simp [this]
end Go.Proofs.Ytlkomipjamelkab.S2
