/- The parts of a network: what NetworkParts gathers, row by row. Conditions: each theorem's own premises. -/
import Derived.Test.YtpdkphokinhhdabSsTwo
import Derived.Test.YtpdkphokinhhdabWayFour
namespace Go.Proofs.Ytpdkphokinhhdab.S2
open Go.RowKit Go.Sort P2

/-- The parts whose first node is at most k. -/
noncomputable def partL (N : Nat) (ps : List Pp) : Nat → List (List Int)
  | 0 => []
  | k + 1 => if (conL N ps ((k + 1 : Nat) : Int)).getD 0 0 = ((k + 1 : Nat) : Int) then partL N ps k ++ [conL N ps ((k + 1 : Nat) : Int)] else partL N ps k
theorem partL_yes {N : Nat} {ps : List Pp} {k : Nat} (h : (conL N ps ((k + 1 : Nat) : Int)).getD 0 0 = ((k + 1 : Nat) : Int)) : partL N ps (k + 1) = partL N ps k ++ [conL N ps ((k + 1 : Nat) : Int)] := by
  show (if _ then _ else _) = _
  rw [if_pos h]
theorem partL_no {N : Nat} {ps : List Pp} {k : Nat} (h : (conL N ps ((k + 1 : Nat) : Int)).getD 0 0 ≠ ((k + 1 : Nat) : Int)) : partL N ps (k + 1) = partL N ps k := by
  show (if _ then _ else _) = _
  rw [if_neg h]
theorem conL_le (N : Nat) (ps : List Pp) (t : Int) : (conL N ps t).length ≤ N + 1 := conTo_len _ _
theorem partL_len (N : Nat) (ps : List Pp) : ∀ k, (partL N ps k).length ≤ k := by
  intro k
  induction k with
  | zero => simp [partL]
  | succ k ih =>
    by_cases h : (conL N ps ((k + 1 : Nat) : Int)).getD 0 0 = ((k + 1 : Nat) : Int)
    · rw [partL_yes h]; simp; exact ih
    · rw [partL_no h]; omega
theorem partL_row (N : Nat) (ps : List Pp) : ∀ k, ∀ l ∈ partL N ps k, l.length ≤ N + 1 := by
  intro k
  induction k with
  | zero => intro l h; simp [partL] at h
  | succ k ih =>
    intro l hl
    by_cases h : (conL N ps ((k + 1 : Nat) : Int)).getD 0 0 = ((k + 1 : Nat) : Int)
    · rw [partL_yes h] at hl
      rcases List.mem_append.1 hl with hl | hl
      · exact ih l hl
      · rw [List.mem_singleton.1 hl]; exact conL_le _ _ _
    · rw [partL_no h] at hl; exact ih l hl
theorem rw_mem {ls : List (List Int)} {i : Nat} (h : i < ls.length) : rw_ ls i ∈ ls := by
  have : rw_ ls i = ls[i] := by simp [rw_, List.getD, h]
  rw [this]; exact List.getElem_mem h
theorem rw_old {ls : List (List Int)} {l : List Int} {i : Nat} (h : i < ls.length) : rw_ (ls ++ [l]) i = rw_ ls i := by
  simp [rw_, List.getD, List.getElem?_append, h]
theorem rw_new {ls : List (List Int)} {l : List Int} : rw_ (ls ++ [l]) ls.length = l := by simp [rw_, List.getD]

/-! ### What is gathered -/
/-- How a row is held: kept through calls, and through writes elsewhere. -/
structure Held (R : World → Value → List Int → Prop) : Prop where
  below : ∀ w w' x l, R w x l → Below w.heap.size w w' → R w' x l
  far : ∀ w w' x l b, R w x l → w.grownBy w' b → x.ownBlock ≠ b → R w' x l
def RI (S : Nat) (w : World) (x : Value) (l : List Int) : Prop := ∃ g c, x = .slice (some ⟨g, 0, none⟩) l.length c ∧ IOwn w S x l
def RS (w : World) (x : Value) (l : List Int) : Prop := ∃ g o c, x = .slice (some ⟨g, o, none⟩) l.length c ∧ LAt w g o c l
theorem heldI (S : Nat) : Held (RI S) := by
  constructor
  · rintro w w' x l ⟨g, c, rfl, h⟩ hb
    exact ⟨g, c, rfl, h.on hb⟩
  · rintro w w' x l b ⟨g, c, rfl, h⟩ hg hne
    cases b with
    | none =>
      refine ⟨g, c, rfl, h.1, ?_⟩
      have hl := (World.ownsRow.lt h g rfl).2
      rcases h.2 with ⟨hv, _⟩ | ⟨g', cap', cur, hv, hb, hgt, rest⟩
      · cases hv
      · refine .inr ⟨g', cap', cur, hv, hb, ?_, rest⟩
        injection hv with hA
        injection hA with hA
        injection hA with e1
        subst e1
        rw [hg.block g hl (by simp)]; exact hgt
    | some b => exact ⟨g, c, rfl, own_far h hg (fun e => hne (by simp [Value.ownBlock, e]))⟩
theorem heldS : Held RS := by
  constructor
  · rintro w w' x l ⟨g, o, c, rfl, h⟩ hb
    exact ⟨g, o, c, rfl, h.kept hb⟩
  · rintro w w' x l b ⟨g, o, c, rfl, h⟩ hg hne
    refine ⟨g, o, c, rfl, Nat.lt_of_lt_of_le h.1 hg.size, h.2.1, h.2.2.1, fun i hi => hg.cell (h.2.2.2 i hi) (fun e => ?_)⟩
    exact hne (by rw [← e]; rfl)
/-- The rows ls are gathered in v. -/
def PInv (R : World → Value → List Int → Prop) (S : Nat) (v : Value) (ls : List (List Int)) (w : World) : Prop :=
  ∃ x : Nat → Value, w.ownsRow S 29 1 v ls.length ((List.range ls.length).map x) ∧ v ≠ .slice none 0 0 ∧
    (∀ i, i < ls.length → ∃ g, (x i).ownBlock = some g ∧ g < w.heap.size ∧ v.ownBlock ≠ some g ∧ R w (x i) (rw_ ls i)) ∧ (∀ i j, i < j → j < ls.length → (x i).ownBlock ≠ (x j).ownBlock)
theorem PInv.start (R : World → Value → List Int → Prop) (S : Nat) (w : World) (hS : S ≤ w.heap.size) : PInv R S (.slice (some ⟨w.heap.size, 0, none⟩) 0 0) [] (w.alloc (.cells #[] 29)) :=
  ⟨fun _ => undef, ⟨rfl, .inr ⟨w.heap.size, 0, #[], rfl, hS, by simpa using (MapKept.heap_alloc w (.cells #[] 29)).1, Nat.le_refl _, Nat.zero_le _, rfl, rfl⟩⟩, by simp, fun i hi => absurd hi (by simp), fun i j _ hj => absurd hj (by simp)⟩
theorem PInv.on {R : World → Value → List Int → Prop} (hR : Held R) {S : Nat} {v : Value} {ls : List (List Int)} {w w' : World} (h : PInv R S v ls w) (hb : Below w.heap.size w w') : PInv R S v ls w' := by
  obtain ⟨x, ho, hv, hr, hd⟩ := h
  exact ⟨x, own_on ho hb, hv, fun i hi => by
    obtain ⟨g, e, hl, hne, hRi⟩ := hr i hi
    exact ⟨g, e, Nat.lt_of_lt_of_le hl hb.size, hne, hR.below _ _ _ _ hRi hb⟩, hd⟩
theorem PInv.push {R : World → Value → List Int → Prop} (hR : Held R) {S : Nat} {v v' : Value} {ls : List (List Int)} {w0 w1 w3 : World} {o : Obj} {y : Value} {l : List Int} {g : Nat}
    (h : ∃ x : Nat → Value, w0.ownsRow S 29 1 v ls.length ((List.range ls.length).map x) ∧ v ≠ .slice none 0 0 ∧ (∀ i, i < ls.length → ∃ g, (x i).ownBlock = some g ∧ g < w0.heap.size ∧ v.ownBlock ≠ some g ∧ R w0 (x i) (rw_ ls i)) ∧ (∀ i j, i < j → j < ls.length → (x i).ownBlock ≠ (x j).ownBlock) ∧
      w3.ownsRow S 29 1 v' (ls.length + 1) ((List.range ls.length).map x ++ [y]))
    (hb : Below w0.heap.size w0 w1) (hy : y.ownBlock = some g) (hgl : g < w1.heap.size) (hgw : w0.heap.size ≤ g) (hRy : R w1 y l) (hvl : ∀ b, v.ownBlock = some b → b < w0.heap.size)
    (hg : (w1.alloc o).grownBy w3 v.ownBlock) (hnew : v' ≠ .slice none 0 0) (hat : v'.ownBlock = v.ownBlock ∨ ∃ b, v'.ownBlock = some b ∧ w1.heap.size ≤ b) : PInv R S v' (ls ++ [l]) w3 := by
  obtain ⟨x, ho, hv, hr, hd, hown⟩ := h
  have hz3 : w1.heap.size + 1 ≤ w3.heap.size := by have := hg.size; simpa using this
  have hbz := hb.size
  have hal : Below w1.heap.size w1 (w1.alloc o) := (Below.refl _ _).alloc (Nat.le_refl _) o
  have hx : ∀ i, (if i = ls.length then y else x i) = if i < ls.length then x i else if i = ls.length then y else x i := by
    intro i; by_cases e : i = ls.length
    · subst e; simp
    · simp [e]
  refine ⟨fun i => if i = ls.length then y else x i, ?_, hnew, ?_, ?_⟩
  · have e : (List.range (ls ++ [l]).length).map (fun i => if i = ls.length then y else x i) = (List.range ls.length).map x ++ [y] := by
      rw [List.length_append, List.length_singleton, List.range_succ, List.map_append]
      congr 1
      · refine List.map_congr_left fun i hi => ?_
        have : i < ls.length := by simpa using hi
        rw [if_neg (by omega)]
      · simp
    rw [e, List.length_append]
    exact hown
  · intro i hi
    rw [List.length_append, List.length_singleton] at hi
    by_cases e : i = ls.length
    · subst e
      refine ⟨g, by simpa using hy, by omega, ?_, ?_⟩
      · rcases hat with hat | ⟨b, hb1, hb2⟩
        · rw [hat]; intro e; have := hvl g e; omega
        · rw [hb1]; simp; omega
      · simp only [if_true]
        rw [rw_new]
        exact hR.far _ _ _ _ _ (hR.below _ _ _ _ hRy hal) hg (by rw [hy]; intro e; have := hvl g e.symm; omega)
    · have hil : i < ls.length := by omega
      obtain ⟨gi, e1, e2, e3, e4⟩ := hr i hil
      refine ⟨gi, by simpa [e] using e1, by omega, ?_, ?_⟩
      · rcases hat with hat | ⟨b, hb1, hb2⟩
        · rw [hat]; exact e3
        · rw [hb1]; simp; omega
      · simp only [if_neg e]
        rw [rw_old hil]
        exact hR.far _ _ _ _ _ (hR.below _ _ _ _ (hR.below _ _ _ _ e4 hb) hal) hg (by rw [e1]; exact fun h => e3 h.symm)
  · intro i j hij hj
    rw [List.length_append, List.length_singleton] at hj
    have hi' : ¬ i = ls.length := by omega
    simp only [if_neg hi']
    obtain ⟨gi, e1, e2, _, _⟩ := hr i (by omega)
    by_cases e : j = ls.length
    · simp only [if_pos e]
      rw [e1, hy]; simp; omega
    · simp only [if_neg e]
      exact hd i j hij (by omega)
end Go.Proofs.Ytpdkphokinhhdab.S2
