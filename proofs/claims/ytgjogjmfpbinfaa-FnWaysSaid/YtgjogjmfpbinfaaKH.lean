/- The laws' own helpers: whether the bytes are too many, comparison of lists, whether a list holds a number: contracts. Conditions: each theorem's own premises. -/
import Derived.Test.YtgjogjmfpbinfaaKQ
import Derived.Test.YtgjogjmfpbinfaaKN
import Derived.Test.YtgjogjmfpbinfaaKW
import Derived.Test.YtgjogjmfpbinfaaKT
namespace Go.Proofs.Ytgjogjmfpbinfaa.S2
open Go.RowKit Go.Sort P2

theorem met_at1 {P : Program} {f : FuncId} {args : Array Value} {w : World} {d : Nat} {os : Array Obj} {v : Value}
    (h : ∀ w', Below w.heap.size w w' → Calls P f args w' fun e w'' => e = .returned v ∧ Below w'.heap.size w' w'') : Calls P f args (grow (redrawn w d) os) fun e w'' => e = .returned v ∧ ∃ p : Regrown, w'' = grow (redrawn w p.d) p.os :=
  Calls.regrown_of (h _ (below_regrown w d os))

abbrev rw_ (ls : List (List Int)) (i : Nat) : List Int := ls.getD i []
/-- The rows ls lie there. -/
def SAt (w : World) (A : Option Addr) (ls : List (List Int)) : Prop :=
  ls = [] ∨ ∃ b off, A = some ⟨b, off, none⟩ ∧ b < w.heap.size ∧ ∀ i, i < ls.length → ∃ B c, w.cell? ⟨b, off + i, none⟩ = some (.slice B (rw_ ls i).length c) ∧ IAt w B (rw_ ls i)
theorem SAt.kept {w w' : World} {A : Option Addr} {ls : List (List Int)} {S : Nat} (h : SAt w A ls) (hb : Below S w w') (hS : w.heap.size ≤ S) : SAt w' A ls := by
  rcases h with h | ⟨b, off, hA, hlt, h⟩
  · exact .inl h
  · refine .inr ⟨b, off, hA, Nat.lt_of_lt_of_le hlt hb.size, fun i hi => ?_⟩
    obtain ⟨B, c, hc, hI⟩ := h i hi
    exact ⟨B, c, (hb.cell (p := ⟨b, off + i, none⟩) (by show b < S; omega)).trans hc, hI.kept hb hS⟩
theorem SAt.at_ {w : World} {A : Option Addr} {ls : List (List Int)} (h : SAt w A ls) {i : Nat} (hi : i < ls.length) : ∃ b off B c, A = some ⟨b, off, none⟩ ∧ b < w.heap.size ∧ w.cell? ⟨b, off + i, none⟩ = some (.slice B (rw_ ls i).length c) ∧ IAt w B (rw_ ls i) := by
  rcases h with h | ⟨b, off, hA, hlt, h⟩
  · subst h; simp at hi
  · obtain ⟨B, c, hc, hI⟩ := h i hi
    exact ⟨b, off, B, c, hA, hlt, hc, hI⟩

end Go.Proofs.Ytgjogjmfpbinfaa.S2

namespace Go.Proofs.Ytgjogjmfpbinfaa.S2
open Go.RowKit Go.Sort P2

theorem grown_cell {w w1 : World} {g i : Nat} {v : Value} (h : w.grownBy w1 (some g)) : w.grownBy (w1.setCell ⟨g, i, none⟩ v) (some g) := by
  refine ⟨h.os, h.tape, h.output, by simpa using h.size, fun k hk hne => ?_⟩
  rw [Below.heap_setCell w1 ⟨g, i, none⟩ v k (fun e => hne (by rw [e]))]
  exact h.block k hk hne

/-- The rows ls of the call's own, each in a block of its own. -/
structure SOwn (w : World) (B b cap : Nat) (q : Nat → Nat × Nat) (ls : List (List Int)) : Prop where
  row : b < w.heap.size ∧ B ≤ b ∧ ∀ i, i < ls.length → w.cell? ⟨b, i, none⟩ = some (.slice (some ⟨(q i).1, 0, none⟩) (rw_ ls i).length (q i).2)
  own : ∀ i, i < ls.length → IOwn w B (.slice (some ⟨(q i).1, 0, none⟩) (rw_ ls i).length (q i).2) (rw_ ls i)
  dis : ∀ i j, i < j → j < ls.length → (q i).1 ≠ (q j).1
  out : ∀ i, i < ls.length → (q i).1 ≠ b
theorem SOwn.sat {w : World} {B b cap : Nat} {q : Nat → Nat × Nat} {ls : List (List Int)} (h : SOwn w B b cap q ls) : SAt w (some ⟨b, 0, none⟩) ls :=
  .inr ⟨b, 0, rfl, h.row.1, fun i hi => ⟨_, _, by rw [Nat.zero_add]; exact h.row.2.2 i hi, (h.own i hi).iat⟩⟩
theorem SOwn.on {w w' : World} {B b cap : Nat} {q : Nat → Nat × Nat} {ls : List (List Int)} (h : SOwn w B b cap q ls) (hb : Below w.heap.size w w') : SOwn w' B b cap q ls :=
  ⟨⟨Nat.lt_of_lt_of_le h.row.1 hb.size, h.row.2.1, fun i hi => (hb.cell (p := ⟨b, i, none⟩) h.row.1).trans (h.row.2.2 i hi)⟩, fun i hi => (h.own i hi).on hb, h.dis, h.out⟩

/-- Where the marks of row i start. -/
def totR (ls : List (List Int)) : Nat → Nat
  | 0 => 0
  | i + 1 => totR ls i + (rw_ ls i).length
theorem totR_le {ls : List (List Int)} (hr : ∀ i, i < ls.length → (rw_ ls i).length ≤ 100) : ∀ i, i ≤ ls.length → totR ls i ≤ 100 * i := by
  intro i
  induction i with
  | zero => intro _; simp [totR]
  | succ i ih => intro h; have a := ih (by omega); have b := hr i (by omega); simp only [totR]; omega
/-- The rows of marks. -/
def marksS (m : Nat) (ls : List (List Int)) : List (List Int) := (List.range ls.length).map fun i => marksI (m + totR ls i) (rw_ ls i).length
theorem marksS_len (m : Nat) (ls : List (List Int)) : (marksS m ls).length = ls.length := by simp [marksS]
theorem marksS_at (m : Nat) (ls : List (List Int)) (i : Nat) (h : i < ls.length) : rw_ (marksS m ls) i = marksI (m + totR ls i) (rw_ ls i).length := by simp [rw_, marksS, List.getD, h]

theorem own_far {w w' : World} {B g c : Nat} {l : List Int} {b : Nat} (h : IOwn w B (.slice (some ⟨g, 0, none⟩) l.length c) l) (hg : w.grownBy w' (some b)) (hne : g ≠ b) : IOwn w' B (.slice (some ⟨g, 0, none⟩) l.length c) l := by
  have hl := (World.ownsRow.lt h g rfl).2
  refine ⟨h.1, ?_⟩
  rcases h.2 with ⟨hv, _⟩ | ⟨g', cap', cur, hv, hb, hgt, rest⟩
  · cases hv
  · refine .inr ⟨g', cap', cur, hv, hb, ?_, rest⟩
    injection hv with hA
    injection hA with hA
    injection hA with e1
    subst e1
    rw [hg.block g hl (by simp; omega)]; exact hgt

/-- Rows 0 to j are marked, the others as they were. -/
def MkInv (B b m : Nat) (q : Nat → Nat × Nat) (ls : List (List Int)) (w : World) (j : Nat) (wr : World) : Prop :=
  b < wr.heap.size ∧ (∀ i, i < ls.length → wr.cell? ⟨b, i, none⟩ = some (.slice (some ⟨(q i).1, 0, none⟩) (rw_ ls i).length (q i).2)) ∧
    (∀ i, i < j → IOwn wr B (.slice (some ⟨(q i).1, 0, none⟩) (rw_ ls i).length (q i).2) (marksI (m + totR ls i) (rw_ ls i).length)) ∧
    (∀ i, j ≤ i → i < ls.length → IOwn wr B (.slice (some ⟨(q i).1, 0, none⟩) (rw_ ls i).length (q i).2) (rw_ ls i)) ∧ Below B w wr


end Go.Proofs.Ytgjogjmfpbinfaa.S2

namespace Go.Proofs.Ytgjogjmfpbinfaa.S2
open Go.RowKit Go.Sort P2

/-- The parts whose first node is at most k. -/
noncomputable def partL (N : Nat) (ps : List Pp) : Nat → List (List Int)
  | 0 => []
  | k + 1 => if (conL N ps ((k + 1 : Nat) : Int)).getD 0 0 = ((k + 1 : Nat) : Int) then partL N ps k ++ [conL N ps ((k + 1 : Nat) : Int)] else partL N ps k
theorem partL_yes {N : Nat} {ps : List Pp} {k : Nat} (h : (conL N ps ((k + 1 : Nat) : Int)).getD 0 0 = ((k + 1 : Nat) : Int)) : partL N ps (k + 1) = partL N ps k ++ [conL N ps ((k + 1 : Nat) : Int)] := by
  show (if _ then _ else _) = _
  rw [if_pos h]
theorem partL_no {N : Nat} {ps : List Pp} {k : Nat} (h : (conL N ps ((k + 1 : Nat) : Int)).getD 0 0 ≠ ((k + 1 : Nat) : Int)) : partL N ps (k + 1) = partL N ps k := by
  show (if _ then _ else _) = _
  rw [if_neg h]
theorem conL_le (N : Nat) (ps : List Pp) (t : Int) : (conL N ps t).length ≤ N + 1 := conTo_len _ _
theorem partL_len (N : Nat) (ps : List Pp) : ∀ k, (partL N ps k).length ≤ k := by
  intro k
  induction k with
  | zero => simp [partL]
  | succ k ih =>
    by_cases h : (conL N ps ((k + 1 : Nat) : Int)).getD 0 0 = ((k + 1 : Nat) : Int)
    · rw [partL_yes h]; simp; exact ih
    · rw [partL_no h]; omega
theorem partL_row (N : Nat) (ps : List Pp) : ∀ k, ∀ l ∈ partL N ps k, l.length ≤ N + 1 := by
  intro k
  induction k with
  | zero => intro l h; simp [partL] at h
  | succ k ih =>
    intro l hl
    by_cases h : (conL N ps ((k + 1 : Nat) : Int)).getD 0 0 = ((k + 1 : Nat) : Int)
    · rw [partL_yes h] at hl
      rcases List.mem_append.1 hl with hl | hl
      · exact ih l hl
      · rw [List.mem_singleton.1 hl]; exact conL_le _ _ _
    · rw [partL_no h] at hl; exact ih l hl
theorem rw_mem {ls : List (List Int)} {i : Nat} (h : i < ls.length) : rw_ ls i ∈ ls := by
  have : rw_ ls i = ls[i] := by simp [rw_, List.getD, h]
  rw [this]; exact List.getElem_mem h
theorem rw_old {ls : List (List Int)} {l : List Int} {i : Nat} (h : i < ls.length) : rw_ (ls ++ [l]) i = rw_ ls i := by
  simp [rw_, List.getD, List.getElem?_append, h]
theorem rw_new {ls : List (List Int)} {l : List Int} : rw_ (ls ++ [l]) ls.length = l := by simp [rw_, List.getD]

/-! ### What is gathered -/
/-- How a row is held: kept through calls, and through writes elsewhere. -/
structure Held (R : World → Value → List Int → Prop) : Prop where
  below : ∀ w w' x l, R w x l → Below w.heap.size w w' → R w' x l
  far : ∀ w w' x l b, R w x l → w.grownBy w' b → x.ownBlock ≠ b → R w' x l
def RI (S : Nat) (w : World) (x : Value) (l : List Int) : Prop := ∃ g c, x = .slice (some ⟨g, 0, none⟩) l.length c ∧ IOwn w S x l
def RS (w : World) (x : Value) (l : List Int) : Prop := ∃ g o c, x = .slice (some ⟨g, o, none⟩) l.length c ∧ LAt w g o c l
theorem heldI (S : Nat) : Held (RI S) := by
  constructor
  · rintro w w' x l ⟨g, c, rfl, h⟩ hb
    exact ⟨g, c, rfl, h.on hb⟩
  · rintro w w' x l b ⟨g, c, rfl, h⟩ hg hne
    cases b with
    | none =>
      refine ⟨g, c, rfl, h.1, ?_⟩
      have hl := (World.ownsRow.lt h g rfl).2
      rcases h.2 with ⟨hv, _⟩ | ⟨g', cap', cur, hv, hb, hgt, rest⟩
      · cases hv
      · refine .inr ⟨g', cap', cur, hv, hb, ?_, rest⟩
        injection hv with hA
        injection hA with hA
        injection hA with e1
        subst e1
        rw [hg.block g hl (by simp)]; exact hgt
    | some b => exact ⟨g, c, rfl, own_far h hg (fun e => hne (by simp [Value.ownBlock, e]))⟩
theorem heldS : Held RS := by
  constructor
  · rintro w w' x l ⟨g, o, c, rfl, h⟩ hb
    exact ⟨g, o, c, rfl, h.kept hb⟩
  · rintro w w' x l b ⟨g, o, c, rfl, h⟩ hg hne
    refine ⟨g, o, c, rfl, Nat.lt_of_lt_of_le h.1 hg.size, h.2.1, h.2.2.1, fun i hi => hg.cell (h.2.2.2 i hi) (fun e => ?_)⟩
    exact hne (by rw [← e]; rfl)
/-- The rows ls are gathered in v. -/
def PInv (R : World → Value → List Int → Prop) (S : Nat) (v : Value) (ls : List (List Int)) (w : World) : Prop :=
  ∃ x : Nat → Value, w.ownsRow S 34 1 v ls.length ((List.range ls.length).map x) ∧ v ≠ .slice none 0 0 ∧
    (∀ i, i < ls.length → ∃ g, (x i).ownBlock = some g ∧ g < w.heap.size ∧ v.ownBlock ≠ some g ∧ R w (x i) (rw_ ls i)) ∧ (∀ i j, i < j → j < ls.length → (x i).ownBlock ≠ (x j).ownBlock)
theorem PInv.start (R : World → Value → List Int → Prop) (S : Nat) (w : World) (hS : S ≤ w.heap.size) : PInv R S (.slice (some ⟨w.heap.size, 0, none⟩) 0 0) [] (w.alloc (.cells #[] 34)) :=
  ⟨fun _ => undef, ⟨rfl, .inr ⟨w.heap.size, 0, #[], rfl, hS, by simpa using (MapKept.heap_alloc w (.cells #[] 34)).1, Nat.le_refl _, Nat.zero_le _, rfl, rfl⟩⟩, by simp, fun i hi => absurd hi (by simp), fun i j _ hj => absurd hj (by simp)⟩
theorem PInv.on {R : World → Value → List Int → Prop} (hR : Held R) {S : Nat} {v : Value} {ls : List (List Int)} {w w' : World} (h : PInv R S v ls w) (hb : Below w.heap.size w w') : PInv R S v ls w' := by
  obtain ⟨x, ho, hv, hr, hd⟩ := h
  exact ⟨x, own_on ho hb, hv, fun i hi => by
    obtain ⟨g, e, hl, hne, hRi⟩ := hr i hi
    exact ⟨g, e, Nat.lt_of_lt_of_le hl hb.size, hne, hR.below _ _ _ _ hRi hb⟩, hd⟩
theorem PInv.push {R : World → Value → List Int → Prop} (hR : Held R) {S : Nat} {v v' : Value} {ls : List (List Int)} {w0 w1 w3 : World} {o : Obj} {y : Value} {l : List Int} {g : Nat}
    (h : ∃ x : Nat → Value, w0.ownsRow S 34 1 v ls.length ((List.range ls.length).map x) ∧ v ≠ .slice none 0 0 ∧ (∀ i, i < ls.length → ∃ g, (x i).ownBlock = some g ∧ g < w0.heap.size ∧ v.ownBlock ≠ some g ∧ R w0 (x i) (rw_ ls i)) ∧ (∀ i j, i < j → j < ls.length → (x i).ownBlock ≠ (x j).ownBlock) ∧
      w3.ownsRow S 34 1 v' (ls.length + 1) ((List.range ls.length).map x ++ [y]))
    (hb : Below w0.heap.size w0 w1) (hy : y.ownBlock = some g) (hgl : g < w1.heap.size) (hgw : w0.heap.size ≤ g) (hRy : R w1 y l) (hvl : ∀ b, v.ownBlock = some b → b < w0.heap.size)
    (hg : (w1.alloc o).grownBy w3 v.ownBlock) (hnew : v' ≠ .slice none 0 0) (hat : v'.ownBlock = v.ownBlock ∨ ∃ b, v'.ownBlock = some b ∧ w1.heap.size ≤ b) : PInv R S v' (ls ++ [l]) w3 := by
  obtain ⟨x, ho, hv, hr, hd, hown⟩ := h
  have hz3 : w1.heap.size + 1 ≤ w3.heap.size := by have := hg.size; simpa using this
  have hbz := hb.size
  have hal : Below w1.heap.size w1 (w1.alloc o) := (Below.refl _ _).alloc (Nat.le_refl _) o
  have hx : ∀ i, (if i = ls.length then y else x i) = if i < ls.length then x i else if i = ls.length then y else x i := by
    intro i; by_cases e : i = ls.length
    · subst e; simp
    · simp [e]
  refine ⟨fun i => if i = ls.length then y else x i, ?_, hnew, ?_, ?_⟩
  · have e : (List.range (ls ++ [l]).length).map (fun i => if i = ls.length then y else x i) = (List.range ls.length).map x ++ [y] := by
      rw [List.length_append, List.length_singleton, List.range_succ, List.map_append]
      congr 1
      · refine List.map_congr_left fun i hi => ?_
        have : i < ls.length := by simpa using hi
        rw [if_neg (by omega)]
      · simp
    rw [e, List.length_append]
    exact hown
  · intro i hi
    rw [List.length_append, List.length_singleton] at hi
    by_cases e : i = ls.length
    · subst e
      refine ⟨g, by simpa using hy, by omega, ?_, ?_⟩
      · rcases hat with hat | ⟨b, hb1, hb2⟩
        · rw [hat]; intro e; have := hvl g e; omega
        · rw [hb1]; simp; omega
      · simp only [if_true]
        rw [rw_new]
        exact hR.far _ _ _ _ _ (hR.below _ _ _ _ hRy hal) hg (by rw [hy]; intro e; have := hvl g e.symm; omega)
    · have hil : i < ls.length := by omega
      obtain ⟨gi, e1, e2, e3, e4⟩ := hr i hil
      refine ⟨gi, by simpa [e] using e1, by omega, ?_, ?_⟩
      · rcases hat with hat | ⟨b, hb1, hb2⟩
        · rw [hat]; exact e3
        · rw [hb1]; simp; omega
      · simp only [if_neg e]
        rw [rw_old hil]
        exact hR.far _ _ _ _ _ (hR.below _ _ _ _ (hR.below _ _ _ _ e4 hb) hal) hg (by rw [e1]; exact fun h => e3 h.symm)
  · intro i j hij hj
    rw [List.length_append, List.length_singleton] at hj
    have hi' : ¬ i = ls.length := by omega
    simp only [if_neg hi']
    obtain ⟨gi, e1, e2, _, _⟩ := hr i (by omega)
    by_cases e : j = ls.length
    · simp only [if_pos e]
      rw [e1, hy]; simp; omega
    · simp only [if_neg e]
      exact hd i j hij (by omega)
end Go.Proofs.Ytgjogjmfpbinfaa.S2

namespace Go.Proofs.Ytgjogjmfpbinfaa.S2
open Go.RowKit P2

theorem con_sorted (n : Nat) (ps : List Pp) (t : Int) : (conL n ps t).Pairwise (· < ·) := by
  unfold conL conTo
  rw [List.pairwise_map]
  refine (List.pairwise_lt_range.sublist List.filter_sublist).imp ?_
  intro a b h
  omega
theorem con_same {N : Nat} {ps : List Pp} {x t : Int} (h : Conn ps x t) : conL N ps x = conL N ps t := by
  refine sorted_ext _ _ (con_sorted N ps x) (con_sorted N ps t) fun y => ?_
  rw [con_mem, con_mem]
  constructor
  · rintro ⟨a, b, c⟩; exact ⟨a, b, c.tr h⟩
  · rintro ⟨a, b, c⟩; exact ⟨a, b, c.tr (conn_symm h)⟩
/-- The first node of what is reached. -/
noncomputable def mn (N : Nat) (ps : List Pp) (v : Int) : Int := (conL N ps v).getD 0 0
theorem mn_mem {N : Nat} {ps : List Pp} {v : Int} (h1 : 1 ≤ v) (h2 : v ≤ N) : mn N ps v ∈ conL N ps v := by
  have hm : v ∈ conL N ps v := (con_mem N ps v v).2 ⟨h1, h2, ⟨0, rfl⟩⟩
  have hp := List.length_pos_of_mem hm
  unfold mn
  rw [List.getD_eq_getElem?_getD, List.getElem?_eq_getElem hp]
  exact List.getElem_mem hp
theorem mn_in {N : Nat} {ps : List Pp} {v : Int} (h1 : 1 ≤ v) (h2 : v ≤ N) : 1 ≤ mn N ps v ∧ mn N ps v ≤ N ∧ Conn ps (mn N ps v) v := (con_mem N ps v _).1 (mn_mem h1 h2)
theorem mn_same {N : Nat} {ps : List Pp} {v : Int} (h1 : 1 ≤ v) (h2 : v ≤ N) : conL N ps (mn N ps v) = conL N ps v := con_same (mn_in h1 h2).2.2
theorem filter_split {α : Type} (p q r : α → Bool) (h : ∀ a, r a = (p a || q a)) (hd : ∀ a, ¬ (p a = true ∧ q a = true)) : ∀ l : List α, (l.filter r).length = (l.filter p).length + (l.filter q).length
  | [] => rfl
  | a :: l => by
    have ih := filter_split p q r h hd l
    have h1 := h a
    have h2 := hd a
    cases hp : p a <;> cases hq : q a <;> rw [hp, hq] at h1 <;> simp [hp, hq, h1, ih] <;> first | omega | (exact absurd ⟨hp, hq⟩ h2)
theorem mn_first {N : Nat} {ps : List Pp} {k : Nat} (_h2 : k + 1 ≤ N) (h : mn N ps ((k + 1 : Nat) : Int) = ((k + 1 : Nat) : Int)) : (upL N).filter (fun v => decide (mn N ps v = ((k + 1 : Nat) : Int))) = conL N ps ((k + 1 : Nat) : Int) := by
  refine sorted_ext _ _ ((upL_sorted N).sublist List.filter_sublist) (con_sorted N ps _) fun y => ?_
  rw [List.mem_filter, upL_mem, decide_eq_true_eq, con_mem]
  constructor
  · rintro ⟨⟨a, b⟩, c⟩
    have := mn_in (ps := ps) a b
    rw [c] at this
    exact ⟨a, b, conn_symm this.2.2⟩
  · rintro ⟨a, b, c⟩
    refine ⟨⟨a, b⟩, ?_⟩
    have e : mn N ps y = mn N ps ((k + 1 : Nat) : Int) := by unfold mn; rw [con_same c]
    rw [e, h]
theorem mn_none {N : Nat} {ps : List Pp} {k : Nat} (h : mn N ps ((k + 1 : Nat) : Int) ≠ ((k + 1 : Nat) : Int)) : (upL N).filter (fun v => decide (mn N ps v = ((k + 1 : Nat) : Int))) = [] := by
  refine List.filter_eq_nil_iff.2 fun y hy hc => h ?_
  obtain ⟨a, b⟩ := upL_mem.1 hy
  have hc2 : mn N ps y = ((k + 1 : Nat) : Int) := by simpa using hc
  have e := mn_same (ps := ps) a b
  rw [hc2] at e
  unfold mn
  rw [e]
  exact hc2
theorem totR_old {ls : List (List Int)} {l : List Int} : ∀ i, i ≤ ls.length → totR (ls ++ [l]) i = totR ls i := by
  intro i
  induction i with
  | zero => intro _; rfl
  | succ i ih =>
    intro hi
    show totR (ls ++ [l]) i + (rw_ (ls ++ [l]) i).length = totR ls i + (rw_ ls i).length
    rw [ih (by omega), rw_old (by omega)]
theorem totR_new {ls : List (List Int)} {l : List Int} : totR (ls ++ [l]) (ls ++ [l]).length = totR ls ls.length + l.length := by
  rw [List.length_append]
  show totR (ls ++ [l]) ls.length + (rw_ (ls ++ [l]) ls.length).length = _
  rw [totR_old _ (Nat.le_refl _), rw_new]
theorem parts_tot (N : Nat) (ps : List Pp) : ∀ k, k ≤ N → totR (partL N ps k) (partL N ps k).length = ((upL N).filter fun v => decide (mn N ps v ≤ (k : Int))).length := by
  intro k
  induction k with
  | zero =>
    intro _
    rw [List.filter_eq_nil_iff.2]
    · rfl
    · intro y hy hc
      obtain ⟨a, b⟩ := upL_mem.1 hy
      have := mn_in (ps := ps) a b
      have hc2 : mn N ps y ≤ ((0 : Nat) : Int) := by simpa using hc
      omega
  | succ k ih =>
    intro hk
    have ih := ih (by omega)
    have hsp := filter_split (fun v => decide (mn N ps v ≤ (k : Int))) (fun v => decide (mn N ps v = ((k + 1 : Nat) : Int))) (fun v => decide (mn N ps v ≤ ((k + 1 : Nat) : Int))) (fun a => by
      rw [Bool.eq_iff_iff, Bool.or_eq_true, decide_eq_true_eq, decide_eq_true_eq, decide_eq_true_eq]; omega) (fun a => by rw [decide_eq_true_eq, decide_eq_true_eq]; omega) (upL N)
    rw [hsp]
    by_cases h : mn N ps ((k + 1 : Nat) : Int) = ((k + 1 : Nat) : Int)
    · rw [partL_yes h, totR_new, ih, mn_first hk h]
    · rw [partL_no h, ih, mn_none h]; rfl
theorem parts_all (N : Nat) (ps : List Pp) : totR (partL N ps N) (partL N ps N).length = N := by
  rw [parts_tot N ps N (Nat.le_refl _), List.filter_eq_self.2]
  · simp [upL]
  · intro y hy
    obtain ⟨a, b⟩ := upL_mem.1 hy
    exact decide_eq_true (mn_in (ps := ps) a b).2.1
theorem partL_is (N : Nat) (ps : List Pp) : ∀ k, ∀ l ∈ partL N ps k, ∃ j : Nat, 1 ≤ j ∧ j ≤ k ∧ l = conL N ps (j : Int) := by
  intro k
  induction k with
  | zero => intro l hl; cases hl
  | succ k ih =>
    intro l hl
    by_cases h : (conL N ps ((k + 1 : Nat) : Int)).getD 0 0 = ((k + 1 : Nat) : Int)
    · rw [partL_yes h] at hl
      rcases List.mem_append.1 hl with h1 | h1
      · obtain ⟨j, a, b, c⟩ := ih l h1
        exact ⟨j, a, by omega, c⟩
      · exact ⟨k + 1, by omega, Nat.le_refl _, List.mem_singleton.1 h1⟩
    · rw [partL_no h] at hl
      obtain ⟨j, a, b, c⟩ := ih l hl
      exact ⟨j, a, by omega, c⟩
/-- What is reached from a node of a part is the part. -/
theorem part_node {N : Nat} {ps : List Pp} {i k : Nat} (hi : i < (partL N ps N).length) (hk : k < (rw_ (partL N ps N) i).length) :
    ∃ X : Nat, (rw_ (partL N ps N) i).getD k 0 = (X : Int) ∧ 1 ≤ X ∧ X ≤ N ∧ conL N ps (X : Int) = rw_ (partL N ps N) i := by
  obtain ⟨j, _, _, hj⟩ := partL_is N ps N _ (rw_mem hi)
  have hm : (rw_ (partL N ps N) i).getD k 0 ∈ rw_ (partL N ps N) i := by
    rw [List.getD_eq_getElem?_getD, List.getElem?_eq_getElem hk]
    exact List.getElem_mem hk
  generalize (rw_ (partL N ps N) i).getD k 0 = x at hm
  rw [hj] at hm
  obtain ⟨a, b, c⟩ := (con_mem N ps (j : Int) x).1 hm
  refine ⟨x.toNat, by omega, by omega, by omega, ?_⟩
  rw [show ((x.toNat : Nat) : Int) = x by omega, con_same c, hj]
end Go.Proofs.Ytgjogjmfpbinfaa.S2

namespace Go.Proofs.Ytgjogjmfpbinfaa.S2
open Go.RowKit P2

def satL (ps : List Pp) (k : Nat) (x : Int) : List Int := ((ps.take k).filter fun p => decide (p.fr = x ∨ p.to = x)).map (·.id)
theorem satL_len (ps : List Pp) (k : Nat) (x : Int) : (satL ps k x).length ≤ k := by
  unfold satL; rw [List.length_map]; exact Nat.le_trans (List.length_filter_le _ _) (List.length_take_le _ _)
theorem satL_zero (ps : List Pp) (x : Int) : satL ps 0 x = [] := by simp [satL]
theorem satL_yes (ps : List Pp) (k : Nat) (x : Int) (h : k < ps.length) (ht : (pAt ps k).fr = x ∨ (pAt ps k).to = x) : satL ps (k + 1) x = satL ps k x ++ [(pAt ps k).id] := by
  unfold satL
  have h1 : ps.take (k + 1) = ps.take k ++ [pAt ps k] := by rw [List.take_succ_eq_append_getElem h]; simp [pAt, List.getD, h]
  rw [h1, List.filter_append, List.map_append]
  simp [ht]
theorem satL_no (ps : List Pp) (k : Nat) (x : Int) (h : k < ps.length) (ht : ¬ ((pAt ps k).fr = x ∨ (pAt ps k).to = x)) : satL ps (k + 1) x = satL ps k x := by
  unfold satL
  have h1 : ps.take (k + 1) = ps.take k ++ [pAt ps k] := by rw [List.take_succ_eq_append_getElem h]; simp [pAt, List.getD, h]
  rw [h1, List.filter_append, List.map_append]
  simp [ht]
theorem satL_all (ps : List Pp) (k : Nat) (x : Int) (h : ps.length ≤ k) : satL ps k x = atL ps x := by unfold satL atL; rw [List.take_of_length_le h]

set_option maxHeartbeats 2000000 in
theorem sat_no (n : Int) (A : Option Addr) (cap : Nat) (ps : List Pp) (x : Int) (w : World) (h : PAt w A ps) (hm : ps.length ≤ maxLen) (hv : nodeB n ps x = false) :
    Calls Try.prog 109 #[nv n A ps.length cap, .int .i64 x] w (GivesI w [] false) := by
  have H := Lib.hid (fun w' (hb : Below w.heap.size w w') => snode_v hv A cap w' (h.kept hb (Nat.le_refl _)) hm)
  clear h hv
  go_enter Try.func109, Try.ntmps109
  go_wp2_with (go_at_call 126; refine (H.out _ (((Below.refl _ _).alloc (Nat.le_refl _) _).alloc (by simp) _)).mono ?_; rintro e w1 ⟨rfl, hb1⟩)
  go_ret2
  have hb0 : Below w.heap.size w (w.alloc (.cells #[.int .i64 n, .slice A ps.length cap] 30)) := (Below.refl _ _).alloc (Nat.le_refl _) _
  have ho : IOwn w1 w.heap.size (.slice (some ⟨w.heap.size + 1, 0, none⟩) 0 0) [] := by
    have := (own_empty (w.alloc (.cells #[.int .i64 n, .slice A ps.length cap] 30)) w.heap.size (by simp)).on hb1
    simpa using this
  exact ⟨_, _, rfl, by simp, ho, (hb0.alloc (by simp) _).trans (hb1.mono (by simp; omega))⟩

set_option maxHeartbeats 4000000 in
set_option maxRecDepth 100000 in
theorem sat_yes (N : Int) (x : Int) (A : Option Addr) (cap : Nat) (ps : List Pp) (w : World) (h : PAt w A ps) (hv : nodeB N ps x = true) :
    Calls Try.prog 109 #[nv N A ps.length cap, .int .i64 x] w (GivesI w (atL ps x) true) := by
  obtain ⟨hg, hx1, hx2⟩ := nodeB_of hv
  have hl10 := hg.2.2.1
  have hm : ps.length ≤ maxLen := by unfold maxLen; omega
  have H := Lib.hid (fun w' (hb : Below w.heap.size w w') => snode_v hv A cap w' (h.kept hb (Nat.le_refl _)) hm)
  have HA := Lib.hid h
  obtain ⟨i0, hi, hz0, hz1, hz2⟩ := info_parts infoI
  clear h hv hg hx1 hx2 hm
  go_enter Try.func109, Try.ntmps109
  go_wp2_with (go_at_call 126; refine (H.out _ (((Below.refl _ _).alloc (Nat.le_refl _) _).alloc (by simp) _)).mono ?_; rintro e w1 ⟨rfl, hb1⟩; obtain ⟨hc1, hf1⟩ := bcell hb1)
  have hb0 : Below (w.heap.size + 1) (w.alloc (.cells #[.int .i64 N, .slice A ps.length cap] 30)) w1 := (((Below.refl _ _).alloc (by simp) _)).trans (hb1.mono (by simp))
  have hO1 : IOwn w1 (w.heap.size + 1) (.slice (some ⟨w.heap.size + 1, 0, none⟩) 0 0) [] := by
    have := (own_empty (w.alloc (.cells #[.int .i64 N, .slice A ps.length cap] 30)) (w.heap.size + 1) (by simp)).on hb1
    simpa using this
  clear hc1 hf1 hb1
  go_loopw [6, 7] (fun v i wr => ∃ k : Nat, k ≤ ps.length ∧ i = .int .i64 k ∧ Hid (IOwn wr (w.heap.size + 1) v (satL ps k x)) ∧ Hid (v ≠ .slice none 0 0) ∧ Below (w.heap.size + 1) (w.alloc (.cells #[.int .i64 N, .slice A ps.length cap] 30)) wr) (fun _ i _ => ps.length - (intOf i).toNat)
  case atStart => exact ⟨0, Nat.zero_le _, rfl, Lib.hid (by rw [satL_zero]; exact hO1), Lib.hid (by simp), hb0⟩
  case round =>
    obtain ⟨k, hk, rfl, hown, hvn, hb⟩ := hrel
    by_cases hlt : k < ps.length
    · obtain ⟨b, off, hA, hbl, h0, h1, h2, h3⟩ := HA.out.at_ hlt
      subst hA
      obtain ⟨hc, hf⟩ := bcell (W := w.alloc (.cells #[.int .i64 N, .slice (some ⟨b, off, none⟩) ps.length cap] 30)) (by simpa using hb)
      have hsy := Lib.hid (satL_yes ps k x hlt)
      have hsn := Lib.hid (satL_no ps k x hlt)
      have hil := satL_len ps k x
      have hzl := box_lt hb
      generalize pAt ps k = p at *
      by_cases hy : p.fr = x ∨ p.to = x
      · have hs1 := Lib.hid (hsy.out hy)
        have ho := hown.out
        unfold IOwn at ho
        by_cases hf1 : p.fr = x
        · have hE : (p.fr == x) = true := by simpa using hf1
          clear hf1 hy
          go_wp2_with (at_builtin; refine wpList_append_own _ rfl _ _ 34 rfl (w.heap.size + 1) 3 i0 (.int .i64 0) 1 8 Try.underlying34 hi hz0 hz1 hz2 rfl (by decide) _ _ _ rfl (ho.alloc _) ⟨wr.heap.size, 0, none⟩ 1 1 [iv p.id] rfl rfl (cell_one_new _ _ _) (by intro u hu; simp at hu; subst hu; rfl) (by unfold maxLen; omega) (by omega) (by have := hb.size; simp at this ⊢; omega) ?_)
          intro v' w3 hown' hgrow hnil
          have hown3 := Lib.hid (IOwn.push hown')
          have hB3 := Lib.hid ((hb.alloc hzl _).grown hgrow (by simp; omega) (fun g hg => (ho.lt g hg).1))
          rw [← hs1.out] at hown3
          have hnil3 := Lib.hid (show v' ≠ .slice none 0 0 from fun e => by simp [e] at hnil)
          clear hown' hgrow hnil ho
          go_wp2
          go_roundw
          case rel => exact ⟨k + 1, by omega, by go_num, hown3, hnil3, hB3.out⟩
          case measure => simp [intOf]; omega
        · have hE : (p.fr == x) = false := by simpa using hf1
          have hE2 : (p.to == x) = true := by simpa [hf1] using hy
          clear hf1 hy
          go_wp2_with (at_builtin; refine wpList_append_own _ rfl _ _ 34 rfl (w.heap.size + 1) 3 i0 (.int .i64 0) 1 8 Try.underlying34 hi hz0 hz1 hz2 rfl (by decide) _ _ _ rfl (ho.alloc _) ⟨wr.heap.size, 0, none⟩ 1 1 [iv p.id] rfl rfl (cell_one_new _ _ _) (by intro u hu; simp at hu; subst hu; rfl) (by unfold maxLen; omega) (by omega) (by have := hb.size; simp at this ⊢; omega) ?_)
          intro v' w3 hown' hgrow hnil
          have hown3 := Lib.hid (IOwn.push hown')
          have hB3 := Lib.hid ((hb.alloc hzl _).grown hgrow (by simp; omega) (fun g hg => (ho.lt g hg).1))
          rw [← hs1.out] at hown3
          have hnil3 := Lib.hid (show v' ≠ .slice none 0 0 from fun e => by simp [e] at hnil)
          clear hown' hgrow hnil ho
          go_wp2
          go_roundw
          case rel => exact ⟨k + 1, by omega, by go_num, hown3, hnil3, hB3.out⟩
          case measure => simp [intOf]; omega
      · have hs1 := Lib.hid (hsn.out hy)
        have hE : (p.fr == x) = false := by simp; omega
        have hE2 : (p.to == x) = false := by simp; omega
        rw [← hs1.out] at hown
        clear hy
        go_wp2
        go_roundw
        case rel => exact ⟨k + 1, by omega, by go_num, hown, hvn, hb⟩
        case measure => simp [intOf]; omega
    · obtain ⟨hc, hf⟩ := bcell (W := w.alloc (.cells #[.int .i64 N, .slice A ps.length cap] 30)) (by simpa using hb)
      have hfin := Lib.hid (satL_all ps k x (by omega))
      rw [hfin.out] at hown
      obtain ⟨g, capg, rfl, hg⟩ := own_slice hown.out hvn.out
      go_wp2
      go_ret2
      have hlow : IOwn wr w.heap.size (.slice (some ⟨g, 0, none⟩) (atL ps x).length capg) (atL ps x) := own_lower hown.out
      exact ⟨g, capg, rfl, by omega, hlow, below_box hb⟩
end Go.Proofs.Ytgjogjmfpbinfaa.S2

namespace Go.Proofs.Ytgjogjmfpbinfaa.S2
open Go.RowKit Go.Sort P2

theorem infoSI : (Try.prog.info? 34).map (fun i => (i.zero, i.size, i.bytes)) = some (some (.slice none 0 0), 1, 24) := by kernel_rfl
/-- Slices of slices beside a bool. -/
def GivesP (w : World) (ls : List (List Int)) (ok : Bool) (e : Ending) (w' : World) : Prop :=
  ∃ b cap q, e = .returned (.tuple #[.slice (some ⟨b, 0, none⟩) ls.length cap, .bool ok]) ∧ w.heap.size ≤ b ∧ SOwn w' w.heap.size b cap q ls ∧ Below w.heap.size w w'
def GivesQ (w : World) (ls : List (List Int)) (ok : Bool) (e : Ending) (w' : World) : Prop :=
  ∃ b cap, e = .returned (.tuple #[.slice (some ⟨b, 0, none⟩) ls.length cap, .bool ok]) ∧ w.heap.size ≤ b ∧ SAt w' (some ⟨b, 0, none⟩) ls ∧ Below w.heap.size w w' ∧ b < w'.heap.size
theorem own_slice2 {w : World} {B : Nat} {v : Value} {n : Nat} {xs : List Value} (h : w.ownsRow B 34 1 v n xs) (hne : v ≠ .slice none 0 0) : ∃ g cap, v = .slice (some ⟨g, 0, none⟩) n cap ∧ B ≤ g := by
  rcases h.2 with ⟨hv, _⟩ | ⟨g, cap, cur, hv, hb, _⟩
  · exact absurd hv hne
  · exact ⟨g, cap, hv, hb⟩
theorem row_cell {w : World} {B b cap n : Nat} {x : Nat → Value} (h : w.ownsRow B 34 1 (.slice (some ⟨b, 0, none⟩) n cap) n ((List.range n).map x)) {i : Nat} (hi : i < n) : w.cell? ⟨b, i, none⟩ = some (x i) := by
  rw [h.cellAt i (by omega)]
  simp [hi]
theorem PInv.sown {S : Nat} {v : Value} {ls : List (List Int)} {w : World} (h : PInv (RI S) S v ls w) : ∃ b cap q, v = .slice (some ⟨b, 0, none⟩) ls.length cap ∧ S ≤ b ∧ SOwn w S b cap q ls := by
  obtain ⟨x, ho, hv, hr, hd⟩ := h
  obtain ⟨b, cap, rfl, hb⟩ := own_slice2 ho hv
  have hx : ∀ i, i < ls.length → ∃ g c, x i = .slice (some ⟨g, 0, none⟩) (rw_ ls i).length c ∧ IOwn w S (x i) (rw_ ls i) ∧ g ≠ b := fun i hi => by
    obtain ⟨g, e, _, hne, g', c, e', hI⟩ := hr i hi
    refine ⟨g', c, e', hI, fun h => hne ?_⟩
    rw [e'] at e
    have : g' = g := by simpa [Value.ownBlock] using e
    rw [← this, h]; rfl
  refine ⟨b, cap, fun i => match x i with | .slice (some a) _ c => (a.block, c) | _ => (0, 0), rfl, hb, ⟨(World.ownsRow.lt ho b rfl).2, hb, fun i hi => ?_⟩, fun i hi => ?_, fun i j hij hj => ?_, fun i hi => ?_⟩
  · obtain ⟨g, c, e, _, _⟩ := hx i hi
    rw [row_cell ho hi, e]
  · obtain ⟨g, c, e, hI, _⟩ := hx i hi
    rw [e] at hI ⊢
    exact hI
  · obtain ⟨g, c, e, _, _⟩ := hx i (by omega)
    obtain ⟨g2, c2, e2, _, _⟩ := hx j hj
    have := hd i j hij hj
    rw [e, e2] at this
    rw [e, e2]
    simpa [Value.ownBlock] using this
  · obtain ⟨g, c, e, _, hne⟩ := hx i hi
    rw [e]
    exact hne
theorem PInv.sat {S : Nat} {v : Value} {ls : List (List Int)} {w : World} (h : PInv RS S v ls w) : ∃ b cap, v = .slice (some ⟨b, 0, none⟩) ls.length cap ∧ S ≤ b ∧ SAt w (some ⟨b, 0, none⟩) ls ∧ b < w.heap.size := by
  obtain ⟨x, ho, hv, hr, hd⟩ := h
  obtain ⟨b, cap, rfl, hb⟩ := own_slice2 ho hv
  have hbl := (World.ownsRow.lt ho b rfl).2
  refine ⟨b, cap, rfl, hb, .inr ⟨b, 0, rfl, hbl, fun i hi => ?_⟩, hbl⟩
  obtain ⟨g, e, _, _, g', o, c, e', hI⟩ := hr i hi
  exact ⟨_, c, by rw [Nat.zero_add, row_cell ho hi, e'], hI.iat⟩
theorem SOwn.lower {w : World} {B b cap : Nat} {q : Nat → Nat × Nat} {ls : List (List Int)} (h : SOwn w (B + 1) b cap q ls) : SOwn w B b cap q ls :=
  ⟨⟨h.row.1, by have := h.row.2.1; omega, h.row.2.2⟩, fun i hi => own_lower (h.own i hi), h.dis, h.out⟩
theorem con_pos {N t : Nat} {ps : List Pp} (h1 : 1 ≤ t) (h2 : t ≤ N) : 0 < (conL N ps (t : Int)).length :=
  List.length_pos_of_mem ((con_mem N ps (t : Int) (t : Int)).2 ⟨by omega, by omega, ⟨0, rfl⟩⟩)

set_option maxHeartbeats 8000000 in
set_option maxRecDepth 100000 in
theorem parts_yes (N : Nat) (A : Option Addr) (cap : Nat) (ps : List Pp) (w : World) (h : PAt w A ps) (hg : P2.Good N ps) :
    Calls Try.prog 103 #[nv N A ps.length cap] w (GivesP w (partL N ps N) true) := by
  have hl10 := hg.2.2.1
  have hN : N ≤ 8 := by have := hg.2.1; omega
  have hm : ps.length ≤ maxLen := by unfold maxLen; omega
  have HV := Lib.hid (fun w' (hb : Below w.heap.size w w') => valid_v (good_mk hg) A cap w' (h.kept hb (Nat.le_refl _)) hm)
  have HC := Lib.hid (fun (t : Nat) (h1 : 1 ≤ t) (h2 : t ≤ N) w' (hb : Below w.heap.size w w') => con_any N t A cap ps w' (h.kept hb (Nat.le_refl _)) hg h1 h2)
  obtain ⟨i0, hi, hz0, hz1, hz2⟩ := info_parts infoSI
  obtain ⟨S, hS⟩ : ∃ S, S = w.heap.size + 1 := ⟨_, rfl⟩
  have HSS := Lib.hid hS
  clear h hg hm hS
  go_enter Try.func103, Try.ntmps103
  go_wp2_with (go_at_call 115; refine (HV.out _ ((Below.refl _ _).alloc (Nat.le_refl _) _)).mono ?_; rintro e w1 ⟨rfl, hb1⟩; refine Hid.out ?_)
  have hB1 : Below (w.heap.size + 1) (w.alloc (.cells #[.int .i64 (N : Int), .slice A ps.length cap] 30)) w1 := by simpa using hb1
  have hz1' := box_lt hB1
  obtain ⟨b0, b1⟩ := box2 hB1
  have HB1 := Lib.hid hB1
  clear hb1 hB1
  refine Lib.hid ?_
  go_wp2
  go_loopw [4, 5, 6] (fun v i _ wr => ∃ k : Nat, k ≤ N ∧ i = .int .i64 ((k + 1 : Nat) : Int) ∧ Hid (PInv (RI (w.heap.size + 1)) (w.heap.size + 1) v (partL N ps k) wr) ∧ Hid (∀ b, v.ownBlock = some b → b < wr.heap.size) ∧ Below (w.heap.size + 1) (w.alloc (.cells #[.int .i64 (N : Int), .slice A ps.length cap] 30)) wr) (fun _ i _ _ => N + 1 - (intOf i).toNat)
  case atStart => exact ⟨0, Nat.zero_le _, rfl, Lib.hid (PInv.start _ _ w1 (by omega)), Lib.hid (fun b e => by simp [Value.ownBlock] at e; simp; omega), HB1.out.alloc (by omega) _⟩
  case round =>
    obtain ⟨k, hk, rfl, hp, hvb, hb⟩ := hrel
    obtain ⟨c0, c1⟩ := box2 hb
    by_cases hlt : k < N
    · have hkN : ((k + 1 : Nat) : Int) ≤ (N : Int) := by omega
      have HCk := Lib.hid (HC.out (k + 1) (by omega) (by omega) wr (below_box hb))
      have hpos := con_pos (N := N) (t := k + 1) (ps := ps) (by omega) (by omega)
      have hwl := box_lt hb
      have HY := Lib.hid (fun h => partL_yes (N := N) (ps := ps) (k := k) h)
      have HNO := Lib.hid (fun h => partL_no (N := N) (ps := ps) (k := k) h)
      have hle := conL_le N ps ((k + 1 : Nat) : Int)
      have hplen := partL_len N ps k
      generalize conL N ps ((k + 1 : Nat) : Int) = L at *
      go_wp2_with (go_at_call 199; refine (HCk.out).mono ?_; rintro e w2 ⟨g, c, rfl, hg, ho, hb2⟩; refine Hid.out ?_)
      have hc0 : w2.cell? ⟨g, 0, none⟩ = some (iv (L.getD 0 0)) := by
        obtain ⟨b', off', hA', _, hcc⟩ := ho.iat.at_ (i := 0) (by omega)
        injection hA' with hA'
        injection hA' with e1 e2 _
        subst e1; subst e2
        simpa using hcc
      have hgl : g < w2.heap.size := (World.ownsRow.lt ho g rfl).2
      have hz2' := hb2.size
      have hB2 := on_call hb hb2
      by_cases hh : L.getD 0 0 = ((k + 1 : Nat) : Int)
      · have hE : (L.getD 0 0 == ((k + 1 : Nat) : Int)) = true := beq_iff_eq.2 hh
        have hs := Lib.hid (HY.out hh)
        obtain ⟨x, ho1, hv1, hr1, hd1⟩ := hp.out
        have HPr := Lib.hid (show (∀ i, i < (partL N ps k).length → ∃ g, (x i).ownBlock = some g ∧ g < wr.heap.size ∧ _ ≠ some g ∧ (RI (w.heap.size + 1)) wr (x i) (rw_ (partL N ps k) i)) ∧ (∀ i j, i < j → j < (partL N ps k).length → (x i).ownBlock ≠ (x j).ownBlock) ∧ _ ≠ Value.slice none 0 0 from ⟨hr1, hd1, hv1⟩)
        have HO1 := Lib.hid ho1
        have ho2 := own_on ho1 hb2
        have HRY := Lib.hid (show (RI (w.heap.size + 1)) w2 (.slice (some ⟨g, 0, none⟩) L.length c) L from ⟨g, c, rfl, own_lower ho (by have := box_lt hb; omega)⟩)
        have HB2 := Lib.hid hB2
        have HBB := Lib.hid hb2
        have HCC := Lib.hid hc0
        clear hh hp ho1 hv1 hr1 hd1 ho hB2 hb2 HY HNO
        generalize L.getD 0 0 = y0 at *
        refine Lib.hid ?_
        go_wp2_with (at_builtin; go_must (refine wpList_append_lies _ rfl _ _ 99 rfl (w.heap.size + 1) 34 i0 (.slice none 0 0) 1 24 Try.underlying99 hi hz0 hz1 hz2 rfl (by decide) _ _ _ rfl (ho2.alloc _) ⟨w2.heap.size, 0, none⟩ 1 1 [.slice (some ⟨g, 0, none⟩) L.length c] rfl rfl (cell_one_new _ _ _) (by intro u hu; simp at hu; subst hu; rfl) (by omega) (by unfold maxLen; omega) (by omega) (by simp; omega) (w2.heap.size + 1) (by simp) ?_); intro gg cap' w3 hown' hgrow hat hlt1)
        have hP3 := Lib.hid (PInv.push (heldI (w.heap.size + 1)) (l := L) (g := g) ⟨x, HO1.out, HPr.out.2.2, HPr.out.1, HPr.out.2.1, hown'⟩ HBB.out rfl hgl hg HRY.out hvb.out hgrow (by simp) (by
          rcases hat with hat | hat
          · exact .inl (Eq.symm hat)
          · exact .inr ⟨gg, rfl, by omega⟩))
        rw [← hs.out] at hP3
        have hB3 := HB2.out.trans ((((Below.refl (w.heap.size + 1) w2).alloc (by omega) _)).grown hgrow (by simp; omega) (fun g hg' => (ho2.lt g hg').1))
        clear hown' hgrow hat ho2
        go_wp2
        go_roundw
        case rel => exact ⟨k + 1, by omega, by go_num, hP3, Lib.hid (fun b e => by simp [Value.ownBlock] at e; omega), hB3⟩
        case measure => simp [intOf]; omega
      · have hE : (L.getD 0 0 == ((k + 1 : Nat) : Int)) = false := beq_eq_false_iff_ne.2 hh
        have hs := Lib.hid (HNO.out hh)
        rw [← hs.out] at hp
        have hp2 := Lib.hid (hp.out.on (heldI (w.heap.size + 1)) hb2)
        have hvb2 := Lib.hid (fun b e => Nat.lt_of_lt_of_le (hvb.out b e) hz2')
        clear hh hp ho
        generalize L.getD 0 0 = y0 at *
        refine Lib.hid ?_
        go_wp2_with fail
        go_roundw
        case rel => exact ⟨k + 1, by omega, by go_num, hp2, hvb2, hB2⟩
        case measure => simp [intOf]; omega
    · have hkN : k = N := by omega
      subst hkN
      obtain ⟨b, cp, q, rfl, hbS, hown⟩ := hp.out.sown
      have hkN : ¬ (((k + 1 : Nat) : Int) ≤ (k : Int)) := by omega
      clear hp
      go_wp2
      go_ret2
      exact ⟨b, cp, q, rfl, by omega, hown.lower, below_box hb⟩
theorem sgood_v2 {n : Int} {ps : List Pp} {v : Bool} (hv : goodB n ps = v) (A : Option Addr) (cap : Nat) (w : World) (h : PAt w A ps) (hm : ps.length ≤ maxLen) :
    Calls Try.prog 112 #[nv n A ps.length cap] w fun e w' => e = .returned (.bool v) ∧ Below w.heap.size w w' := by
  rw [← hv]; exact sgood_any n A cap ps w h hm
theorem parts_no (n : Int) (A : Option Addr) (cap : Nat) (ps : List Pp) (w : World) (h : PAt w A ps) (hm : ps.length ≤ maxLen) (hv : goodB n ps = false) :
    Calls Try.prog 103 #[nv n A ps.length cap] w (GivesP w [] false) := by
  have HV := Lib.hid (fun w' (hb : Below w.heap.size w w') => valid_v hv A cap w' (h.kept hb (Nat.le_refl _)) hm)
  clear h hv
  go_enter Try.func103, Try.ntmps103
  go_wp2_with (go_at_call 115; refine (HV.out _ ((Below.refl _ _).alloc (Nat.le_refl _) _)).mono ?_; rintro e w1 ⟨rfl, hb1⟩)
  go_ret2
  have hb := below_alloc_call hb1
  have hz := hb.size
  exact ⟨_, _, fun _ => (0, 0), rfl, hz, ⟨⟨by simp, hz, fun i hi => absurd hi (by simp)⟩, fun i hi => absurd hi (by simp), fun i j _ hj => absurd hj (by simp), fun i hi => absurd hi (by simp)⟩, hb.alloc hz _⟩
theorem sparts_no (n : Int) (A : Option Addr) (cap : Nat) (ps : List Pp) (w : World) (h : PAt w A ps) (hm : ps.length ≤ maxLen) (hv : goodB n ps = false) :
    Calls Try.prog 104 #[nv n A ps.length cap] w (GivesQ w [] false) := by
  have HV := Lib.hid (fun w' (hb : Below w.heap.size w w') => sgood_v2 hv A cap w' (h.kept hb (Nat.le_refl _)) hm)
  clear h hv
  go_enter Try.func104, Try.ntmps104
  go_wp2_with (go_at_call 112; refine (HV.out _ (((Below.refl _ _).alloc (Nat.le_refl _) _).alloc (by simp) _)).mono ?_; rintro e w1 ⟨rfl, hb1⟩)
  go_ret2
  have hb : Below w.heap.size w w1 := (((Below.refl w.heap.size w).alloc (Nat.le_refl _) _).alloc (by simp) _).trans (hb1.mono (by simp; omega))
  have hz := hb1.size
  simp at hz
  exact ⟨_, _, rfl, by omega, .inl rfl, hb, by omega⟩

set_option maxHeartbeats 8000000 in
set_option maxRecDepth 100000 in
theorem sparts_yes (N : Nat) (A : Option Addr) (cap : Nat) (ps : List Pp) (w : World) (h : PAt w A ps) (hg : P2.Good N ps) :
    Calls Try.prog 104 #[nv N A ps.length cap] w (GivesQ w (partL N ps N) true) := by
  have hl10 := hg.2.2.1
  have hN : N ≤ 8 := by have := hg.2.1; omega
  have hm : ps.length ≤ maxLen := by unfold maxLen; omega
  have HV := Lib.hid (fun w' (hb : Below w.heap.size w w') => sgood_v2 (good_mk hg) A cap w' (h.kept hb (Nat.le_refl _)) hm)
  have HC := Lib.hid (fun (t : Nat) (h1 : 1 ≤ t) (h2 : t ≤ N) w' (hb : Below w.heap.size w w') => sreach_any N t A cap ps w' (h.kept hb (Nat.le_refl _)) hg h1 h2)
  obtain ⟨i0, hi, hz0, hz1, hz2⟩ := info_parts infoSI
  obtain ⟨S, hS⟩ : ∃ S, S = w.heap.size + 1 := ⟨_, rfl⟩
  have HSS := Lib.hid hS
  clear h hg hm hS
  go_enter Try.func104, Try.ntmps104
  go_wp2_with (go_at_call 112; refine (HV.out _ (((Below.refl _ _).alloc (Nat.le_refl _) _).alloc (by simp) _)).mono ?_; rintro e w1 ⟨rfl, hb1⟩; refine Hid.out ?_)
  have hB1 : Below (w.heap.size + 1) (w.alloc (.cells #[.int .i64 (N : Int), .slice A ps.length cap] 30)) w1 := ((Below.refl _ _).alloc (by simp) _).trans (hb1.mono (by simp))
  have hP1 := (PInv.start RS (w.heap.size + 1) (w.alloc (.cells #[.int .i64 (N : Int), .slice A ps.length cap] 30)) (by simp)).on heldS hb1
  rw [show (w.alloc (.cells #[.int .i64 (N : Int), .slice A ps.length cap] 30)).heap.size = w.heap.size + 1 by simp] at hP1
  have hV1 : ∀ b, (Value.slice (some ⟨w.heap.size + 1, 0, none⟩) 0 0).ownBlock = some b → b < w1.heap.size := fun b e => by
    have := hb1.size
    simp at this
    simp [Value.ownBlock] at e
    omega
  obtain ⟨b0, b1⟩ := box2 hB1
  have HP1 := Lib.hid hP1
  have HB1 := Lib.hid hB1
  have HV1 := Lib.hid hV1
  clear hb1 hB1 hP1 hV1
  refine Lib.hid ?_
  go_wp2
  go_loopw [4, 5, 6] (fun v i _ wr => ∃ k : Nat, k ≤ N ∧ i = .int .i64 ((k + 1 : Nat) : Int) ∧ Hid (PInv RS (w.heap.size + 1) v (partL N ps k) wr) ∧ Hid (∀ b, v.ownBlock = some b → b < wr.heap.size) ∧ Below (w.heap.size + 1) (w.alloc (.cells #[.int .i64 (N : Int), .slice A ps.length cap] 30)) wr) (fun _ i _ _ => N + 1 - (intOf i).toNat)
  case atStart => exact ⟨0, Nat.zero_le _, rfl, HP1, HV1, HB1.out⟩
  case round =>
    obtain ⟨k, hk, rfl, hp, hvb, hb⟩ := hrel
    obtain ⟨c0, c1⟩ := box2 hb
    by_cases hlt : k < N
    · have hkN : ((k + 1 : Nat) : Int) ≤ (N : Int) := by omega
      have HCk := Lib.hid (HC.out (k + 1) (by omega) (by omega) wr (below_box hb))
      have hpos := con_pos (N := N) (t := k + 1) (ps := ps) (by omega) (by omega)
      have hwl := box_lt hb
      have HY := Lib.hid (fun h => partL_yes (N := N) (ps := ps) (k := k) h)
      have HNO := Lib.hid (fun h => partL_no (N := N) (ps := ps) (k := k) h)
      have hle := conL_le N ps ((k + 1 : Nat) : Int)
      have hplen := partL_len N ps k
      generalize conL N ps ((k + 1 : Nat) : Int) = L at *
      go_wp2_with (go_at_call 177; refine (HCk.out).mono ?_; rintro e w2 ⟨g, o, c, rfl, hg, hla, hb2⟩; refine Hid.out ?_)
      have hc0 : w2.cell? ⟨g, o, none⟩ = some (iv (L.getD 0 0)) := by simpa using hla.2.2.2 0 (by omega)
      have hgl : g < w2.heap.size := hla.1
      have hcl : L.length ≤ c := hla.2.1
      have hz2' := hb2.size
      have hB2 := on_call hb hb2
      by_cases hh : L.getD 0 0 = ((k + 1 : Nat) : Int)
      · have hE : (L.getD 0 0 == ((k + 1 : Nat) : Int)) = true := beq_iff_eq.2 hh
        have hs := Lib.hid (HY.out hh)
        obtain ⟨x, ho1, hv1, hr1, hd1⟩ := hp.out
        have HPr := Lib.hid (show (∀ i, i < (partL N ps k).length → ∃ g, (x i).ownBlock = some g ∧ g < wr.heap.size ∧ _ ≠ some g ∧ RS wr (x i) (rw_ (partL N ps k) i)) ∧ (∀ i j, i < j → j < (partL N ps k).length → (x i).ownBlock ≠ (x j).ownBlock) ∧ _ ≠ Value.slice none 0 0 from ⟨hr1, hd1, hv1⟩)
        have HO1 := Lib.hid ho1
        have ho2 := own_on ho1 hb2
        have HRY := Lib.hid (show RS w2 (.slice (some ⟨g, o, none⟩) L.length c) L from ⟨g, o, c, rfl, hla⟩)
        have HB2 := Lib.hid hB2
        have HBB := Lib.hid hb2
        have HCC := Lib.hid hc0
        clear hh hp ho1 hv1 hr1 hd1 hla hB2 hb2 HY HNO
        generalize L.getD 0 0 = y0 at *
        refine Lib.hid ?_
        go_wp2_with (at_builtin; go_must (refine wpList_append_lies _ rfl _ _ 99 rfl (w.heap.size + 1) 34 i0 (.slice none 0 0) 1 24 Try.underlying99 hi hz0 hz1 hz2 rfl (by decide) _ _ _ rfl (ho2.alloc _) ⟨w2.heap.size, 0, none⟩ 1 1 [.slice (some ⟨g, o, none⟩) L.length c] rfl rfl (cell_one_new _ _ _) (by intro u hu; simp at hu; subst hu; rfl) (by omega) (by unfold maxLen; omega) (by omega) (by simp; omega) (w2.heap.size + 1) (by simp) ?_); intro gg cap' w3 hown' hgrow hat hlt1)
        have hP3 := Lib.hid (PInv.push heldS (l := L) (g := g) ⟨x, HO1.out, HPr.out.2.2, HPr.out.1, HPr.out.2.1, hown'⟩ HBB.out rfl hgl hg HRY.out hvb.out hgrow (by simp) (by
          rcases hat with hat | hat
          · exact .inl (Eq.symm hat)
          · exact .inr ⟨gg, rfl, by omega⟩))
        rw [← hs.out] at hP3
        have hB3 := HB2.out.trans ((((Below.refl (w.heap.size + 1) w2).alloc (by omega) _)).grown hgrow (by simp; omega) (fun g hg' => (ho2.lt g hg').1))
        clear hown' hgrow hat ho2
        go_wp2
        go_roundw
        case rel => exact ⟨k + 1, by omega, by go_num, hP3, Lib.hid (fun b e => by simp [Value.ownBlock] at e; omega), hB3⟩
        case measure => simp [intOf]; omega
      · have hE : (L.getD 0 0 == ((k + 1 : Nat) : Int)) = false := beq_eq_false_iff_ne.2 hh
        have hs := Lib.hid (HNO.out hh)
        rw [← hs.out] at hp
        have hp2 := Lib.hid (hp.out.on heldS hb2)
        have hvb2 := Lib.hid (fun b e => Nat.lt_of_lt_of_le (hvb.out b e) hz2')
        clear hh hp hla
        generalize L.getD 0 0 = y0 at *
        refine Lib.hid ?_
        go_wp2_with fail
        go_roundw
        case rel => exact ⟨k + 1, by omega, by go_num, hp2, hvb2, hB2⟩
        case measure => simp [intOf]; omega
    · have hkN : k = N := by omega
      subst hkN
      obtain ⟨b, cp, rfl, hbS, hsat, hbl⟩ := hp.out.sat
      have hkN : ¬ (((k + 1 : Nat) : Int) ≤ (k : Int)) := by omega
      clear hp
      go_wp2
      go_ret2
      exact ⟨b, cp, rfl, by omega, hsat, below_box hb, hbl⟩
/-- Both answers are one. -/
theorem parts_both (n : Int) (ps : List Pp) (hm : ps.length ≤ maxLen) : ∃ L ok, L.length ≤ 1000 ∧ (∀ i, i < L.length → (rw_ L i).length ≤ 100) ∧
    (∀ (A : Option Addr) (cap : Nat) (w : World), PAt w A ps → Calls Try.prog 104 #[nv n A ps.length cap] w (GivesQ w L ok)) ∧
    (∀ (A : Option Addr) (cap : Nat) (w : World), PAt w A ps → Calls Try.prog 103 #[nv n A ps.length cap] w (GivesP w L ok)) := by
  cases hv : goodB n ps
  · exact ⟨[], false, by simp, fun i hi => absurd hi (by simp), fun A cap w h => sparts_no n A cap ps w h hm hv, fun A cap w h => parts_no n A cap ps w h hm hv⟩
  · have hg := good_of hv
    obtain ⟨N, rfl⟩ : ∃ N : Nat, n = (N : Int) := ⟨n.toNat, by have := hg.1; omega⟩
    have hN : N ≤ 8 := by have := hg.2.1; omega
    have hl := partL_len N ps N
    exact ⟨partL N ps N, true, by omega, fun i hi => by have := partL_row N ps N _ (rw_mem hi); omega, fun A cap w h => sparts_yes N A cap ps w h hg, fun A cap w h => parts_yes N A cap ps w h hg⟩
end Go.Proofs.Ytgjogjmfpbinfaa.S2

namespace Go.Proofs.Ytgjogjmfpbinfaa.S2
open Go.RowKit P2

theorem at_pack (n : Int) (ps : List Pp) (x : Int) (hm : ps.length ≤ maxLen) : ∃ (L : List Int) (ok : Bool), L.length ≤ 1000 ∧
    Hid (∀ A c w, PAt w A ps → Calls Try.prog 108 #[nv n A ps.length c, .int .i64 x] w (GivesA w L ok)) ∧
    Hid (∀ A c w, PAt w A ps → Calls Try.prog 109 #[nv n A ps.length c, .int .i64 x] w (GivesA w L ok)) := by
  cases hv : nodeB n ps x with
  | false => exact ⟨[], false, by simp, Lib.hid fun A c w h => (at_no n A c ps x w h hm hv).mono fun _ _ h => h.any, Lib.hid fun A c w h => (sat_no n A c ps x w h hm hv).mono fun _ _ h => h.any⟩
  | true =>
    obtain ⟨hg, h1, h2⟩ := nodeB_of hv
    obtain ⟨N, rfl⟩ : ∃ N : Nat, n = N := ⟨n.toNat, by have := hg.1; omega⟩
    obtain ⟨X, rfl⟩ : ∃ X : Nat, x = X := ⟨x.toNat, by omega⟩
    exact ⟨atL ps X, true, by
      have : (atL ps X).length ≤ ps.length := by unfold atL; first | (rw [List.length_map]; exact List.length_filter_le _ _) | (simp; exact List.length_filter_le _ _)
      have := hg.2.2.1
      omega, Lib.hid fun A c w h => (at_yes N X A c ps w h hv).mono fun _ _ h => h.any, Lib.hid fun A c w h => (sat_yes N X A c ps w h hv).mono fun _ _ h => h.any⟩
theorem reach_pack (n : Int) (ps : List Pp) (x : Int) (hm : ps.length ≤ maxLen) : ∃ (L : List Int) (ok : Bool), L.length ≤ 1000 ∧
    Hid (∀ A c w, PAt w A ps → Calls Try.prog 106 #[nv n A ps.length c, .int .i64 x] w (GivesA w L ok)) ∧
    Hid (∀ A c w, PAt w A ps → Calls Try.prog 110 #[nv n A ps.length c, .int .i64 x] w (GivesA w L ok)) := by
  cases hv : nodeB n ps x with
  | false => exact ⟨[], false, by simp, Lib.hid fun A c w h => (reach_no n A c ps x w h hm hv).mono fun _ _ h => h.any, Lib.hid fun A c w h => sreached_no n A c ps x w h hm hv⟩
  | true =>
    obtain ⟨hg, h1, h2⟩ := nodeB_of hv
    obtain ⟨N, rfl⟩ : ∃ N : Nat, n = N := ⟨n.toNat, by have := hg.1; omega⟩
    obtain ⟨X, rfl⟩ : ∃ X : Nat, x = X := ⟨x.toNat, by omega⟩
    exact ⟨conL N ps X, true, by have := conL_le N ps X; have := hg.2.1; omega, Lib.hid fun A c w h => (reach_yes N X A c ps w h hv).mono fun _ _ h => h.any, Lib.hid fun A c w h => sreached_yes N X A c ps w h hv⟩
theorem goodN {N : Nat} {ps : List Pp} (hg : P2.Good N ps) {X : Nat} (h1 : 1 ≤ X) (h2 : X ≤ N) : nodeB N ps X = true := by
  rw [nodeB_eq, good_mk hg]
  simp
  omega
theorem parts_pack (n : Int) (ps : List Pp) (hm : ps.length ≤ maxLen) : ∃ (L : List (List Int)) (ok : Bool), L.length ≤ 1000 ∧ (∀ i, i < L.length → (rw_ L i).length ≤ 100) ∧
    Hid (∀ A c w, PAt w A ps → Calls Try.prog 103 #[nv n A ps.length c] w (GivesQ w L ok)) ∧
    Hid (∀ A c w, PAt w A ps → Calls Try.prog 104 #[nv n A ps.length c] w (GivesQ w L ok)) ∧
    Hid (∀ i, i < L.length → ∀ k, k < (rw_ L i).length → ∀ A c w, PAt w A ps → Calls Try.prog 106 #[nv n A ps.length c, .int .i64 ((rw_ L i).getD k 0)] w (GivesA w (rw_ L i) true)) ∧
    Hid (ok = true → ((totR L L.length : Nat) : Int) = n) := by
  have hQ : ∀ {w w' : World} {L : List (List Int)} {ok : Bool} {e : Ending}, GivesP w L ok e w' → GivesQ w L ok e w' := fun ⟨b, cap, q, he, hb, ho, hbl⟩ => ⟨b, cap, he, hb, ho.sat, hbl, ho.row.1⟩
  cases hv : goodB n ps with
  | false => exact ⟨[], false, by simp, fun i hi => by simp at hi, Lib.hid fun A c w h => (parts_no n A c ps w h hm hv).mono fun _ _ h => hQ h, Lib.hid fun A c w h => sparts_no n A c ps w h hm hv, Lib.hid fun i hi => by simp at hi, Lib.hid fun h => by cases h⟩
  | true =>
    have hg := good_of hv
    obtain ⟨N, rfl⟩ : ∃ N : Nat, n = N := ⟨n.toNat, by have := hg.1; omega⟩
    have hN8 := hg.2.1
    refine ⟨partL N ps N, true, by have := partL_len N ps N; omega, fun i hi => by have := partL_row N ps N _ (rw_mem hi); omega, Lib.hid fun A c w h => (parts_yes N A c ps w h hg).mono fun _ _ h => hQ h, Lib.hid fun A c w h => sparts_yes N A c ps w h hg, Lib.hid fun i hi k hk A c w h => ?_, Lib.hid fun _ => by rw [parts_all]⟩
    obtain ⟨X, hX, h1, h2, hc⟩ := part_node hi hk
    rw [hX]
    have := (reach_yes N X A c ps w h (goodN hg h1 h2)).mono fun _ _ h => GivesI.any h
    rw [hc] at this
    exact this
end Go.Proofs.Ytgjogjmfpbinfaa.S2

namespace Go.Proofs.Ytgjogjmfpbinfaa.S2
open Go.RowKit P2

theorem vbig_no (a : Option Addr) (n cap : Nat) (w : World) (hn : n ≤ 65536) : Calls Try.prog 44 #[.slice a n cap] w fun e w' => e = .returned (.bool false) ∧ w' = w := by
  have h : ¬ ((65536 : Int) < (n : Int)) := by omega
  go_enter Try.func44, Try.ntmps44
  go_wp2
  go_ret
  exact ⟨rfl, rfl⟩
theorem vbig_yes (a : Option Addr) (n cap : Nat) (w : World) (hn : 65536 < n) : Calls Try.prog 44 #[.slice a n cap] w fun e w' => e = .returned (.bool true) ∧ w' = w := by
  have h : ((65536 : Int) < (n : Int)) := by omega
  go_enter Try.func44, Try.ntmps44
  go_wp2
  go_ret
  exact ⟨rfl, rfl⟩
set_option maxHeartbeats 1000000 in
theorem vints_same (A A2 : Option Addr) (cap cap2 : Nat) (l : List Int) (w : World) (h : IAt w A l) (h2 : IAt w A2 l) (hn : l.length ≤ 1048576) :
    Calls Try.prog 46 #[.slice A l.length cap, .slice A2 l.length cap2] w fun e w' => e = .returned (.bool true) ∧ Below w.heap.size w w' := by
  have HA := Lib.hid h
  have HA2 := Lib.hid h2
  clear h h2
  go_enter Try.func46, Try.ntmps46
  go_wp2
  go_loopw [5] (fun i wr => ∃ (k d : Nat), k ≤ l.length ∧ i = .int .i64 k ∧ wr = w.drewN d) (fun i _ => l.length - (intOf i).toNat)
  case atStart => exact ⟨0, 0, Nat.zero_le _, rfl, rfl⟩
  case round =>
    obtain ⟨k, d, hk, rfl, rfl⟩ := hrel
    by_cases hlt : k < l.length
    · obtain ⟨b, off, hA, hbl, h0⟩ := HA.out.at_ hlt
      obtain ⟨b2, off2, hA2, hbl2, g0⟩ := HA2.out.at_ hlt
      subst hA hA2
      have hk0i : (0 : Int) ≤ (k : Int) := by omega
      have hk1i : (k : Int) < (l.length : Int) := by omega
      generalize l.getD k 0 = x at *
      go_wp2
      go_quiet (fail)
      go_wp2
      go_roundw
      case rel => exact ⟨k + 1, _, by omega, by go_num, rfl⟩
      case measure => simp [intOf]; omega
    · go_wp2
      go_ret
      exact ⟨rfl, below_drewN (Below.refl _ _) d⟩
set_option maxHeartbeats 1000000 in
theorem vtable_same (A A2 : Option Addr) (cap cap2 : Nat) (ls : List (List Int)) (w : World) (h : SAt w A ls) (h2 : SAt w A2 ls) (hn : ls.length ≤ 1000) (hr : ∀ i, i < ls.length → (rw_ ls i).length ≤ 1000) :
    Calls Try.prog 105 #[.slice A ls.length cap, .slice A2 ls.length cap2] w fun e w' => e = .returned (.bool true) ∧ Below w.heap.size w w' := by
  have HA := Lib.hid h
  have HA2 := Lib.hid h2
  have HR := Lib.hid hr
  clear h h2 hr
  go_enter Try.func105, Try.ntmps105
  go_wp2
  go_loopw [5] (fun i wr => ∃ k : Nat, k ≤ ls.length ∧ i = .int .i64 k ∧ Below w.heap.size w wr) (fun i _ => ls.length - (intOf i).toNat)
  case atStart => exact ⟨0, Nat.zero_le _, rfl, Below.refl _ _⟩
  case round =>
    obtain ⟨k, hk, rfl, hb⟩ := hrel
    by_cases hlt : k < ls.length
    · obtain ⟨b, off, B, c, hA, hbl, h0, hI⟩ := (HA.out.kept hb (Nat.le_refl _)).at_ hlt
      obtain ⟨b2, off2, B2, c2, hA2, hbl2, g0, hI2⟩ := (HA2.out.kept hb (Nat.le_refl _)).at_ hlt
      subst hA hA2
      have hk0i : (0 : Int) ≤ (k : Int) := by omega
      have hk1i : (k : Int) < (ls.length : Int) := by omega
      have hrk := HR.out k hlt
      have HE := Lib.hid (fun w' (hb' : Below wr.heap.size wr w') => vints_same B B2 c c2 (rw_ ls k) w' (hI.kept hb' (Nat.le_refl _)) (hI2.kept hb' (Nat.le_refl _)) (by omega))
      clear hI hI2
      generalize (rw_ ls k).length = n at *
      have hG := @cell_g
      go_wp2
      refine region_below (by kernel_rfl) (by kernel_rfl) ?_
      repeat (first | go_big_quiet_step ((go_at_call 46; exact met_at1 (fun w' hb' => HE.out w' hb'))))
      refine wpQuiet_nil ?_
      intro w1 hb1
      go_wp2
      go_roundw
      case rel => exact ⟨k + 1, by omega, by go_num, hb.trans (hb1.mono hb.size)⟩
      case measure => simp [intOf]; omega
    · go_wp2
      go_ret
      exact ⟨rfl, hb⟩
set_option maxHeartbeats 1000000 in
theorem vhas_any (A : Option Addr) (cap : Nat) (l : List Int) (v : Int) (w : World) (h : IAt w A l) (hl : l.length ≤ 1048576) :
    Calls Try.prog 57 #[.slice A l.length cap, .int .i64 v] w fun e w' => e = .returned (.bool (decide (v ∈ l))) ∧ w' = w := by
  have HA := Lib.hid h
  clear h
  go_enter Try.func57, Try.ntmps57
  go_wp2
  go_loopw [5] (fun i wr => ∃ k : Nat, k ≤ l.length ∧ i = .int .i64 k ∧ Hid (∀ j, j < k → l.getD j 0 ≠ v) ∧ wr = w) (fun i _ => l.length - (intOf i).toNat)
  case atStart => exact ⟨0, by omega, rfl, Lib.hid (fun j hj => absurd hj (by omega)), rfl⟩
  case round =>
    obtain ⟨k, hk, rfl, hno, hw⟩ := hrel
    replace hw := hw.symm
    subst hw
    by_cases hlt : k < l.length
    · obtain ⟨b, off, hA, hbl, h1⟩ := HA.out.at_ (i := k) hlt
      subst hA
      have hk0 : (0 : Int) ≤ (k : Int) := by omega
      have hkn : (k : Int) < (l.length : Int) := by omega
      by_cases he : l.getD k 0 = v
      · have HM := Lib.hid (show v ∈ l from by rw [← he]; simp [List.getD, hlt])
        rw [he] at h1
        clear he hno
        go_wp2
        go_ret
        exact ⟨by rw [decide_eq_true HM.out]; rfl, rfl⟩
      · have hne : ¬ v = l.getD k 0 := fun e => he e.symm
        have hno2 := Lib.hid (show ∀ j, j < k + 1 → l.getD j 0 ≠ v from fun j hj => by
          by_cases e : j = k
          · subst e; exact he
          · exact hno.out j (by omega))
        clear he hno
        generalize l.getD k 0 = x at *
        go_wp2
        go_roundw
        case rel => exact ⟨k + 1, by omega, by go_num, hno2, trivial⟩
        case measure => simp [intOf]; omega
    · have HM := Lib.hid (show v ∉ l from fun hm => by
        obtain ⟨j, hj, e⟩ := List.getElem_of_mem hm
        exact hno.out j (by omega) (by simp [List.getD, hj, e]))
      clear hno
      go_wp2
      go_ret
      exact ⟨by rw [decide_eq_false HM.out]; rfl, rfl⟩
end Go.Proofs.Ytgjogjmfpbinfaa.S2
