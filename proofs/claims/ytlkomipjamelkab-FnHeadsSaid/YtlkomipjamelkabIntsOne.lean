/- The laws' helpers on slices of ints: comparison, marks, and marks found again; and the marks in a network: contracts. Conditions: each theorem's own premises. -/
import Derived.Test.YtlkomipjamelkabBkOne
import Derived.Deep.QuietTactic
import Derived.BigQuiet
import Derived.Maps.AppendAt
namespace Go.Proofs.Ytlkomipjamelkab.S2
open Go.RowKit P2

abbrev iv (x : Int) : Value := .int .i64 x
/-- The numbers l lie there. -/
def IAt (w : World) (A : Option Addr) (l : List Int) : Prop :=
  l = [] ∨ ∃ b off, A = some ⟨b, off, none⟩ ∧ b < w.heap.size ∧ ∀ i, i < l.length → w.cell? ⟨b, off + i, none⟩ = some (iv (l.getD i 0))
theorem IAt.kept {w w' : World} {A : Option Addr} {l : List Int} {B : Nat} (h : IAt w A l) (hb : Below B w w') (hB : w.heap.size ≤ B) : IAt w' A l := by
  rcases h with h | ⟨b, off, hA, hlt, h⟩
  · exact .inl h
  · exact .inr ⟨b, off, hA, Nat.lt_of_lt_of_le hlt hb.size, fun i hi => (hb.cell (p := ⟨b, off + i, none⟩) (by show b < B; omega)).trans (h i hi)⟩
theorem IAt.at_ {w : World} {A : Option Addr} {l : List Int} (h : IAt w A l) {i : Nat} (hi : i < l.length) : ∃ b off, A = some ⟨b, off, none⟩ ∧ b < w.heap.size ∧ w.cell? ⟨b, off + i, none⟩ = some (iv (l.getD i 0)) := by
  rcases h with h | ⟨b, off, hA, hlt, h⟩
  · subst h; simp at hi
  · exact ⟨b, off, hA, hlt, h i hi⟩
/-- A row of the call's own. -/
def IOwn (w : World) (B : Nat) (v : Value) (l : List Int) : Prop := w.ownsRow B 3 1 v l.length (l.map iv)
theorem IOwn.iat {w : World} {B cap : Nat} {A : Option Addr} {l : List Int} (h : IOwn w B (.slice A l.length cap) l) : IAt w A l := by
  unfold IOwn at h
  rcases Nat.eq_zero_or_pos l.length with h0 | h0
  · exact .inl (List.length_eq_zero_iff.1 h0)
  · obtain ⟨g, cap', hv, _, hlt⟩ := h.form h0
    injection hv with hA
    subst hA
    refine .inr ⟨g, 0, rfl, hlt, fun i hi => ?_⟩
    rw [Nat.zero_add, h.cellAt i (by omega)]
    simp [List.getD, hi]
theorem IOwn.on {A B : World} {base : Nat} {v : Value} {l : List Int} (h : IOwn A base v l) (hb : Below A.heap.size A B) : IOwn B base v l := own_on h hb

theorem IOwn.push {w : World} {B : Nat} {v : Value} {l : List Int} {x : Int} (h : w.ownsRow B 3 1 v (l.length + 1) (l.map iv ++ [iv x])) : IOwn w B v (l ++ [x]) := by
  unfold IOwn
  rw [List.length_append, List.map_append]
  exact h

theorem own_lower {w : World} {B B' : Nat} {v : Value} {l : List Int} (h : IOwn w B v l) (hB : B' ≤ B := by omega) : IOwn w B' v l := by
  refine ⟨h.1, ?_⟩
  rcases h.2 with h2 | ⟨g, cap, cur, hv, hb, rest⟩
  · exact .inl h2
  · exact .inr ⟨g, cap, cur, hv, by omega, rest⟩

theorem infoI : (Try.prog.info? 3).map (fun i => (i.zero, i.size, i.bytes)) = some (some (.int .i64 0), 1, 8) := by kernel_rfl

/-- A fresh slice of numbers beside a bool. -/
def GivesI (w : World) (l : List Int) (ok : Bool) (e : Ending) (w' : World) : Prop :=
  ∃ g cap, e = .returned (.tuple #[.slice (some ⟨g, 0, none⟩) l.length cap, .bool ok]) ∧ w.heap.size ≤ g ∧ IOwn w' w.heap.size (.slice (some ⟨g, 0, none⟩) l.length cap) l ∧ Below w.heap.size w w'
/-- A slice of numbers beside a bool, made by the call, wherever it starts. -/
def GivesA (w : World) (l : List Int) (ok : Bool) (e : Ending) (w' : World) : Prop :=
  ∃ g o cap, e = .returned (.tuple #[.slice (some ⟨g, o, none⟩) l.length cap, .bool ok]) ∧ w.heap.size ≤ g ∧ IAt w' (some ⟨g, o, none⟩) l ∧ Below w.heap.size w w' ∧ g < w'.heap.size
theorem own_empty (w : World) (B : Nat) (hB : B ≤ w.heap.size) : IOwn (w.alloc (.cells #[] 3)) B (.slice (some ⟨w.heap.size, 0, none⟩) 0 0) [] :=
  ⟨rfl, .inr ⟨w.heap.size, 0, #[], rfl, hB, by simpa using (MapKept.heap_alloc w (.cells #[] 3)).1, Nat.le_refl _, Nat.zero_le _, rfl, rfl⟩⟩
theorem GivesI.any {w : World} {l : List Int} {ok : Bool} {e : Ending} {w' : World} (h : GivesI w l ok e w') : GivesA w l ok e w' := by
  obtain ⟨g, cap, he, hg, ho, hb⟩ := h
  exact ⟨g, 0, cap, he, hg, ho.iat, hb, (World.ownsRow.lt ho g rfl).2⟩
theorem own_slice {w : World} {B : Nat} {v : Value} {l : List Int} (h : IOwn w B v l) (hne : v ≠ .slice none 0 0) : ∃ g cap, v = .slice (some ⟨g, 0, none⟩) l.length cap ∧ B ≤ g := by
  rcases h.2 with ⟨hv, _⟩ | ⟨g, cap, cur, hv, hb, _⟩
  · exact absurd hv hne
  · exact ⟨g, cap, hv, hb⟩
theorem cell_new2 (w : World) (P : Obj) (x : Value) (t : TypeId) : ∀ j u, [x][j]? = some u → ((w.alloc P).alloc (.cells #[x] t)).cell? ((⟨w.heap.size + 1, 0, none⟩ : Addr).add j) = some u := by
  have h := cell_one_new (w.alloc P) x t
  rwa [show (w.alloc P).heap.size = w.heap.size + 1 by simp] at h


/-- The numbers from m on. -/
def marksI (m n : Nat) : List Int := (List.range n).map fun i => ((m + i : Nat) : Int)
theorem marksI_len (m n : Nat) : (marksI m n).length = n := by simp [marksI]
theorem marksI_get (m n i : Nat) (h : i < n) : (marksI m n).getD i 0 = ((m + i : Nat) : Int) := by simp [marksI, List.getD, h]
def mkI (m : Nat) (xs : List Value) (j : Nat) : List Value := (marksI m j).map iv ++ xs.drop j
theorem mkI_zero (m : Nat) (xs : List Value) : mkI m xs 0 = xs := by simp [mkI, marksI]
theorem mkI_set (m : Nat) (xs : List Value) (j : Nat) (h : j < xs.length) : (mkI m xs j).set j (iv ((m + j : Nat) : Int)) = mkI m xs (j + 1) := by
  unfold mkI marksI
  rw [List.set_append_right _ _ (by simp), List.range_succ, List.map_append, List.map_append, List.append_assoc]
  congr 1
  simp only [List.length_map, List.length_range, Nat.sub_self]
  rw [List.drop_eq_getElem_cons h]
  rfl
theorem mkI_len (m : Nat) (xs : List Value) (j : Nat) (h : j ≤ xs.length) : (mkI m xs j).length = xs.length := by simp [mkI, marksI]; omega
theorem mkI_has (m : Nat) (xs : List Value) (j : Nat) (h : j < xs.length) : ∃ u, (mkI m xs j)[j]? = some u := by
  have hl := mkI_len m xs j (by omega)
  exact ⟨_, List.getElem?_eq_getElem (by rw [hl]; exact h)⟩
theorem mkI_full (m : Nat) (xs : List Value) : mkI m xs xs.length = (marksI m xs.length).map iv := by simp [mkI]


end Go.Proofs.Ytlkomipjamelkab.S2
