/- Lists of curves: what is read; the laws' copies, comparisons and counts of them; an argument opened: contracts. Conditions: each theorem's own premises. -/
import Derived.Test.YtpldbakllegheabCvKit
namespace Go.Proofs.Ytpldbakllegheab.S7
open Go.RowKit Go.Sort Go.ChangeShapes Go.WideShapes Go.Deep Go.Joins P7

abbrev rw_ (ls : List (List Cp)) (i : Nat) : List Cp := ls.getD i []
/-- The curves ls lie there. -/
def SAt (w : World) (A : Option Addr) (ls : List (List Cp)) : Prop :=
  ls = [] ∨ ∃ b off, A = some ⟨b, off, none⟩ ∧ b < w.heap.size ∧ ∀ i, i < ls.length → ∃ B c, w.cell? ⟨b, off + i, none⟩ = some (.slice B (rw_ ls i).length c) ∧ CAt w B (rw_ ls i)
theorem SAt.kept {w w' : World} {A : Option Addr} {ls : List (List Cp)} {S : Nat} (h : SAt w A ls) (hb : Below S w w') (hS : w.heap.size ≤ S) : SAt w' A ls := by
  rcases h with h | ⟨b, off, hA, hlt, h⟩
  · exact .inl h
  · refine .inr ⟨b, off, hA, Nat.lt_of_lt_of_le hlt hb.size, fun i hi => ?_⟩
    obtain ⟨B, c, hc, hI⟩ := h i hi
    exact ⟨B, c, (hb.cell (p := ⟨b, off + i, none⟩) (by show b < S; omega)).trans hc, hI.kept hb hS⟩
theorem SAt.at_ {w : World} {A : Option Addr} {ls : List (List Cp)} (h : SAt w A ls) {i : Nat} (hi : i < ls.length) : ∃ b off B c, A = some ⟨b, off, none⟩ ∧ b < w.heap.size ∧ w.cell? ⟨b, off + i, none⟩ = some (.slice B (rw_ ls i).length c) ∧ CAt w B (rw_ ls i) := by
  rcases h with h | ⟨b, off, hA, hlt, h⟩
  · subst h; simp at hi
  · obtain ⟨B, c, hc, hI⟩ := h i hi
    exact ⟨b, off, B, c, hA, hlt, hc, hI⟩
/-- Copies of the curves ls lie there, each no longer than its room. -/
def SCp (w : World) (A : Option Addr) (ls : List (List Cp)) : Prop :=
  ls = [] ∨ ∃ b off, A = some ⟨b, off, none⟩ ∧ b < w.heap.size ∧ ∀ i, i < ls.length → ∃ B c, w.cell? ⟨b, off + i, none⟩ = some (.slice B (rw_ ls i).length c) ∧ CAt w B (rw_ ls i) ∧ (rw_ ls i).length ≤ min c 1048576 ∧ c ≤ maxLen
theorem SCp.sat {w : World} {A : Option Addr} {ls : List (List Cp)} (h : SCp w A ls) : SAt w A ls := by
  rcases h with h | ⟨b, off, hA, hlt, h⟩
  · exact .inl h
  · refine .inr ⟨b, off, hA, hlt, fun i hi => ?_⟩
    obtain ⟨B, c, hc, hI, _⟩ := h i hi
    exact ⟨B, c, hc, hI⟩
theorem SCp.kept {w w' : World} {A : Option Addr} {ls : List (List Cp)} {S : Nat} (h : SCp w A ls) (hb : Below S w w') (hS : w.heap.size ≤ S) : SCp w' A ls := by
  rcases h with h | ⟨b, off, hA, hlt, h⟩
  · exact .inl h
  · refine .inr ⟨b, off, hA, Nat.lt_of_lt_of_le hlt hb.size, fun i hi => ?_⟩
    obtain ⟨B, c, hc, hI, h2⟩ := h i hi
    exact ⟨B, c, (hb.cell (p := ⟨b, off + i, none⟩) (by show b < S; omega)).trans hc, hI.kept hb hS, h2⟩
theorem SCp.at_ {w : World} {A : Option Addr} {ls : List (List Cp)} (h : SCp w A ls) {i : Nat} (hi : i < ls.length) : ∃ b off B c, A = some ⟨b, off, none⟩ ∧ b < w.heap.size ∧ w.cell? ⟨b, off + i, none⟩ = some (.slice B (rw_ ls i).length c) ∧ CAt w B (rw_ ls i) ∧ (rw_ ls i).length ≤ min c 1048576 ∧ c ≤ maxLen := by
  rcases h with h | ⟨b, off, hA, hlt, h⟩
  · subst h; simp at hi
  · obtain ⟨B, c, hc, hI⟩ := h i hi
    exact ⟨b, off, B, c, hA, hlt, hc, hI⟩



/-- A row whose first k elements are copies of the curves, each in a block of its own. -/
def sfill (ls : List (List Cp)) (G : Nat → Nat) (k i : Nat) : Value := if i < k then .slice (some ⟨G i, 0, none⟩) (rw_ ls i).length (rw_ ls i).length else .slice none 0 0
def SFill (w : World) (g : Nat) (ls : List (List Cp)) (k : Nat) : Prop :=
  ∃ G : Nat → Nat, w.rowIs g 24 ls.length (sfill ls G k) ∧ ∀ i, i < k → g < G i ∧ G i < w.heap.size ∧ CAt w (some ⟨G i, 0, none⟩) (rw_ ls i)
theorem SFill.kept {w w' : World} {g k : Nat} {ls : List (List Cp)} (h : SFill w g ls k) (hb : Below w.heap.size w w') : SFill w' g ls k := by
  obtain ⟨G, hr, hG⟩ := h
  exact ⟨G, rowIs_below hr hb hr.lt, fun i hi => ⟨(hG i hi).1, Nat.lt_of_lt_of_le (hG i hi).2.1 hb.size, (hG i hi).2.2.kept hb (Nat.le_refl _)⟩⟩
theorem SFill.put {w : World} {g k x : Nat} {ls : List (List Cp)} (h : SFill w g ls k) (hx : g < x) (hxl : x < w.heap.size) (hc : CAt w (some ⟨x, 0, none⟩) (rw_ ls k)) :
    SFill (w.setCell ⟨g, k, none⟩ (.slice (some ⟨x, 0, none⟩) (rw_ ls k).length (rw_ ls k).length)) g ls (k + 1) := by
  obtain ⟨G, hr, hG⟩ := h
  have hgr := grown_set (grown_refl w (some g)) k (.slice (some ⟨x, 0, none⟩) (rw_ ls k).length (rw_ ls k).length)
  refine ⟨fun i => if i = k then x else G i, (hr.set k _).congr fun i _ => ?_, fun i hi => ?_⟩
  · unfold sfill
    by_cases e : i = k
    · subst e; simp
    · dsimp only
      rw [if_neg e]
      by_cases hi : i < k
      · rw [if_pos hi, if_pos (by omega), if_neg e]
      · rw [if_neg hi, if_neg (by omega)]
  · by_cases e : i = k
    · subst e
      dsimp only
      rw [if_pos rfl]
      exact ⟨hx, by simpa using hxl, hc.far hgr (by omega)⟩
    · dsimp only
      rw [if_neg e]
      obtain ⟨a, b, c⟩ := hG i (by omega)
      exact ⟨a, by simpa using b, c.far hgr (by omega)⟩
theorem SFill.all {w : World} {g k : Nat} {ls : List (List Cp)} (h : SFill w g ls k) (hk : ls.length ≤ k) (hrr : ∀ i, i < ls.length → (rw_ ls i).length ≤ 1048576) : SCp w (some ⟨g, 0, none⟩) ls := by
  obtain ⟨G, hr, hG⟩ := h
  refine .inr ⟨g, 0, rfl, hr.lt, fun i hi => ⟨some ⟨G i, 0, none⟩, (rw_ ls i).length, ?_, (hG i (by omega)).2.2, by have := hrr i hi; omega, Nat.le_trans (hrr i hi) (by simp [maxLen])⟩⟩
  rw [Nat.zero_add, hr.cell hi]
  unfold sfill
  rw [if_pos (by omega)]
theorem infoCS : (Try.prog.info? 24).map (fun i => (i.zero, i.size, i.bytes)) = some (some (.slice none 0 0), 1, 24) := by kernel_rfl
theorem made_curves (w : World) (ls : List (List Cp)) : SFill (w.alloc (.cells (madeCells (Value.slice none 0 0).cells (ls.length * 1)) 24)) w.heap.size ls 0 := by
  refine ⟨fun _ => 0, ⟨_, Go.Deep.blk_alloc_new _ _, by rw [Nat.mul_one]; exact size_madeCells _ _, fun i hi => ?_⟩, fun i hi => absurd hi (by omega)⟩
  have e : sfill ls (fun _ => 0) 0 i = .slice none 0 0 := by unfold sfill; rw [if_neg (by omega)]
  rw [e, Nat.mul_one]
  have hz : (Value.slice none 0 0).cells = #[.slice none 0 0] := rfl
  rw [hz]
  simp only [madeCells]
  rw [Array.getElem?_map, Array.getElem?_range, if_pos hi]
  simp [Nat.mod_one]

end Go.Proofs.Ytpldbakllegheab.S7
