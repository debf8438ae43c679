/- A list of curves under way: what is read. Conditions: each theorem's own premises. -/
import Derived.Test.YtpldbakllegheabCvDp
import Derived.Test.YtpldbakllegheabCvSs
import Derived.Maps.AppendAt
namespace Go.Proofs.Ytpldbakllegheab.S7
open Go.RowKit Go.Sort P7

theorem rws_old {ls : List (List Cp)} {l : List Cp} {i : Nat} (h : i < ls.length) : rw_ (ls ++ [l]) i = rw_ ls i := by
  simp [rw_, List.getD, List.getElem?_append, h]
theorem rws_new {ls : List (List Cp)} {l : List Cp} : rw_ (ls ++ [l]) ls.length = l := by simp [rw_, List.getD]
/-- A curve held beside the row gv and the cursor g. -/
def RowC (w : World) (gv g : Nat) (v : Value) (l : List Cp) : Prop :=
  ∃ b c, v = .slice (some ⟨b, 0, none⟩) l.length c ∧ b < w.heap.size ∧ b ≠ gv ∧ b ≠ g ∧ CAt w (some ⟨b, 0, none⟩) l ∧ (1 ≤ l.length ∧ l.length ≤ 7) ∧ (l.length ≤ c ∧ c ≤ maxLen)
theorem RowC.alloc {w : World} {gv g : Nat} {v : Value} {l : List Cp} (h : RowC w gv g v l) (ob : Obj) : RowC (w.alloc ob) gv g v l := by
  obtain ⟨b, c, e, hl, h1, h2, ha, h3⟩ := h
  exact ⟨b, c, e, by rw [alloc_size]; omega, h1, h2, ha.kept (alloc_below w ob) (Nat.le_refl _), h3⟩
theorem RowC.call {w w' : World} {gv g : Nat} {v : Value} {l : List Cp} (h : RowC w gv g v l) (hg : w.grownBy w' (some g)) : RowC w' gv g v l := by
  obtain ⟨b, c, e, hl, h1, h2, ha, h3⟩ := h
  exact ⟨b, c, e, Nat.lt_of_lt_of_le hl hg.size, h1, h2, ha.far hg h2, h3⟩
theorem RowC.push {w w' : World} {gv gv2 g : Nat} {v : Value} {l : List Cp} (h : RowC w gv g v l) (hg : w.grownBy w' (some gv)) (hn : gv2 = gv ∨ gv2 = w.heap.size) : RowC w' gv2 g v l := by
  obtain ⟨b, c, e, hl, h1, h2, ha, h3⟩ := h
  exact ⟨b, c, e, Nat.lt_of_lt_of_le hl hg.size, by omega, h2, ha.far hg h1, h3⟩
structure DL (w wr : World) (B g : Nat) (a : Option Addr) (n cap K gv cv : Nat) (ls : List (List Cp)) (x : Nat → Value) : Prop where
  st : S1.St B g a n cap K wr
  gr : w.grownBy wr (some g)
  own : wr.ownsRow w.heap.size 24 1 (.slice (some ⟨gv, 0, none⟩) ls.length cv) ls.length ((List.range ls.length).map x)
  lo : w.heap.size ≤ gv
  gw : g < w.heap.size
  rows : ∀ i, i < ls.length → RowC wr gv g (x i) (rw_ ls i)
theorem DL.start {w : World} {B g : Nat} {a : Option Addr} {n cap K : Nat} (h : S1.St B g a n cap K w) (hgw : g < w.heap.size) : DL w (w.alloc (.cells #[] 24)) B g a n cap K w.heap.size 0 [] (fun _ => undef) :=
  ⟨S1.st_new h _, World.grownBy_alloc w _ (some g), ⟨rfl, .inr ⟨w.heap.size, 0, #[], rfl, Nat.le_refl _, by simpa using (MapKept.heap_alloc w (.cells #[] 24)).1, Nat.le_refl _, Nat.zero_le _, rfl, rfl⟩⟩, Nat.le_refl _, hgw, fun i hi => absurd hi (by simp)⟩
theorem DL.call {w wr w2 : World} {B g : Nat} {a : Option Addr} {n cap K K' gv cv : Nat} {ls : List (List Cp)} {x : Nat → Value} (h : DL w wr B g a n cap K gv cv ls x) (hs : S1.St B g a n cap K' w2) (hg : wr.grownBy w2 (some g)) : DL w w2 B g a n cap K' gv cv ls x :=
  ⟨hs, S1.grown_trans h.gr hg, World.ownsRow.kept h.own hg (.inr (by have := h.lo; have := h.gw; simp [Value.ownBlock]; omega)), h.lo, h.gw, fun i hi => (h.rows i hi).call hg⟩
theorem DL.more {w wr : World} {B g : Nat} {a : Option Addr} {n cap K K' gv cv : Nat} {ls : List (List Cp)} {x : Nat → Value} (h : DL w wr B g a n cap K gv cv ls x) (hK : K ≤ K') : DL w wr B g a n cap K' gv cv ls x := ⟨h.st.more hK, h.gr, h.own, h.lo, h.gw, h.rows⟩
theorem DL.push {w w1 w3 : World} {o : Obj} {B g : Nat} {a : Option Addr} {n cap K gv cv gv2 cv2 : Nat} {ls : List (List Cp)} {x : Nat → Value} {l : List Cp} {y : Value} (h : DL w w1 B g a n cap K gv cv ls x) (hy : RowC w1 gv g y l) (hg : (w1.alloc o).grownBy w3 (some gv))
    (ho : w3.ownsRow w.heap.size 24 1 (.slice (some ⟨gv2, 0, none⟩) (ls.length + 1) cv2) (ls.length + 1) ((List.range ls.length).map x ++ [y])) (hl : w.heap.size ≤ gv2) (hn : gv2 = gv ∨ gv2 = (w1.alloc o).heap.size) :
    DL w w3 B g a n cap K gv2 cv2 (ls ++ [l]) (fun i => if i = ls.length then y else x i) := by
  refine ⟨st_row (S1.st_new h.st o) hg (Nat.lt_of_lt_of_le h.gw h.lo), grown_row (S1.grown_new h.gr o) hg h.lo, ?_, hl, h.gw, ?_⟩
  · have e : (List.range (ls ++ [l]).length).map (fun i => if i = ls.length then y else x i) = (List.range ls.length).map x ++ [y] := by
      rw [List.length_append, List.length_singleton, List.range_succ, List.map_append]
      congr 1
      · refine List.map_congr_left fun i hi => ?_
        have : i < ls.length := by simpa using hi
        rw [if_neg (by omega)]
      · simp
    rw [e, List.length_append]
    exact ho
  · intro i hi
    rw [List.length_append, List.length_singleton] at hi
    by_cases e : i = ls.length
    · subst e
      rw [if_pos rfl, rws_new]
      exact (hy.alloc o).push hg hn
    · rw [if_neg e, rws_old (by omega)]
      exact ((h.rows i (by omega)).alloc o).push hg hn
/-- A drawn list of curves lies there. -/
def SDr (w : World) (g b : Nat) (ls : List (List Cp)) : Prop :=
  b < w.heap.size ∧ b ≠ g ∧ ∀ i, i < ls.length → ∃ B c, B ≠ g ∧ B < w.heap.size ∧ w.cell? ⟨b, i, none⟩ = some (.slice (some ⟨B, 0, none⟩) (rw_ ls i).length c) ∧ CAt w (some ⟨B, 0, none⟩) (rw_ ls i) ∧ (1 ≤ (rw_ ls i).length ∧ (rw_ ls i).length ≤ 7) ∧ ((rw_ ls i).length ≤ c ∧ c ≤ maxLen)
theorem DL.sdr {w wr : World} {B g : Nat} {a : Option Addr} {n cap K gv cv : Nat} {ls : List (List Cp)} {x : Nat → Value} (h : DL w wr B g a n cap K gv cv ls x) : SDr wr g gv ls := by
  refine ⟨(World.ownsRow.lt h.own gv rfl).2, by have := h.lo; have := h.gw; omega, fun i hi => ?_⟩
  obtain ⟨b, c, e, hbl, _, hbg, ha, h1, h2⟩ := h.rows i hi
  have hc := h.own.cells (g := gv) rfl i (x i) (by rw [List.getElem?_map, List.getElem?_range hi]; rfl)
  rw [add_plus, Nat.zero_add, e] at hc
  exact ⟨b, c, hbg, hbl, hc, ha, h1, h2⟩
theorem SDr.scp {w : World} {g b : Nat} {ls : List (List Cp)} (h : SDr w g b ls) : SCp w (some ⟨b, 0, none⟩) ls := by
  refine .inr ⟨b, 0, rfl, h.1, fun i hi => ?_⟩
  obtain ⟨B, c, _, _, hc, ha, h1, h2⟩ := h.2.2 i hi
  exact ⟨some ⟨B, 0, none⟩, c, by rw [Nat.zero_add]; exact hc, ha, by omega, h2.2⟩
theorem SDr.call {w w' : World} {g b : Nat} {ls : List (List Cp)} (h : SDr w g b ls) (hg : w.grownBy w' (some g)) : SDr w' g b ls := by
  refine ⟨Nat.lt_of_lt_of_le h.1 hg.size, h.2.1, fun i hi => ?_⟩
  obtain ⟨B, c, h1, h2, hc, ha, h3⟩ := h.2.2 i hi
  exact ⟨B, c, h1, Nat.lt_of_lt_of_le h2 hg.size, (hg.cell_far ⟨b, i, none⟩ h.1 (by simpa using h.2.1)).trans hc, ha.far hg h1, h3⟩
theorem SDr.alloc {w : World} {g b : Nat} {ls : List (List Cp)} (h : SDr w g b ls) (ob : Obj) : SDr (w.alloc ob) g b ls := by
  refine ⟨by rw [alloc_size]; have := h.1; omega, h.2.1, fun i hi => ?_⟩
  obtain ⟨B, c, h1, h2, hc, ha, h3⟩ := h.2.2 i hi
  exact ⟨B, c, h1, by rw [alloc_size]; omega, (World.cell?_alloc_past _ _ _ h.1).trans hc, ha.kept (alloc_below w ob) (Nat.le_refl _), h3⟩
theorem SDr.kept {w w' : World} {g b S : Nat} {ls : List (List Cp)} (h : SDr w g b ls) (hb : Below S w w') (hS : w.heap.size ≤ S) : SDr w' g b ls := by
  refine ⟨Nat.lt_of_lt_of_le h.1 hb.size, h.2.1, fun i hi => ?_⟩
  obtain ⟨B, c, h1, h2, hc, ha, h3⟩ := h.2.2 i hi
  exact ⟨B, c, h1, Nat.lt_of_lt_of_le h2 hb.size, (hb.cell (p := ⟨b, i, none⟩) (by have := h.1; show b < S; omega)).trans hc, ha.kept hb hS, h3⟩
theorem DL.facts {w wr : World} {B g : Nat} {a : Option Addr} {n cap K gv cv : Nat} {ls : List (List Cp)} {x : Nat → Value} (h : DL w wr B g a n cap K gv cv ls x) : ls.length ≤ cv ∧ cv ≤ maxLen := by
  rcases h.own.2 with ⟨hv, _⟩ | ⟨g', c', cur, hv, _, _, h1, h2, _⟩
  · cases hv
  · injection hv with _ _ e
    subst e; exact ⟨h1, h2⟩
theorem own_slS {w : World} {B n : Nat} {v : Value} {xs : List Value} (h : w.ownsRow B 24 1 v n xs) (hne : v ≠ .slice none 0 0) : ∃ g cap, v = .slice (some ⟨g, 0, none⟩) n cap ∧ B ≤ g := by
  rcases h.2 with ⟨hv, _⟩ | ⟨g, cap, cur, hv, hb, _⟩
  · exact absurd hv hne
  · exact ⟨g, cap, hv, hb⟩
def CrsPost (B g : Nat) (a : Option Addr) (n cap K : Nat) (w : World) (e : Ending) (w' : World) : Prop :=
  ∃ (gv cv : Nat) (ls : List (List Cp)), e = .returned (.slice (some ⟨gv, 0, none⟩) ls.length cv) ∧ w.heap.size ≤ gv ∧ ls.length ≤ 5 ∧ (ls.length ≤ cv ∧ cv ≤ maxLen) ∧ SDr w' g gv ls ∧ S1.St B g a n cap K w' ∧ w.grownBy w' (some g)
theorem crs_post {w wr : World} {B g : Nat} {a : Option Addr} {n cap K K' gv cv : Nat} {ls : List (List Cp)} {x : Nat → Value} (h : DL w wr B g a n cap K gv cv ls x) (hK : K ≤ K') (h5 : ls.length ≤ 5) : CrsPost B g a n cap K' w (.returned (.slice (some ⟨gv, 0, none⟩) ls.length cv)) wr :=
  ⟨gv, cv, ls, rfl, h.lo, h5, h.facts, h.sdr, h.st.more hK, h.gr⟩
theorem crs_none {w wr : World} {B g : Nat} {a : Option Addr} {n cap K K' gv cv : Nat} {ls : List (List Cp)} {x : Nat → Value} (h : DL w wr B g a n cap K gv cv ls x) (hK : K ≤ K') : CrsPost B g a n cap K' w (.returned (.slice (some ⟨gv, 0, none⟩) 0 cv)) wr :=
  ⟨gv, cv, [], rfl, h.lo, by simp, ⟨Nat.zero_le _, h.facts.2⟩, ⟨h.sdr.1, h.sdr.2.1, fun i hi => absurd hi (by simp)⟩, h.st.more hK, h.gr⟩
end Go.Proofs.Ytpldbakllegheab.S7
