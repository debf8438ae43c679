/- The laws' copies of pipes and networks: contracts. Conditions: each theorem's own premises. -/
import Derived.Test.YtlkomipjamelkabGoodOne
import Derived.Deep.OwnRows
namespace Go.Proofs.Ytlkomipjamelkab.S2
open Go.RowKit P2

/-- The cells of a row of pipes. -/
def pcell (ps : List Pp) (i : Nat) : Value :=
  .int .i64 (if i % 4 = 0 then (pAt ps (i / 4)).id else if i % 4 = 1 then (pAt ps (i / 4)).fr else if i % 4 = 2 then (pAt ps (i / 4)).to else (pAt ps (i / 4)).sz)
theorem pcell0 (ps : List Pp) (i : Nat) : pcell ps (i * 4) = .int .i64 (pAt ps i).id := by
  have a : i * 4 % 4 = 0 := by omega
  have b : i * 4 / 4 = i := by omega
  simp [pcell, a, b]
theorem pcell1 (ps : List Pp) (i : Nat) : pcell ps (i * 4 + 1) = .int .i64 (pAt ps i).fr := by
  have a : (i * 4 + 1) % 4 = 1 := by omega
  have b : (i * 4 + 1) / 4 = i := by omega
  simp [pcell, a, b]
theorem pcell2 (ps : List Pp) (i : Nat) : pcell ps (i * 4 + 2) = .int .i64 (pAt ps i).to := by
  have a : (i * 4 + 2) % 4 = 2 := by omega
  have b : (i * 4 + 2) / 4 = i := by omega
  simp [pcell, a, b]
theorem pcell3 (ps : List Pp) (i : Nat) : pcell ps (i * 4 + 3) = .int .i64 (pAt ps i).sz := by
  have a : (i * 4 + 3) % 4 = 3 := by omega
  have b : (i * 4 + 3) / 4 = i := by omega
  simp [pcell, a, b]

/-- A row of pipes in a block of its own. -/
def PRow (w : World) (g : Nat) (ps : List Pp) : Prop := w.rowIs g 40 (ps.length * 4) (pcell ps)
theorem PRow.at_ {w : World} {g : Nat} {ps : List Pp} (h : PRow w g ps) : PAt w (some ⟨g, 0, none⟩) ps := by
  refine .inr ⟨g, 0, rfl, h.lt, fun i hi => ?_⟩
  simp only [Nat.zero_add]
  rw [h.cell (by omega), h.cell (by omega), h.cell (by omega), h.cell (by omega), pcell0, pcell1, pcell2, pcell3]
  exact ⟨rfl, rfl, rfl, rfl⟩
theorem rowIs_below {w w' : World} {B g n : Nat} {t : TypeId} {f : Nat → Value} (h : w.rowIs g t n f) (hb : Below B w w') (hg : g < B) : w'.rowIs g t n f := h.of_block (hb.block g hg)
theorem PRow.kept {w w' : World} {B g : Nat} {ps : List Pp} (h : PRow w g ps) (hb : Below B w w') (hg : g < B) : PRow w' g ps := rowIs_below h hb hg

/-- The first k pipes are written. -/
def fill (ps : List Pp) (k : Nat) (i : Nat) : Value := if i < k * 4 then pcell ps i else .int .i64 0
theorem fill_step {w : World} {g n : Nat} {t : TypeId} {ps : List Pp} {k : Nat} (h : w.rowIs g t n (fill ps k)) :
    ((((w.setCell ⟨g, k * 4, none⟩ (.int .i64 (pAt ps k).id)).setCell ⟨g, k * 4 + 1, none⟩ (.int .i64 (pAt ps k).fr)).setCell ⟨g, k * 4 + 2, none⟩ (.int .i64 (pAt ps k).to)).setCell ⟨g, k * 4 + 3, none⟩ (.int .i64 (pAt ps k).sz)).rowIs g t n (fill ps (k + 1)) := by
  refine ((((h.set _ _).set _ _).set _ _).set _ _).congr fun i _ => ?_
  unfold fill
  by_cases h3 : i = k * 4 + 3
  · subst h3; rw [if_pos rfl, if_pos (by omega), pcell3]
  · rw [if_neg h3]
    by_cases h2 : i = k * 4 + 2
    · subst h2; rw [if_pos rfl, if_pos (by omega), pcell2]
    · rw [if_neg h2]
      by_cases h1 : i = k * 4 + 1
      · subst h1; rw [if_pos rfl, if_pos (by omega), pcell1]
      · rw [if_neg h1]
        by_cases h0 : i = k * 4
        · subst h0; rw [if_pos rfl, if_pos (by omega), pcell0]
        · rw [if_neg h0]
          by_cases hk : i < k * 4
          · rw [if_pos hk, if_pos (by omega)]
          · rw [if_neg hk, if_neg (by omega)]
theorem fill_all {w : World} {g : Nat} {t : TypeId} {ps : List Pp} {k : Nat} (h : w.rowIs g t (ps.length * 4) (fill ps k)) (hk : ps.length ≤ k) : w.rowIs g t (ps.length * 4) (pcell ps) :=
  h.congr fun i hi => by unfold fill; rw [if_pos (by omega)]

theorem infoP : (Try.prog.info? 40).map (fun i => (i.zero, i.size, i.bytes)) = some (some (.agg #[.int .i64 0, .int .i64 0, .int .i64 0, .int .i64 0]), 4, 32) := by kernel_rfl


theorem made_pipes (w : World) (ps : List Pp) : (w.alloc (.cells (madeCells (Value.agg #[.int .i64 0, .int .i64 0, .int .i64 0, .int .i64 0]).cells (ps.length * 4)) 40)).rowIs w.heap.size 40 (ps.length * 4) (fill ps 0) := by
  refine ⟨_, Go.Deep.blk_alloc_new _ _, size_madeCells _ _, fun i hi => ?_⟩
  have e : fill ps 0 i = .int .i64 0 := by unfold fill; rw [if_neg (by omega)]
  rw [e]
  have h4 : i % 4 < 4 := Nat.mod_lt _ (by omega)
  have hz : (Value.agg #[.int .i64 0, .int .i64 0, .int .i64 0, .int .i64 0]).cells = #[.int .i64 0, .int .i64 0, .int .i64 0, .int .i64 0] := rfl
  rw [hz]
  simp only [madeCells]
  rw [Array.getElem?_map, Array.getElem?_range, if_pos hi]
  simp only [Option.map_some]
  congr 1
  show (#[Value.int .i64 0, .int .i64 0, .int .i64 0, .int .i64 0])[i % 4]! = _
  generalize i % 4 = r at h4
  match r, h4 with
  | 0, _ => rfl
  | 1, _ => rfl
  | 2, _ => rfl
  | 3, _ => rfl


/-- A result that is a network's copy. -/
def ToPost (n : Int) (ps : List Pp) (w : World) (e : Ending) (w' : World) : Prop := (∃ g, e = .returned (nv n (some ⟨g, 0, none⟩) ps.length ps.length) ∧ w.heap.size ≤ g ∧ PRow w' g ps) ∧ Below w.heap.size w w'


end Go.Proofs.Ytlkomipjamelkab.S2
