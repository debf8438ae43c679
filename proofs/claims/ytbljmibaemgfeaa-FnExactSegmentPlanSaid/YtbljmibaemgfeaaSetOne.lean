/- Sets of elements in memory: read, changed, compared: facts of the model's operations on them. Conditions: each theorem's own premises. -/
import Derived.Test.YtbljmibaemgfeaaChecked
import Derived.Test.YtbljmibaemgfeaaValOne
import Derived.WalkKit
import Derived.ProofKit
import Derived.Laws.StructEq
import Derived.Laws.Rows
import Derived.Below
namespace Go.Proofs.Ytbljmibaemgfeaa.S2
open Go.RowKit P2 P4

def ecells (s : Nat → Bool) : Array Value := ((List.range 19).map fun e => Value.bool (s e)).toArray
theorem ecells_size (s : Nat → Bool) : (ecells s).size = 19 := by simp [ecells]
theorem ecells_get (s : Nat → Bool) (e : Nat) (h : e < 19) : (ecells s)[e]? = some (.bool (s e)) := by simp [ecells, h]
theorem ecells_ext {s t : Nat → Bool} (h : ∀ e, e < 19 → s e = t e) : ecells s = ecells t := by
  unfold ecells
  congr 1
  exact List.map_congr_left fun e he => by rw [h e (List.mem_range.1 he)]
theorem ecells_set (s : Nat → Bool) (e : Nat) (b : Bool) (h : e < 19) : (ecells s).setIfInBounds e (.bool b) = ecells (upd s e b) := by
  apply Array.ext_getElem?
  intro i
  rw [Array.getElem?_setIfInBounds]
  by_cases hi : i < 19
  · rw [ecells_get _ i hi, ecells_get _ i hi]
    by_cases hie : e = i
    · subst hie; simp [ecells_size, h, upd]
    · rw [if_neg hie, upd_ne _ _ (fun e' => hie e'.symm)]
  · have h1 : (ecells s)[i]? = none := by simp [ecells_size]; omega
    have h2 : (ecells (upd s e b))[i]? = none := by simp [ecells_size]; omega
    rw [h1, h2]
    split
    · simp [ecells_size]; omega
    · rfl
/-- A set as a value. -/
abbrev ev (s : Nat → Bool) : Value := .agg (ecells s)
/-- A set in a block of its own. -/
def ERow (w : World) (g : Nat) (s : Nat → Bool) : Prop := w.heap[g]? = some (.cells (ecells s) 96 (0, 0))
theorem ERow.lt {w : World} {g : Nat} {s : Nat → Bool} (h : ERow w g s) : g < w.heap.size := (Array.getElem?_eq_some_iff.1 h).1
theorem ERow.cell {w : World} {g : Nat} {s : Nat → Bool} (h : ERow w g s) (e : Nat) (he : e < 19) : w.cell? ⟨g, e, none⟩ = some (.bool (s e)) := by
  rw [cell_of_row w g e _ _ _ h]; exact ecells_get s e he
theorem ERow.frozen {w : World} {g : Nat} {s : Nat → Bool} (h : ERow w g s) (e : Nat) : w.frozen? ⟨g, e, none⟩ = false := frozen_of_row w g e _ _ h
theorem ERow.kept {w w' : World} {B g : Nat} {s : Nat → Bool} (h : ERow w g s) (hb : Below B w w') (hg : g < B) : ERow w' g s := by
  unfold ERow
  rw [hb.block g hg]; exact h
theorem ERow.set {w : World} {g : Nat} {s : Nat → Bool} (h : ERow w g s) (e : Nat) (b : Bool) (he : e < 19) : ERow (w.setCell ⟨g, e, none⟩ (.bool b)) g (upd s e b) := by
  unfold ERow
  rw [heap_setCell_same w g e _ _ _ h, ecells_set s e b he]
theorem ERow.far {w : World} {g c i : Nat} {s : Nat → Bool} {v : Value} (h : ERow w g s) (hne : g ≠ c) : ERow (w.setCell ⟨c, i, none⟩ v) g s := by
  unfold ERow
  rw [Below.heap_setCell w ⟨c, i, none⟩ v g hne]; exact h
theorem ERow.new (w : World) (s : Nat → Bool) : ERow (w.alloc (.cells (ecells s) 96)) w.heap.size s := heap_alloc_new w _

section
variable {P : Program} (w : World)
theorem run_equalIn_bools (d : Nat) (t e : TypeId) (n : Nat) (ht : P.underlying t = some (.array n e)) (he : P.underlying e = some .bool) (hsz : ∀ w, (sizeOf e).run P w = .ok 1 w)
    (xs ys : Array Value) (f g : Nat → Bool) (hx : ∀ i, i < n → xs[i]? = some (.bool (f i))) (hy : ∀ i, i < n → ys[i]? = some (.bool (g i))) :
    (Op.equalIn (d + 2) t (.agg xs) (.agg ys)).run P w = .ok ((List.range n).all fun i => f i == g i) w := by
  rw [List.range_eq_range', Op.equalIn]
  simp only [Sem.run_bind, run_underlying ht, Result.andThen_ok, hsz, Std.Legacy.Range.forIn_eq_forIn_range', Std.Legacy.Range.size, Nat.sub_zero, Nat.add_sub_cancel, Nat.div_one]
  have hl : ∀ i ∈ List.range' 0 n 1, i < n := fun i hi => by simpa using (List.mem_range'_1.1 hi).2
  generalize List.range' 0 n 1 = l at hl ⊢
  induction l with
  | nil => simp
  | cons i l ih =>
    have hi : i < n := hl i (by simp)
    have px : (part e xs (i * 1)).run P w = .ok (.bool (f i)) w := by
      simp [part, isAgg, run_underlying he, hx i hi]
    have py : (part e ys (i * 1)).run P w = .ok (.bool (g i)) w := by
      simp [part, isAgg, run_underlying he, hy i hi]
    have pe : (Op.equalIn (d + 1) e (.bool (f i)) (.bool (g i))).run P w = .ok (f i == g i) w := run_equalIn_bool w d e _ _ he
    simp only [List.forIn_cons, Sem.run_bind, px, py, pe, Result.andThen_ok, List.all_cons]
    cases hb : (f i == g i)
    · simp
    · simp only [Bool.not_true, Bool.false_eq_true, if_false, Sem.run_pure, Result.andThen_ok, Bool.true_and]
      exact ih fun j hj => hl j (by simp [hj])
end

theorem part9 (s : Nat → Bool) (w : World) : (part 93 (ecells s) 0).run Try.prog w = .ok (.agg ((ecells s).extract 0 9)) w := by
  have h1 := Try.isAgg93
  have h2 := Try.sizeOf93
  simp only [part, Sem.run_bind, h1, h2, Result.andThen_ok, if_true, Sem.run_pure]
theorem part10 (s : Nat → Bool) (w : World) : (part 94 (ecells s) 9).run Try.prog w = .ok (.agg ((ecells s).extract 9 19)) w := by
  have h1 := Try.isAgg94
  have h2 := Try.sizeOf94
  simp only [part, Sem.run_bind, h1, h2, Result.andThen_ok, if_true, Sem.run_pure]
theorem ex_get (s : Nat → Bool) (a n i : Nat) (h : a + i < 19) (hi : i < n) (hn : a + n ≤ 19) : ((ecells s).extract a (a + n))[i]? = some (.bool (s (a + i))) := by
  rw [Array.getElem?_extract, if_pos (by rw [ecells_size]; omega)]
  exact ecells_get s (a + i) h
theorem eqSet (s t : Nat → Bool) (w : World) : (binOp .eql 96 (.agg (ecells s)) (.agg (ecells t))).run Try.prog w = .ok (.bool (eq19 s t)) w := by
  have hS : Try.prog.underlying 96 = some (.struct (Try.prog.fieldsOf 96)) := by kernel_rfl
  have hp : Try.prog.stoodInHeld 96 = false := by kernel_rfl
  have e9 := run_equalIn_bools (P := Try.prog) w 9997 93 4 9 Try.underlying93 Try.underlying4 Try.sizeOf4 ((ecells s).extract 0 9) ((ecells t).extract 0 9) s t (fun i hi => by have := ex_get s 0 9 i (by omega) hi (by omega); simpa using this) (fun i hi => by have := ex_get t 0 9 i (by omega) hi (by omega); simpa using this)
  have e10 := run_equalIn_bools (P := Try.prog) w 9997 94 4 10 Try.underlying94 Try.underlying4 Try.sizeOf4 ((ecells s).extract 9 19) ((ecells t).extract 9 19) (fun i => s (9 + i)) (fun i => t (9 + i)) (fun i hi => ex_get s 9 10 i (by omega) hi (by omega)) (fun i hi => ex_get t 9 10 i (by omega) hi (by omega))
  rw [run_eql_struct, show (10000 : Nat) = 9999 + 1 from rfl, run_equalIn_agg w 9999 96 _ _ hS hp]
  simp only [Program.fieldsOf, Try.underlying96, Op.eqFields]
  have q9 := fun s => part9 s w
  have q10 := fun s => part10 s w
  have e9' : (Op.equalIn 9999 93 (.agg ((ecells s).extract 0 9)) (.agg ((ecells t).extract 0 9))).run Try.prog w = _ := e9
  have e10' : (Op.equalIn 9999 94 (.agg ((ecells s).extract 9 19)) (.agg ((ecells t).extract 9 19))).run Try.prog w = _ := e10
  have hE : eq19 s t = ((List.range 9).all (fun i => s i == t i) && (List.range 10).all (fun i => s (9 + i) == t (9 + i))) := by
    unfold eq19
    rw [show (19 : Nat) = 9 + 10 from rfl, List.range_add, List.all_append, List.all_map]
    rfl
  rw [hE]
  clear e9 e10 hE
  generalize ((List.range 9).all fun i => s i == t i) = b1 at *
  generalize ((List.range 10).all fun i => s (9 + i) == t (9 + i)) = b2 at *
  cases b1 <;> cases b2 <;> simp [q9, q10, e9', e10']
end Go.Proofs.Ytbljmibaemgfeaa.S2
