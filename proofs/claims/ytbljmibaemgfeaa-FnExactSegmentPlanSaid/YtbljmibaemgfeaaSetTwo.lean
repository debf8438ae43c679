/- Sets of elements in a walk: a set is made, loaded, stored. Conditions: each theorem's own premises. -/
import Derived.Test.YtbljmibaemgfeaaSetOne
namespace Go.Proofs.Ytbljmibaemgfeaa.S2
open Go.RowKit P2 P4

def es0 : Nat → Bool := fun _ => false
theorem infoE : (Try.prog.info? 96).map (·.size) = some 19 := by kernel_rfl
theorem infoE' (s : Nat → Bool) : (Try.prog.info? 96).map (·.size) = some (ecells s).size := by rw [ecells_size]; exact infoE
theorem zeroE (w : World) : (zeroValue 96).run Try.prog w = .ok (ev es0) w := by
  have h : ev es0 = .agg #[.bool false, .bool false, .bool false, .bool false, .bool false, .bool false, .bool false, .bool false, .bool false, .bool false, .bool false, .bool false, .bool false, .bool false, .bool false, .bool false, .bool false, .bool false, .bool false] := rfl
  rw [h]
  exact Try.zeroValue96 w
theorem ecells_one (s : Nat → Bool) : (ecells s).all (·.oneCell') = true := by
  rw [Array.all_eq_true_iff_forall_mem]
  intro v hv
  simp [ecells] at hv
  obtain ⟨e, _, rfl⟩ := hv
  rfl
theorem grown_setRow {w : World} {g : Nat} (cs : Array Value) : w.grownBy (w.setRow g cs) (some g) :=
  ⟨rfl, rfl, rfl, by simp, fun k _ hne => setRow_other w g k cs (fun e => hne (by rw [e]))⟩

section
variable {ops : Array Oper} {rest : List Oper} {o : Oper} {a : Act} {w : World} {Q : Exit → Act → World → Prop}
/-- A new set is empty. -/
theorem wpE_alloc (hgd : o.guard = none) (ho : o.op = .alloc 96)
    (h : ∀ w', ERow w' w.heap.size es0 → Below w.heap.size w w' → w'.heap.size = w.heap.size + 1 → wpList Try.prog ops Q rest (a.put o.dst (.pointer (some ⟨w.heap.size, 0, none⟩))) w') : wpList Try.prog ops Q (o :: rest) a w :=
  wpList_plain hgd fun _ hK => by
    have hz := zeroE w
    unfold Oper.wp execOp
    simp [ho, Instr.alloc, Sem.run_bind, hz, Result.andThen]
    have hn : (newVar 96 (ev es0)).run Try.prog w = .ok ⟨w.heap.size, 0, none⟩ (w.alloc (.cells (ecells es0) 96)) := by
      simp [newVar, go_sem]
    rw [hn]
    exact hK _ _ (h _ (ERow.new _ _) ((Below.refl _ _).alloc (Nat.le_refl _) _) (by simp))
theorem wpE_load (hgd : o.guard = none) (x : Operand) (ho : o.op = .load 96 x) (g : Nat) (hx : a.eval x = .pointer (some ⟨g, 0, none⟩)) (s : Nat → Bool) (he : ERow w g s)
    (h : wpList Try.prog ops Q rest (a.put o.dst (ev s)) w) : wpList Try.prog ops Q (o :: rest) a w :=
  wpList_load_row hgd 96 x ho g hx 96 (ecells s) (0, 0) _ he Try.underlying96 rfl (infoE' s) h
theorem wpE_store (hgd : o.guard = none) (x y : Operand) (ho : o.op = .store 96 x y) (hd : o.dst = none) (g : Nat) (hx : a.eval x = .pointer (some ⟨g, 0, none⟩)) (s : Nat → Bool) (hy : a.eval y = ev s) (s0 : Nat → Bool) (he : ERow w g s0)
    (h : ∀ w', ERow w' g s → w.grownBy w' (some g) → w'.heap.size = w.heap.size → wpList Try.prog ops Q rest a w') : wpList Try.prog ops Q (o :: rest) a w :=
  wpList_store_row hgd 96 x y ho g (ecells s) hx hy 96 (ecells s0) he (infoE' s) (by rw [ecells_size, ecells_size]) (ecells_one s)
    (by rw [hd]; exact h _ (setRow_heap w g _ (ecells s) _ (0, 0) he) (grown_setRow _) (by simp))
end
theorem ERow.grown {w w' : World} {g x : Nat} {s : Nat → Bool} (h : ERow w g s) (hg : w.grownBy w' (some x)) (hne : g ≠ x) : ERow w' g s := by
  unfold ERow
  rw [hg.block g h.lt (by simp; exact fun e => hne e)]; exact h
end Go.Proofs.Ytbljmibaemgfeaa.S2
