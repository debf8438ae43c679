/- Small lists of demands and of flows; a network in a box: contracts. Conditions: each theorem's own premises. -/
import Derived.Test.YtlkomipjamelkabTrS
namespace Go.Proofs.Ytlkomipjamelkab.S2
open Go.RowKit P2

/-- A small list: as many numbers as there are nodes, or pipes. -/
theorem amt_len {l : List Int} {n a b : Int} (h : amtB l n a b = true) : (l.length : Int) = n ∧ allR a b l = true := by
  unfold amtB at h
  rw [Bool.and_eq_true, decide_eq_true_eq] at h
  exact h
theorem demB_of {n : Int} {ps : List Pp} {dm : List Int} (h : demB n ps dm = true) : P2.Good n ps ∧ (dm.length : Int) = n ∧ allR 0 1000 dm = true := by
  unfold demB at h
  rw [Bool.and_eq_true] at h
  exact ⟨good_of h.1, amt_len h.2⟩
theorem floB_of {n : Int} {ps : List Pp} {fl : List Int} (h : floB n ps fl = true) : P2.Good n ps ∧ fl.length = ps.length ∧ allR (-8000) 8000 fl = true := by
  unfold floB at h
  rw [Bool.and_eq_true] at h
  have := amt_len h.2
  exact ⟨good_of h.1, by omega, this.2⟩

abbrev nb (n : Int) (A : Option Addr) (len cap : Nat) : Obj := .cells #[.int .i64 n, .slice A len cap] 26
theorem below3 (w : World) (o1 o2 o3 : Obj) : Below (w.heap.size + 1) (w.alloc o1) (((w.alloc o1).alloc o2).alloc o3) := (((Below.refl _ _).alloc (by simp) _).alloc (by simp) _)
theorem lift1 {w w1 w2 : World} (h : Below (w.heap.size + 1) w w1) (hb : Below w1.heap.size w1 w2) (hz : w.heap.size + 1 ≤ w1.heap.size) : Below (w.heap.size + 1) w w2 := h.trans (hb.mono hz)
end Go.Proofs.Ytlkomipjamelkab.S2
