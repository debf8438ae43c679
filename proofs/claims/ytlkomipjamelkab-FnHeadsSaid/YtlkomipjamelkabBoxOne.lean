/- The two cells of an argument that is a network, kept through calls; valid networks by a given answer. Conditions: each theorem's own premises. -/
import Derived.Test.YtlkomipjamelkabEqOne
import Derived.Test.YtlkomipjamelkabGoodTwo
namespace Go.Proofs.Ytlkomipjamelkab.S2
open Go.RowKit P2

theorem valid_v {n : Int} {ps : List Pp} {v : Bool} (hv : goodB n ps = v) (A : Option Addr) (cap : Nat) (w : World) (h : PAt w A ps) (hm : ps.length ≤ maxLen) :
    Calls Try.prog 66 #[nv n A ps.length cap] w fun e w' => e = .returned (.bool v) ∧ Below w.heap.size w w' := by
  rw [← hv]; exact valid_any n A cap ps w h hm

theorem box2 {w w' : World} {x y : Value} {t : TypeId} (h : Below (w.heap.size + 1) (w.alloc (.cells #[x, y] t)) w') : w'.cell? ⟨w.heap.size, 0, none⟩ = some x ∧ w'.cell? ⟨w.heap.size, 1, none⟩ = some y := by
  have h0 := h.cell (p := ⟨w.heap.size, 0, none⟩) (by show w.heap.size < w.heap.size + 1; omega)
  have h1 := h.cell (p := ⟨w.heap.size, 1, none⟩) (by show w.heap.size < w.heap.size + 1; omega)
  rw [h0, h1, World.cell?_alloc_at _ _ _ _ rfl, World.cell?_alloc_at _ _ _ _ rfl]
  exact ⟨rfl, rfl⟩
theorem on_call {w a b : World} {o : Obj} (h : Below (w.heap.size + 1) (w.alloc o) a) (hb : Below a.heap.size a b) : Below (w.heap.size + 1) (w.alloc o) b :=
  h.trans (hb.mono (by have := h.size; simpa using this))
theorem box_lt {w a : World} {o : Obj} (h : Below (w.heap.size + 1) (w.alloc o) a) : w.heap.size < a.heap.size := by have := h.size; simp at this; omega

end Go.Proofs.Ytlkomipjamelkab.S2
