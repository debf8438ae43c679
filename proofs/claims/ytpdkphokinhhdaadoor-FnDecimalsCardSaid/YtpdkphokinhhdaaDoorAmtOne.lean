/- A law's argument that is an amount, opened and copied; the law FnExactIsValidAmount walked: contracts. Conditions: each theorem's own premises. -/
import Derived.Test.YtpdkphokinhhdaaDoorUnitTwo
import Derived.Lib.SmallJoins
import Derived.Deep.Fields
import Derived.ChangeSame
import Derived.OpenShut
namespace Go.Proofs.YtpdkphokinhhdaaDoor.S3
open Go.RowKit Go.ChangeShapes Go.WideShapes Go.Deep Go.Joins P3

section
variable {H : Type} {enc : TypeId × Value → H} {w : World} {spare : Nat → Bool}
set_option maxRecDepth 100000 in
theorem amt_open {r : Reach} {b0 : Nat} {v : Value} {d : DataW H} {p : List MemPlace} (hv : Value.okWide Tryd.prog w r b0 36 v) (h : DataW.Trod enc Tryd.prog w 0 (fun _ => true) true 36 v d p) :
    ∃ x u : Int, v = av x u := by
  obtain ⟨v0, v1, y0, y1, n, rfl, _, _, h0, h1⟩ := open_agg2 Tryd.underlying36 (by kernel_rfl) (by kernel_rfl) hv h
  obtain ⟨k, e0, _⟩ := DataW.trod_int Tryd.underlying3 h0
  injection e0 with e0
  obtain ⟨j, e1, _⟩ := DataW.trod_int Tryd.underlying3 h1
  injection e1 with e1
  exact ⟨k, j, by rw [e0, e1]⟩
end
theorem toamt_any (x u : Int) (w : World) :
    Calls Tryd.prog 22 #[av x u] w fun e w' => e = .returned (av x u) ∧ Below w.heap.size w w' := by
  go_enter Tryd.func22, Tryd.ntmps22
  go_wp2
  refine bodyPost_ret (v := av x u) (by simp [results, Tryd.results22, go_sem]) rfl ⟨rfl, ?_⟩
  exact (((Below.refl _ _).alloc (Nat.le_refl _) _).alloc (by simp) _).alloc (by simp; omega) _

/-! ### What a call leaves of the arguments' boxes -/
theorem on_base {w0 a b : World} {S : Nat} (h : Below S w0 a) (hS : S = w0.heap.size) (hb : Below a.heap.size a b) : Below S w0 b :=
  h.trans (hb.mono (by rw [hS]; exact h.size))
theorem box_one {w w' : World} {x y : Value} {t : TypeId} {S : Nat} (h : Below S (w.alloc (.cells #[x, y] t)) w') (hS : S = w.heap.size + 1) : w'.cell? ⟨w.heap.size, 0, none⟩ = some x ∧ w'.cell? ⟨w.heap.size, 1, none⟩ = some y := by
  subst hS
  have h0 := h.cell (p := ⟨w.heap.size, 0, none⟩) (by show w.heap.size < w.heap.size + 1; omega)
  have h1 := h.cell (p := ⟨w.heap.size, 1, none⟩) (by show w.heap.size < w.heap.size + 1; omega)
  rw [h0, h1, World.cell?_alloc_at _ _ _ _ rfl, World.cell?_alloc_at _ _ _ _ rfl]
  exact ⟨rfl, rfl⟩
theorem box_two {w w' : World} {x y x2 y2 : Value} {t t2 : TypeId} {S : Nat} (h : Below S ((w.alloc (.cells #[x, y] t)).alloc (.cells #[x2, y2] t2)) w') (hS : S = w.heap.size + 2) :
    w'.cell? ⟨w.heap.size, 0, none⟩ = some x ∧ w'.cell? ⟨w.heap.size, 1, none⟩ = some y ∧ w'.cell? ⟨w.heap.size + 1, 0, none⟩ = some x2 ∧ w'.cell? ⟨w.heap.size + 1, 1, none⟩ = some y2 := by
  subst hS
  have h0 := h.cell (p := ⟨w.heap.size, 0, none⟩) (by show w.heap.size < w.heap.size + 2; omega)
  have h1 := h.cell (p := ⟨w.heap.size, 1, none⟩) (by show w.heap.size < w.heap.size + 2; omega)
  have h2 := h.cell (p := ⟨w.heap.size + 1, 0, none⟩) (by show w.heap.size + 1 < w.heap.size + 2; omega)
  have h3 := h.cell (p := ⟨w.heap.size + 1, 1, none⟩) (by show w.heap.size + 1 < w.heap.size + 2; omega)
  have e1 : (w.alloc (.cells #[x, y] t)).heap.size = w.heap.size + 1 := by simp
  rw [h0, h1, h2, h3, World.cell?_alloc_past (w := w.alloc (.cells #[x, y] t)) _ _ _ (by simp), World.cell?_alloc_past (w := w.alloc (.cells #[x, y] t)) _ _ _ (by simp), World.cell?_alloc_at _ _ _ _ rfl, World.cell?_alloc_at _ _ _ _ rfl,
    World.cell?_alloc_at (w := w.alloc (.cells #[x, y] t)) _ _ _ _ e1.symm, World.cell?_alloc_at (w := w.alloc (.cells #[x, y] t)) _ _ _ _ e1.symm]
  exact ⟨rfl, rfl, rfl, rfl⟩
theorem box_lts {w w' : World} {o o2 : Obj} {S : Nat} (h : Below S ((w.alloc o).alloc o2) w') (_hS : S = w.heap.size + 2) : w.heap.size < w'.heap.size ∧ w.heap.size + 1 < w'.heap.size := by
  have := h.size
  simp at this
  omega
theorem box_lt1 {w w' : World} {o : Obj} {S : Nat} (h : Below S (w.alloc o) w') (_hS : S = w.heap.size + 1) : w.heap.size < w'.heap.size := by
  have := h.size
  simp at this
  omega
theorem under_one {w w' : World} {o : Obj} {S : Nat} (h : Below S (w.alloc o) w') (hS : S = w.heap.size + 1) : Below w.heap.size w w' :=
  ((Below.refl _ _).alloc (Nat.le_refl _) o).trans (h.mono (by omega))
theorem under_two {w w' : World} {o o2 : Obj} {S : Nat} (h : Below S ((w.alloc o).alloc o2) w') (hS : S = w.heap.size + 2) : Below w.heap.size w w' :=
  (((Below.refl _ _).alloc (Nat.le_refl _) o).alloc (by simp) o2).trans (h.mono (by omega))
end Go.Proofs.YtpdkphokinhhdaaDoor.S3
