/- The program's table of units as its text lays it, kept through calls; the liters a day of an amount: contracts. Conditions: each theorem's own premises. -/
import Derived.Test.YtpdkphokinhhdaaDoorUnitFour
import Derived.Test.YtpdkphokinhhdaaDoorTabOne
import Derived.Test.YtpdkphokinhhdaaDoorQuietOne
import Derived.Test.YtpdkphokinhhdaaDoorRows
import Derived.ChangeArms
import Derived.OpenShut
namespace Go.Proofs.YtpdkphokinhhdaaDoor.S3
open Go.RowKit Go.Sort Go.ChangeShapes Go.WideShapes P3 S1 S2

def unitCells : Array Value := #[.string ⟨#[]⟩, .int .i64 0, .string ⟨#[108, 47, 109, 105, 110]⟩, .int .i64 1440, .string ⟨#[108, 47, 115]⟩, .int .i64 86400, .string ⟨#[109, 51, 47, 104]⟩, .int .i64 24000, .string ⟨#[109, 51, 47, 100]⟩, .int .i64 1000]
/-- The table of units reads as its text lays it. -/
def Fu (w : World) : Prop := w.var? Tryd.prog "loop.example/g00853/impl.flowUnits" = some unitCells
theorem gUnits : Tryd.prog.globalNamed "loop.example/g00853/impl.flowUnits" = some 0 := by kernel_rfl
theorem tUnits : (Tryd.prog.globals[0]?).map (·.type) = some 68 := by kernel_rfl
theorem Fu.later {w w' : World} (h : Fu w) (hb : Below w.heap.size w w') : Fu w' := var?_below hb gUnits (var_lt gUnits h) h
theorem Fu.lt {w : World} (h : Fu w) : 0 < w.heap.size := var_lt gUnits h
theorem Fu.cell {w : World} (h : Fu w) (i : Nat) {v : Value} (hv : unitCells[i]? = some v) : w.cell? ⟨0, i, none⟩ = some v := by
  rw [World.var?_cell gUnits h i, hv]

theorem cellsUnit : Tryd.prog.cellsOf 67 = 2 := by kernel_rfl
theorem cellsUnits : Tryd.prog.cellsOf 68 = 10 := by kernel_rfl
theorem cellsS1 : Tryd.prog.cellsOf 9 = 1 := by kernel_rfl
theorem cellsI1 : Tryd.prog.cellsOf 3 = 1 := by kernel_rfl

section
variable {H : Type} {enc : TypeId × Value → H} {w : World} {spare : Nat → Bool}
set_option maxRecDepth 100000 in
theorem unit_open {fuel : Nat} {cs : List Value} {s : List UInt8} {z : Int} {q : List MemPlace} (h : DataW.trod enc Tryd.prog w 0 spare false fuel 67 cs = some (.agg [.lit (.string s), .lit (.int .i64 z)], q)) :
    cs = [.string ⟨s.toArray⟩, .int .i64 z] := by
  obtain ⟨xs, n, _, hx, hl, hlx, hf⟩ := DataW.trod_struct Tryd.underlying67 h
  rw [cellsUnit] at hl
  match cs, hl, xs, hlx with
  | [c0, c1], _, [y0, y1], _ =>
    have g0 : DataW.trod enc Tryd.prog w 0 spare false n 9 (List.take (Tryd.prog.cellsOf 9) (List.drop 0 [c0, c1])) = some y0 := hf 0 _ rfl
    have g1 : DataW.trod enc Tryd.prog w 0 spare false n 3 (List.take (Tryd.prog.cellsOf 3) (List.drop 1 [c0, c1])) = some y1 := hf 1 _ rfl
    rw [cellsS1] at g0
    rw [cellsI1] at g1
    obtain ⟨b, e0, h0, _⟩ := DataW.trod_string (cs := [c0]) Tryd.underlying9 g0
    obtain ⟨k, e1, h1, _⟩ := DataW.trod_int (cs := [c1]) Tryd.underlying3 g1
    injection e0 with e0
    injection e1 with e1
    have hx1 := congrArg Prod.fst hx
    rw [h0, h1] at hx1
    simp only [List.map_cons, List.map_nil, DataW.agg.injEq, List.cons.injEq, DataW.lit.injEq, Lit.string.injEq, Lit.int.injEq, true_and, and_true] at hx1
    obtain ⟨hs, hz⟩ := hx1
    rw [e0, e1, hs, hz]
set_option maxRecDepth 100000 in
theorem units_open {fuel : Nat} {cs : List Value} {q : List MemPlace} (h : DataW.trod enc Tryd.prog w 0 spare false fuel 68 cs = some (Rows.laid_loop_example_g00853_impl_flowUnits, q)) : cs = unitCells.toList := by
  obtain ⟨xs, m, _, hx, hl, hlx, hf⟩ := DataW.trod_array Tryd.underlying68 h
  rw [cellsUnits] at hl
  match cs, hl, xs, hlx with
  | [c0, c1, c2, c3, c4, c5, c6, c7, c8, c9], _, [y0, y1, y2, y3, y4], _ =>
    have hx1 := congrArg Prod.fst hx
    unfold Rows.laid_loop_example_g00853_impl_flowUnits at hx1
    simp only [List.map_cons, List.map_nil, DataW.agg.injEq, List.cons.injEq, and_true] at hx1
    obtain ⟨e0, e1, e2, e3, e4⟩ := hx1
    have g0 := hf 0 (by omega)
    have g1 := hf 1 (by omega)
    have g2 := hf 2 (by omega)
    have g3 := hf 3 (by omega)
    have g4 := hf 4 (by omega)
    rw [cellsUnit] at g0 g1 g2 g3 g4
    obtain ⟨d0, p0⟩ := y0
    obtain ⟨d1, p1⟩ := y1
    obtain ⟨d2, p2⟩ := y2
    obtain ⟨d3, p3⟩ := y3
    obtain ⟨d4, p4⟩ := y4
    simp only at e0 e1 e2 e3 e4
    subst e0; subst e1; subst e2; subst e3; subst e4
    have u0 := unit_open (cs := [c0, c1]) g0
    have u1 := unit_open (cs := [c2, c3]) g1
    have u2 := unit_open (cs := [c4, c5]) g2
    have u3 := unit_open (cs := [c6, c7]) g3
    have u4 := unit_open (cs := [c8, c9]) g4
    simp only [List.cons.injEq, and_true] at u0 u1 u2 u3 u4
    rw [u0.1, u0.2, u1.1, u1.2, u2.1, u2.2, u3.1, u3.2, u4.1, u4.2]
    rfl
end
theorem units {W : World} {r : List (String × DataW Unit)} (h : laidMet Tryd.prog (("loop.example/g00853/impl.flowUnits", Rows.laid_loop_example_g00853_impl_flowUnits) :: r) W) : Fu W := by
  obtain ⟨ps, ⟨g', t', cs, fuel, p, q, hg', ht', hvar, hd, _, _⟩, _⟩ := h
  obtain rfl := Option.some.inj (tUnits.symm.trans (by rw [← Option.some.inj (gUnits.symm.trans hg')] at ht'; exact ht'))
  have e := units_open hd
  unfold Fu
  rw [hvar]
  congr 1
  exact Array.toList_inj.1 e

set_option maxHeartbeats 1000000 in
theorem liters_any (v u : Int) (w : World) (h : Fu w) (hv : okA v u = true) :
    Calls Tryd.prog 41 #[av v u] w fun e w' => e = .returned (.int .i64 (v * dayOf u)) ∧ Below w.heap.size w w' := by
  obtain ⟨⟨hv0, hv1⟩, hu0, hu1⟩ := okA_iff.1 hv
  have hlt := h.lt
  clear hv
  have hu : u = 1 ∨ u = 2 ∨ u = 3 ∨ u = 4 := by omega
  rcases hu with rfl | rfl | rfl | rfl
  · have hc := h.cell 3 (v := .int .i64 1440) rfl
    have hw : IntKind.i64.wrap (v * 1440) = v * 1440 := IntWalk.i64_in _ (by omega)
    rw [show dayOf 1 = 1440 from rfl]
    clear h hu0 hu1
    go_enter Tryd.func41, Tryd.ntmps41
    go_wp2
    go_quiet (fail)
    go_wp2
    go_ret
    exact ⟨rfl, below_drewN ((Below.refl _ _).alloc (Nat.le_refl _) _) _⟩
  · have hc := h.cell 5 (v := .int .i64 86400) rfl
    have hw : IntKind.i64.wrap (v * 86400) = v * 86400 := IntWalk.i64_in _ (by omega)
    rw [show dayOf 2 = 86400 from rfl]
    clear h hu0 hu1
    go_enter Tryd.func41, Tryd.ntmps41
    go_wp2
    go_quiet (fail)
    go_wp2
    go_ret
    exact ⟨rfl, below_drewN ((Below.refl _ _).alloc (Nat.le_refl _) _) _⟩
  · have hc := h.cell 7 (v := .int .i64 24000) rfl
    have hw : IntKind.i64.wrap (v * 24000) = v * 24000 := IntWalk.i64_in _ (by omega)
    rw [show dayOf 3 = 24000 from rfl]
    clear h hu0 hu1
    go_enter Tryd.func41, Tryd.ntmps41
    go_wp2
    go_quiet (fail)
    go_wp2
    go_ret
    exact ⟨rfl, below_drewN ((Below.refl _ _).alloc (Nat.le_refl _) _) _⟩
  · have hc := h.cell 9 (v := .int .i64 1000) rfl
    have hw : IntKind.i64.wrap (v * 1000) = v * 1000 := IntWalk.i64_in _ (by omega)
    rw [show dayOf 4 = 1000 from rfl]
    clear h hu0 hu1
    go_enter Tryd.func41, Tryd.ntmps41
    go_wp2
    go_quiet (fail)
    go_wp2
    go_ret
    exact ⟨rfl, below_drewN ((Below.refl _ _).alloc (Nat.le_refl _) _) _⟩
end Go.Proofs.YtpdkphokinhhdaaDoor.S3
