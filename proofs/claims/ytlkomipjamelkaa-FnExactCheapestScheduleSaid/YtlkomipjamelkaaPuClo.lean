/- The end of a search: its plan is kept: contract. Conditions: its own premises. -/
import Derived.Test.YtlkomipjamelkaaPuMem
import Derived.Defers
import Derived.Deep.DeepCutAuto
namespace Go.Proofs.Ytlkomipjamelkaa.S13
open Go.RowKit Go.Sort Go.ChangeShapes Go.WideShapes Go.Deep Go.Joins P11 S11 P13

set_option maxHeartbeats 1000000 in
theorem keep_deferred (g6 g7 O e : Nat) (kn k0 : Bool) (q q0 : Pl) (W : World) (h6 : E4 W g6 0 kn q) (f6 : FZ W g6) (h7 : W.cell? ⟨g7, 0, none⟩ = some (.pointer (some ⟨O, e, none⟩))) (he : E4 W O e k0 q0) (fo : FZ W O) (h67 : g6 ≠ g7) (h6o : g6 ≠ O) :
    CallsD Try.prog 57 #[.pointer (some ⟨g6, 0, none⟩), .pointer (some ⟨g7, 0, none⟩)] .returning W fun e' u' w' =>
      u' = .returning ∧ (e' = .returned (.tuple #[]) ∧ w' = put4 (W.setCell ⟨g6, 0, none⟩ (.bool true)) O e (.bool true) (.bool q.ex) (.int .i64 q.cost) (.int .i64 q.vol)) := by
  obtain ⟨c0, c1, c2, c3⟩ := h6.six
  obtain ⟨d0, d1, d2, d3⟩ := he
  obtain ⟨f0, f1, f2, f3⟩ := fz_four f6
  have o0 := fo e
  have o1 := fo (e + 1)
  have o2 := fo (e + 2)
  have o3 := fo (e + 3)
  clear h6 f6 fo
  obtain ⟨qx, qc, qv⟩ := q
  obtain ⟨q0x, q0c, q0v⟩ := q0
  go_enter_d Try.func57, Try.ntmps57
  go_wp2
  go_end0
  exact ⟨rfl, rfl⟩
end Go.Proofs.Ytlkomipjamelkaa.S13
