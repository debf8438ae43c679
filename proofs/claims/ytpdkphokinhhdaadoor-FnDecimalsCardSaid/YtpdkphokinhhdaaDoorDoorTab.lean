/- What the rows' listed library variables give the walks, and a start that meets them. No conditions. -/
import Derived.Test.YtpdkphokinhhdaaDoorTabOne
import Derived.Test.YtpdkphokinhhdaaDoorCards
import Derived.Test.YtpdkphokinhhdaaDoorTie
import Derived.ProofKit
import Derived.LaidMore
import Derived.OpenShut
import Derived.ShutString
import Derived.Stop.Joined
import Derived.Stop.LaidErr
import Derived.Lib.LaidTab
import Derived.SevenTiedAt
import Derived.Below
import Derived.ChangeOld
namespace Go.Proofs.YtpdkphokinhhdaaDoor.D1
open Go.ChangeShapes Go.WideShapes Go.ChangeAt Go.RowKit Go.Lib P1 S1

theorem own : ownKnob Tryd.prog.godebug = none := by kernel_rfl
theorem laidOut : laidOutB Tryd.prog = true := by kernel_rfl
theorem gPow : Tryd.prog.globalNamed "internal/strconv.uint64pow10" = some 4 := by kernel_rfl
theorem tPow : (Tryd.prog.globals[4]?).map (·.type) = some 105 := by kernel_rfl
theorem cells20 : Tryd.prog.cellsOf 105 = 20 := by kernel_rfl
theorem cellsU : Tryd.prog.cellsOf 52 = 1 := by kernel_rfl

theorem table {W : World} {x y : String × DataW Unit} {r : List (String × DataW Unit)} (h : laidMet Tryd.prog (x :: y :: ("internal/strconv.uint64pow10", Rows.laid_internal_strconv_uint64pow10) :: r) W) : Tab W :=
  Lib.tabIs_of_head (rest := r) gPow tPow Tryd.underlying105 Tryd.underlying52 cellsU cells20 h.tail.tail

theorem gSyn : Tryd.prog.globalNamed "strconv.ErrSyntax" = some 2 := by kernel_rfl
theorem gSynT : (Tryd.prog.globals[2]?).map (·.type) = some 75 := by kernel_rfl
theorem gRng : Tryd.prog.globalNamed "strconv.ErrRange" = some 3 := by kernel_rfl
theorem gRngT : (Tryd.prog.globals[3]?).map (·.type) = some 75 := by kernel_rfl
theorem star : "*" ++ "errors.errorString" = "*errors.errorString" := by decide
theorem rowErr (u : TypeId) (h : Tryd.prog.typeName? 3 u = some "*errors.errorString") : u = 113 :=
  typeName_ptr_named (nm := "errors.errorString") (by rw [star]; kernel_rfl) (by kernel_rfl) (by decide) u (by rw [star]; exact h)
theorem cellsE : Tryd.prog.cellsOf 115 = 1 := by kernel_rfl
theorem cellsS : Tryd.prog.cellsOf 9 = 1 := by kernel_rfl
theorem errs {W : World} {x y z : String × DataW Unit} {r : List (String × DataW Unit)} (h : laidMet Tryd.prog (x :: y :: z :: ("strconv.ErrRange", Rows.laid_strconv_ErrRange) :: ("strconv.ErrSyntax", Rows.laid_strconv_ErrSyntax) :: r) W) : Errs W := by
  obtain ⟨a0, s0, hv0, _⟩ := laid_sentinel (r := ("strconv.ErrSyntax", Rows.laid_strconv_ErrSyntax) :: r) h.tail.tail.tail gRng gRngT Tryd.underlying75 rowErr Tryd.underlying113 Tryd.underlying115 rfl rfl Tryd.underlying9 cellsE cellsS
  obtain ⟨a1, s1, hv1, _⟩ := laid_sentinel (r := r) h.tail.tail.tail.tail gSyn gSynT Tryd.underlying75 rowErr Tryd.underlying113 Tryd.underlying115 rfl rfl Tryd.underlying9 cellsE cellsS
  exact ⟨⟨_, by simpa using World.var?_cell gSyn hv1 0, .inr ⟨_, _, rfl⟩⟩, _, by simpa using World.var?_cell gRng hv0 0, .inr ⟨_, _, rfl⟩⟩
end Go.Proofs.YtpdkphokinhhdaaDoor.D1
