/- What the rows' listed variables give the walks of tanks: the error of no valid day, and the type of errors. No conditions. -/
import Derived.Test.YtikppgbipdflbaaDoorTkFm
import Derived.Test.YtikppgbipdflbaaDoorWalkTkl
import Derived.Test.YtikppgbipdflbaaDoorWalkTkf
import Derived.Test.YtikppgbipdflbaaDoorCards
import Derived.Test.YtikppgbipdflbaaDoorTie
import Derived.ProofKit
import Derived.LaidMore
import Derived.LaidLaws
import Derived.LaidHandle
import Derived.OpenShut
import Derived.ShutString
import Derived.Stop.Joined
import Derived.Stop.LaidErr
import Derived.SevenTiedAt
import Derived.Below
import Derived.ChangeOld
import Derived.Deep.RegionHeld
namespace Go.Proofs.YtikppgbipdflbaaDoor.D11
open Go.ChangeShapes Go.WideShapes Go.ChangeAt Go.RowKit Go.Lib P11 S11

theorem gErr : Tryd.prog.globalNamed "loop.example/g00853/impl.errNoTankDay" = some 0 := by kernel_rfl
theorem gErrT : (Tryd.prog.globals[0]?).map (·.type) = some 55 := by kernel_rfl
theorem star : "*" ++ "errors.errorString" = "*errors.errorString" := by decide
theorem rowErr (u : TypeId) (h : Tryd.prog.typeName? 3 u = some "*errors.errorString") : u = 108 :=
  typeName_ptr_named (nm := "errors.errorString") (by rw [star]; kernel_rfl) (by kernel_rfl) (by decide) u (by rw [star]; exact h)
theorem cellsE : Tryd.prog.cellsOf 129 = 1 := by kernel_rfl
theorem cellsS : Tryd.prog.cellsOf 9 = 1 := by kernel_rfl
theorem er_of {W : World} {r : List (String × DataW Unit)} (h : laidMet Tryd.prog (("loop.example/g00853/impl.errNoTankDay", Rows.laid_loop_example_g00853_impl_errNoTankDay) :: r) W) : ∃ ea, Er W (noV ea) := by
  obtain ⟨a0, s0, hv0, _⟩ := laid_sentinel (r := r) h gErr gErrT Tryd.underlying55 rowErr Tryd.underlying108 Tryd.underlying129 rfl rfl Tryd.underlying9 cellsE cellsS
  have hc : W.cell? ⟨0, 0, none⟩ = some (noV a0) := by simpa using World.var?_cell gErr hv0 0
  exact ⟨a0, World.block_lt_of_cell? W _ hc, hc⟩
theorem gEt : Tryd.prog.globalNamed "errors.errorType" = some 1 := by kernel_rfl
theorem rtT : (Tryd.prog.cutTypes.find? (·.1 == "internal/reflectlite.rtype")).map (·.2) = some 91 := by kernel_rfl
theorem oneRow : ((List.range 141).filter fun t => Tryd.prog.rowNamed t [101, 114, 114, 111, 114]) = [55] := by kernel_rfl
theorem tsize : Tryd.prog.types.size = 141 := by kernel_rfl
theorem both_of {W : World} (h : laidMetH Tryd.prog [("errors.errorType", Rows.laid_errors_errorType), ("loop.example/g00853/impl.errNoTankDay", Rows.laid_loop_example_g00853_impl_errNoTankDay)] W) : (∃ ea, Er W (noV ea)) ∧ Et W := by
  have h' : laidMet Tryd.prog [("loop.example/g00853/impl.errNoTankDay", Rows.laid_loop_example_g00853_impl_errNoTankDay)] W ∧ handlesMet Tryd.prog [("errors.errorType", Rows.laid_errors_errorType)] W := h
  refine ⟨er_of h'.1, ?_⟩
  obtain ⟨name, u, ty, e1, e2, e3, e4, e5⟩ := h'.2 _ (List.mem_singleton.2 rfl)
  have en : name = [101, 114, 114, 111, 114] := (Option.some.inj e1).symm
  subst en
  obtain rfl := Option.some.inj (rtT.symm.trans e2)
  have hm : ty ∈ (List.range 141).filter fun t => Tryd.prog.rowNamed t [101, 114, 114, 111, 114] := List.mem_filter.2 ⟨List.mem_range.2 (by rw [← tsize]; exact e3), e4⟩
  rw [oneRow] at hm
  obtain rfl := List.mem_singleton.1 hm
  have hh : typeHandle Tryd.prog 55 = .pointer (some ⟨2, 55, none⟩) := by kernel_rfl
  rw [hh] at e5
  have hc : W.cell? ⟨1, 0, none⟩ = some (.iface 91 (.agg #[.pointer (some ⟨2, 55, none⟩)])) := by simpa using World.var?_cell gEt e5 0
  exact ⟨World.block_lt_of_cell? W _ hc, hc⟩
/-! ### The laws, walked -/
theorem walkExactLeastStart (L a b : Int) (A : Option Addr) (cap : Nat) (xs : List Int) (AU : Option Addr) (cc : Nat) (ys : List Int) (W : World) (hx : IAt W A xs) (hmx : xs.length ≤ maxLen) (hy : IAt W AU ys) (hmy : ys.length ≤ maxLen) (hE : ∃ ea, Er W (noV ea)) :
    Calls Tryd.prog 3 #[tv L a b, .slice A xs.length cap, .slice AU ys.length cc] W fun e w' => e = .returned (.bool true) ∧ Below W.heap.size W w' := by
  obtain ⟨ea, hE⟩ := hE
  exact walkLeastStart L a b A cap xs AU cc ys W hx hmx hy hmy _ _ (fun A c B d w h1 h2 h3 h4 => sls_any L a b A c xs B d ys w h1 h2 h3 h4) (fun A c B d w hb h1 h2 h3 h4 => ils_any L a b A c xs B d ys ea w (hE.kept hb) h1 h2 h3 h4)
theorem walkExactFirstMissing (L a b : Int) (A : Option Addr) (cap : Nat) (xs : List Int) (AU : Option Addr) (cc : Nat) (ys : List Int) (W : World) (hx : IAt W A xs) (hmx : xs.length ≤ maxLen) (hy : IAt W AU ys) (hmy : ys.length ≤ maxLen) (hE : (∃ ea, Er W (noV ea)) ∧ Et W) :
    Calls Tryd.prog 4 #[tv L a b, .slice A xs.length cap, .slice AU ys.length cc] W fun e w' => e = .returned (.bool true) ∧ Below W.heap.size W w' := by
  obtain ⟨⟨ea, hE⟩, hT⟩ := hE
  exact walkFirstMissing L a b A cap xs AU cc ys W hx hmx hy hmy _ _ (fun A c B d w h1 h2 h3 h4 => sfm_any L a b A c xs B d ys w h1 h2 h3 h4) (fun A c B d w hb h1 h2 h3 h4 => ifm_any L a b A c xs B d ys ea w (hE.kept hb) (hT.kept hb) h1 h2 h3 h4)
end Go.Proofs.YtikppgbipdflbaaDoor.D11
