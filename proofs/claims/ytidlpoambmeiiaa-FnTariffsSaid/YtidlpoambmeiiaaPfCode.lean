/- The bytes of which a law draws, opened to their cells. Conditions: each theorem's own premises. -/
import Derived.Test.YtidlpoambmeiiaaPfDraw
import Derived.OpenShut
import Derived.StillTailTactics
namespace Go.Proofs.Ytidlpoambmeiiaa.S1
open Go.RowKit Go.ChangeShapes Go.WideShapes Go.ChangeAt
open Go.Lib

/-- What the walk is told of the bytes that came in. -/
def IsRow (k : IntKind) (w : World) (a : Option Addr) (len cap : Nat) (zs : List Int) : Prop :=
  (a = none ∧ len = 0 ∧ cap = 0 ∧ zs = []) ∨
  ∃ x, a = some x ∧ len ≤ cap ∧ cap ≤ maxLen ∧ zs.length = cap ∧ (∀ i, i < zs.length → w.cell? (x.add i) = some (.int k (zs.getD i 0))) ∧ ∀ n ∈ zs, (Lit.int k n).wf = true

theorem cd_of_row {w : World} {a : Option Addr} {len cap : Nat} {zs : List Int} (h : IsRow .u8 w a len cap zs) : Cd w.heap.size a len w := by
  rcases h with ⟨_, h0, _⟩ | ⟨x, rfl, hl, _, hz, hc, hwf⟩
  · exact .inl h0
  · by_cases h0 : len = 0
    · exact .inl h0
    · obtain ⟨b, off, rfl, hat⟩ := ints_at hc (by omega)
      refine .inr ⟨b, off, rfl, ?_, fun j hj => ?_⟩
      · have h00 := hat 0 (by omega)
        refine Decidable.byContradiction fun hlt => ?_
        unfold World.cell? at h00
        rw [Array.getElem?_eq_none (by simpa using hlt)] at h00
        cases h00
      · have hj' : j < zs.length := by omega
        have hm : zs.getD j 0 ∈ zs := by
          have e : zs.getD j 0 = zs[j] := by simp [List.getD, hj']
          rw [e]; exact List.getElem_mem hj'
        have hw := hwf _ hm
        have hb : 0 ≤ zs.getD j 0 ∧ zs.getD j 0 ≤ 255 := by
          have e1 : IntKind.u8.min = 0 := rfl
          have e2 : IntKind.u8.max = 255 := rfl
          simpa [Lit.wf, e1, e2] using hw
        exact ⟨(zs.getD j 0).toNat, by omega, by rw [hat j hj', Int.toNat_of_nonneg hb.1]⟩

section
variable {H : Type} {enc : TypeId × Value → H} {w : World}
set_option maxRecDepth 100000 in
theorem code_open {r : Reach} {b0 : Nat} {v : Value} {d : DataW H} {p : List MemPlace} (hv : Value.okWide Try.prog w r b0 51 v) (h : DataW.Trod enc Try.prog w 0 (fun _ => true) true 51 v d p) :
    ∃ (A : Option Addr) (len cap : Nat), v = .slice A len cap ∧ Cd w.heap.size A len w := by
  obtain ⟨a0, len0, cap0, rfl⟩ := okWide_slice Try.underlying51 hv
  refine ⟨a0, len0, cap0, rfl, ?_⟩
  obtain ⟨fuel, hf⟩ := h
  rcases open_ints Try.underlying51 Try.underlying5 (by kernel_rfl) hf with ⟨hcs, _⟩ | ⟨x, l, c, zs, hcs, _, hl, hm, hz, _, hcell, hwz⟩
  · simp [Value.cells] at hcs
    obtain ⟨rfl, rfl, rfl⟩ := hcs
    exact .inl rfl
  · simp [Value.cells] at hcs
    obtain ⟨rfl, rfl, rfl⟩ := hcs
    exact cd_of_row (zs := zs) (.inr ⟨_, rfl, hl, hm, by simpa using hz, hcell, hwz⟩)
end
end Go.Proofs.Ytidlpoambmeiiaa.S1
