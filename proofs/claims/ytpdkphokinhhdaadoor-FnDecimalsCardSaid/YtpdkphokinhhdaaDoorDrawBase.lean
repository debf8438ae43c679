/- How the laws draw their arguments: among numbers; where a draw starts: contracts. Conditions: each theorem's own premises. -/
import Derived.Test.YtpdkphokinhhdaaDoorDrawOne
import Derived.Deep.OwnRows
import Derived.Laws.IdiomStrings
namespace Go.Proofs.YtpdkphokinhhdaaDoor.S1
open Go.RowKit

/-- Numbers lie in a row of their own. -/
def Ti (b : Nat) (zs : List Int) (w : World) : Prop := ∀ j, j < zs.length → w.cell? ⟨b, j, none⟩ = some (.int .i64 (zs.getD j 0))
theorem ti_new (w : World) (zs : List Int) (t : TypeId) : Ti w.heap.size zs (w.alloc (.cells (zs.map (Value.int .i64)).toArray t)) := fun j hj => by
  rw [World.cell?_alloc_at _ _ _ _ rfl]
  simp [List.getD, hj]
theorem ti_lt {b : Nat} {zs : List Int} {w : World} (h : Ti b zs w) (h0 : 0 < zs.length) : b < w.heap.size := by
  have h00 := h 0 h0
  refine Decidable.byContradiction fun hlt => ?_
  unfold World.cell? at h00
  rw [Array.getElem?_eq_none (by simpa using hlt)] at h00
  cases h00
theorem grown_below {w w' : World} {g B : Nat} (h : w.grownBy w' (some g)) (hB : B ≤ g) (hBw : B ≤ w.heap.size) : Below B w w' :=
  ⟨h.os, h.tape, h.output, h.size, fun k hk => h.block k (by omega) (by simp; omega)⟩

/-- among: one of the numbers. -/
theorem among_any (B g : Nat) (a : Option Addr) (n cap K b N c : Nat) (zs : List Int) (w : World) (hN : N = zs.length) (hK : K ≤ 900000) (h0 : 1 ≤ zs.length) (h1 : zs.length ≤ 1000) (h : St B g a n cap K w) (ht : Ti b zs w) (hne : b ≠ g) :
    Calls Tryd.prog 33 #[.pointer (some ⟨g, 0, none⟩), .slice (some ⟨b, 0, none⟩) N c] w fun e w' => (∃ z : Int, e = .returned (.int .i64 z)) ∧ St B g a n cap (K + 2) w' ∧ w.grownBy w' (some g) := by
  subst hN
  have HS := Lib.hid h
  have HT := Lib.hid ht
  have hb := ti_lt ht h0
  clear h ht
  go_enter Tryd.func33, Tryd.ntmps33
  go_wp2_with (go_at_call 34; refine (pick_any B g a n cap K _ _ hK (by omega) (by omega) HS.out).mono ?_; rintro e w1 ⟨r, rfl, hr0, hr1, hs1, hg1⟩; refine Hid.out ?_)
  obtain ⟨j, rfl⟩ : ∃ j : Nat, r = (j : Int) := ⟨r.toNat, by omega⟩
  have hj : j < zs.length := by omega
  have hc : w1.cell? ⟨b, j, none⟩ = some (.int .i64 (zs.getD j 0)) := hg1.cell (HT.out j hj) (by simp; omega)
  have HS1 := Lib.hid hs1
  have HG1 := Lib.hid hg1
  clear hs1 hg1 HT
  generalize zs.getD j 0 = z at hc
  refine Lib.hid ?_
  go_wp2_with fail
  go_ret
  exact ⟨⟨z, rfl⟩, HS1.out, HG1.out⟩

theorem st_start {a : Option Addr} {n : Nat} (cap : Nat) {w : World} (h : Cd w.heap.size a n w) (hn : n ≤ 65536) : St w.heap.size w.heap.size a n cap 0 (w.alloc (.cells #[.slice a n cap, .int .i64 0, .int .u64 0] 54)) := by
  refine ⟨?_, ⟨0, 0, Nat.le_refl _, by simpa using (MapKept.heap_alloc w (.cells #[.slice a n cap, .int .i64 0, .int .u64 0] 54)).1⟩, Nat.le_refl _, hn⟩
  rcases h with h0 | ⟨b, off, ha, hb, hc⟩
  · exact .inl h0
  · refine .inr ⟨b, off, ha, hb, fun j hj => ?_⟩
    obtain ⟨v, hv, hcv⟩ := hc j hj
    exact ⟨v, hv, (World.cell?_alloc_past _ _ _ hb).trans hcv⟩
theorem Cd.later {B : Nat} {a : Option Addr} {n : Nat} {w w' : World} (h : Cd B a n w) (hb : Below w.heap.size w w') (hB : B ≤ w.heap.size) : Cd w'.heap.size a n w' := by
  rcases h with h0 | ⟨b, off, ha, hbB, hc⟩
  · exact .inl h0
  · refine .inr ⟨b, off, ha, by have := hb.size; omega, fun j hj => ?_⟩
    obtain ⟨v, hv, hcv⟩ := hc j hj
    exact ⟨v, hv, (hb.cell (p := ⟨b, off + j, none⟩) (show b < w.heap.size by omega)).trans hcv⟩
theorem below_of_start {w w1 : World} {o : Obj} (h : (w.alloc o).grownBy w1 (some w.heap.size)) : Below w.heap.size w w1 :=
  ((Below.refl _ _).alloc (Nat.le_refl _) o).trans (grown_below h (Nat.le_refl _) (by simp))
end Go.Proofs.YtpdkphokinhhdaaDoor.S1
