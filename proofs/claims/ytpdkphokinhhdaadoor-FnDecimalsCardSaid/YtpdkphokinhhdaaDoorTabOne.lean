/- The library's table of powers of ten and its two error variables, kept through calls; Atoi: contracts. Conditions: these variables read as their initialisers lay them. -/
import Derived.Test.YtpdkphokinhhdaaDoorShelf
import Derived.Test.YtpdkphokinhhdaaDoorPlainOne
import Derived.WalkKit
import Derived.ProofKit
import Derived.IntWalk
import Derived.Lib.Hide
import Derived.Lib.LaidTab
import Derived.Below
import Derived.WalkSmall
import Derived.Sort.Grow
namespace Go.Proofs.YtpdkphokinhhdaaDoor.S1
open Go.RowKit Go.Lib P1

def Tab (w : World) : Prop := Lib.TabIs Tryd.prog w "internal/strconv.uint64pow10" .u64 Lib.pow10Tab

theorem var_lt {w : World} {n : String} {g : Nat} {cs : Array Value} (hg : Tryd.prog.globalNamed n = some g) (h : w.var? Tryd.prog n = some cs) : g < w.heap.size := by
  unfold World.var? at h
  rw [hg] at h
  simp only [Option.bind_some] at h
  refine Decidable.byContradiction fun hlt => ?_
  rw [Array.getElem?_eq_none (by omega)] at h
  cases h

theorem Tab.later {w w' : World} (h : Tab w) (hb : Below w.heap.size w w') : Tab w' := by
  have hg : Tryd.prog.globalNamed "internal/strconv.uint64pow10" = some 4 := by kernel_rfl
  exact var?_below hb hg (var_lt hg h) h

theorem below_grow (w : World) (k : Nat) (os : Array Obj) : Below w.heap.size w (Go.Sort.grow (w.drewN k) os) :=
  ⟨rfl, rfl, rfl, by simp [Go.Sort.grow], fun b hb => by simp only [Go.Sort.grow]; exact Array.getElem?_append_left (by simpa using hb)⟩

/-- What the two error variables hold: nil, or an error. -/
structure Errs (w : World) : Prop where
  syn : ∃ ev, w.cell? ⟨2, 0, none⟩ = some ev ∧ (ev = .nilIface ∨ ∃ te pe, ev = .iface te pe)
  rng : ∃ ev, w.cell? ⟨3, 0, none⟩ = some ev ∧ (ev = .nilIface ∨ ∃ te pe, ev = .iface te pe)

theorem cell_lt {w : World} {b : Nat} {v : Value} (h : w.cell? ⟨b, 0, none⟩ = some v) : b < w.heap.size := by
  refine Decidable.byContradiction fun hlt => ?_
  unfold World.cell? at h
  rw [Array.getElem?_eq_none (by simpa using hlt)] at h
  cases h

theorem Errs.later {w w' : World} (h : Errs w) (hb : Below w.heap.size w w') : Errs w' := by
  obtain ⟨⟨e1, c1, k1⟩, e2, c2, k2⟩ := h
  exact ⟨⟨e1, (hb.cell (p := ⟨_, 0, none⟩) (cell_lt c1)).trans c1, k1⟩, e2, (hb.cell (p := ⟨_, 0, none⟩) (cell_lt c2)).trans c2, k2⟩

theorem atoi_ok (s : ByteArray) (hs : s.size ≤ 1048576) (v : Int) (h : Lib.atoiAll s.data.toList = .ok v) (w : World) :
    Calls Tryd.prog 49 #[.string s] w fun e w' => e = .returned (.tuple #[.int .i64 v, .nilIface]) ∧ Below w.heap.size w w' :=
  (Tryd.strconv_Atoi_ok s (by omega) v h w).mono fun e w' ⟨he, hw⟩ => ⟨he, by
    rcases hw with rfl | ⟨t, rfl⟩
    · exact Below.refl _ _
    · exact Lib.bytesWorld_below w _ t⟩

theorem atoi_bad (s : ByteArray) (hs : s.size ≤ 1048576) (h : ∀ v, Lib.atoiAll s.data.toList ≠ .ok v) (w : World) (he : Errs w) :
    Calls Tryd.prog 49 #[.string s] w fun e w' => ∃ n N, e = .returned (.tuple #[.int .i64 n, .iface 89 (.pointer (some ⟨N, 0, none⟩))]) ∧ Below w.heap.size w w' := by
  cases hr : Lib.atoiAll s.data.toList
  · exact absurd hr (h _)
  · obtain ⟨ev, hv, hev⟩ := he.syn
    exact (Any.strconv_Atoi_syntax Tryd.laysC172 s (by omega) hr ev w hv hev).mono fun e w' ⟨N, he, _, _, hb⟩ => ⟨_, N, he, hb⟩
  · obtain ⟨ev, hv, hev⟩ := he.rng
    exact (Any.strconv_Atoi_range Tryd.laysC172 s (by omega) hr ev w hv hev).mono fun e w' ⟨N, he, _, _, hb⟩ => ⟨_, N, he, hb⟩

end Go.Proofs.YtpdkphokinhhdaaDoor.S1
