/- The two sides of ParallelFlow and SeriesHead at any head or flow; a list of one curve and of two in a box: contracts. Conditions: each theorem's own premises. -/
import Derived.Test.YtpldbakllegheabCvPump
import Derived.Test.YtpldbakllegheabCvPar
import Derived.Test.YtpldbakllegheabCvParS
import Derived.Test.YtpldbakllegheabCvSer
import Derived.Test.YtpldbakllegheabCvSerS
import Derived.Test.YtpldbakllegheabCvDq
namespace Go.Proofs.Ytpldbakllegheab.S7
open Go.RowKit P7

/-- The flow of pumps side by side, at any head. -/
noncomputable def parA (ls : List (List Cp)) (z : Int) : Tri := if vB z = true then sumA (fun i => pF (rw_ ls i) z) ls.length else (0, 0, false)
theorem par_all (A : Option Addr) (cap : Nat) (ls : List (List Cp)) (f : Int) (w : World) (h : SCp w A ls) (hm : ls.length ≤ 1048576) :
    Calls Try.prog 16 #[.slice A ls.length cap, .int .i64 f] w (Gives3 (parA ls f).1 (parA ls f).2.1 (parA ls f).2.2 w) := by
  cases hv : vB f with
  | false => rw [show parA ls f = (0, 0, false) by unfold parA; rw [hv]; simp]; exact par_no A cap ls f w hv
  | true => rw [show parA ls f = sumA (fun i => pF (rw_ ls i) f) ls.length by unfold parA; rw [hv]; simp]; exact par_any A cap ls f w h hm hv
theorem spar_all (A : Option Addr) (cap : Nat) (ls : List (List Cp)) (f : Int) (w : World) (h : SCp w A ls) (hm : ls.length ≤ 1048576) :
    Calls Try.prog 17 #[.slice A ls.length cap, .int .i64 f] w (Gives3 (parA ls f).1 (parA ls f).2.1 (parA ls f).2.2 w) := by
  cases hv : vB f with
  | false => rw [show parA ls f = (0, 0, false) by unfold parA; rw [hv]; simp]; exact spar_no A cap ls f w hv
  | true => rw [show parA ls f = sumA (fun i => pF (rw_ ls i) f) ls.length by unfold parA; rw [hv]; simp]; exact spar_any A cap ls f w h hm hv
theorem sumA_like {F : Nat → Tri} {n : Nat} (hF : ∀ i, Frac (F i)) {x y : Int} (h : sumA F n = (x, y, true)) : 1 ≤ n ∧ ∃ a b : Nat, F 0 = ((a : Int), (b : Int), true) ∧ 0 < b ∧ b ≤ 1000 ∧ a ≤ 1000 * b := by
  by_cases c : (1 ≤ n ∧ n ≤ 4) ∧ AllK F n
  · refine ⟨c.1.1, ?_⟩
    have h0 := c.2 0 (by omega)
    rcases hF 0 with e | ⟨a, b, e, hb⟩
    · rw [e] at h0; cases h0
    · exact ⟨a, b, e, hb⟩
  · unfold sumA at h
    rw [if_neg c] at h
    simp at h
/-- One pump of the list, and twice the same. -/
theorem par_twice {ls : List (List Cp)} {z x y : Int} (h : parA ls z = (x, y, true)) : 1 ≤ ls.length ∧ ∃ n d e f : Nat, parA [rw_ ls 0] z = ((n : Int), (d : Int), true) ∧ parA [rw_ ls 0, rw_ ls 0] z = ((e : Int), (f : Int), true) ∧ e * d = 2 * n * f ∧ n ≤ 1000000 ∧ d ≤ 1000 ∧ e ≤ 2000000000 ∧ f ≤ 1000000 := by
  have hv : vB z = true := by
    unfold parA at h
    split at h
    · assumption
    · simp at h
  have e0 : ∀ l, parA l z = sumA (fun i => pF (rw_ l i) z) l.length := fun l => by unfold parA; rw [if_pos hv]
  rw [e0] at h
  obtain ⟨h1, a, b, ha, hb, hb9, ha9⟩ := sumA_like (fun i => pF_frac _ _) h
  obtain ⟨n, d, e, f, p1, p2, p3, _, p5⟩ := pump_two (F := fun i => pF (rw_ [rw_ ls 0] i) z) (G := fun i => pF (rw_ [rw_ ls 0, rw_ ls 0] i) z) ha ha ha hb hb9 ha9
  exact ⟨h1, n, d, e, f, (e0 _).trans p1, (e0 _).trans p2, p3, p5⟩
theorem ser_twice {ls : List (List Cp)} {z x y : Int} (h : sumA (fun i => hA (rw_ ls i) z) ls.length = (x, y, true)) : 1 ≤ ls.length ∧ ∃ a b e f : Nat, hA (rw_ ls 0) z = ((a : Int), (b : Int), true) ∧ sumA (fun i => hA (rw_ [rw_ ls 0, rw_ ls 0] i) z) 2 = ((e : Int), (f : Int), true) ∧ e * b = 2 * a * f ∧ a ≤ 1000000 ∧ b ≤ 1000 ∧ e ≤ 2000000000 ∧ f ≤ 1000000 := by
  obtain ⟨h1, a, b, ha, hb, hb9, ha9⟩ := sumA_like (fun i => hA_frac _ _) h
  obtain ⟨n, d, e, f, p1, p2, _, p4, _, _, p7, p8⟩ := pump_two (F := fun i => hA (rw_ [rw_ ls 0] i) z) (G := fun i => hA (rw_ [rw_ ls 0, rw_ ls 0] i) z) ha ha ha hb hb9 ha9
  exact ⟨h1, a, b, e, f, ha, p2, p4, by omega, hb9, p7, p8⟩
/-- A list of one curve in a box. -/
theorem box_one {w : World} {B : Option Addr} {l : List Cp} {c : Nat} (h : CAt w B l) (h1 : l.length ≤ min c 1048576) (h2 : c ≤ maxLen) : SCp (w.alloc (.cells #[.slice B l.length c] 24)) (some ⟨w.heap.size, 0, none⟩) [l] := by
  refine .inr ⟨w.heap.size, 0, rfl, by simp, fun i hi => ?_⟩
  have e : i = 0 := by simpa using hi
  subst e
  exact ⟨B, c, box_at, h.kept (alloc_below _ _) (Nat.le_refl _), h1, h2⟩
theorem box_two {w : World} {B : Option Addr} {l : List Cp} {c : Nat} (h : CAt w B l) (h1 : l.length ≤ min c 1048576) (h2 : c ≤ maxLen) : SCp (w.alloc (.cells #[.slice B l.length c, .slice B l.length c] 24)) (some ⟨w.heap.size, 0, none⟩) [l, l] := by
  refine .inr ⟨w.heap.size, 0, rfl, by simp, fun i hi => ?_⟩
  have e : rw_ [l, l] i = l := by rcases (show i = 0 ∨ i = 1 by simp at hi; omega) with e | e <;> subst e <;> rfl
  rw [e]
  refine ⟨B, c, ?_, h.kept (alloc_below _ _) (Nat.le_refl _), h1, h2⟩
  rw [World.cell?_alloc_at _ _ _ _ rfl]
  rcases (show i = 0 ∨ i = 1 by simp at hi; omega) with e | e <;> subst e <;> rfl
end Go.Proofs.Ytpldbakllegheab.S7
