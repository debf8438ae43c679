/- Whether a curve is above another one: facts, the program's: contracts. Conditions: each theorem's own premises. -/
import Derived.Test.YtpldbakllegheabCvCat
import Derived.Test.YtpldbakllegheabCvSum
namespace Go.Proofs.Ytpldbakllegheab.S7
open Go.RowKit P7

/-- Both curves have the flow and the head of a is less there. -/
noncomputable def belB (a b : List Cp) (f : Int) : Bool := (hA a f).2.2 && (hA b f).2.2 && decide ((hA a f).1 * (hA b f).2.1 < (hA b f).1 * (hA a f).2.1)
def NoB (a b : List Cp) (k : Nat) : Prop := ∀ j, j < k → belB a b (cAt (a ++ b) j).fl = false
theorem NoB.zero (a b : List Cp) : NoB a b 0 := fun j h => absurd h (by omega)
theorem NoB.next {a b : List Cp} {k : Nat} (h : NoB a b k) (hk : belB a b (cAt (a ++ b) k).fl = false) : NoB a b (k + 1) := by
  intro j hj
  by_cases e : j = k
  · subst e; exact hk
  · exact h j (by omega)
open Classical in
noncomputable def abv (a b : List Cp) : Bool := decide (NoB a b (a ++ b).length)
theorem abv_yes {a b : List Cp} (h : NoB a b (a ++ b).length) : abv a b = true := by simpa [abv] using h
theorem abv_no {a b : List Cp} {k : Nat} (hk : k < (a ++ b).length) (h : belB a b (cAt (a ++ b) k).fl = true) : abv a b = false := by
  have : ¬ NoB a b (a ++ b).length := fun x => by rw [x k hk] at h; cases h
  simpa [abv] using this
/-- What IsAbove tells. -/
noncomputable def abA (a b : List Cp) : Bool × Bool := if gB a = true ∧ gB b = true then (abv a b, true) else (false, false)
theorem abA_no {a b : List Cp} (h : (gB a && gB b) = false) : abA a b = (false, false) := by
  unfold abA; rw [if_neg]; rintro ⟨h1, h2⟩; rw [h1, h2] at h; cases h
theorem abA_yes {a b : List Cp} (h1 : gB a = true) (h2 : gB b = true) : abA a b = (abv a b, true) := by unfold abA; rw [if_pos ⟨h1, h2⟩]
abbrev APost (a b : List Cp) (w : World) (e : Ending) (w' : World) : Prop := e = .returned (.tuple #[.bool (abA a b).1, .bool (abA a b).2]) ∧ Below w.heap.size w w'
theorem apost_of {a b : List Cp} {w w' : World} {x y : Bool} (h : abA a b = (x, y)) (hb : Below w.heap.size w w') : APost a b w (.returned (.tuple #[.bool x, .bool y])) w' := by unfold APost; rw [h]; exact ⟨rfl, hb⟩

set_option maxHeartbeats 4000000 in
theorem below_any (A A2 : Option Addr) (c c2 : Nat) (a b : List Cp) (f : Int) (w : World) (h : CAt w A a) (hm : a.length ≤ 1048576) (h1 : a.length ≤ c) (h9 : c ≤ maxLen) (k : CAt w A2 b) (km : b.length ≤ 1048576) (k1 : b.length ≤ c2) (k9 : c2 ≤ maxLen) :
    Calls Try.prog 59 #[.slice A a.length c, .slice A2 b.length c2, .int .i64 f] w fun e w' => e = .returned (.bool (belB a b f)) ∧ Below w.heap.size w w' := by
  have H1 := Lib.hid (head_cap A c a f w h hm h1 h9)
  have H2 := Lib.hid (fun w' (hb : Below w.heap.size w w') => head_cap A2 c2 b f w' (k.kept hb (Nat.le_refl _)) km k1 k9)
  have f1 := hA_frac a f
  have f2 := hA_frac b f
  unfold belB
  unfold HPost Gives3 ret3 at *
  clear h k
  by_cases hx : (∃ x y : Nat, hA a f = ((x : Int), (y : Int), true) ∧ 0 < y ∧ y ≤ 1000 ∧ x ≤ 1000 * y) ∧ (∃ x y : Nat, hA b f = ((x : Int), (y : Int), true) ∧ 0 < y ∧ y ≤ 1000 ∧ x ≤ 1000 * y)
  · obtain ⟨⟨x, y, e1, hy0, hy9, hx9⟩, ⟨u, v, e2, hv0, hv9, hu9⟩⟩ := hx
    rw [e1] at H1 ⊢
    rw [e2] at H2 ⊢
    dsimp only at *
    have m1 : x * v ≤ 1000000 * 1000 := Nat.mul_le_mul (by omega) hv9
    have m2 : u * y ≤ 1000000 * 1000 := Nat.mul_le_mul (by omega) hy9
    have e3 : ((x * v : Nat) : Int) = (x : Int) * (v : Int) := Int.natCast_mul _ _
    have e4 : ((u * y : Nat) : Int) = (u : Int) * (y : Int) := Int.natCast_mul _ _
    have wP : IntKind.i64.wrap ((x : Int) * (v : Int)) = (x : Int) * (v : Int) := w64 _ (by omega)
    have wQ : IntKind.i64.wrap ((u : Int) * (y : Int)) = (u : Int) * (y : Int) := w64 _ (by omega)
    clear e1 e2 e3 e4 m1 m2 f1 f2
    go_enter Try.func59, Try.ntmps59
    go_wp2_with (first
      | (go_at_call_of 14 (Value.slice A2 b.length c2); refine (H2.out _ hb1).mono ?_; rintro e w2 ⟨rfl, hb2⟩)
      | (go_at_call 14; refine H1.out.mono ?_; rintro e w1 ⟨rfl, hb1⟩))
    go_ret
    exact ⟨rfl, hb1.trans (hb2.mono hb1.size)⟩
  · have e : ((hA a f).2.2 && (hA b f).2.2) = false := by
      rcases f1 with e1 | e1
      · rw [e1]; rfl
      · rcases f2 with e2 | e2
        · rw [e2]; simp
        · exact absurd ⟨e1, e2⟩ hx
    rw [e]
    clear f1 f2 hx
    generalize hA a f = r at *
    generalize hA b f = s at *
    obtain ⟨r0, r1, r2⟩ := r
    obtain ⟨s0, s1, s2⟩ := s
    dsimp only at *
    go_enter Try.func59, Try.ntmps59
    cases r2 <;> cases s2 <;> first | (exact absurd e (by decide)) | skip
    all_goals
      clear e
      go_wp2_with (first
        | (go_at_call_of 14 (Value.slice A2 b.length c2); refine (H2.out _ hb1).mono ?_; rintro e w2 ⟨rfl, hb2⟩)
        | (go_at_call 14; refine H1.out.mono ?_; rintro e w1 ⟨rfl, hb1⟩))
      go_ret
      exact ⟨rfl, hb1.trans (hb2.mono hb1.size)⟩
end Go.Proofs.Ytpldbakllegheab.S7
