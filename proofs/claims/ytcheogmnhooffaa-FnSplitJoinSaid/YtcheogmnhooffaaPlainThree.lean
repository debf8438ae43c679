/- Plain facts on joining (chapter 1), with no program in them. No conditions. -/
import Derived.Test.YtcheogmnhooffaaPlainTwo
namespace Go.Proofs.Ytcheogmnhooffaa.P1

theorem joinL_snoc (b : UInt8) (ps : List (List UInt8)) (h : ps ≠ []) (p : List UInt8) : joinL b (ps ++ [p]) = joinL b ps ++ b :: p := by
  induction ps with
  | nil => exact absurd rfl h
  | cons q r ih =>
    by_cases hr : r = []
    · subst hr; rfl
    · rw [List.cons_append, joinL_cons _ _ _ (by simp), ih hr, joinL_cons _ _ _ hr]; simp

theorem joinL_mono (b : UInt8) (ps : List (List UInt8)) (k : Nat) : (joinL b (ps.take k)).length ≤ (joinL b ps).length := by
  induction ps generalizing k with
  | nil => simp
  | cons q r ih =>
    cases k with
    | zero => simp [joinL]
    | succ k =>
      rw [List.take_succ_cons]
      by_cases hr : r = []
      · subst hr; simp
      · rw [joinL_cons _ _ _ hr]
        by_cases ht : r.take k = []
        · rw [ht]; simp [joinL]
        · rw [joinL_cons _ _ _ ht]
          have := ih k
          simp; omega

/-- The joined text, where the parts may be joined. -/
def jn (b : UInt8) (ps : List (List UInt8)) : Option (List UInt8) := if (∀ p ∈ ps, b ∉ p) ∧ (joinL b ps).length ≤ 4000 then some (joinL b ps) else none

/-- What a joiner knows behind k parts. -/
structure Jn (b : UInt8) (ps : List (List UInt8)) (k : Nat) : Prop where
  no : ∀ p ∈ ps.take k, b ∉ p
  fits : (joinL b (ps.take k)).length ≤ 4000

theorem Jn.start (b : UInt8) (ps : List (List UInt8)) : Jn b ps 0 := ⟨by simp, by simp [joinL]⟩
theorem take_next3 (ps : List (List UInt8)) (k : Nat) (h : k < ps.length) : ps.take (k + 1) = ps.take k ++ [ps[k]] := List.take_succ_eq_append_getElem h
theorem Jn.next {b : UInt8} {ps : List (List UInt8)} {k : Nat} (h : Jn b ps k) (hk : k < ps.length) (hb : b ∉ ps[k]) (hl : (joinL b (ps.take (k + 1))).length ≤ 4000) : Jn b ps (k + 1) := by
  refine ⟨?_, hl⟩
  rw [take_next3 ps k hk]
  intro p hp
  rcases List.mem_append.1 hp with hp | hp
  · exact h.no p hp
  · rw [List.mem_singleton.1 hp]; exact hb
theorem jn_bad {b : UInt8} {ps : List (List UInt8)} {k : Nat} (hk : k < ps.length) (hb : b ∈ ps[k]) : jn b ps = none := by
  unfold jn
  rw [if_neg]
  rintro ⟨h, _⟩
  exact h _ (List.getElem_mem hk) hb
theorem jn_long {b : UInt8} {ps : List (List UInt8)} {k : Nat} (hl : 4000 < (joinL b (ps.take k)).length) : jn b ps = none := by
  unfold jn
  rw [if_neg]
  rintro ⟨_, h⟩
  have := joinL_mono b ps k
  omega
theorem Jn.done {b : UInt8} {ps : List (List UInt8)} {k : Nat} (h : Jn b ps k) (hk : ps.length ≤ k) : jn b ps = some (joinL b ps) := by
  obtain ⟨h1, h2⟩ := h
  rw [List.take_of_length_le hk] at h1 h2
  unfold jn
  rw [if_pos ⟨h1, h2⟩]
theorem join_first (b : UInt8) (ps : List (List UInt8)) (h : 0 < ps.length) : joinL b (ps.take (0 + 1)) = ps[0] := by
  rw [take_next3 ps 0 h]; rfl
theorem join_next (b : UInt8) (ps : List (List UInt8)) (k : Nat) (hk : k < ps.length) (h0 : 0 < k) : joinL b (ps.take (k + 1)) = joinL b (ps.take k) ++ b :: ps[k] := by
  rw [take_next3 ps k hk, joinL_snoc]
  intro e
  have := congrArg List.length e
  rw [List.length_take, List.length_nil] at this
  omega
/-- Splitting what was split gives it back. -/
theorem jn_split (b : UInt8) (l : List UInt8) (h : l.length ≤ 4000) : jn b (splitL b l) = some l := by
  unfold jn
  rw [join_split, if_pos ⟨split_no b l, h⟩]
end Go.Proofs.Ytcheogmnhooffaa.P1
