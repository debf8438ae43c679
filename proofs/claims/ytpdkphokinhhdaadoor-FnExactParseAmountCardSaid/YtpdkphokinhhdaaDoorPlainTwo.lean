/- Plain facts on splitting at a byte (chapter 1), with no program in them. No conditions. -/
import Derived.Test.YtpdkphokinhhdaaDoorPlainOne
import Derived.Lib.IndexBytes
namespace Go.Proofs.YtpdkphokinhhdaaDoor.P1
open Go.Lib

/-- The pieces between the bytes b. -/
def splitL (b : UInt8) : List UInt8 → List (List UInt8)
  | [] => [[]]
  | c :: r => if c = b then [] :: splitL b r else (c :: (splitL b r).headD []) :: (splitL b r).tail

theorem splitL_ne (b : UInt8) (l : List UInt8) : splitL b l ≠ [] := by
  cases l with
  | nil => simp [splitL]
  | cons c r => unfold splitL; split <;> simp

theorem splitL_last (b : UInt8) (p : List UInt8) (h : b ∉ p) : splitL b p = [p] := by
  induction p with
  | nil => rfl
  | cons c p ih =>
    have hc : c ≠ b := fun e => h (by simp [e])
    have hp : b ∉ p := fun e => h (by simp [e])
    unfold splitL
    rw [if_neg hc, ih hp]
    rfl

theorem splitL_piece (b : UInt8) (p r : List UInt8) (h : b ∉ p) : splitL b (p ++ b :: r) = p :: splitL b r := by
  induction p with
  | nil => simp [splitL]
  | cons c p ih =>
    have hc : c ≠ b := fun e => h (by simp [e])
    have hp : b ∉ p := fun e => h (by simp [e])
    rw [List.cons_append]
    show (if c = b then _ else _) = _
    rw [if_neg hc, ih hp]
    rfl

theorem splitL_len (b : UInt8) (l : List UInt8) : (splitL b l).length ≤ l.length + 1 := by
  induction l with
  | nil => simp [splitL]
  | cons c r ih =>
    unfold splitL
    split
    · simp; omega
    · have := List.length_pos_iff.2 (splitL_ne b r)
      simp
      omega

theorem splitL_head (l : List UInt8) : (splitL 35 l).headD [] = bodyOf l := by
  unfold bodyOf
  induction l with
  | nil => rfl
  | cons c r ih =>
    unfold splitL
    by_cases h : c = 35
    · rw [if_pos h, List.takeWhile_cons, if_neg (by simp [h])]; rfl
    · rw [if_neg h, List.takeWhile_cons, if_pos (by simpa using h)]
      show c :: (splitL 35 r).headD [] = _
      rw [ih]

/-- Pieces joined with the byte between them. -/
def joinL (b : UInt8) : List (List UInt8) → List UInt8
  | [] => []
  | [p] => p
  | p :: q :: r => p ++ b :: joinL b (q :: r)

theorem joinL_cons (b : UInt8) (p : List UInt8) (r : List (List UInt8)) (h : r ≠ []) : joinL b (p :: r) = p ++ b :: joinL b r := by
  cases r with
  | nil => exact absurd rfl h
  | cons q r => rfl

theorem join_split (b : UInt8) (l : List UInt8) : joinL b (splitL b l) = l := by
  induction l with
  | nil => rfl
  | cons c r ih =>
    unfold splitL
    split
    · rename_i h
      rw [joinL_cons _ _ _ (splitL_ne b r), ih, h]; rfl
    · match e : splitL b r with
      | [] => exact absurd e (splitL_ne b r)
      | [p] => rw [e] at ih; simp only [joinL] at ih; simp [joinL, ih]
      | p :: q :: t => rw [e, joinL_cons _ _ _ (by simp)] at ih; simp [joinL_cons, ih]

theorem split_no (b : UInt8) (l : List UInt8) : ∀ p ∈ splitL b l, b ∉ p := by
  induction l with
  | nil => intro p hp; simp [splitL] at hp; subst hp; simp
  | cons c r ih =>
    unfold splitL
    split
    · intro p hp
      rcases List.mem_cons.1 hp with rfl | hp
      · simp
      · exact ih p hp
    · rename_i h
      intro p hp
      match e : splitL b r with
      | [] => exact absurd e (splitL_ne b r)
      | q :: t =>
        rw [e] at hp ih
        rcases List.mem_cons.1 hp with rfl | hp
        · intro hm
          rcases List.mem_cons.1 hm with hm | hm
          · exact h hm.symm
          · exact ih q (by simp) hm
        · exact ih p (by simp [show p ∈ t from hp])

/-- What a splitter knows when it has come to place k: 'acc' are the pieces before place 'fr', and from there to k there is no byte b. -/
structure Sp (b : UInt8) (l : List UInt8) (acc : List (List UInt8)) (fr k : Nat) : Prop where
  le : fr ≤ k
  kl : k ≤ l.length
  no : b ∉ (l.drop fr).take (k - fr)
  eq : splitL b l = acc ++ splitL b (l.drop fr)
  few : acc.length ≤ fr

theorem Sp.start (b : UInt8) (l : List UInt8) : Sp b l [] 0 0 := ⟨Nat.le_refl _, Nat.zero_le _, by simp, rfl, Nat.le_refl _⟩

theorem take_next (l : List UInt8) (fr k : Nat) (h : fr ≤ k) (hk : k < l.length) : (l.drop fr).take (k + 1 - fr) = (l.drop fr).take (k - fr) ++ [l[k]] := by
  rw [show k + 1 - fr = (k - fr) + 1 by omega, List.take_succ_eq_append_getElem (by rw [List.length_drop]; omega), List.getElem_drop]
  congr 2
  simp only [show fr + (k - fr) = k by omega]

theorem Sp.next {b : UInt8} {l : List UInt8} {acc : List (List UInt8)} {fr k : Nat} (h : Sp b l acc fr k) (hk : k < l.length) (hne : l[k] ≠ b) : Sp b l acc fr (k + 1) := by
  have := h.le
  refine ⟨by omega, hk, ?_, h.eq, h.few⟩
  rw [take_next l fr k h.le hk]
  intro e
  rcases List.mem_append.1 e with e | e
  · exact h.no e
  · exact hne (List.mem_singleton.1 e).symm

theorem Sp.cut {b : UInt8} {l : List UInt8} {acc : List (List UInt8)} {fr k : Nat} (h : Sp b l acc fr k) (hk : k < l.length) (heq : l[k] = b) : Sp b l (acc ++ [(l.drop fr).take (k - fr)]) (k + 1) (k + 1) := by
  have h1 := h.le
  have h2 := h.few
  refine ⟨Nat.le_refl _, hk, by simp, ?_, by simp; omega⟩
  have e : l.drop fr = (l.drop fr).take (k - fr) ++ b :: l.drop (k + 1) := by
    conv => lhs; rw [← List.take_append_drop (k - fr) (l.drop fr)]
    rw [List.drop_drop, show fr + (k - fr) = k by omega, List.drop_eq_getElem_cons hk, heq]
  rw [h.eq]
  conv => lhs; rw [e]
  rw [splitL_piece _ _ _ h.no]
  simp

theorem Sp.done {b : UInt8} {l : List UInt8} {acc : List (List UInt8)} {fr k : Nat} (h : Sp b l acc fr k) (hk : l.length ≤ k) : splitL b l = acc ++ [l.drop fr] := by
  have h1 := h.no
  rw [List.take_of_length_le (by rw [List.length_drop]; omega)] at h1
  rw [h.eq, splitL_last _ _ h1]

end Go.Proofs.YtpdkphokinhhdaaDoor.P1
