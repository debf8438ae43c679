/- Plain facts on the texts of amounts: where they are cut, and that each tells one amount. No conditions. -/
import Derived.Test.YtpdkphokinhhdaaDoorTextOne
import Derived.Test.YtpdkphokinhhdaaDoorPlainTwo
import Derived.Lib.IndexLaws
namespace Go.Proofs.YtpdkphokinhhdaaDoor.S3
open P1 P3
open Go.Lib

/-- What stands ahead of the first byte c, whole where there is none. -/
def aheadL (c : UInt8) (l : List UInt8) : List UInt8 := l.takeWhile (· != c)
theorem ahead_stop (c : UInt8) (p s : List UInt8) (h : c ∉ p) : aheadL c (p ++ c :: s) = p := by
  unfold aheadL
  induction p with
  | nil => simp
  | cons x p ih =>
    have hx : x ≠ c := fun e => h (by simp [e])
    have hp : c ∉ p := fun e => h (by simp [e])
    rw [List.cons_append, List.takeWhile_cons, if_pos (by simpa using hx), ih hp]
theorem ahead_index (c : UInt8) (l : List UInt8) : (indexByte l c = -1 → aheadL c l = l) ∧ (∀ o : Nat, indexByte l c = o → aheadL c l = l.take o) := by
  unfold aheadL
  induction l with
  | nil => exact ⟨fun _ => rfl, fun o h => by simp⟩
  | cons b l ih =>
    have hge := indexByte_ge l c
    have hdef : indexByte (b :: l) c = if b == c then 0 else if indexByte l c == -1 then -1 else indexByte l c + 1 := rfl
    by_cases hb : b = c
    · subst hb
      rw [if_pos (by simp)] at hdef
      rw [hdef]
      refine ⟨fun h => by omega, fun o h => ?_⟩
      have : o = 0 := by omega
      subst this
      simp
    · rw [if_neg (by simpa using hb)] at hdef
      rw [List.takeWhile_cons, if_pos (by simpa using hb)]
      by_cases hn : indexByte l c = -1
      · rw [if_pos (by simpa using hn)] at hdef
        rw [hdef]
        exact ⟨fun _ => by rw [ih.1 hn], fun o h => by omega⟩
      · rw [if_neg (by simpa using hn)] at hdef
        rw [hdef]
        refine ⟨fun h => by omega, fun o h => ?_⟩
        obtain ⟨k, hk⟩ : ∃ k : Nat, indexByte l c = k := ⟨(indexByte l c).toNat, by omega⟩
        have : o = k + 1 := by omega
        subst this
        rw [ih.2 k hk]
        rfl
theorem name_no (u : Int) : (32 : UInt8) ∉ nameL u := by
  unfold nameL
  repeat' split
  all_goals decide
theorem dec_no (n : Nat) : (32 : UInt8) ∉ decDigits n := by
  intro h
  have := dec_digit n 32 h
  have e : (32 : UInt8).toNat = 32 := rfl
  omega
theorem text_cons (v u : Int) : textL v u = decDigits v.toNat ++ 32 :: nameL u := by unfold textL; simp
theorem text_ahead (v u : Int) : aheadL 32 (textL v u) = decDigits v.toNat := by
  rw [text_cons]; exact ahead_stop 32 _ _ (dec_no _)
theorem text_split (v u : Int) : splitL 32 (textL v u) = [decDigits v.toNat, nameL u] := by
  rw [text_cons, splitL_piece 32 _ _ (dec_no _), splitL_last 32 _ (name_no u)]
theorem name_inj {u u2 : Int} (h : 1 ≤ u ∧ u ≤ 4) (h2 : 1 ≤ u2 ∧ u2 ≤ 4) (e : nameL u = nameL u2) : u = u2 := by
  have a : u = 1 ∨ u = 2 ∨ u = 3 ∨ u = 4 := by omega
  have b : u2 = 1 ∨ u2 = 2 ∨ u2 = 3 ∨ u2 = 4 := by omega
  rcases a with rfl | rfl | rfl | rfl <;> rcases b with rfl | rfl | rfl | rfl <;> first | rfl | (exfalso; revert e; decide)
theorem text_inj {v u v2 u2 : Int} (h : okA v u = true) (h2 : okA v2 u2 = true) (e : textL v u = textL v2 u2) : v = v2 ∧ u = u2 := by
  obtain ⟨⟨a0, a1⟩, b0, b1⟩ := okA_iff.1 h
  obtain ⟨⟨c0, c1⟩, d0, d1⟩ := okA_iff.1 h2
  have hs := text_split v u
  rw [e, text_split] at hs
  simp only [List.cons.injEq, and_true] at hs
  have hv := congrArg val hs.1
  rw [val_dec, val_dec] at hv
  exact ⟨by omega, name_inj ⟨b0, b1⟩ ⟨d0, d1⟩ hs.2.symm⟩
def millL : List UInt8 := [49, 48, 48, 48, 48, 48, 48]
theorem mill_dec : decDigits 1000000 = millL := by
  have := dec_one 6 0 (by decide)
  rw [show (10 ^ 6 + 0 : Nat) = 1000000 from rfl] at this
  rw [this]; rfl
theorem mill_iff {n : Nat} (h : decDigits n = millL) : n = 1000000 := by
  have hv := congrArg val h
  rw [val_dec] at hv
  rw [hv]; decide
theorem mill_atoi : atoiAll millL = .ok 1000000 := by decide
theorem atoi_text {v u : Int} (h : okA v u = true) : atoiAll (decDigits v.toNat) = .ok v := by
  obtain ⟨⟨a0, a1⟩, _, _⟩ := okA_iff.1 h
  by_cases hv : v = 1000000
  · rw [hv, show (1000000 : Int).toNat = 1000000 from rfl, mill_dec, mill_atoi]
  · have := atoi_itoa v (by omega) (by omega)
    obtain ⟨k, rfl⟩ : ∃ k : Nat, v = (k : Int) := ⟨v.toNat, by omega⟩
    rw [itoa_nonneg'] at this
    exact this
theorem read_text {v u : Int} (h : okA v u = true) (hv : v ≠ 1000000) : parseL (decDigits v.toNat) = some v := by
  obtain ⟨⟨a0, a1⟩, _, _⟩ := okA_iff.1 h
  refine parseL_of (by omega) (by omega) ?_
  obtain ⟨k, rfl⟩ : ∃ k : Nat, v = (k : Int) := ⟨v.toNat, by omega⟩
  rw [itoa_nonneg']; rfl
theorem text_len {v u : Int} (h : okA v u = true) : (textL v u).length ≤ 13 := by
  obtain ⟨⟨a0, a1⟩, _, _⟩ := okA_iff.1 h
  have hd : (decDigits v.toNat).length ≤ 7 := dec_len_le 6 v.toNat (by omega)
  have hn : (nameL u).length ≤ 5 := by
    unfold nameL
    repeat' split
    all_goals decide
  rw [text_cons, List.length_append, List.length_cons]
  omega

/-- The amount whose text this is, and true; or nothing and false. -/
structure Ans (l : List UInt8) (v u : Int) (ok : Bool) : Prop where
  yes : ok = true → okA v u = true ∧ textL v u = l
  no : ok = false → v = 0 ∧ u = 0 ∧ ∀ v u, okA v u = true → textL v u ≠ l
theorem ans_has (l : List UInt8) : ∃ v u ok, Ans l v u ok := by
  by_cases h : ∃ v u, okA v u = true ∧ textL v u = l
  · obtain ⟨v, u, h1, h2⟩ := h
    exact ⟨v, u, true, fun _ => ⟨h1, h2⟩, fun h => by cases h⟩
  · exact ⟨0, 0, false, (fun h => by cases h), fun _ => ⟨rfl, rfl, fun v u h1 h2 => h ⟨v, u, h1, h2⟩⟩⟩
theorem Ans.hit {l : List UInt8} {v u : Int} {ok : Bool} (h : Ans l v u ok) {V k : Int} (h1 : okA V k = true) (h2 : textL V k = l) : V = v ∧ k = u ∧ ok = true := by
  cases ok
  · exact absurd h2 ((h.no rfl).2.2 V k h1)
  · obtain ⟨a, b⟩ := h.yes rfl
    obtain ⟨e1, e2⟩ := text_inj h1 a (h2.trans b.symm)
    exact ⟨e1, e2, rfl⟩
theorem Ans.miss {l : List UInt8} {v u : Int} {ok : Bool} (h : Ans l v u ok) {V : Int} (hV : ok = true → V = v) (hm : ∀ k, 1 ≤ k → k < 5 → ¬ (okA V k = true ∧ textL V k = l)) : ok = false ∧ v = 0 ∧ u = 0 := by
  cases ok
  · exact ⟨rfl, (h.no rfl).1, (h.no rfl).2.1⟩
  · obtain ⟨a, b⟩ := h.yes rfl
    obtain ⟨_, c0, c1⟩ := okA_iff.1 a
    exact absurd (by rw [hV rfl]; exact ⟨a, b⟩) (hm u c0 (by omega))
end Go.Proofs.YtpdkphokinhhdaaDoor.S3
