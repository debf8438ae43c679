/- Plain facts on numerals, checksums and splitting (chapter 1), with no program in them. No conditions. -/
import Derived.Lib.ItoaNum
import Derived.Lib.AtoiAllCases
import Derived.Lib.IndexMore
namespace Go.Proofs.YtpdkphokinhhdaaDoor.P1
open Go.Lib

/-! ### Numerals -/

theorem ofNat_toNat {d : Nat} (h : d < 10) : (UInt8.ofNat (48 + d)).toNat = 48 + d := by
  have : 48 + d < 256 := by omega
  simp [UInt8.toNat_ofNat', Nat.mod_eq_of_lt this]

theorem dec_small {u : Nat} (h : u < 10) : decDigits u = [UInt8.ofNat (48 + u)] := by rw [decDigits, dif_pos h]
theorem dec_big {u : Nat} (h : ¬ u < 10) : decDigits u = decDigits (u / 10) ++ [UInt8.ofNat (48 + u % 10)] := by rw [decDigits, dif_neg h]

theorem dec_digit (u : Nat) : ∀ c ∈ decDigits u, 48 ≤ c.toNat ∧ c.toNat ≤ 57 := by
  induction u using Nat.strongRecOn with
  | _ u ih =>
    intro c hc
    by_cases h : u < 10
    · rw [dec_small h] at hc
      obtain rfl := List.mem_singleton.1 hc
      rw [ofNat_toNat h]; omega
    · rw [dec_big h] at hc
      rcases List.mem_append.1 hc with hc | hc
      · exact ih (u / 10) (by omega) c hc
      · obtain rfl := List.mem_singleton.1 hc
        rw [ofNat_toNat (Nat.mod_lt _ (by omega))]; omega

theorem dec_len_pos (u : Nat) : 1 ≤ (decDigits u).length := by rw [decDigits_length]; exact nDigits_pos u
theorem dec_len_six (u : Nat) (h : u ≤ 999999) : (decDigits u).length ≤ 6 := by
  rw [decDigits_length]
  by_cases h1 : u < 10
  · rw [nDigits_small h1]; omega
  · by_cases h2 : u / 10 < 10
    · rw [nDigits_big h1, nDigits_small h2]; omega
    · by_cases h3 : u / 10 / 10 < 10
      · rw [nDigits_big h1, nDigits_big h2, nDigits_small h3]; omega
      · by_cases h4 : u / 10 / 10 / 10 < 10
        · rw [nDigits_big h1, nDigits_big h2, nDigits_big h3, nDigits_small h4]; omega
        · by_cases h5 : u / 10 / 10 / 10 / 10 < 10
          · rw [nDigits_big h1, nDigits_big h2, nDigits_big h3, nDigits_big h4, nDigits_small h5]; omega
          · rw [nDigits_big h1, nDigits_big h2, nDigits_big h3, nDigits_big h4, nDigits_big h5, nDigits_small (by omega)]; omega

/-- What digits spell. -/
def val (l : List UInt8) : Nat := l.foldl (fun a c => 10 * a + (c.toNat - 48)) 0

theorem val_snoc (l : List UInt8) (c : UInt8) : val (l ++ [c]) = 10 * val l + (c.toNat - 48) := by
  unfold val; rw [List.foldl_append]; rfl

theorem val_dec (u : Nat) : val (decDigits u) = u := by
  induction u using Nat.strongRecOn with
  | _ u ih =>
    by_cases h : u < 10
    · rw [dec_small h]; simp only [val, List.foldl_cons, List.foldl_nil]; rw [ofNat_toNat h]; omega
    · rw [dec_big h, val_snoc, ih (u / 10) (by omega), ofNat_toNat (Nat.mod_lt _ (by omega))]; omega

theorem val_lt : ∀ (k : Nat) (l : List UInt8), l.length = k → (∀ c ∈ l, c.toNat ≤ 57) → val l < 10 ^ k := by
  intro k
  induction k with
  | zero => intro l hl _; rw [List.length_eq_zero_iff] at hl; subst hl; simp [val]
  | succ k ih =>
    intro l hl hc
    have hne : l ≠ [] := by intro e; subst e; simp at hl
    obtain ⟨m, c, rfl⟩ : ∃ m c, l = m ++ [c] := ⟨l.dropLast, l.getLast hne, (List.dropLast_concat_getLast hne).symm⟩
    rw [val_snoc, Nat.pow_succ]
    have h1 := ih m (by simpa using hl) fun c hc' => hc c (List.mem_append.2 (.inl hc'))
    have h2 := hc c (by simp)
    omega

theorem val_le_six (l : List UInt8) (h : l.length ≤ 6) (hc : ∀ c ∈ l, c.toNat ≤ 57) : val l ≤ 999999 := by
  have h1 := val_lt l.length l rfl hc
  have h2 : 10 ^ l.length ≤ 10 ^ 6 := Nat.pow_le_pow_right (by omega) h
  omega

theorem parse_append (l r : List UInt8) : ∀ (a v : Nat), parseUint10 a l = .ok v → parseUint10 a (l ++ r) = parseUint10 v r := by
  induction l with
  | nil => intro a v h; simp only [parseUint10] at h; injection h with h; subst h; rfl
  | cons c l ih =>
    intro a v h
    simp only [parseUint10, List.cons_append] at h ⊢
    split at h
    · rename_i h1
      rw [if_pos h1]
      split at h
      · cases h
      · rename_i h2
        rw [if_neg h2]
        split at h
        · cases h
        · rename_i h3
          rw [if_neg h3]
          exact ih _ v h
    · cases h

theorem parse_dec (u : Nat) (hu : u ≤ 999999) : parseUint10 0 (decDigits u) = .ok u := by
  induction u using Nat.strongRecOn with
  | _ u ih =>
    by_cases h : u < 10
    · rw [dec_small h]
      simp only [parseUint10, ofNat_toNat h]
      rw [if_pos (by omega), if_neg (by omega), if_neg (by omega)]
      congr 1; omega
    · rw [dec_big h, parse_append _ _ 0 (u / 10) (ih (u / 10) (by omega) (by omega))]
      have hd : u % 10 < 10 := Nat.mod_lt _ (by omega)
      simp only [parseUint10, ofNat_toNat hd]
      rw [if_pos (by omega), if_neg (by omega), if_neg (by omega)]
      congr 1; omega

theorem itoa_nonneg' (u : Nat) : itoa (u : Int) = decDigits u := by
  unfold itoa; rw [if_neg (by omega)]; rfl
theorem itoa_neg' (u : Nat) (h : 0 < u) : itoa (-(u : Int)) = 45 :: decDigits u := by
  unfold itoa; rw [if_pos (by omega)]; congr 2; omega

theorem dec_ne_nil (u : Nat) : decDigits u ≠ [] := by
  intro e; have := dec_len_pos u; rw [e] at this; simp at this

theorem atoi_itoa (n : Int) (h0 : -999999 ≤ n) (h1 : n ≤ 999999) : atoiAll (itoa n) = .ok n := by
  by_cases hn : n < 0
  · obtain ⟨u, rfl⟩ : ∃ u : Nat, n = -(u : Int) := ⟨n.natAbs, by omega⟩
    rw [itoa_neg' u (by omega)]
    have hp := parse_dec u (by omega)
    have hm : parseMag (decDigits u) = .ok u := by unfold parseMag; rw [if_neg (dec_ne_nil u), hp]
    rw [atoiAll_minus, hm]
    unfold signed
    simp only
    rw [if_neg (by omega)]
  · obtain ⟨u, rfl⟩ : ∃ u : Nat, n = (u : Int) := ⟨n.toNat, by omega⟩
    rw [itoa_nonneg']
    have hp := parse_dec u (by omega)
    match hd : decDigits u with
    | [] => exact absurd hd (dec_ne_nil u)
    | c :: r =>
      have hc := dec_digit u c (by rw [hd]; simp)
      simp only [atoiAll]
      rw [if_neg (by omega)]
      unfold parseMag
      rw [if_neg (by simp), ← hd, hp]
      simp only
      rw [if_neg (by omega), if_neg (by omega), if_neg (by omega)]

theorem itoa_inj {n m : Int} (h0 : -999999 ≤ n) (h1 : n ≤ 999999) (g0 : -999999 ≤ m) (g1 : m ≤ 999999) (h : itoa n = itoa m) : n = m := by
  have a := atoi_itoa n h0 h1
  rw [h, atoi_itoa m g0 g1] at a
  injection a with a
  exact a.symm

theorem itoa_bytes (n : Int) : ∀ c ∈ itoa n, c.toNat = 45 ∨ (48 ≤ c.toNat ∧ c.toNat ≤ 57) := by
  intro c hc
  unfold itoa at hc
  split at hc
  · rcases List.mem_cons.1 hc with rfl | hc
    · left; rfl
    · right; exact dec_digit _ c hc
  · right; exact dec_digit _ c hc

theorem itoa_len_seven (n : Int) (h0 : -999999 ≤ n) (h1 : n ≤ 999999) : (itoa n).length ≤ 7 := by
  unfold itoa
  split
  · rw [List.length_cons]; have := dec_len_six n.natAbs (by omega); omega
  · have := dec_len_six n.toNat (by omega); omega

theorem itoa_len_pos (n : Int) : 1 ≤ (itoa n).length := by
  unfold itoa
  split
  · simp
  · exact dec_len_pos _

/-- THE NUMBER WHOSE TEXT THIS IS, if there is one in the bounds. -/
def parseL (l : List UInt8) : Option Int :=
  match atoiAll l with
  | .ok n => if -999999 ≤ n ∧ n ≤ 999999 ∧ itoa n = l then some n else none
  | _ => none

theorem parseL_some {l : List UInt8} {n : Int} (h : parseL l = some n) : -999999 ≤ n ∧ n ≤ 999999 ∧ itoa n = l := by
  unfold parseL at h
  split at h
  · split at h
    · rename_i h1; injection h with h; subst h; exact h1
    · cases h
  · cases h

theorem parseL_of {l : List UInt8} {n : Int} (h0 : -999999 ≤ n) (h1 : n ≤ 999999) (h : itoa n = l) : parseL l = some n := by
  unfold parseL
  rw [← h, atoi_itoa n h0 h1]
  simp only
  rw [if_pos ⟨h0, h1, trivial⟩]

theorem parseL_none {l : List UInt8} (h : ∀ n, -999999 ≤ n → n ≤ 999999 → itoa n ≠ l) : parseL l = none := by
  match e : parseL l with
  | none => rfl
  | some n =>
    obtain ⟨a, b, c⟩ := parseL_some e
    exact absurd c (h n a b)

/-- What stands behind a '-', where a byte follows it. -/
def tailOf (l : List UInt8) : List UInt8 := if 1 < l.length ∧ l.head? = some 45 then l.tail else l

theorem tailOf_itoa (n : Int) (h0 : -999999 ≤ n) (h1 : n ≤ 999999) : tailOf (itoa n) = decDigits n.natAbs := by
  by_cases hn : n < 0
  · obtain ⟨u, rfl⟩ : ∃ u : Nat, n = -(u : Int) := ⟨n.natAbs, by omega⟩
    rw [itoa_neg' u (by omega)]
    have := dec_len_pos u
    unfold tailOf
    rw [if_pos (by simp; omega)]
    simp only [List.tail_cons]
    congr 1; omega
  · obtain ⟨u, rfl⟩ : ∃ u : Nat, n = (u : Int) := ⟨n.toNat, by omega⟩
    rw [itoa_nonneg']
    unfold tailOf
    rw [if_neg]
    · congr 1
    · rintro ⟨_, h⟩
      have hm : (45 : UInt8) ∈ decDigits u := List.mem_of_head? h
      have := dec_digit u 45 hm
      have e : (45 : UInt8).toNat = 45 := rfl
      omega

/-- The number that a reader of the digits finds, with its sign. -/
def readN (l : List UInt8) : Int := if (tailOf l).length < l.length then -(val (tailOf l) : Int) else val (tailOf l)

theorem readN_itoa (n : Int) (h0 : -999999 ≤ n) (h1 : n ≤ 999999) : readN (itoa n) = n := by
  unfold readN
  rw [tailOf_itoa n h0 h1, val_dec]
  by_cases hn : n < 0
  · have e : itoa n = 45 :: decDigits n.natAbs := by unfold itoa; rw [if_pos hn]
    rw [e, if_pos (by simp)]; omega
  · have e : itoa n = decDigits n.toNat := by unfold itoa; rw [if_neg hn]
    have e2 : n.natAbs = n.toNat := by omega
    rw [e, e2, if_neg (by omega)]; omega

/-- A text whose digits are too many, none, or no digits: there is no number. -/
theorem parseL_long {l : List UInt8} (h : (tailOf l).length < 1 ∨ 6 < (tailOf l).length) : parseL l = none :=
  parseL_none fun n h0 h1 e => by
    rw [← e, tailOf_itoa n h0 h1] at h
    have a := dec_len_pos n.natAbs
    have b := dec_len_six n.natAbs (by omega)
    omega

theorem parseL_bad {l : List UInt8} {c : UInt8} (hc : c ∈ tailOf l) (h : c.toNat < 48 ∨ 57 < c.toNat) : parseL l = none :=
  parseL_none fun n h0 h1 e => by
    rw [← e, tailOf_itoa n h0 h1] at hc
    have := dec_digit _ c hc
    omega

theorem readN_bounds {l : List UInt8} (h6 : (tailOf l).length ≤ 6) (hc : ∀ c ∈ tailOf l, c.toNat ≤ 57) : -999999 ≤ readN l ∧ readN l ≤ 999999 := by
  have := val_le_six _ h6 hc
  unfold readN
  split <;> omega

theorem parseL_read {l : List UInt8} (h6 : (tailOf l).length ≤ 6) (hc : ∀ c ∈ tailOf l, c.toNat ≤ 57) : parseL l = if itoa (readN l) = l then some (readN l) else none := by
  obtain ⟨b0, b1⟩ := readN_bounds h6 hc
  split
  · rename_i h
    exact parseL_of b0 b1 h
  · rename_i h
    exact parseL_none fun n h0 h1 e => h (by rw [← e, readN_itoa n h0 h1])

/-! ### Checksums -/

def step (h : Nat) (c : UInt8) : Nat := (41 * h + c.toNat + 1) % 999979
def sumL (l : List UInt8) : Nat := l.foldl step 7

theorem sumL_snoc (l : List UInt8) (c : UInt8) : sumL (l ++ [c]) = step (sumL l) c := by
  unfold sumL; rw [List.foldl_append]; rfl
theorem step_lt (h : Nat) (c : UInt8) : step h c < 999979 := Nat.mod_lt _ (by omega)
theorem foldl_lt (l : List UInt8) : ∀ h, h < 999979 → l.foldl step h < 999979 := by
  induction l with
  | nil => intro h hh; exact hh
  | cons c l ih => intro h _; exact ih _ (step_lt h c)
theorem sumL_lt (l : List UInt8) : sumL l < 999979 := foldl_lt l 7 (by omega)

theorem step_inj_left {a b : Nat} (ha : a < 999979) (hb : b < 999979) (c : UInt8) (h : step a c = step b c) : a = b := by
  unfold step at h
  have h1 := Nat.div_add_mod (41 * a + c.toNat + 1) 999979
  have h2 := Nat.div_add_mod (41 * b + c.toNat + 1) 999979
  have hc := c.toNat_lt
  omega

theorem foldl_inj (l : List UInt8) : ∀ a b, a < 999979 → b < 999979 → l.foldl step a = l.foldl step b → a = b := by
  induction l with
  | nil => intro a b _ _ h; exact h
  | cons c l ih => intro a b ha hb h; exact step_inj_left ha hb c (ih _ _ (step_lt a c) (step_lt b c) h)

theorem step_inj_right {a : Nat} (c d : UInt8) (h : step a c = step a d) : c = d := by
  unfold step at h
  have hc := c.toNat_lt
  have hd := d.toNat_lt
  exact UInt8.toNat_inj.1 (by omega)

/-- Two texts that differ in one byte have two checksums. -/
theorem sumL_ne (p s : List UInt8) (c d : UInt8) (h : c ≠ d) : sumL (p ++ c :: s) ≠ sumL (p ++ d :: s) := by
  intro e
  unfold sumL at e
  rw [List.foldl_append, List.foldl_append] at e
  exact h (step_inj_right c d (foldl_inj s _ _ (step_lt _ c) (step_lt _ d) e))

/-- A text with its checksum. -/
def sealL (l : List UInt8) : List UInt8 := l ++ 35 :: itoa (sumL l)

/-- What stands before the first '#', whole where there is none. -/
def bodyOf (l : List UInt8) : List UInt8 := l.takeWhile (· != 35)

def verL (l : List UInt8) : Option (List UInt8) := if l.length ≤ 4000 ∧ sealL (bodyOf l) = l then some (bodyOf l) else none

theorem takeWhile_stop (p : List UInt8) (s : List UInt8) (h : (35 : UInt8) ∉ p) : bodyOf (p ++ 35 :: s) = p := by
  unfold bodyOf
  induction p with
  | nil => rfl
  | cons c p ih =>
    have hc : c ≠ 35 := fun e => h (by simp [e])
    have hp : (35 : UInt8) ∉ p := fun e => h (by simp [e])
    rw [List.cons_append, List.takeWhile_cons, if_pos (by simpa using hc), ih hp]

theorem bodyOf_none (l : List UInt8) (h : (35 : UInt8) ∉ l) : bodyOf l = l := by
  unfold bodyOf
  induction l with
  | nil => rfl
  | cons c p ih =>
    have hc : c ≠ 35 := fun e => h (by simp [e])
    have hp : (35 : UInt8) ∉ p := fun e => h (by simp [e])
    rw [List.takeWhile_cons, if_pos (by simpa using hc), ih hp]

theorem bodyOf_no (l : List UInt8) : (35 : UInt8) ∉ bodyOf l := by
  unfold bodyOf
  induction l with
  | nil => simp
  | cons c p ih =>
    rw [List.takeWhile_cons]
    split
    · rename_i h
      intro e
      rcases List.mem_cons.1 e with e | e
      · subst e; simp at h
      · exact ih e
    · simp

theorem itoa_no (n : Int) : (35 : UInt8) ∉ itoa n := by
  intro h
  have := itoa_bytes n 35 h
  have e : (35 : UInt8).toNat = 35 := rfl
  omega

theorem sealL_len (l : List UInt8) : l.length + 2 ≤ (sealL l).length ∧ (sealL l).length ≤ l.length + 8 := by
  unfold sealL
  have a := itoa_len_pos (sumL l)
  have b := itoa_len_seven (sumL l) (by omega) (by have := sumL_lt l; omega)
  simp
  omega

theorem verL_seal (l : List UInt8) (h : (35 : UInt8) ∉ l) (hl : (sealL l).length ≤ 4000) : verL (sealL l) = some l := by
  have hb : bodyOf (sealL l) = l := takeWhile_stop l _ h
  unfold verL
  rw [hb, if_pos ⟨hl, rfl⟩]

/-- Where there is no '#' there is no text. -/
theorem verL_none (l : List UInt8) (h : (35 : UInt8) ∉ l) : verL l = none := by
  unfold verL
  rw [bodyOf_none l h, if_neg]
  rintro ⟨_, e⟩
  have := (sealL_len l).1
  rw [e] at this
  omega

/-- ANY SINGLE CHANGED BYTE IS DETECTED. -/
theorem changed (l : List UInt8) (h : (35 : UInt8) ∉ l) (p s : List UInt8) (c d : UInt8) (hcd : c ≠ d) (he : sealL l = p ++ c :: s) : verL (p ++ d :: s) = none := by
  have num : ∀ a b : List UInt8, itoa (sumL a) = itoa (sumL b) → sumL a = sumL b := fun a b e => by
    have ha := sumL_lt a
    have hb := sumL_lt b
    have := itoa_inj (by omega) (by omega) (by omega) (by omega) e
    omega
  unfold verL
  rw [if_neg]
  rintro ⟨_, e⟩
  generalize ht : bodyOf (p ++ d :: s) = t at e
  have hno : (35 : UInt8) ∉ t := by rw [← ht]; exact bodyOf_no _
  -- sealL t = p ++ d :: s , sealL l = p ++ c :: s
  unfold sealL at e he
  rcases Nat.lt_trichotomy p.length l.length with hp | hp | hp
  · -- the changed byte lies in the text
    obtain ⟨s1, rfl, hs⟩ : ∃ s1, l = p ++ c :: s1 ∧ s = s1 ++ 35 :: itoa (sumL l) := by
      rw [List.append_eq_append_iff] at he
      rcases he with ⟨a, h1, h2⟩ | ⟨a, h1, h2⟩
      · have := congrArg List.length h1; simp at this; omega
      · match a, h1, h2 with
        | [], h1, _ => have := congrArg List.length h1; simp at this; omega
        | x :: a, h1, h2 =>
          simp only [List.cons_append, List.cons.injEq] at h2
          exact ⟨a, by rw [h1, h2.1], h2.2⟩
    by_cases hd : d = 35
    · subst hd
      have hpn : (35 : UInt8) ∉ p := fun e => h (by simp [e])
      have hb := takeWhile_stop p s hpn
      rw [hb] at ht
      subst ht
      have e2 : (35 : UInt8) :: itoa (sumL p) = 35 :: s := List.append_cancel_left e
      injection e2 with _ e2
      have : (35 : UInt8) ∈ s := by rw [hs]; simp
      rw [← e2] at this
      exact itoa_no _ this
    · have hpn : (35 : UInt8) ∉ p ++ d :: s1 := by
        intro e
        rcases List.mem_append.1 e with e | e
        · exact h (by simp [e])
        · rcases List.mem_cons.1 e with e | e
          · exact hd e.symm
          · exact h (by simp [e])
      have e3 : p ++ d :: s = (p ++ d :: s1) ++ 35 :: itoa (sumL (p ++ c :: s1)) := by rw [hs]; simp
      have hb := takeWhile_stop (p ++ d :: s1) (itoa (sumL (p ++ c :: s1))) hpn
      rw [← e3] at hb
      rw [hb] at ht
      subst ht
      rw [e3] at e
      have e2 := List.append_cancel_left e
      injection e2 with _ e2
      exact sumL_ne p s1 d c (Ne.symm hcd) (num _ _ e2)
  · -- the '#' itself
    have e1 : l = p ∧ (35 : UInt8) :: itoa (sumL l) = c :: s := List.append_inj he hp.symm
    obtain ⟨rfl, e1⟩ := e1
    injection e1 with e1 e2
    have hn : (35 : UInt8) ∉ l ++ d :: s := by
      intro e
      rcases List.mem_append.1 e with e | e
      · exact h e
      · rcases List.mem_cons.1 e with e | e
        · exact hcd (by rw [← e1, e])
        · rw [← e2] at e; exact itoa_no _ e
    rw [bodyOf_none _ hn] at ht
    subst ht
    have := congrArg List.length e
    simp at this
  · -- the numeral
    obtain ⟨p1, hp1⟩ : ∃ p1, p = l ++ 35 :: p1 := by
      rw [List.append_eq_append_iff] at he
      rcases he with ⟨a, h1, h2⟩ | ⟨a, h1, h2⟩
      · match a, h1, h2 with
        | [], h1, _ => have := congrArg List.length h1; simp at this; omega
        | x :: a, h1, h2 =>
          simp only [List.cons_append, List.cons.injEq] at h2
          exact ⟨a, by rw [h1, ← h2.1]⟩
      · have := congrArg List.length h1; simp at this; omega
    subst hp1
    rw [List.append_assoc] at he e ht
    have hb := takeWhile_stop l (p1 ++ d :: s) h
    rw [List.cons_append] at ht he e
    rw [hb] at ht
    subst ht
    have e1 := List.append_cancel_left e
    have e2 := List.append_cancel_left he
    rw [e1] at e2
    injection e2 with _ e2
    have := List.append_cancel_left e2
    injection this with this _
    exact hcd this.symm

end Go.Proofs.YtpdkphokinhhdaaDoor.P1
