/- The bit of a valve; the choice of all open valves; the ids of a choice: contracts. Conditions: each theorem's own premises. -/
import Derived.Test.YtbljmibaemgfeaaSprOne
import Derived.Test.YtbljmibaemgfeaaFindOne
import Derived.Test.YtbljmibaemgfeaaValTwo
import Derived.Test.YtbljmibaemgfeaaLawKit
import Derived.Test.YtbljmibaemgfeaaValOpen
import Derived.Deep.DeepCutAuto
import Derived.Test.YtbljmibaemgfeaaIntsOne
import Derived.Test.YtbljmibaemgfeaaBkOne
import Derived.Test.YtbljmibaemgfeaaSegOne
import Derived.Laws.Bits64b
namespace Go.Proofs.Ytbljmibaemgfeaa.P4
open P2 S2

/-! ### Barriers -/
/-- The barriers where the valves of a plan are shut too. -/
def barP (vs : List Vv) (P : List Int) : List Vv := vs.filter fun v => v.sh || decide (v.id ∈ P)
theorem hasV_filter (vs : List Vv) (f : Vv → Bool) (p n : Int) : hasV (vs.filter f) p n = true ↔ ∃ v, v ∈ vs ∧ f v = true ∧ v.pp = p ∧ v.nd = n := by
  unfold hasV
  rw [List.any_eq_true]
  constructor
  · rintro ⟨v, hv, h⟩
    rw [List.mem_filter] at hv
    exact ⟨v, hv.1, hv.2, by simpa using h⟩
  · rintro ⟨v, hv, hf, h⟩
    exact ⟨v, List.mem_filter.2 ⟨hv, hf⟩, by simpa using h⟩
theorem hasV_mem (vs : List Vv) (p n : Int) : hasV vs p n = true ↔ ∃ v, v ∈ vs ∧ v.pp = p ∧ v.nd = n := by
  unfold hasV
  rw [List.any_eq_true]
  constructor
  · rintro ⟨v, hv, h⟩; exact ⟨v, hv, by simpa using h⟩
  · rintro ⟨v, hv, h⟩; exact ⟨v, hv, by simpa using h⟩
theorem jn_congr {ps : List Pp} {B B' : List Vv} (h : ∀ p n, hasV B p n = true → hasV B' p n = true) {i v : Nat} (hj : Jn ps B' i v) : Jn ps B i v := by
  refine ⟨hj.1, hj.2.1, ?_⟩
  cases e : hasV B (pAt ps i).id (v : Int) with
  | false => rfl
  | true => have h1 := h _ _ e; rw [hj.2.2] at h1; cases h1
/-- More barriers, less water. -/
theorem co_bar {ps : List Pp} {B B' : List Vv} (h : ∀ p n, hasV B p n = true → hasV B' p n = true) {S : Nat → Bool} {e : Nat} (hc : Co ps B' S e) : Co ps B S e := by
  induction hc with
  | base h1 => exact .base h1
  | fwd _ hj ih => exact .fwd ih (jn_congr h hj)
  | bwd _ hj ih => exact .bwd ih (jn_congr h hj)
theorem coB_congr {ps : List Pp} {B B' : List Vv} (h : ∀ p n, hasV B p n = true ↔ hasV B' p n = true) (S : Nat → Bool) : coB ps B S = coB ps B' S := by
  funext e
  rw [Bool.eq_iff_iff, coB_iff, coB_iff]
  exact ⟨co_bar (fun p n => (h p n).2), co_bar (fun p n => (h p n).1)⟩

/-- What water reaches with a plan. -/
noncomputable def wetP (ps : List Pp) (vs : List Vv) (X : Nat) (P : List Int) : Nat → Bool := coB ps (barP vs P) (one X)
/-- The pipe at place i is not reached. -/
noncomputable def cutB (ps : List Pp) (vs : List Vv) (X i : Nat) (P : List Int) : Bool := !(wetP ps vs X P (9 + i))
theorem cut_mono {ps : List Pp} {vs vs' : List Vv} {X i : Nat} {P Q : List Int} (h : ∀ v, v ∈ vs → (v.sh = true ∨ v.id ∈ P) → ∃ u, u ∈ vs' ∧ (u.sh = true ∨ u.id ∈ Q) ∧ u.pp = v.pp ∧ u.nd = v.nd) (hc : cutB ps vs X i P = true) : cutB ps vs' X i Q = true := by
  unfold cutB wetP at *
  rw [Bool.not_eq_true'] at *
  cases e : coB ps (barP vs' Q) (one X) (9 + i) with
  | false => rfl
  | true =>
    have h1 := co_bar (B := barP vs P) (fun p n hh => by
      obtain ⟨v, hv, hf, h2, h3⟩ := (hasV_filter _ _ _ _).1 hh
      obtain ⟨u, hu, hg, h4, h5⟩ := h v hv (by simpa using hf)
      exact (hasV_filter _ _ _ _).2 ⟨u, hu, by simpa using hg, by rw [h4, h2], by rw [h5, h3]⟩) (coB_iff.1 e)
    rw [coB_iff.2 h1] at hc
    cases hc
theorem cut_sub {ps : List Pp} {vs : List Vv} {X i : Nat} {P Q : List Int} (h : ∀ x, x ∈ P → x ∈ Q) (hc : cutB ps vs X i P = true) : cutB ps vs X i Q = true :=
  cut_mono (fun v hv hf => ⟨v, hv, hf.imp id (h _), rfl, rfl⟩) hc

/-! ### Plans -/
/-- The ids of the valves that are not shut. -/
def openL (vs : List Vv) : List Int := (vs.filter fun v => !v.sh).map (·.id)
def Asc (l : List Int) : Prop := l.Pairwise (· < ·)
/-- A list that could be a plan. -/
def Pl (vs : List Vv) (P : List Int) : Prop := Asc P ∧ ∀ x, x ∈ P → x ∈ openL vs
theorem openL_mem {vs : List Vv} {x : Int} : x ∈ openL vs ↔ ∃ v, v ∈ vs ∧ v.sh = false ∧ v.id = x := by
  unfold openL
  rw [List.mem_map]
  constructor
  · rintro ⟨v, hv, h⟩
    have h1 := List.mem_filter.1 hv
    exact ⟨v, h1.1, by simpa using h1.2, h⟩
  · rintro ⟨v, hv, h1, h2⟩
    exact ⟨v, List.mem_filter.2 ⟨hv, by simpa using h1⟩, h2⟩
theorem pl_nil (vs : List Vv) : Pl vs [] := ⟨List.Pairwise.nil, fun x hx => by simp at hx⟩
/-- The valves in ascending order. -/
def AscV (vs : List Vv) : Prop := vs.Pairwise fun a b => a.id < b.id
theorem ascV_of {n : Int} {ps : List Pp} {vs : List Vv} (h : Good n ps vs) : AscV vs := by
  unfold AscV
  rw [List.pairwise_iff_getElem]
  have key : ∀ d i, (hi : i + d + 1 < vs.length) → (vAt vs i).id < (vAt vs (i + d + 1)).id := by
    intro d
    induction d with
    | zero => intro i hi; have := (h.2.2 (i + 1) hi).2.1 (by omega); simpa using this
    | succ d ih =>
      intro i hi
      have h1 := ih i (by omega)
      have h2 := (h.2.2 (i + (d + 1) + 1) hi).2.1 (by omega)
      have e : i + (d + 1) + 1 - 1 = i + d + 1 := by omega
      rw [e] at h2
      omega
  intro i j hi hj hij
  have e1 : vs[i] = vAt vs i := by simp [vAt, List.getD, hi]
  have e2 : vs[j] = vAt vs j := by simp [vAt, List.getD, hj]
  rw [e1, e2]
  have := key (j - i - 1) i (by omega)
  have e : i + (j - i - 1) + 1 = j := by omega
  rw [e] at this
  exact this
theorem openL_asc {vs : List Vv} (h : AscV vs) : Asc (openL vs) := by
  unfold Asc openL
  rw [List.pairwise_map]
  exact List.Pairwise.filter _ h
theorem pl_open {vs : List Vv} (h : AscV vs) : Pl vs (openL vs) := ⟨openL_asc h, fun _ hx => hx⟩
theorem asc_inj {vs : List Vv} (h : AscV vs) {u v : Vv} (hu : u ∈ vs) (hv : v ∈ vs) (e : u.id = v.id) : u = v := by
  induction vs with
  | nil => cases hu
  | cons a l ih =>
    have h1 := List.pairwise_cons.1 h
    rcases List.mem_cons.1 hu with hu1 | hu1 <;> rcases List.mem_cons.1 hv with hv1 | hv1
    · rw [hu1, hv1]
    · have h2 := h1.1 v hv1; rw [← hu1] at h2; omega
    · have h2 := h1.1 u hu1; rw [← hv1] at h2; omega
    · exact ih h1.2 hu1 hv1

/-! ### The order of plans -/
def lexLt : List Int → List Int → Prop
  | a :: s, b :: t => a < b ∨ (a = b ∧ lexLt s t)
  | _, _ => False
def Less (a b : List Int) : Prop := a.length < b.length ∨ (a.length = b.length ∧ lexLt a b)
theorem lex_irr : ∀ a, ¬ lexLt a a
  | [], h => h
  | a :: s, h => by
    rcases h with h | h
    · omega
    · exact lex_irr s h.2
theorem lex_trans : ∀ {a b c : List Int}, lexLt a b → lexLt b c → lexLt a c
  | [], _, _, h, _ => h.elim
  | _ :: _, [], _, h, _ => h.elim
  | _ :: _, _ :: _, [], _, h => h.elim
  | a :: s, b :: t, c :: cs, h1, h2 => by
    rcases h1 with h1 | ⟨h1, h3⟩ <;> rcases h2 with h2 | ⟨h2, h4⟩
    · exact .inl (by omega)
    · exact .inl (by omega)
    · exact .inl (by omega)
    · exact .inr ⟨by omega, lex_trans h3 h4⟩
theorem lex_total : ∀ {a b : List Int}, a.length = b.length → lexLt a b ∨ a = b ∨ lexLt b a
  | [], [], _ => .inr (.inl rfl)
  | [], _ :: _, h => by simp at h
  | _ :: _, [], h => by simp at h
  | a :: s, b :: t, h => by
    rcases Int.lt_trichotomy a b with h1 | h1 | h1
    · exact .inl (.inl h1)
    · subst h1
      rcases lex_total (a := s) (b := t) (by simpa using h) with h2 | h2 | h2
      · exact .inl (.inr ⟨rfl, h2⟩)
      · exact .inr (.inl (by rw [h2]))
      · exact .inr (.inr (.inr ⟨rfl, h2⟩))
    · exact .inr (.inr (.inl h1))
theorem less_irr (a : List Int) : ¬ Less a a := by
  rintro (h | ⟨_, h⟩)
  · omega
  · exact lex_irr a h
theorem less_trans {a b c : List Int} (h1 : Less a b) (h2 : Less b c) : Less a c := by
  rcases h1 with h1 | ⟨h1, h3⟩ <;> rcases h2 with h2 | ⟨h2, h4⟩
  · exact .inl (by omega)
  · exact .inl (by omega)
  · exact .inl (by omega)
  · exact .inr ⟨by omega, lex_trans h3 h4⟩
theorem less_total (a b : List Int) : Less a b ∨ a = b ∨ Less b a := by
  rcases Nat.lt_trichotomy a.length b.length with h | h | h
  · exact .inl (.inl h)
  · rcases lex_total h with h1 | h1 | h1
    · exact .inl (.inr ⟨h, h1⟩)
    · exact .inr (.inl h1)
    · exact .inr (.inr (.inr ⟨h.symm, h1⟩))
  · exact .inr (.inr (.inl h))
open Classical in
noncomputable def lessB (a b : List Int) : Bool := decide (Less a b)
theorem lessB_iff {a b : List Int} : lessB a b = true ↔ Less a b := by simp [lessB]
theorem lessB_no {a b : List Int} : lessB a b = false ↔ ¬ Less a b := by simp [lessB]

/-- Less harm, or as much and before it. -/
def Better (H : List Int → Int) (a b : List Int) : Prop := H a < H b ∨ (H a = H b ∧ Less a b)
theorem better_irr (H : List Int → Int) (a : List Int) : ¬ Better H a a := by
  rintro (h | ⟨_, h⟩)
  · omega
  · exact less_irr a h
theorem better_trans {H : List Int → Int} {a b c : List Int} (h1 : Better H a b) (h2 : Better H b c) : Better H a c := by
  rcases h1 with h1 | ⟨h1, h3⟩ <;> rcases h2 with h2 | ⟨h2, h4⟩
  · exact .inl (by omega)
  · exact .inl (by omega)
  · exact .inl (by omega)
  · exact .inr ⟨by omega, less_trans h3 h4⟩
theorem better_total (H : List Int → Int) (a b : List Int) : Better H a b ∨ a = b ∨ Better H b a := by
  rcases Int.lt_trichotomy (H a) (H b) with h | h | h
  · exact .inl (.inl h)
  · rcases less_total a b with h1 | h1 | h1
    · exact .inl (.inr ⟨h, h1⟩)
    · exact .inr (.inl h1)
    · exact .inr (.inr (.inr ⟨h.symm, h1⟩))
  · exact .inr (.inr (.inl h))

/-- What the search for the best plan tells: the plan and its harm, or that there is none. -/
def Res (vs : List Vv) (cut : List Int → Bool) (H : List Int → Int) (ok : Bool) (P : List Int) (h : Int) : Prop :=
  (ok = true ∧ Pl vs P ∧ cut P = true ∧ h = H P ∧ ∀ Q, Pl vs Q → cut Q = true → ¬ Better H Q P) ∨
  (ok = false ∧ P = [] ∧ h = 0 ∧ ∀ Q, Pl vs Q → cut Q = false)
theorem res_unique {vs : List Vv} {cut : List Int → Bool} {H : List Int → Int} {ok ok' : Bool} {P P' : List Int} {h h' : Int} (h1 : Res vs cut H ok P h) (h2 : Res vs cut H ok' P' h') : ok = ok' ∧ P = P' ∧ h = h' := by
  rcases h1 with ⟨rfl, a1, a2, rfl, a4⟩ | ⟨rfl, rfl, rfl, a4⟩ <;> rcases h2 with ⟨rfl, b1, b2, rfl, b4⟩ | ⟨rfl, rfl, rfl, b4⟩
  · rcases better_total H P P' with h | h | h
    · exact absurd h (b4 P a1 a2)
    · rw [h]; exact ⟨rfl, rfl, rfl⟩
    · exact absurd h (a4 P' b1 b2)
  · have := b4 P a1; rw [a2] at this; cases this
  · have := a4 P' b1; rw [b2] at this; cases this
  · exact ⟨rfl, rfl, rfl⟩
end Go.Proofs.Ytbljmibaemgfeaa.P4

namespace Go.Proofs.Ytbljmibaemgfeaa.P4
open P2 S2

/-! ### A choice of the valves of a list, the first one at the highest bit -/
def bitC (C k : Nat) : Bool := C.testBit (9 - k)
def chV : List Vv → Nat → Nat → List Vv
  | [], _, _ => []
  | v :: l, C, k => if bitC C k then v :: chV l C (k + 1) else chV l C (k + 1)
/-- The ids of a choice. -/
def idsC (vs : List Vv) (C : Nat) : List Int := (chV vs C 0).map (·.id)
theorem chV_snoc (v : Vv) : ∀ (l : List Vv) (C k : Nat), chV (l ++ [v]) C k = if bitC C (k + l.length) then chV l C k ++ [v] else chV l C k
  | [], C, k => by simp [chV]
  | u :: l, C, k => by
    have ih := chV_snoc v l C (k + 1)
    have e : k + 1 + l.length = k + (l.length + 1) := by omega
    rw [e] at ih
    simp only [List.cons_append, chV, ih, List.length_cons]
    by_cases h1 : bitC C k = true <;> by_cases h2 : bitC C (k + (l.length + 1)) = true <;> simp [h1, h2]
/-- The chosen ones of the first k. -/
def chTo (vs : List Vv) (C k : Nat) : List Vv := chV (vs.take k) C 0
theorem chTo_succ (vs : List Vv) (C k : Nat) (h : k < vs.length) : chTo vs C (k + 1) = if bitC C k then chTo vs C k ++ [vAt vs k] else chTo vs C k := by
  unfold chTo
  have e : vs[k] = vAt vs k := by simp [vAt, List.getD, h]
  rw [List.take_succ_eq_append_getElem h, chV_snoc, e, List.length_take, Nat.zero_add, Nat.min_eq_left (by omega)]
theorem chTo_all (vs : List Vv) (C k : Nat) (h : vs.length ≤ k) : chTo vs C k = chV vs C 0 := by unfold chTo; rw [List.take_of_length_le h]
theorem chV_sub : ∀ (l : List Vv) (C k : Nat), (chV l C k).Sublist l
  | [], _, _ => List.Sublist.slnil
  | v :: l, C, k => by
    unfold chV
    split
    · exact (chV_sub l C (k + 1)).cons_cons v
    · exact (chV_sub l C (k + 1)).cons v
theorem chTo_len (vs : List Vv) (C k : Nat) : (chTo vs C k).length ≤ k := Nat.le_trans (chV_sub _ _ _).length_le (List.length_take_le _ _)
theorem chV_mem {v : Vv} : ∀ {l : List Vv} {C k : Nat}, v ∈ chV l C k ↔ ∃ j, j < l.length ∧ bitC C (k + j) = true ∧ vAt l j = v
  | [], C, k => by simp [chV]
  | u :: l, C, k => by
    have ih := chV_mem (v := v) (l := l) (C := C) (k := k + 1)
    have e0 : vAt (u :: l) 0 = u := by simp [vAt, List.getD]
    have es : ∀ j, vAt (u :: l) (j + 1) = vAt l j := fun j => by simp [vAt, List.getD]
    have key : (v ∈ chV (u :: l) C k) ↔ (bitC C k = true ∧ u = v) ∨ v ∈ chV l C (k + 1) := by
      simp only [chV]
      by_cases h : bitC C k = true
      · simp [h, eq_comm]
      · simp [h]
    rw [key, ih]
    constructor
    · rintro (⟨h1, h2⟩ | ⟨j, h1, h2, h3⟩)
      · exact ⟨0, by simp, h1, by rw [e0, h2]⟩
      · exact ⟨j + 1, by simp; omega, by have e : k + (j + 1) = k + 1 + j := by omega
                                         rw [e]; exact h2, by rw [es, h3]⟩
    · rintro ⟨j, h1, h2, h3⟩
      cases j with
      | zero => exact .inl ⟨h2, by rw [← h3, e0]⟩
      | succ j => exact .inr ⟨j, by simp at h1; omega, by have e : k + (j + 1) = k + 1 + j := by omega
                                                          rw [e] at h2; exact h2, by rw [← h3, es]⟩
theorem idsC_mem {vs : List Vv} {C : Nat} {x : Int} : x ∈ idsC vs C ↔ ∃ j, j < vs.length ∧ bitC C j = true ∧ (vAt vs j).id = x := by
  unfold idsC
  rw [List.mem_map]
  constructor
  · rintro ⟨v, hv, h⟩
    obtain ⟨j, h1, h2, h3⟩ := chV_mem.1 hv
    exact ⟨j, h1, by simpa using h2, by rw [h3, h]⟩
  · rintro ⟨j, h1, h2, h3⟩
    exact ⟨vAt vs j, chV_mem.2 ⟨j, h1, by simpa using h2, rfl⟩, h3⟩
theorem idsC_asc {vs : List Vv} (h : AscV vs) (C : Nat) : Asc (idsC vs C) := by
  unfold Asc idsC
  rw [List.pairwise_map]
  exact List.Pairwise.sublist (chV_sub vs C 0) h

/-- A choice of valves that are open. -/
def SubC (vs : List Vv) (C : Nat) : Prop := C < 1024 ∧ ∀ k, k < 10 → bitC C k = true → k < vs.length ∧ (vAt vs k).sh = false
theorem vAt_mem {vs : List Vv} {j : Nat} (h : j < vs.length) : vAt vs j ∈ vs := List.mem_of_getElem? (vAt_get vs j h)
theorem mem_vAt {vs : List Vv} {v : Vv} (h : v ∈ vs) : ∃ j, j < vs.length ∧ vAt vs j = v := by
  obtain ⟨j, hj⟩ := List.getElem?_of_mem h
  have hl := (List.getElem?_eq_some_iff.1 hj).1
  rw [vAt_get vs j hl] at hj
  injection hj with hj
  exact ⟨j, hl, hj⟩
theorem pl_ids {vs : List Vv} {C : Nat} (h : AscV vs) (hl : vs.length ≤ 10) (hs : SubC vs C) : Pl vs (idsC vs C) := by
  refine ⟨idsC_asc h C, fun x hx => ?_⟩
  obtain ⟨j, h1, h2, h3⟩ := idsC_mem.1 hx
  exact openL_mem.2 ⟨vAt vs j, vAt_mem h1, (hs.2 j (by omega) h2).2, h3⟩

/-- The choice of the places where f holds. -/
def orTo (f : Nat → Bool) : Nat → Nat
  | 0 => 0
  | k + 1 => if f k then orTo f k ||| 2 ^ (9 - k) else orTo f k
theorem orTo_lt (f : Nat → Bool) : ∀ k, orTo f k < 1024
  | 0 => by simp [orTo]
  | k + 1 => by
    have ih := orTo_lt f k
    simp only [orTo]
    split
    · exact Nat.or_lt_two_pow (n := 10) ih (Nat.pow_lt_pow_right (by omega) (by omega))
    · exact ih
theorem orTo_bit (f : Nat → Bool) : ∀ (n k : Nat), n ≤ 10 → k < 10 → bitC (orTo f n) k = (decide (k < n) && f k)
  | 0, k, _, _ => by simp [orTo, bitC]
  | n + 1, k, hn, hk => by
    have ih := orTo_bit f n k (by omega) hk
    simp only [orTo]
    by_cases hf : f n = true
    · rw [if_pos hf]
      unfold bitC at *
      rw [Nat.testBit_or, ih, Nat.testBit_two_pow]
      by_cases e : k = n
      · subst e; simp [hf]
      · have e2 : ¬ (9 - n = 9 - k) := by omega
        have e3 : (k < n + 1) ↔ (k < n) := by omega
        simp [e2, e3]
    · rw [if_neg hf, ih]
      by_cases e : k = n
      · subst e; simp at hf; simp [hf]
      · have e3 : (k < n + 1) ↔ (k < n) := by omega
        simp [e3]
/-- All open valves. -/
def allC (vs : List Vv) (k : Nat) : Nat := orTo (fun i => !(vAt vs i).sh) k
theorem allC_sub (vs : List Vv) (hl : vs.length ≤ 10) : SubC vs (allC vs vs.length) := by
  refine ⟨orTo_lt _ _, fun k hk hb => ?_⟩
  unfold allC at hb
  rw [orTo_bit _ _ _ hl hk] at hb
  simpa using hb
theorem bit_ext {C D : Nat} (hC : C < 1024) (hD : D < 1024) (h : ∀ k, k < 10 → bitC C k = bitC D k) : C = D := by
  apply Nat.eq_of_testBit_eq
  intro i
  by_cases hi : i < 10
  · have := h (9 - i) (by omega)
    unfold bitC at this
    have e : 9 - (9 - i) = i := by omega
    rw [e] at this; exact this
  · have h2 : 1024 ≤ 2 ^ i := by
      have : (2 : Nat) ^ 10 ≤ 2 ^ i := Nat.pow_le_pow_right (by omega) (by omega)
      omega
    rw [Nat.testBit_lt_two_pow (by omega), Nat.testBit_lt_two_pow (by omega)]
theorem sub_land {vs : List Vv} {C : Nat} (hl : vs.length ≤ 10) (h : SubC vs C) : C &&& allC vs vs.length = C := by
  refine bit_ext (Nat.lt_of_le_of_lt Nat.and_le_left h.1) h.1 fun k hk => ?_
  have h1 := orTo_bit (fun i => !(vAt vs i).sh) vs.length k hl hk
  unfold bitC at *
  rw [Nat.testBit_and]
  show (C.testBit (9 - k) && (orTo (fun i => !(vAt vs i).sh) vs.length).testBit (9 - k)) = _
  rw [h1]
  cases e : C.testBit (9 - k) with
  | false => rfl
  | true =>
    obtain ⟨h2, h3⟩ := h.2 k hk e
    simp [h2, h3]
theorem land_sub {vs : List Vv} {C : Nat} (hl : vs.length ≤ 10) : SubC vs (C &&& allC vs vs.length) := by
  refine ⟨Nat.lt_of_le_of_lt Nat.and_le_right (orTo_lt _ _), fun k hk hb => ?_⟩
  have h1 := (allC_sub vs hl).2 k hk
  apply h1
  unfold bitC at *
  rw [Nat.testBit_and] at hb
  simp at hb
  exact hb.2

/-- The next choice skips none. -/
theorem next_max : ∀ (n A C D : Nat), C ≤ n → C &&& A = C → D &&& A = D → D < C → D ≤ (C - 1) &&& A
  | 0, A, C, D, hn, _, _, hlt => by omega
  | n + 1, A, C, D, hn, hC, hD, hlt => by
    have hC2 : (C / 2) &&& (A / 2) = C / 2 := by
      have := congrArg (· / 2) hC
      simpa [Nat.and_div_two] using this
    have hD2 : (D / 2) &&& (A / 2) = D / 2 := by
      have := congrArg (· / 2) hD
      simpa [Nat.and_div_two] using this
    have hCm : (C % 2) &&& (A % 2) = C % 2 := by
      have := congrArg (· % 2) hC
      simpa [Nat.and_mod_two_pow (n := 1)] using this
    have hDm : (D % 2) &&& (A % 2) = D % 2 := by
      have := congrArg (· % 2) hD
      simpa [Nat.and_mod_two_pow (n := 1)] using this
    have hX2 : ((C - 1) &&& A) / 2 = ((C - 1) / 2) &&& (A / 2) := by simp [Nat.and_div_two]
    have hXm : ((C - 1) &&& A) % 2 = ((C - 1) % 2) &&& (A % 2) := by simpa using Nat.and_mod_two_pow (a := C - 1) (b := A) (n := 1)
    rcases Nat.mod_two_eq_zero_or_one C with hc | hc
    · -- C is even
      have e1 : (C - 1) / 2 = C / 2 - 1 := by omega
      have e2 : (C - 1) % 2 = 1 := by omega
      have ih := next_max n (A / 2) (C / 2) (D / 2) (by omega) hC2 hD2 (by omega)
      rw [e1] at hX2
      rw [e2] at hXm
      have hm : D % 2 ≤ ((C - 1) &&& A) % 2 := by
        rw [hXm]
        rcases Nat.mod_two_eq_zero_or_one D with hd | hd <;> rcases Nat.mod_two_eq_zero_or_one A with ha | ha <;> rw [hd, ha] at hDm <;> rw [hd, ha] <;> revert hDm <;> decide
      omega
    · have e1 : (C - 1) / 2 = C / 2 := by omega
      rw [e1, hC2] at hX2
      omega
theorem next_sub {vs : List Vv} {C D : Nat} (hl : vs.length ≤ 10) (hC : SubC vs C) (hD : SubC vs D) (h : D < C) : D ≤ (C - 1) &&& allC vs vs.length :=
  next_max C _ C D (Nat.le_refl _) (sub_land hl hC) (sub_land hl hD) h
theorem next_lt {A C : Nat} (h : 0 < C) : (C - 1) &&& A < C := Nat.lt_of_le_of_lt Nat.and_le_left (by omega)

/-! ### Lengths and order -/
def pcT (C : Nat) : Nat → Nat
  | 0 => 0
  | k + 1 => pcT C k + if bitC C k then 1 else 0
theorem ch_len (vs : List Vv) (C : Nat) : ∀ k, k ≤ vs.length → (chTo vs C k).length = pcT C k
  | 0, _ => by simp [chTo, chV, pcT]
  | k + 1, h => by
    rw [chTo_succ vs C k (by omega)]
    have ih := ch_len vs C k (by omega)
    simp only [pcT]
    split <;> simp [ih]
theorem pc_rest {vs : List Vv} {C : Nat} (hs : SubC vs C) : ∀ d, vs.length + d ≤ 10 → pcT C (vs.length + d) = pcT C vs.length
  | 0, _ => rfl
  | d + 1, h => by
    have ih := pc_rest hs d (by omega)
    rw [← Nat.add_assoc]
    simp only [pcT]
    rw [ih]
    by_cases e : bitC C (vs.length + d) = true
    · have := (hs.2 (vs.length + d) (by omega) e).1; omega
    · rw [if_neg e]; rfl
theorem ids_len {vs : List Vv} {C : Nat} (hl : vs.length ≤ 10) (hs : SubC vs C) : (idsC vs C).length = pcT C 10 := by
  unfold idsC
  rw [List.length_map, ← chTo_all vs C vs.length (Nat.le_refl _), ch_len vs C vs.length (Nat.le_refl _)]
  have := pc_rest hs (10 - vs.length) (by omega)
  rw [← this]; congr 1; omega

theorem mod_bit (C k : Nat) (hk : k < 10) : C % 2 ^ (10 - k) = (if bitC C k then 2 ^ (9 - k) else 0) + C % 2 ^ (10 - (k + 1)) := by
  have e : 10 - k = (9 - k) + 1 := by omega
  have e2 : 10 - (k + 1) = 9 - k := by omega
  rw [e, e2, Nat.mod_pow_succ]
  unfold bitC
  rw [Nat.testBit_eq_decide_div_mod_eq]
  rcases Nat.mod_two_eq_zero_or_one (C / 2 ^ (9 - k)) with h | h
  · rw [h]; simp
  · rw [h]; simp; omega
theorem ch_head {l : List Vv} {C k : Nat} {x : Int} (h : ∀ v, v ∈ l → x < v.id) : ∀ y, y ∈ (chV l C k).map (·.id) → x < y := by
  intro y hy
  obtain ⟨v, hv, rfl⟩ := List.mem_map.1 hy
  exact h v ((chV_sub l C k).mem hv)
theorem ch_lex : ∀ (l : List Vv) (C D k : Nat), k + l.length ≤ 10 → AscV l → (∀ j, k + l.length ≤ j → j < 10 → bitC C j = false) → (∀ j, k + l.length ≤ j → j < 10 → bitC D j = false) →
    D % 2 ^ (10 - k) < C % 2 ^ (10 - k) → (chV l C k).length = (chV l D k).length → lexLt ((chV l C k).map (·.id)) ((chV l D k).map (·.id))
  | [], C, D, k, hk, _, hC, hD, hlt, _ => by
    exfalso
    have z : C % 2 ^ (10 - k) = 0 := by
      apply Nat.eq_of_testBit_eq
      intro i
      rw [Nat.testBit_mod_two_pow]
      by_cases hi : i < 10 - k
      · have := hC (9 - i) (by simp; omega) (by omega)
        unfold bitC at this
        have e : 9 - (9 - i) = i := by omega
        rw [e] at this
        simp [this]
      · simp [hi]
    omega
  | v :: l, C, D, k, hk, ha, hC, hD, hlt, hlen => by
    have h1 := List.pairwise_cons.1 ha
    have hk2 : k < 10 := by simp at hk; omega
    have mC := mod_bit C k hk2
    have mD := mod_bit D k hk2
    have bC : C % 2 ^ (10 - (k + 1)) < 2 ^ (9 - k) := by
      have e : 10 - (k + 1) = 9 - k := by omega
      rw [e]; exact Nat.mod_lt _ (Nat.two_pow_pos _)
    have bD : D % 2 ^ (10 - (k + 1)) < 2 ^ (9 - k) := by
      have e : 10 - (k + 1) = 9 - k := by omega
      rw [e]; exact Nat.mod_lt _ (Nat.two_pow_pos _)
    have hC2 : ∀ j, k + 1 + l.length ≤ j → j < 10 → bitC C j = false := fun j h2 => hC j (by simp; omega)
    have hD2 : ∀ j, k + 1 + l.length ≤ j → j < 10 → bitC D j = false := fun j h2 => hD j (by simp; omega)
    simp only [chV] at hlen ⊢
    by_cases c1 : bitC C k = true <;> by_cases d1 : bitC D k = true
    · rw [if_pos c1, if_pos d1] at hlen ⊢
      rw [if_pos c1] at mC
      rw [if_pos d1] at mD
      simp only [List.map_cons]
      exact .inr ⟨rfl, ch_lex l C D (k + 1) (by simp at hk; omega) h1.2 hC2 hD2 (by omega) (by simpa using hlen)⟩
    · rw [if_pos c1, if_neg d1] at hlen ⊢
      simp only [List.map_cons]
      cases e : (chV l D (k + 1)).map (·.id) with
      | nil =>
        have : (chV l D (k + 1)).length = 0 := by have := congrArg List.length e; simpa using this
        simp at hlen; omega
      | cons y ys => exact .inl (ch_head (l := l) (C := D) (k := k + 1) h1.1 y (by rw [e]; simp))
    · rw [if_neg c1] at mC
      rw [if_pos d1] at mD
      omega
    · rw [if_neg c1, if_neg d1] at hlen ⊢
      rw [if_neg c1] at mC
      rw [if_neg d1] at mD
      exact ch_lex l C D (k + 1) (by simp at hk; omega) h1.2 hC2 hD2 (by omega) hlen
theorem ids_lex {vs : List Vv} {C D : Nat} (ha : AscV vs) (hl : vs.length ≤ 10) (hC : SubC vs C) (hD : SubC vs D) (h : D < C) (hlen : pcT C 10 = pcT D 10) : lexLt (idsC vs C) (idsC vs D) := by
  have e1 := ids_len hl hC
  have e2 := ids_len hl hD
  unfold idsC at *
  refine ch_lex vs C D 0 (by omega) ha (fun j h1 h2 => ?_) (fun j h1 h2 => ?_) ?_ ?_
  · cases e : bitC C j with
    | false => rfl
    | true => have := (hC.2 j h2 e).1; omega
  · cases e : bitC D j with
    | false => rfl
    | true => have := (hD.2 j h2 e).1; omega
  · have h3 := hC.1
    have h4 := hD.1
    rw [Nat.mod_eq_of_lt (by simpa using h4), Nat.mod_eq_of_lt (by simpa using h3)]; exact h
  · simp only [List.length_map] at e1 e2; omega

/-! ### Every plan is a choice -/
theorem ids_of_pl {vs : List Vv} (ha : AscV vs) (hl : vs.length ≤ 10) {P : List Int} (hp : Pl vs P) : ∃ C, SubC vs C ∧ idsC vs C = P := by
  have hb := fun k hk => orTo_bit (fun i => !(vAt vs i).sh && decide ((vAt vs i).id ∈ P)) vs.length k hl hk
  refine ⟨orTo (fun i => !(vAt vs i).sh && decide ((vAt vs i).id ∈ P)) vs.length, ⟨orTo_lt _ _, fun k hk h => ?_⟩, ?_⟩
  · rw [hb k hk] at h
    simp at h
    exact ⟨h.1, h.2.1⟩
  · refine sorted_ext4 _ _ (idsC_asc ha _) hp.1 fun x => ?_
    rw [idsC_mem]
    constructor
    · rintro ⟨j, h1, h2, rfl⟩
      rw [hb j (by omega)] at h2
      simp at h2
      exact h2.2.2
    · intro hx
      obtain ⟨v, hv, hs, he⟩ := openL_mem.1 (hp.2 x hx)
      obtain ⟨j, hj, rfl⟩ := mem_vAt hv
      refine ⟨j, hj, ?_, he⟩
      rw [hb j (by omega), he]
      simp [hj, hs, hx]
/-- One more valve is chosen. -/
theorem ids_or {vs : List Vv} (ha : AscV vs) (hl : vs.length ≤ 10) {C p : Nat} (hs : SubC vs C) (hp : p < vs.length) (ho : (vAt vs p).sh = false) (hlt : ∀ x, x ∈ idsC vs C → x < (vAt vs p).id) :
    SubC vs (C ||| 2 ^ (9 - p)) ∧ idsC vs (C ||| 2 ^ (9 - p)) = idsC vs C ++ [(vAt vs p).id] := by
  have hbit : ∀ k, k < 10 → bitC (C ||| 2 ^ (9 - p)) k = (bitC C k || decide (k = p)) := by
    intro k hk
    unfold bitC
    rw [Nat.testBit_or, Nat.testBit_two_pow]
    congr 1
    rw [decide_eq_decide]; omega
  refine ⟨⟨Nat.or_lt_two_pow (n := 10) hs.1 (Nat.pow_lt_pow_right (by omega) (by omega)), fun k hk h => ?_⟩, ?_⟩
  · rw [hbit k hk] at h
    simp at h
    rcases h with h | h
    · exact hs.2 k hk h
    · subst h; exact ⟨hp, ho⟩
  · refine sorted_ext4 _ _ (idsC_asc ha _) ?_ fun x => ?_
    · rw [List.pairwise_append]
      exact ⟨idsC_asc ha C, List.pairwise_singleton _ _, fun a h1 b h2 => by rw [List.mem_singleton.1 h2]; exact hlt a h1⟩
    · rw [List.mem_append, List.mem_singleton, idsC_mem, idsC_mem]
      constructor
      · rintro ⟨j, h1, h2, h3⟩
        rw [hbit j (by omega)] at h2
        simp at h2
        rcases h2 with h2 | h2
        · exact .inl ⟨j, h1, h2, h3⟩
        · subst h2; exact .inr h3.symm
      · rintro (⟨j, h1, h2, h3⟩ | h)
        · exact ⟨j, h1, by rw [hbit j (by omega), h2]; rfl, h3⟩
        · exact ⟨p, hp, by rw [hbit p (by omega)]; simp, h.symm⟩
theorem ids_zero (vs : List Vv) : idsC vs 0 = [] := by
  refine List.eq_nil_iff_forall_not_mem.2 fun x hx => ?_
  obtain ⟨j, _, h, _⟩ := idsC_mem.1 hx
  simp [bitC] at h
theorem sub_zero (vs : List Vv) : SubC vs 0 := ⟨by omega, fun k _ h => by simp [bitC] at h⟩

/-- The barriers of a choice. -/
theorem bar_choice {vs : List Vv} (ha : AscV vs) (C : Nat) (p n : Int) : hasV (bar vs true ++ chV vs C 0) p n = true ↔ hasV (barP vs (idsC vs C)) p n = true := by
  rw [hasV_mem]
  unfold barP
  rw [hasV_filter]
  constructor
  · rintro ⟨v, hv, h⟩
    rcases List.mem_append.1 hv with hv | hv
    · have h1 := List.mem_filter.1 (show v ∈ vs.filter (·.sh) from hv)
      exact ⟨v, h1.1, by simp [h1.2], h⟩
    · have h1 : v.id ∈ idsC vs C := List.mem_map.2 ⟨v, hv, rfl⟩
      exact ⟨v, (chV_sub vs C 0).mem hv, by simp [h1], h⟩
  · rintro ⟨v, hv, hf, h⟩
    refine ⟨v, ?_, h⟩
    rw [List.mem_append]
    cases hs : v.sh with
    | true => exact .inl (show v ∈ vs.filter (·.sh) from List.mem_filter.2 ⟨hv, hs⟩)
    | false =>
      right
      rw [hs] at hf
      have h1 : v.id ∈ idsC vs C := by simpa using hf
      obtain ⟨u, hu, he⟩ := List.mem_map.1 h1
      have e := asc_inj ha ((chV_sub vs C 0).mem hu) hv he
      rw [← e]; exact hu
theorem wet_choice (ps : List Pp) {vs : List Vv} (ha : AscV vs) (C X : Nat) : coB ps (bar vs true ++ chV vs C 0) (one X) = wetP ps vs X (idsC vs C) := coB_congr (bar_choice ha C) _

/-! ### The model's choices: a list of ids, the first one at the lowest bit -/
def chI : List Int → Nat → Nat → List Int
  | [], _, _ => []
  | x :: l, s, k => if s.testBit k then x :: chI l s (k + 1) else chI l s (k + 1)
theorem chI_snoc (x : Int) : ∀ (l : List Int) (s k : Nat), chI (l ++ [x]) s k = if s.testBit (k + l.length) then chI l s k ++ [x] else chI l s k
  | [], s, k => by simp [chI]
  | u :: l, s, k => by
    have ih := chI_snoc x l s (k + 1)
    have e : k + 1 + l.length = k + (l.length + 1) := by omega
    rw [e] at ih
    simp only [List.cons_append, chI, ih, List.length_cons]
    by_cases h1 : s.testBit k = true <;> by_cases h2 : s.testBit (k + (l.length + 1)) = true <;> simp [h1, h2]
def chITo (l : List Int) (s k : Nat) : List Int := chI (l.take k) s 0
theorem chITo_succ (l : List Int) (s k : Nat) (h : k < l.length) : chITo l s (k + 1) = if s.testBit k then chITo l s k ++ [l[k]] else chITo l s k := by
  unfold chITo
  rw [List.take_succ_eq_append_getElem h, chI_snoc, List.length_take, Nat.zero_add, Nat.min_eq_left (by omega)]
theorem chITo_all (l : List Int) (s k : Nat) (h : l.length ≤ k) : chITo l s k = chI l s 0 := by unfold chITo; rw [List.take_of_length_le h]
theorem chI_sub : ∀ (l : List Int) (s k : Nat), (chI l s k).Sublist l
  | [], _, _ => List.Sublist.slnil
  | v :: l, s, k => by
    unfold chI
    split
    · exact (chI_sub l s (k + 1)).cons_cons v
    · exact (chI_sub l s (k + 1)).cons v
theorem chITo_len (l : List Int) (s k : Nat) : (chITo l s k).length ≤ k := Nat.le_trans (chI_sub _ _ _).length_le (List.length_take_le _ _)
theorem pl_chI {vs : List Vv} (ha : AscV vs) (s : Nat) : Pl vs (chI (openL vs) s 0) :=
  ⟨List.Pairwise.sublist (chI_sub _ s 0) (openL_asc ha), fun _ hx => (chI_sub _ s 0).mem hx⟩
theorem bits_ex (f : Nat → Bool) : ∀ m, ∃ s, s < 2 ^ m ∧ ∀ i, i < m → s.testBit i = f i
  | 0 => ⟨0, by simp, fun i h => by omega⟩
  | m + 1 => by
    obtain ⟨s, h1, h2⟩ := bits_ex f m
    have hle : 2 ^ m ≤ 2 ^ (m + 1) := Nat.pow_le_pow_right (by omega) (by omega)
    by_cases hf : f m = true
    · refine ⟨s ||| 2 ^ m, Nat.or_lt_two_pow (by omega) (Nat.pow_lt_pow_right (by omega) (by omega)), fun i hi => ?_⟩
      rw [Nat.testBit_or, Nat.testBit_two_pow]
      by_cases e : i = m
      · subst e; simp [hf]
      · rw [h2 i (by omega)]
        have : ¬ m = i := fun h => e h.symm
        simp [this]
    · refine ⟨s, by omega, fun i hi => ?_⟩
      by_cases e : i = m
      · subst e
        rw [Nat.testBit_lt_two_pow h1]; simp at hf; exact hf.symm
      · exact h2 i (by omega)
theorem chI_filter (p : Int → Bool) : ∀ (l : List Int) (s k : Nat), (∀ j, (h : j < l.length) → s.testBit (k + j) = p l[j]) → chI l s k = l.filter p
  | [], _, _, _ => rfl
  | x :: l, s, k, h => by
    have h0 := h 0 (by simp)
    simp only [Nat.add_zero, List.getElem_cons_zero] at h0
    have ih := chI_filter p l s (k + 1) (fun j hj => by
      have := h (j + 1) (by simp; omega)
      rw [List.getElem_cons_succ] at this
      rw [← this]; congr 1; omega)
    simp only [chI, ih, h0, List.filter_cons]
theorem chI_all {vs : List Vv} (ha : AscV vs) {P : List Int} (hp : Pl vs P) : ∃ s, s < 2 ^ (openL vs).length ∧ chI (openL vs) s 0 = P := by
  obtain ⟨s, h1, h2⟩ := bits_ex (fun i => decide ((openL vs).getD i 0 ∈ P)) (openL vs).length
  refine ⟨s, h1, ?_⟩
  rw [chI_filter (fun x => decide (x ∈ P)) (openL vs) s 0 (fun j hj => by rw [Nat.zero_add, h2 j hj]; simp [List.getD, hj])]
  refine sorted_ext4 _ _ (List.Pairwise.filter _ (openL_asc ha)) hp.1 fun x => ?_
  rw [List.mem_filter]
  constructor
  · rintro ⟨_, h⟩; simpa using h
  · intro h; exact ⟨hp.2 x h, by simpa using h⟩
end Go.Proofs.Ytbljmibaemgfeaa.P4

namespace Go.Proofs.Ytbljmibaemgfeaa.P4
open P2 S2

/-! ### The program's search: over the choices, the greatest first -/
structure St where
  best : Nat
  least : Int
  found : Bool
def st0 : St := ⟨0, 0, false⟩
def takesB (cut : List Int → Bool) (H : List Int → Int) (vs : List Vv) (s : St) (C : Nat) : Bool :=
  cut (idsC vs C) && (!s.found || decide (H (idsC vs C) < s.least) || (decide (H (idsC vs C) = s.least) && decide (pcT C 10 < pcT s.best 10)))
def stepB (cut : List Int → Bool) (H : List Int → Int) (vs : List Vv) (s : St) (C : Nat) : St :=
  if takesB cut H vs s C then ⟨C, H (idsC vs C), true⟩ else s
abbrev Ch (vs : List Vv) : Type := { C : Nat // SubC vs C }
def foldB (cut : List Int → Bool) (H : List Int → Int) (vs : List Vv) (xs : List (Ch vs)) : St := xs.foldl (fun s C => stepB cut H vs s C.1) st0
theorem foldB_snoc (cut : List Int → Bool) (H : List Int → Int) (vs : List Vv) (xs : List (Ch vs)) (x : Ch vs) : foldB cut H vs (xs ++ [x]) = stepB cut H vs (foldB cut H vs xs) x.1 := by
  unfold foldB; rw [List.foldl_append]; rfl
theorem stepB_sub {cut : List Int → Bool} {H : List Int → Int} {vs : List Vv} {s : St} {C : Nat} (h : SubC vs s.best) (hC : SubC vs C) : SubC vs (stepB cut H vs s C).best := by
  unfold stepB; split
  · exact hC
  · exact h
theorem foldB_sub (cut : List Int → Bool) (H : List Int → Int) (vs : List Vv) (xs : List (Ch vs)) : SubC vs (foldB cut H vs xs).best := by
  have key : ∀ (xs : List (Ch vs)) (s : St), SubC vs s.best → SubC vs (xs.foldl (fun s C => stepB cut H vs s C.1) s).best := by
    intro xs
    induction xs with
    | nil => intro s h; exact h
    | cons x xs ih => intro s h; exact ih _ (stepB_sub h x.2)
  exact key xs st0 (sub_zero vs)

/-- The choices have come in descending order. -/
def Desc {vs : List Vv} (xs : List (Ch vs)) : Prop := xs.Pairwise fun a b => b.1 < a.1
/-- All choices have come, the greatest first. -/
def AllCh {vs : List Vv} (xs : List (Ch vs)) : Prop := Desc xs ∧ ∀ D : Ch vs, D ∈ xs
def InvB (cut : List Int → Bool) (H : List Int → Int) (vs : List Vv) (pre : List (Ch vs)) (s : St) : Prop :=
  (s.found = false ∧ s.best = 0 ∧ s.least = 0 ∧ ∀ D, D ∈ pre → cut (idsC vs D.1) = false) ∨
  (s.found = true ∧ (∃ B, B ∈ pre ∧ B.1 = s.best) ∧ cut (idsC vs s.best) = true ∧ s.least = H (idsC vs s.best) ∧
    ∀ D, D ∈ pre → cut (idsC vs D.1) = true → s.least < H (idsC vs D.1) ∨ (s.least = H (idsC vs D.1) ∧ (pcT s.best 10 < pcT D.1 10 ∨ (pcT s.best 10 = pcT D.1 10 ∧ D.1 ≤ s.best))))
theorem InvB.step {cut : List Int → Bool} {H : List Int → Int} {vs : List Vv} {pre : List (Ch vs)} {s : St} {x : Ch vs} (h : InvB cut H vs pre s) (hd : ∀ D, D ∈ pre → x.1 < D.1) : InvB cut H vs (pre ++ [x]) (stepB cut H vs s x.1) := by
  unfold stepB
  cases ht : takesB cut H vs s x.1 with
  | true =>
    unfold takesB at ht
    rw [Bool.and_eq_true] at ht
    obtain ⟨hc, ht⟩ := ht
    simp only [if_true]
    right
    refine ⟨rfl, ⟨x, by simp, rfl⟩, hc, rfl, fun D hD hDc => ?_⟩
    rcases List.mem_append.1 hD with hD | hD
    · have hxD := hd D hD
      rcases h with ⟨_, _, _, h4⟩ | ⟨h1, _, _, h4, h5⟩
      · have := h4 D hD; rw [hDc] at this; cases this
      · rw [h1] at ht
        simp at ht
        have h6 := h5 D hD hDc
        rcases ht with ht | ⟨ht, ht2⟩
        · rcases h6 with h6 | ⟨h6, _⟩
          · exact .inl (by show H _ < _; omega)
          · exact .inl (by show H _ < _; omega)
        · rcases h6 with h6 | ⟨h6, h7 | ⟨h7, _⟩⟩
          · exact .inl (by show H _ < _; omega)
          · exact .inr ⟨by show H _ = _; omega, .inl (by show pcT x.1 10 < _; omega)⟩
          · exact .inr ⟨by show H _ = _; omega, .inl (by show pcT x.1 10 < _; omega)⟩
    · have e := List.mem_singleton.1 hD
      subst e
      exact .inr ⟨rfl, .inr ⟨rfl, Nat.le_refl _⟩⟩
  | false =>
    simp only [Bool.false_eq_true, if_false]
    rcases h with ⟨h1, h2, h3, h4⟩ | ⟨h1, h2, h3, h4, h5⟩
    · left
      refine ⟨h1, h2, h3, fun D hD => ?_⟩
      rcases List.mem_append.1 hD with hD | hD
      · exact h4 D hD
      · have e := List.mem_singleton.1 hD
        subst e
        unfold takesB at ht
        rw [h1] at ht
        simpa using ht
    · right
      refine ⟨h1, ?_, h3, h4, fun D hD hDc => ?_⟩
      · obtain ⟨B, hB, e⟩ := h2
        exact ⟨B, List.mem_append.2 (.inl hB), e⟩
      rcases List.mem_append.1 hD with hD | hD
      · exact h5 D hD hDc
      · have e := List.mem_singleton.1 hD
        subst e
        obtain ⟨B, hB, eB⟩ := h2
        have hxB := hd B hB
        unfold takesB at ht
        rw [h1, hDc] at ht
        simp at ht
        obtain ⟨t1, t2⟩ := ht
        rcases Int.lt_or_eq_of_le t1 with h6 | h6
        · exact .inl h6
        · refine .inr ⟨h6, ?_⟩
          have h7 := t2 h6.symm
          rcases Nat.lt_or_eq_of_le h7 with h8 | h8
          · exact .inl h8
          · exact .inr ⟨h8, by omega⟩
theorem invB_all (cut : List Int → Bool) (H : List Int → Int) (vs : List Vv) (xs : List (Ch vs)) (hd : Desc xs) : InvB cut H vs xs (foldB cut H vs xs) := by
  have key : ∀ (xs pre : List (Ch vs)) (s : St), InvB cut H vs pre s → Desc (pre ++ xs) → InvB cut H vs (pre ++ xs) (xs.foldl (fun s C => stepB cut H vs s C.1) s) := by
    intro xs
    induction xs with
    | nil => intro pre s h _; simpa using h
    | cons x xs ih =>
      intro pre s h hd
      have h1 := h.step (x := x) (fun D hD => (List.pairwise_append.1 hd).2.2 D hD x (by simp))
      have := ih (pre ++ [x]) _ h1 (by simpa using hd)
      simpa using this
  exact key xs [] st0 (.inl ⟨rfl, rfl, rfl, fun D hD => by simp at hD⟩) hd
theorem foldB_res {cut : List Int → Bool} {H : List Int → Int} {vs : List Vv} (ha : AscV vs) (hl : vs.length ≤ 10) {xs : List (Ch vs)} (hx : AllCh xs) :
    Res vs cut H (foldB cut H vs xs).found (idsC vs (foldB cut H vs xs).best) (foldB cut H vs xs).least := by
  have hs := foldB_sub cut H vs xs
  rcases invB_all cut H vs xs hx.1 with ⟨h1, h2, h3, h4⟩ | ⟨h1, h2, h3, h4, h5⟩
  · right
    refine ⟨h1, by rw [h2]; exact ids_zero vs, h3, fun Q hQ => ?_⟩
    obtain ⟨C, hC, rfl⟩ := ids_of_pl ha hl hQ
    exact h4 ⟨C, hC⟩ (hx.2 _)
  · left
    refine ⟨h1, pl_ids ha hl hs, h3, h4, fun Q hQ hc hb => ?_⟩
    obtain ⟨C, hC, rfl⟩ := ids_of_pl ha hl hQ
    have h6 := h5 ⟨C, hC⟩ (hx.2 _) hc
    dsimp only at h6
    rcases hb with hb | ⟨hb, hb2⟩
    · rcases h6 with h6 | ⟨h6, _⟩ <;> omega
    · rcases h6 with h6 | ⟨_, h6⟩
      · omega
      · have e1 := ids_len hl hC
        have e2 := ids_len hl hs
        rcases hb2 with hb2 | ⟨hb2, hb3⟩
        · rcases h6 with h6 | ⟨h6, _⟩ <;> omega
        · rcases h6 with h6 | ⟨h6, h7⟩
          · omega
          · rcases Nat.lt_or_eq_of_le h7 with h8 | h8
            · exact lex_irr _ (lex_trans hb3 (ids_lex ha hl hs hC h8 h6))
            · rw [← h8] at hb3; exact lex_irr _ hb3
theorem desc_len {vs : List Vv} : ∀ (xs : List (Ch vs)) (c : Nat), Desc xs → (∀ D, D ∈ xs → c < D.1) → c ≤ 1023 → xs.length + c ≤ 1023 := by
  have key : ∀ (xs : List (Ch vs)) (c u : Nat), Desc xs → (∀ D, D ∈ xs → c < D.1 ∧ D.1 ≤ u) → c ≤ u → xs.length + c ≤ u := by
    intro xs
    induction xs with
    | nil => intro c u _ _ h; simpa using h
    | cons x xs ih =>
      intro c u hd hb hc
      have h1 := List.pairwise_cons.1 hd
      have hx := hb x (by simp)
      have := ih c (x.1 - 1) h1.2 (fun D hD => ⟨(hb D (by simp [hD])).1, by have := h1.1 D hD; omega⟩) (by omega)
      simp only [List.length_cons]; omega
  intro xs c hd hb hc
  exact key xs c 1023 hd (fun D hD => ⟨hb D hD, by have := D.2.1; omega⟩) hc

/-- Between two rounds of the iterator: what has come lies above the choice that comes next, and nothing is passed over. -/
def Mid {vs : List Vv} (pre : List (Ch vs)) (c : Ch vs) : Prop := Desc pre ∧ (∀ D, D ∈ pre → c.1 < D.1) ∧ ∀ D : Ch vs, D ∈ pre ∨ D.1 ≤ c.1
theorem mid_start (vs : List Vv) (hl : vs.length ≤ 10) : Mid ([] : List (Ch vs)) ⟨allC vs vs.length, allC_sub vs hl⟩ := by
  refine ⟨List.Pairwise.nil, fun D hD => by simp at hD, fun D => .inr ?_⟩
  show D.1 ≤ allC vs vs.length
  rw [← sub_land hl D.2]; exact Nat.and_le_right
theorem Mid.snoc {vs : List Vv} {pre : List (Ch vs)} {c : Ch vs} (h : Mid pre c) : Desc (pre ++ [c]) := by
  unfold Desc
  rw [List.pairwise_append]
  exact ⟨h.1, List.pairwise_singleton _ _, fun a ha b hb => by rw [List.mem_singleton.1 hb]; exact h.2.1 a ha⟩
theorem Mid.next {vs : List Vv} {pre : List (Ch vs)} {c d : Ch vs} (hl : vs.length ≤ 10) (h : Mid pre c) (h0 : 0 < c.1) (hd : d.1 = (c.1 - 1) &&& allC vs vs.length) : Mid (pre ++ [c]) d := by
  have hlt : d.1 < c.1 := by rw [hd]; exact next_lt h0
  refine ⟨h.snoc, fun D hD => ?_, fun D => ?_⟩
  · rcases List.mem_append.1 hD with hD | hD
    · have := h.2.1 D hD; omega
    · rw [List.mem_singleton.1 hD]; exact hlt
  · rcases h.2.2 D with hD | hD
    · exact .inl (by simp [hD])
    · rcases Nat.lt_or_eq_of_le hD with h1 | h1
      · right; rw [hd]; exact next_sub hl c.2 D.2 h1
      · left
        have : D = c := Subtype.ext h1
        simp [this]
theorem Mid.last {vs : List Vv} {pre : List (Ch vs)} {c : Ch vs} (h : Mid pre c) (h0 : c.1 = 0) : AllCh (pre ++ [c]) := by
  refine ⟨h.snoc, fun D => ?_⟩
  rcases h.2.2 D with hD | hD
  · simp [hD]
  · have : D = c := Subtype.ext (by omega)
    simp [this]
theorem Mid.len {vs : List Vv} {pre : List (Ch vs)} {c : Ch vs} (h : Mid pre c) : pre.length < 1024 := by
  have := desc_len pre c.1 h.1 h.2.1 (by have := c.2.1; omega)
  omega

/-! ### The model's search: over the numbers below 2^m -/
def InvS (vs : List Vv) (cut : List Int → Bool) (H : List Int → Int) (s : Nat) (P : List Int) (l : Int) : Prop :=
  (l = -1 ∧ P = [] ∧ ∀ t, t < s → cut (chI (openL vs) t 0) = false) ∨
  (0 ≤ l ∧ Pl vs P ∧ cut P = true ∧ l = H P ∧ ∀ t, t < s → cut (chI (openL vs) t 0) = true → ¬ Better H (chI (openL vs) t 0) P)
theorem invS_zero (vs : List Vv) (cut : List Int → Bool) (H : List Int → Int) : InvS vs cut H 0 [] (-1) := .inl ⟨rfl, rfl, fun t h => by omega⟩
theorem InvS.dry {vs : List Vv} {cut : List Int → Bool} {H : List Int → Int} {s : Nat} {P : List Int} {l : Int} (h : InvS vs cut H s P l) (hc : cut (chI (openL vs) s 0) = false) : InvS vs cut H (s + 1) P l := by
  rcases h with ⟨h1, h2, h3⟩ | ⟨h0, h1, h2, h3, h4⟩
  · refine .inl ⟨h1, h2, fun t ht => ?_⟩
    by_cases e : t = s
    · subst e; exact hc
    · exact h3 t (by omega)
  · refine .inr ⟨h0, h1, h2, h3, fun t ht htc => ?_⟩
    by_cases e : t = s
    · subst e; rw [hc] at htc; cases htc
    · exact h4 t (by omega) htc
theorem InvS.old {vs : List Vv} {cut : List Int → Bool} {H : List Int → Int} {s : Nat} {P : List Int} {l : Int} (h : InvS vs cut H s P l) (hl : 0 ≤ l) (hb : ¬ (H (chI (openL vs) s 0) < l ∨ (H (chI (openL vs) s 0) = l ∧ Less (chI (openL vs) s 0) P))) : InvS vs cut H (s + 1) P l := by
  rcases h with ⟨h1, h2, h3⟩ | ⟨h0, h1, h2, h3, h4⟩
  · omega
  · refine .inr ⟨h0, h1, h2, h3, fun t ht htc => ?_⟩
    by_cases e : t = s
    · subst e; unfold Better; rw [← h3]; exact hb
    · exact h4 t (by omega) htc
theorem InvS.new {vs : List Vv} (ha : AscV vs) {cut : List Int → Bool} {H : List Int → Int} (hH : ∀ P, 0 ≤ H P) {s : Nat} {P : List Int} {l : Int} (h : InvS vs cut H s P l) (hc : cut (chI (openL vs) s 0) = true)
    (hb : l < 0 ∨ H (chI (openL vs) s 0) < l ∨ (H (chI (openL vs) s 0) = l ∧ Less (chI (openL vs) s 0) P)) : InvS vs cut H (s + 1) (chI (openL vs) s 0) (H (chI (openL vs) s 0)) := by
  refine .inr ⟨hH _, pl_chI ha s, hc, rfl, fun t ht htc hbt => ?_⟩
  by_cases e : t = s
  · subst e; exact better_irr H _ hbt
  · rcases h with ⟨h1, h2, h3⟩ | ⟨h0, h1, h2, h3, h4⟩
    · have := h3 t (by omega); rw [htc] at this; cases this
    · rcases hb with hb | hb
      · omega
      · rw [h3] at hb
        exact h4 t (by omega) htc (better_trans hbt hb)
/-- What the search's end tells. -/
theorem InvS.res {vs : List Vv} (ha : AscV vs) {cut : List Int → Bool} {H : List Int → Int} {P : List Int} {l : Int} (h : InvS vs cut H (2 ^ (openL vs).length) P l) {ok : Bool} {P' : List Int} {h' : Int} (hr : Res vs cut H ok P' h') : P = P' ∧ l = (if ok then h' else -1) := by
  rcases h with ⟨h1, h2, h3⟩ | ⟨h0, h1, h2, h3, h4⟩
  · have h5 : Res vs cut H false P 0 := .inr ⟨rfl, h2, rfl, fun Q hQ => by
      obtain ⟨s, hs, rfl⟩ := chI_all ha hQ
      exact h3 s hs⟩
    obtain ⟨e1, e2, e3⟩ := res_unique h5 hr
    subst e1
    exact ⟨e2, by simpa using h1⟩
  · have h5 : Res vs cut H true P l := .inl ⟨rfl, h1, h2, h3, fun Q hQ hQc => by
      obtain ⟨s, hs, rfl⟩ := chI_all ha hQ
      exact h4 s hs hQc⟩
    obtain ⟨e1, e2, e3⟩ := res_unique h5 hr
    subst e1
    exact ⟨e2, by simpa using e3⟩
/-- Where all open valves do not cut the pipe off, no plan does. -/
theorem res_none {vs : List Vv} {ps : List Pp} {X i : Nat} (H : List Int → Int) (h : cutB ps vs X i (openL vs) = false) : Res vs (cutB ps vs X i) H false [] 0 := by
  refine .inr ⟨rfl, rfl, rfl, fun Q hQ => ?_⟩
  cases e : cutB ps vs X i Q with
  | false => rfl
  | true => rw [cut_sub hQ.2 e] at h; cases h
open Classical in
theorem res_ex (vs : List Vv) (ha : AscV vs) (cut : List Int → Bool) (H : List Int → Int) (hH : ∀ P, 0 ≤ H P) : ∃ ok P h, Res vs cut H ok P h := by
  have key : ∀ s, ∃ P l, InvS vs cut H s P l := by
    intro s
    induction s with
    | zero => exact ⟨_, _, invS_zero vs cut H⟩
    | succ s ih =>
      obtain ⟨P, l, h⟩ := ih
      cases hc : cut (chI (openL vs) s 0) with
      | false => exact ⟨P, l, h.dry hc⟩
      | true =>
        by_cases hb : l < 0 ∨ H (chI (openL vs) s 0) < l ∨ (H (chI (openL vs) s 0) = l ∧ Less (chI (openL vs) s 0) P)
        · exact ⟨_, _, h.new ha hH hc hb⟩
        · exact ⟨P, l, h.old (by omega) (fun h2 => hb (.inr h2))⟩
  obtain ⟨P, l, h⟩ := key (2 ^ (openL vs).length)
  rcases h with ⟨h1, h2, h3⟩ | ⟨h0, h1, h2, h3, h4⟩
  · exact ⟨false, P, 0, .inr ⟨rfl, h2, rfl, fun Q hQ => by
      obtain ⟨s, hs, rfl⟩ := chI_all ha hQ
      exact h3 s hs⟩⟩
  · exact ⟨true, P, l, .inl ⟨rfl, h1, h2, h3, fun Q hQ hQc => by
      obtain ⟨s, hs, rfl⟩ := chI_all ha hQ
      exact h4 s hs hQc⟩⟩

/-! ### Harm -/
def sumL (cu : List Int) (l : List Int) : Int := (l.map fun v => cu.getD (v - 1).toNat 0).sum
theorem sumL_snoc (cu l : List Int) (v : Int) : sumL cu (l ++ [v]) = sumL cu l + cu.getD (v - 1).toNat 0 := by simp [sumL, List.sum_append]
/-- Customers of a network. -/
def Cust (n : Int) (cu : List Int) : Prop := (cu.length : Int) = n ∧ ∀ x, x ∈ cu → 0 ≤ x ∧ x ≤ 1000
open Classical in
noncomputable def custB (n : Int) (cu : List Int) : Bool := decide (Cust n cu)
theorem custB_of {n : Int} {cu : List Int} (h : custB n cu = true) : Cust n cu := by simpa [custB] using h
theorem custB_mk {n : Int} {cu : List Int} (h : Cust n cu) : custB n cu = true := by simpa [custB] using h
theorem custB_no {n : Int} {cu : List Int} (h : ¬ Cust n cu) : custB n cu = false := by simpa [custB] using h
theorem sumL_bd {cu : List Int} (h : ∀ x, x ∈ cu → 0 ≤ x ∧ x ≤ 1000) : ∀ l : List Int, 0 ≤ sumL cu l ∧ sumL cu l ≤ 1000 * l.length
  | [] => by simp [sumL]
  | v :: l => by
    have ih := sumL_bd h l
    have e : sumL cu (v :: l) = cu.getD (v - 1).toNat 0 + sumL cu l := by simp [sumL]
    have hb : 0 ≤ cu.getD (v - 1).toNat 0 ∧ cu.getD (v - 1).toNat 0 ≤ 1000 := by
      generalize (v - 1).toNat = i
      by_cases hv : i < cu.length
      · have := h _ (List.getElem_mem hv)
        simpa [List.getD, hv] using this
      · simp [List.getD, hv]
    rw [e]; simp only [List.length_cons]; omega
/-- The harm of a plan; without customers none. -/
noncomputable def harmP (N : Nat) (ps : List Pp) (vs : List Vv) (X : Nat) (cu P : List Int) : Int := if cu = [] then 0 else sumL cu (nodesL N (wetP ps vs X P) false)
theorem harmP_nil (N : Nat) (ps : List Pp) (vs : List Vv) (X : Nat) (P : List Int) : harmP N ps vs X [] P = 0 := by simp [harmP]
theorem harmP_pos {N : Nat} {ps : List Pp} {vs : List Vv} {X : Nat} {cu : List Int} (h : ∀ x, x ∈ cu → 0 ≤ x ∧ x ≤ 1000) (P : List Int) : 0 ≤ harmP N ps vs X cu P := by
  unfold harmP; split
  · omega
  · exact (sumL_bd h _).1
end Go.Proofs.Ytbljmibaemgfeaa.P4

namespace Go.Proofs.Ytbljmibaemgfeaa.S2
open Go.RowKit P2 P4

theorem cmpv_any (p : Vv) (x : Int) (w : World) :
    Calls Try.prog 155 #[vvl p, .int .i64 x] w fun e w' => e = .returned (.int .i64 (cmpI p.id x)) ∧ Below w.heap.size w w' := by
  obtain ⟨id, pp, nd, sh⟩ := p
  have HC := Lib.hid (fun w => cmp_int id x w)
  go_enter Try.func155, Try.ntmps155
  go_wp2_with (go_at_call 156; refine (HC.out _).mono ?_; rintro e w1 ⟨rfl, rfl⟩)
  go_ret
  exact ⟨rfl, (Below.refl _ _).alloc (Nat.le_refl _) _⟩

/-- The place at which an Id stands or would stand. -/
structure VPlace (vs : List Vv) (x : Int) (i : Nat) (f : Bool) : Prop where
  le : i ≤ vs.length
  low : ∀ k, k < i → (vAt vs k).id < x
  high : ∀ k, i ≤ k → k < vs.length → x ≤ (vAt vs k).id
  found : f = true ↔ i < vs.length ∧ (vAt vs i).id = x

set_option maxHeartbeats 2000000 in
set_option maxRecDepth 100000 in
theorem searchv_any (A : Option Addr) (cap : Nat) (vs : List Vv) (x : Int) (w : World) (h : VAt w A vs) (hl : vs.length ≤ 10) (hs : ∀ i j, i < j → j < vs.length → (vAt vs i).id < (vAt vs j).id) :
    Calls Try.prog 154 #[.slice A vs.length cap, .int .i64 x, .func (.func 155) #[] #[]] w fun e w' => (∃ i f, e = .returned (.tuple #[.int .i64 ((i : Nat) : Int), .bool f]) ∧ VPlace vs x i f) ∧ Below w.heap.size w w' := by
  have HA := Lib.hid h
  have HS := Lib.hid hs
  clear h hs
  go_enter Try.func154, Try.ntmps154
  go_wp2
  go_loopw [9, 10, 11] (fun i j _ wr => ∃ I J : Nat, I ≤ J ∧ J ≤ vs.length ∧ i = .int .i64 (I : Int) ∧ j = .int .i64 (J : Int) ∧ Hid (∀ k, k < I → (vAt vs k).id < x) ∧ Hid (∀ k, J ≤ k → k < vs.length → x ≤ (vAt vs k).id) ∧ Below w.heap.size w wr) (fun i j _ _ => (intOf j).toNat - (intOf i).toNat)
  case atStart => exact ⟨0, vs.length, Nat.zero_le _, Nat.le_refl _, rfl, rfl, Lib.hid (fun k hk => absurd hk (by omega)), Lib.hid (fun k h1 h2 => absurd h2 (by omega)), Below.refl _ _⟩
  case round =>
    obtain ⟨I, J, hIJ, hJ, rfl, rfl, hlow, hhigh, hb⟩ := hrel
    by_cases hlt : I < J
    · obtain ⟨M, hM⟩ : ∃ M, M = (I + J) / 2 := ⟨_, rfl⟩
      have hM1 : I ≤ M := by omega
      have hM2 : M < J := by omega
      have hMi : ((I : Int) + (J : Int)) / 2 = (M : Int) := by omega
      have hu : IntKind.u64.wrap ((I : Int) + (J : Int)) = (I : Int) + (J : Int) := by rw [IntKind.wrap_u64]; omega
      have huM : IntKind.u64.wrap (M : Int) = (M : Int) := by rw [IntKind.wrap_u64]; omega
      have hM0 : (0 : Int) ≤ (M : Int) := by omega
      have hMn : (M : Int) < (vs.length : Int) := by omega
      obtain ⟨b, off, hA, hbl, h0, h1, h2, h3⟩ := (HA.out.kept hb (Nat.le_refl _)).at_ (i := M) (by omega)
      subst hA
      clear hM
      by_cases hc : (vAt vs M).id < x
      · have HC := Lib.hid (fun w => cmpv_any (vAt vs M) x w)
        rw [cmp_lt hc] at HC
        have hlow2 := Lib.hid (show ∀ k, k < M + 1 → (vAt vs k).id < x from fun k hk => by
          by_cases e : k = M
          · rw [e]; exact hc
          · exact Int.lt_trans (HS.out k M (by omega) (by omega)) hc)
        clear hc
        go_wp2_with (go_at_call 155; refine (HC.out _).mono ?_; rintro e w1 ⟨rfl, hb1⟩)
        go_roundw
        case rel => exact ⟨M + 1, J, by omega, hJ, by go_num, rfl, hlow2, hhigh, hb.trans (hb1.mono hb.size)⟩
        case measure => simp [intOf]; omega
      · by_cases he : (vAt vs M).id = x
        · have HC := Lib.hid (fun w => cmpv_any (vAt vs M) x w)
          rw [cmp_eq he] at HC
          have hhigh2 := Lib.hid (show ∀ k, M ≤ k → k < vs.length → x ≤ (vAt vs k).id from fun k h1 h2 => by
            by_cases e : k = M
            · rw [e]; omega
            · exact Int.le_trans (show x ≤ (vAt vs M).id by omega) (Int.le_of_lt (HS.out M k (by omega) h2)))
          clear hc he
          go_wp2_with (go_at_call 155; refine (HC.out _).mono ?_; rintro e w1 ⟨rfl, hb1⟩)
          go_roundw
          case rel => exact ⟨I, M, hM1, by omega, rfl, rfl, hlow, hhigh2, hb.trans (hb1.mono hb.size)⟩
          case measure => simp [intOf]; omega
        · have hg : x < (vAt vs M).id := by omega
          have HC := Lib.hid (fun w => cmpv_any (vAt vs M) x w)
          rw [cmp_gt hg] at HC
          have hhigh2 := Lib.hid (show ∀ k, M ≤ k → k < vs.length → x ≤ (vAt vs k).id from fun k h1 h2 => by
            by_cases e : k = M
            · rw [e]; omega
            · exact Int.le_trans (show x ≤ (vAt vs M).id by omega) (Int.le_of_lt (HS.out M k (by omega) h2)))
          clear hc he hg
          go_wp2_with (go_at_call 155; refine (HC.out _).mono ?_; rintro e w1 ⟨rfl, hb1⟩)
          go_roundw
          case rel => exact ⟨I, M, hM1, by omega, rfl, rfl, hlow, hhigh2, hb.trans (hb1.mono hb.size)⟩
          case measure => simp [intOf]; omega
    · have hIJe : I = J := by omega
      subst hIJe
      by_cases hn : I < vs.length
      · have hI0 : (0 : Int) ≤ (I : Int) := by omega
        have hIn : (I : Int) < (vs.length : Int) := by omega
        have hle := hhigh.out I (by omega) hn
        obtain ⟨b, off, hA, hbl, h0, h1, h2, h3⟩ := (HA.out.kept hb (Nat.le_refl _)).at_ (i := I) hn
        subst hA
        by_cases hh : (vAt vs I).id = x
        · have HC := Lib.hid (fun w => cmpv_any (vAt vs I) x w)
          rw [cmp_eq hh] at HC
          have HP := Lib.hid (show VPlace vs x I true from ⟨by omega, hlow.out, fun k h1 h2 => hhigh.out k (by omega) h2, by simp; omega⟩)
          clear hh
          go_wp2_with (go_at_call 155; refine (HC.out _).mono ?_; rintro e w1 ⟨rfl, hb1⟩)
          go_ret2
          exact ⟨⟨I, _, rfl, HP.out⟩, hb.trans (hb1.mono hb.size)⟩
        · have HC := Lib.hid (fun w => cmpv_any (vAt vs I) x w)
          rw [cmp_gt (show x < (vAt vs I).id by omega)] at HC
          have HP := Lib.hid (show VPlace vs x I false from ⟨by omega, hlow.out, fun k h1 h2 => hhigh.out k (by omega) h2, by simp; omega⟩)
          clear hh
          go_wp2_with (go_at_call 155; refine (HC.out _).mono ?_; rintro e w1 ⟨rfl, hb1⟩)
          go_ret2
          exact ⟨⟨I, _, rfl, HP.out⟩, hb.trans (hb1.mono hb.size)⟩
      · have HP := Lib.hid (show VPlace vs x I false from ⟨by omega, hlow.out, fun k h1 h2 => hhigh.out k (by omega) h2, by simp; omega⟩)
        have hIn : (vs.length : Int) ≤ (I : Int) := by omega
        go_wp2
        go_ret2
        exact ⟨⟨I, _, rfl, HP.out⟩, hb⟩

theorem ascv_ids {vs : List Vv} (h : AscV vs) : ∀ i j, i < j → j < vs.length → (vAt vs i).id < (vAt vs j).id := by
  intro i j hij hj
  have h1 := (List.pairwise_iff_getElem.1 h) i j (by omega) hj hij
  have e1 : vs[i] = vAt vs i := by simp [vAt, List.getD, show i < vs.length by omega]
  have e2 : vs[j] = vAt vs j := by simp [vAt, List.getD, hj]
  rw [e1, e2] at h1
  exact h1
theorem placev_any (A : Option Addr) (cap : Nat) (vs : List Vv) (x : Int) (w : World) (h : VAt w A vs) (hl : vs.length ≤ 10) (ha : AscV vs) :
    Calls Try.prog 100 #[.slice A vs.length cap, .int .i64 x] w fun e w' => (∃ i f, e = .returned (.tuple #[.int .i64 ((i : Nat) : Int), .bool f]) ∧ VPlace vs x i f) ∧ Below w.heap.size w w' := by
  have HS := Lib.hid (fun w' (hb : Below w.heap.size w w') => searchv_any A cap vs x w' (h.kept hb (Nat.le_refl _)) hl (ascv_ids ha))
  clear h ha
  go_enter Try.func100, Try.ntmps100
  go_wp2_with (go_at_call 154; refine (HS.out _ (Below.refl _ _)).mono ?_; rintro e w1 ⟨⟨i, f, rfl, hp⟩, hb1⟩)
  go_ret2
  exact ⟨⟨i, f, rfl, hp⟩, hb1⟩
/-- Found where it stands. -/
theorem vplace_at {vs : List Vv} {x : Int} {i k : Nat} {f : Bool} (ha : AscV vs) (h : VPlace vs x i f) (hk : k < vs.length) (he : (vAt vs k).id = x) : f = true ∧ i = k := by
  have h1 : ¬ k < i := fun hlt => by have := h.low k hlt; omega
  have h2 : ¬ i < k := fun hlt => by
    have h3 := h.high i (Nat.le_refl _) (by omega)
    have := ascv_ids ha i k hlt hk
    omega
  have e : i = k := by omega
  subst e
  exact ⟨h.found.2 ⟨hk, he⟩, rfl⟩
end Go.Proofs.Ytbljmibaemgfeaa.S2

namespace Go.Proofs.Ytbljmibaemgfeaa.S2
open Go.RowKit Go.Sort Go.ChangeShapes Go.WideShapes Go.Deep Go.Joins P2 P4

/-- A fresh slice of numbers beside a number and a bool. -/
def GivesIH (w : World) (l : List Int) (hh : Int) (ok : Bool) (e : Ending) (w' : World) : Prop :=
  ∃ g cap, e = .returned (.tuple #[.slice (some ⟨g, 0, none⟩) l.length cap, .int .i64 hh, .bool ok]) ∧ w.heap.size ≤ g ∧ IOwn w' w.heap.size (.slice (some ⟨g, 0, none⟩) l.length cap) l ∧ Below w.heap.size w w'
def GivesAH (w : World) (l : List Int) (hh : Int) (ok : Bool) (e : Ending) (w' : World) : Prop :=
  ∃ g o cap, e = .returned (.tuple #[.slice (some ⟨g, o, none⟩) l.length cap, .int .i64 hh, .bool ok]) ∧ w.heap.size ≤ g ∧ IAt w' (some ⟨g, o, none⟩) l ∧ Below w.heap.size w w' ∧ g < w'.heap.size
theorem GivesIH.any {w : World} {l : List Int} {hh : Int} {ok : Bool} {e : Ending} {w' : World} (h : GivesIH w l hh ok e w') : GivesAH w l hh ok e w' := by
  obtain ⟨g, cap, he, hg, ho, hb⟩ := h
  exact ⟨g, 0, cap, he, hg, ho.iat, hb, (World.ownsRow.lt ho g rfl).2⟩

def fiI (l : List Int) (j : Nat) : List Value := (l.take j).map iv ++ List.replicate (l.length - j) (iv 0)
theorem fiI_len (l : List Int) (j : Nat) (h : j ≤ l.length) : (fiI l j).length = l.length := by simp [fiI]; omega
theorem fiI_set (l : List Int) (j : Nat) (h : j < l.length) : (fiI l j).set j (iv (l.getD j 0)) = fiI l (j + 1) := by
  unfold fiI
  have e1 : ((l.take j).map iv).length = j := by simp; omega
  have e2 : l.length - j = (l.length - (j + 1)) + 1 := by omega
  have e3 : l.getD j 0 = l[j] := by simp [List.getD, h]
  rw [List.set_append_right _ _ (by omega), e1, Nat.sub_self, e2, List.replicate_succ, List.set_cons_zero, List.take_succ_eq_append_getElem h, List.map_append, e3]
  simp
theorem fiI_has (l : List Int) (j : Nat) (h : j < l.length) : ∃ u, (fiI l j)[j]? = some u := ⟨_, List.getElem?_eq_getElem (by rw [fiI_len l j (by omega)]; exact h)⟩
theorem fiI_full (l : List Int) : fiI l l.length = l.map iv := by simp [fiI]
theorem made_own (l : List Int) (w : World) (hn : l.length ≤ 1048576) : (w.alloc (.cells (madeCells #[.int .i64 0] l.length) 3)).ownsRow w.heap.size 3 1 (.slice (some ⟨w.heap.size, 0, none⟩) l.length l.length) l.length (fiI l 0) := by
  have hs : (madeCells #[Value.int .i64 0] l.length).toList = List.replicate l.length (iv 0) := toList_madeCells_one _ _
  have hz : (madeCells #[Value.int .i64 0] l.length).size = l.length := by rw [← Array.length_toList, hs]; simp
  refine ⟨by simp [fiI], .inr ⟨w.heap.size, l.length, madeCells #[.int .i64 0] l.length, rfl, Nat.le_refl _, heap_alloc_new w _, Nat.le_refl _, by unfold maxLen; omega, by simpa using hz, ?_⟩⟩
  simp [fiI, hs]

set_option maxHeartbeats 2000000 in
theorem toints_any (A : Option Addr) (cap : Nat) (l : List Int) (w : World) (h : IAt w A l) (hn : l.length ≤ 1048576) :
    Calls Try.prog 20 #[.slice A l.length cap] w fun e w' => (∃ g, e = .returned (.slice (some ⟨g, 0, none⟩) l.length l.length) ∧ w.heap.size ≤ g ∧ IOwn w' w.heap.size (.slice (some ⟨g, 0, none⟩) l.length l.length) l) ∧ Below w.heap.size w w' := by
  have HA := Lib.hid h
  have hmk := run_make_row' (P := Try.prog) 26 3 (.int .i64 0) 8 Try.underlying26 infoI rfl .i64 .i64 l.length (by omega) (by omega)
  have HO := Lib.hid (made_own l w hn)
  have HF := Lib.hid (fiI_full l)
  clear h
  go_enter Try.func20, Try.ntmps20
  go_wp2
  clear hmk
  go_loopw [4] (fun i wr => ∃ k : Nat, k ≤ l.length ∧ i = .int .i64 k ∧ Hid (wr.ownsRow w.heap.size 3 1 (.slice (some ⟨w.heap.size, 0, none⟩) l.length l.length) l.length (fiI l k)) ∧ Below w.heap.size w wr) (fun i _ => l.length - (intOf i).toNat)
  case atStart => exact ⟨0, Nat.zero_le _, rfl, HO, (Below.refl _ _).alloc (Nat.le_refl _) _⟩
  case round =>
    obtain ⟨k, hk, rfl, hown, hb⟩ := hrel
    clear HO
    by_cases hlt : k < l.length
    · obtain ⟨b, off, hA, hbl, hx⟩ := HA.out.at_ hlt
      subst hA
      have c1 := (hb.cell (p := ⟨b, off + k, none⟩) hbl).trans hx
      obtain ⟨u, hu⟩ := fiI_has l k hlt
      have hcell := (hown.out.cellAt k (by omega)).trans hu
      have hfz := hown.out.frozenAt k
      have HST := Lib.hid (fiI_set l k hlt)
      generalize l.getD k 0 = x at *
      have hst0 := Lib.hid (hown.out.stored k (iv x))
      clear hx hu
      go_wp2
      have hst := hst0.out
      rw [HST.out] at hst
      go_roundw
      case rel => exact ⟨k + 1, by omega, by go_num, Lib.hid hst.1, hb.setCell (p := ⟨w.heap.size, k, none⟩) (Nat.le_refl _) _⟩
      case measure => simp [intOf]; omega
    · have e : k = l.length := by omega
      subst e
      have hown2 := hown.out
      rw [HF.out] at hown2
      have H2 := Lib.hid hown2
      clear hown hown2
      go_wp2
      go_ret
      exact ⟨⟨_, rfl, Nat.le_refl _, H2.out⟩, hb⟩

section
variable {H : Type} {enc : TypeId × Value → H} {P : Program} {w : World} {base : Nat} {spare : Nat → Bool} {held : Bool}
theorem trodAll_five {t0 t1 t2 t3 t4 : TypeId} {args : Array Value} {ds : List (DataW H)} {ps : List MemPlace} (h : DataW.TrodAll enc P w base spare held [t0, t1, t2, t3, t4] args.toList ds ps) :
    ∃ v0 v1 v2 v3 v4 d0 d1 d2 d3 d4 p0 p1 p2 p3 p4, args = #[v0, v1, v2, v3, v4] ∧ ds = [d0, d1, d2, d3, d4] ∧ ps = p0 ++ p1 ++ p2 ++ p3 ++ p4 ∧ DataW.Trod enc P w base spare held t0 v0 d0 p0 ∧ DataW.Trod enc P w base spare held t1 v1 d1 p1 ∧ DataW.Trod enc P w base spare held t2 v2 d2 p2 ∧ DataW.Trod enc P w base spare held t3 v3 d3 p3 ∧ DataW.Trod enc P w base spare held t4 v4 d4 p4 := by
  obtain ⟨v0, vs0, d0, ds0, p0, q0, hargs, rfl, rfl, h0, r0⟩ := trodAll_cons h
  obtain ⟨v1, vs1, d1, ds1, p1, q1, rfl, rfl, rfl, h1, r1⟩ := trodAll_cons r0
  obtain ⟨v2, vs2, d2, ds2, p2, q2, rfl, rfl, rfl, h2, r2⟩ := trodAll_cons r1
  obtain ⟨v3, vs3, d3, ds3, p3, q3, rfl, rfl, rfl, h3, r3⟩ := trodAll_cons r2
  obtain ⟨v4, vs4, d4, ds4, p4, q4, rfl, rfl, rfl, h4, r4⟩ := trodAll_cons r3
  obtain ⟨rfl, rfl, rfl⟩ := trodAll_nil r4
  exact ⟨v0, v1, v2, v3, v4, d0, d1, d2, d3, d4, p0, p1, p2, p3, p4, by cases args; simp_all, rfl, by simp, h0, h1, h2, h3, h4⟩
theorem trodAll_six {t0 t1 t2 t3 t4 t5 : TypeId} {args : Array Value} {ds : List (DataW H)} {ps : List MemPlace} (h : DataW.TrodAll enc P w base spare held [t0, t1, t2, t3, t4, t5] args.toList ds ps) :
    ∃ v0 v1 v2 v3 v4 v5 d0 d1 d2 d3 d4 d5 p0 p1 p2 p3 p4 p5, args = #[v0, v1, v2, v3, v4, v5] ∧ ds = [d0, d1, d2, d3, d4, d5] ∧ ps = p0 ++ p1 ++ p2 ++ p3 ++ p4 ++ p5 ∧ DataW.Trod enc P w base spare held t0 v0 d0 p0 ∧ DataW.Trod enc P w base spare held t1 v1 d1 p1 ∧ DataW.Trod enc P w base spare held t2 v2 d2 p2 ∧ DataW.Trod enc P w base spare held t3 v3 d3 p3 ∧ DataW.Trod enc P w base spare held t4 v4 d4 p4 ∧ DataW.Trod enc P w base spare held t5 v5 d5 p5 := by
  obtain ⟨v0, vs0, d0, ds0, p0, q0, hargs, rfl, rfl, h0, r0⟩ := trodAll_cons h
  obtain ⟨v1, vs1, d1, ds1, p1, q1, rfl, rfl, rfl, h1, r1⟩ := trodAll_cons r0
  obtain ⟨v2, vs2, d2, ds2, p2, q2, rfl, rfl, rfl, h2, r2⟩ := trodAll_cons r1
  obtain ⟨v3, vs3, d3, ds3, p3, q3, rfl, rfl, rfl, h3, r3⟩ := trodAll_cons r2
  obtain ⟨v4, vs4, d4, ds4, p4, q4, rfl, rfl, rfl, h4, r4⟩ := trodAll_cons r3
  obtain ⟨v5, vs5, d5, ds5, p5, q5, rfl, rfl, rfl, h5, r5⟩ := trodAll_cons r4
  obtain ⟨rfl, rfl, rfl⟩ := trodAll_nil r5
  exact ⟨v0, v1, v2, v3, v4, v5, d0, d1, d2, d3, d4, d5, p0, p1, p2, p3, p4, p5, by cases args; simp_all, rfl, by simp, h0, h1, h2, h3, h4, h5⟩
theorem trodAll_mk5 {t0 t1 t2 t3 t4 : TypeId} {v0 v1 v2 v3 v4 : Value} {d0 d1 d2 d3 d4 : DataW H} {p0 p1 p2 p3 p4 : List MemPlace} (h0 : DataW.Trod enc P w base spare held t0 v0 d0 p0) (h1 : DataW.Trod enc P w base spare held t1 v1 d1 p1)
    (h2 : DataW.Trod enc P w base spare held t2 v2 d2 p2) (h3 : DataW.Trod enc P w base spare held t3 v3 d3 p3) (h4 : DataW.Trod enc P w base spare held t4 v4 d4 p4) : DataW.TrodAll enc P w base spare held [t0, t1, t2, t3, t4] [v0, v1, v2, v3, v4] [d0, d1, d2, d3, d4] (p0 ++ (p1 ++ (p2 ++ (p3 ++ p4)))) := ⟨p0, p1 ++ (p2 ++ (p3 ++ p4)), h0, trodAll_mk4 h1 h2 h3 h4, rfl⟩
theorem trodAll_mk6 {t0 t1 t2 t3 t4 t5 : TypeId} {v0 v1 v2 v3 v4 v5 : Value} {d0 d1 d2 d3 d4 d5 : DataW H} {p0 p1 p2 p3 p4 p5 : List MemPlace} (h0 : DataW.Trod enc P w base spare held t0 v0 d0 p0) (h1 : DataW.Trod enc P w base spare held t1 v1 d1 p1)
    (h2 : DataW.Trod enc P w base spare held t2 v2 d2 p2) (h3 : DataW.Trod enc P w base spare held t3 v3 d3 p3) (h4 : DataW.Trod enc P w base spare held t4 v4 d4 p4) (h5 : DataW.Trod enc P w base spare held t5 v5 d5 p5) : DataW.TrodAll enc P w base spare held [t0, t1, t2, t3, t4, t5] [v0, v1, v2, v3, v4, v5] [d0, d1, d2, d3, d4, d5] (p0 ++ (p1 ++ (p2 ++ (p3 ++ (p4 ++ p5))))) := ⟨p0, p1 ++ (p2 ++ (p3 ++ (p4 ++ p5))), h0, trodAll_mk5 h1 h2 h3 h4 h5, rfl⟩
end

section
variable {H : Type} {enc : TypeId × Value → H} {w : World}
set_option maxRecDepth 100000 in
/-- A law's argument that is a slice of numbers, opened. -/
theorem intsarg_open {r : Reach} {b0 : Nat} {v : Value} {d : DataW H} {p : List MemPlace} (hv : Value.okWide Try.prog w r b0 26 v) (h : DataW.Trod enc Try.prog w 0 (fun _ => true) true 26 v d p) :
    ∃ (A : Option Addr) (cap : Nat) (l : List Int), v = .slice A l.length cap ∧ IAt w A l ∧ l.length ≤ maxLen := by
  obtain ⟨a, len, cp, rfl⟩ := okWide_slice Try.underlying26 hv
  obtain ⟨fuel, h⟩ := h
  rcases open_slice Try.underlying26 h with ⟨hcs, _⟩ | ⟨a', len', cap', m, n, D, Pl, hcs, _, hl, hm, hmm, _, hi⟩
  · injection hcs with hcs
    injection hcs with h1 h2 h3
    subst h1 h2 h3
    exact ⟨none, 0, [], rfl, .inl rfl, by simp⟩
  · injection hcs with hcs
    injection hcs with h1 h2 h3
    subst h1 h2 h3
    have hm' : len ≤ m := by rw [hmm]; split <;> omega
    have hq : ∀ i, ∃ x : Int, i < len → w.cell? (a'.add i) = some (iv x) := by
      intro i
      by_cases hil : i < len
      · obtain ⟨cs', hc, ht⟩ := hi i (by omega)
        rw [intsOne] at hc
        obtain ⟨h4, _, hat⟩ := World.cells?_some hc
        match cs', h4 with
        | [c], _ =>
          obtain ⟨x, e, _⟩ := DataW.trod_int (cs := [c]) Try.underlying3 ht
          injection e with e
          refine ⟨x, fun _ => ?_⟩
          have := hat 0 (by simp)
          rw [e] at this
          simpa [Addr.add] using this
      · exact ⟨0, fun h => absurd h hil⟩
    obtain ⟨f, hf⟩ := Classical.axiomOfChoice hq
    have hlen : ((List.range len).map f).length = len := by simp
    refine ⟨some a', cp, (List.range len).map f, by rw [hlen], ?_, by rw [hlen]; omega⟩
    by_cases h0 : len = 0
    · subst h0; exact .inl rfl
    · obtain ⟨b, off, spot⟩ := a'
      have hspot : spot = none := by
        have := hf 0 (by omega)
        simpa [Addr.add] using World.cell?_spot this
      subst hspot
      have hbl : b < w.heap.size := by
        have := World.block_lt_of_cell? w _ (hf 0 (by omega))
        rw [add_plus] at this
        exact this
      refine .inr ⟨b, off, rfl, hbl, fun i hi' => ?_⟩
      rw [hlen] at hi'
      have e : ((List.range len).map f).getD i 0 = f i := by simp [List.getD, hi']
      have := hf i hi'
      rw [add_plus] at this
      rw [e]; exact this
end
end Go.Proofs.Ytbljmibaemgfeaa.S2

namespace Go.Proofs.Ytbljmibaemgfeaa.S2
open Go.RowKit Go.Sort P2 P4

def bv (k : Nat) : Int := ((2 ^ (9 - k) : Nat) : Int)
theorem pow_lt (k : Nat) : 2 ^ (9 - k) < 1024 := Nat.lt_of_lt_of_le (Nat.pow_lt_pow_right (by omega) (show 9 - k < 10 by omega)) (Nat.le_refl _)
theorem bv_bd (k : Nat) : 1 ≤ bv k ∧ bv k ≤ 512 := by
  unfold bv
  have h1 := Nat.two_pow_pos (9 - k)
  have h2 : 2 ^ (9 - k) ≤ 2 ^ 9 := Nat.pow_le_pow_right (by omega) (by omega)
  omega
theorem bit_any (k : Nat) (hk : k < 10) (w : World) : Calls Try.prog 160 #[.int .i64 (k : Int)] w fun e w' => e = .returned (.int .u64 (bv k)) ∧ w' = w := by
  have h : k = 0 ∨ k = 1 ∨ k = 2 ∨ k = 3 ∨ k = 4 ∨ k = 5 ∨ k = 6 ∨ k = 7 ∨ k = 8 ∨ k = 9 := by omega
  clear hk
  rcases h with rfl | rfl | rfl | rfl | rfl | rfl | rfl | rfl | rfl | rfl
  all_goals
    go_enter Try.func160, Try.ntmps160
    go_wp2
    go_ret
    exact ⟨rfl, rfl⟩
theorem and_pow (C i : Nat) : C &&& 2 ^ i = if C.testBit i then 2 ^ i else 0 := by
  apply Nat.eq_of_testBit_eq
  intro j
  rw [Nat.testBit_and, Nat.testBit_two_pow]
  by_cases e : i = j
  · subst e
    cases h : C.testBit i <;> simp
  · cases h : C.testBit i
    · simp [e]
    · simp [e]
theorem and_bit (C k : Nat) (hC : C < 1024) : bits .and .u64 (C : Int) (bv k) = if bitC C k then bv k else 0 := by
  unfold bv bitC
  rw [bits_and_u64_nat C (2 ^ (9 - k)) (by omega) (by have := pow_lt k; omega), and_pow]
  cases C.testBit (9 - k) <;> simp
theorem or_bit (C k : Nat) (hC : C < 1024) : bits .or .u64 (C : Int) (bv k) = ((C ||| 2 ^ (9 - k) : Nat) : Int) := by
  unfold bv
  exact bits_or_u64_nat C (2 ^ (9 - k)) (by omega) (by have := pow_lt k; omega)
theorem allC_succ (vs : List Vv) (k : Nat) : allC vs (k + 1) = if (vAt vs k).sh then allC vs k else allC vs k ||| 2 ^ (9 - k) := by
  unfold allC
  rw [orTo]
  cases (vAt vs k).sh <;> simp

set_option maxHeartbeats 2000000 in
theorem openv_any (A : Option Addr) (cap : Nat) (vs : List Vv) (w : World) (h : VAt w A vs) (hl : vs.length ≤ 10) :
    Calls Try.prog 105 #[.slice A vs.length cap] w fun e w' => e = .returned (.int .u64 (allC vs vs.length : Int)) ∧ Below w.heap.size w w' := by
  have HA := Lib.hid h
  clear h
  go_enter Try.func105, Try.ntmps105
  go_wp2
  go_loopw [3, 8] (fun v i wr => ∃ k : Nat, k ≤ vs.length ∧ i = .int .i64 (k : Int) ∧ v = .int .u64 (allC vs k : Int) ∧ Hid (Below w.heap.size w wr)) (fun _ i _ => vs.length - (intOf i).toNat)
  case atStart => exact ⟨0, Nat.zero_le _, rfl, rfl, Lib.hid (Below.refl _ _)⟩
  case round =>
    obtain ⟨k, hk, rfl, rfl, hb⟩ := hrel
    by_cases hlt : k < vs.length
    · obtain ⟨b, off, hA, hbl, h0, h1, h2, h3⟩ := (HA.out.kept hb.out (Nat.le_refl _)).at_ hlt
      subst hA
      have hk0 : (0 : Int) ≤ (k : Int) := by omega
      have hkn : (k : Int) < (vs.length : Int) := by omega
      have hzr := hb.out.size
      have HST := Lib.hid (allC_succ vs k)
      have HM := Lib.hid (orTo_lt (fun i => !(vAt vs i).sh) k)
      have HB := Lib.hid (fun w => bit_any k (by omega) w)
      obtain ⟨M, hM⟩ : ∃ M, M = allC vs k := ⟨_, rfl⟩
      have HM2 := Lib.hid (show M < 1024 from by rw [hM]; exact HM.out)
      rw [← hM] at HST ⊢
      clear hM HM
      generalize vAt vs k = v at *
      obtain ⟨id, pp, nd, sh⟩ := v
      dsimp only at h0 h1 h2 h3
      have hB3 := Lib.hid (hb.out.alloc hzr (.cells #[.int .i64 id, .int .i64 pp, .int .i64 nd, .bool sh] 60))
      cases sh with
      | true =>
        have HN := Lib.hid (show allC vs (k + 1) = M by rw [HST.out]; rfl)
        clear HST
        go_wp2
        go_roundw
        case rel => exact ⟨k + 1, by omega, by go_num, by rw [HN.out], hB3⟩
        case measure => simp [intOf]; omega
      | false =>
        have HN := Lib.hid (show allC vs (k + 1) = M ||| 2 ^ (9 - k) by rw [HST.out]; rfl)
        clear HST
        go_wp2_with (go_at_call 160; refine (HB.out _).mono ?_; rintro e w1 ⟨rfl, hw⟩; replace hw := hw.symm; subst hw)
        go_roundw
        case rel => exact ⟨k + 1, by omega, by go_num, by rw [HN.out, ← or_bit M k HM2.out], hB3⟩
        case measure => simp [intOf]; omega
    · have e : k = vs.length := by omega
      subst e
      go_wp2
      go_ret
      exact ⟨rfl, hb.out⟩

/-- The ids of the chosen ones of the first k. -/
def idsTo (vs : List Vv) (C k : Nat) : List Int := (chTo vs C k).map (·.id)
theorem idsTo_succ (vs : List Vv) (C k : Nat) (h : k < vs.length) : idsTo vs C (k + 1) = if bitC C k then idsTo vs C k ++ [(vAt vs k).id] else idsTo vs C k := by
  unfold idsTo
  rw [chTo_succ vs C k h]
  split <;> simp
theorem idsTo_all (vs : List Vv) (C k : Nat) (h : vs.length ≤ k) : idsTo vs C k = idsC vs C := by unfold idsTo idsC; rw [chTo_all vs C k h]
theorem idsTo_len (vs : List Vv) (C k : Nat) : (idsTo vs C k).length ≤ k := by unfold idsTo; rw [List.length_map]; exact chTo_len vs C k

set_option maxHeartbeats 4000000 in
set_option maxRecDepth 100000 in
theorem idsof_any (A : Option Addr) (cap : Nat) (vs : List Vv) (C : Nat) (w : World) (h : VAt w A vs) (hl : vs.length ≤ 10) (hC : C < 1024) :
    Calls Try.prog 147 #[.slice A vs.length cap, .int .u64 (C : Int)] w (GivesN w (idsC vs C)) := by
  have HA := Lib.hid h
  obtain ⟨i0, hi0, hz0, hz1, hz2⟩ := info_parts infoI
  clear h
  have HO0 := Lib.hid (own_empty w w.heap.size (Nat.le_refl _))
  have HB0 := Lib.hid (show Below w.heap.size w (w.alloc (.cells #[] 3)) from (Below.refl _ _).alloc (Nat.le_refl _) _)
  go_enter Try.func147, Try.ntmps147
  go_wp2_with fail
  go_loopw [5, 11] (fun v i wr => ∃ m : Nat, m ≤ vs.length ∧ i = .int .i64 (m : Int) ∧ Hid (IOwn wr w.heap.size v (idsTo vs C m)) ∧ Hid (v ≠ .slice none 0 0) ∧ Hid (Below w.heap.size w wr)) (fun _ i _ => vs.length - (intOf i).toNat)
  case atStart => exact ⟨0, by omega, rfl, HO0, Lib.hid (by simp), HB0⟩
  case round =>
    clear HO0 HB0
    obtain ⟨m, hmN, rfl, hown, hvn, hb⟩ := hrel
    have hz := hb.out.size
    by_cases hlt : m < vs.length
    · obtain ⟨b, off, hA, hbl, h0, h1, h2, h3⟩ := (HA.out.kept hb.out (Nat.le_refl _)).at_ hlt
      subst hA
      have hm0 : (0 : Int) ≤ (m : Int) := by omega
      have hmn : (m : Int) < (vs.length : Int) := by omega
      have HST := Lib.hid (idsTo_succ vs C m hlt)
      have HB := Lib.hid (fun w => bit_any m (by omega) w)
      have HAB := Lib.hid (and_bit C m hC)
      have hil := idsTo_len vs C m
      generalize vAt vs m = v at *
      obtain ⟨id, pp, nd, sh⟩ := v
      dsimp only at h0 h1 h2 h3
      cases hs : bitC C m with
      | true =>
        have HN := Lib.hid (show idsTo vs C (m + 1) = idsTo vs C m ++ [id] by rw [HST.out, if_pos hs])
        have hv1 := bv_bd m
        have hne : (bits .and .u64 (C : Int) (bv m) != 0) = true := by rw [HAB.out, if_pos hs, bne_iff_ne]; omega
        clear hv1
        have ho := hown.out
        unfold IOwn at ho
        clear hs HST HAB
        go_wp2_with (first
          | (go_at_call 160; refine (HB.out _).mono ?_; rintro e w1 ⟨rfl, hw⟩; replace hw := hw.symm; subst hw)
          | (at_builtin; go_must (refine wpList_append_own _ rfl _ _ 26 rfl w.heap.size 3 i0 (.int .i64 0) 1 8 Try.underlying26 hi0 hz0 hz1 hz2 rfl (by decide) _ _ _ rfl ((ho.alloc _).alloc _) ⟨wr.heap.size + 1, 0, none⟩ 1 1 [iv id] rfl rfl (cell_newP _ _ _ _) ?d2 ?d3 ?d4 ?d5 ?_)))
        case d2 => intro u hu; simp at hu; subst hu; rfl
        case d3 => unfold maxLen; omega
        case d4 => omega
        case d5 => simp; omega
        intro v' w3 hown' hgrow hnil
        have hown3 := Lib.hid (IOwn.push hown')
        rw [← HN.out] at hown3
        have hB3 := Lib.hid (((hb.out.alloc (by omega) _).alloc (by simp; omega) _).grown hgrow (by simp; omega) (fun g hg => (ho.lt g hg).1))
        have hvn3 := Lib.hid (show v' ≠ .slice none 0 0 from fun e => hnil e)
        clear hown' hgrow hnil ho
        go_wp2_with fail
        go_roundw
        case rel => exact ⟨m + 1, by omega, by go_num, hown3, hvn3, hB3⟩
        case measure => simp [intOf]; omega
      | false =>
        have HN := Lib.hid (show idsTo vs C (m + 1) = idsTo vs C m by rw [HST.out, if_neg (by rw [hs]; simp)])
        have hne : (bits .and .u64 (C : Int) (bv m) != 0) = false := by rw [HAB.out, if_neg (by rw [hs]; simp)]; rfl
        have hown3 := Lib.hid (show IOwn (wr.alloc (.cells #[.int .i64 id, .int .i64 pp, .int .i64 nd, .bool sh] 60)) w.heap.size _ (idsTo vs C (m + 1)) from by rw [HN.out]; exact hown.out.on ((Below.refl _ _).alloc (Nat.le_refl _) _))
        have hB3 := Lib.hid (hb.out.alloc (by omega) (.cells #[.int .i64 id, .int .i64 pp, .int .i64 nd, .bool sh] 60))
        clear hs HST HAB hown HN
        go_wp2_with (go_at_call 160; refine (HB.out _).mono ?_; rintro e w1 ⟨rfl, hw⟩; replace hw := hw.symm; subst hw)
        go_roundw
        case rel => exact ⟨m + 1, by omega, by go_num, hown3, hvn, hB3⟩
        case measure => simp [intOf]; omega
    · have hfin := idsTo_all vs C m (by omega)
      rw [hfin] at hown
      obtain ⟨g, capg, rfl, hg⟩ := own_slice hown.out hvn.out
      clear hfin
      go_wp2_with fail
      go_ret
      exact ⟨g, capg, rfl, hg, hown.out, hb.out⟩
end Go.Proofs.Ytbljmibaemgfeaa.S2
