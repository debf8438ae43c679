/- Plain facts on valves and segments (chapter 4); no program in them. No conditions. -/
import Derived.Test.YtbljmibaemgfeaaNetOne
import Derived.Lib.Hide
namespace Go.Proofs.Ytbljmibaemgfeaa.P4
open P2

/-- A valve. -/
structure Vv where
  id : Int
  pp : Int
  nd : Int
  sh : Bool
deriving DecidableEq, Inhabited

def vAt (vs : List Vv) (i : Nat) : Vv := vs.getD i ⟨0, 0, 0, false⟩
theorem vAt_get (vs : List Vv) (i : Nat) (h : i < vs.length) : vs[i]? = some (vAt vs i) := by
  unfold vAt; simp [List.getD, h]
theorem vAt_take (vs : List Vv) (i m : Nat) (h : m < i) : vAt (vs.take i) m = vAt vs m := by
  unfold vAt; simp [List.getD, h]

/-- One of the valves sits in this pipe at this node. -/
def hasV (vs : List Vv) (p n : Int) : Bool := vs.any fun v => decide (v.pp = p ∧ v.nd = n)
theorem hasV_iff (vs : List Vv) (p n : Int) : hasV vs p n = true ↔ ∃ m, m < vs.length ∧ (vAt vs m).pp = p ∧ (vAt vs m).nd = n := by
  unfold hasV
  rw [List.any_eq_true]
  constructor
  · rintro ⟨v, hv, h⟩
    obtain ⟨m, hm⟩ := List.getElem?_of_mem hv
    have hl : m < vs.length := (List.getElem?_eq_some_iff.1 hm).1
    rw [vAt_get vs m hl] at hm
    injection hm with hm
    rw [← hm] at h
    exact ⟨m, hl, by simpa using h⟩
  · rintro ⟨m, hm, h⟩
    exact ⟨vAt vs m, List.mem_of_getElem? (vAt_get vs m hm), by simpa using h⟩
theorem hasV_no (vs : List Vv) (p n : Int) : hasV vs p n = false ↔ ∀ m, m < vs.length → ¬ ((vAt vs m).pp = p ∧ (vAt vs m).nd = n) := by
  constructor
  · intro h m hm hc
    have := (hasV_iff vs p n).2 ⟨m, hm, hc⟩
    rw [h] at this; cases this
  · intro h
    cases e : hasV vs p n with
    | false => rfl
    | true =>
      obtain ⟨m, hm, hc⟩ := (hasV_iff vs p n).1 e
      exact absurd hc (h m hm)

/-- The valve alone is fine. -/
def Fit (ps : List Pp) (v : Vv) : Prop := 1 ≤ v.id ∧ v.id ≤ 99 ∧ ∃ k, k < ps.length ∧ (pAt ps k).id = v.pp ∧ ((pAt ps k).fr = v.nd ∨ (pAt ps k).to = v.nd)
open Classical in
noncomputable def fitB (ps : List Pp) (v : Vv) : Bool := decide (Fit ps v)
/-- The valve at i is fine behind those before it. -/
def VOk (ps : List Pp) (vs : List Vv) (i : Nat) : Prop := Fit ps (vAt vs i) ∧ (0 < i → (vAt vs (i - 1)).id < (vAt vs i).id) ∧ hasV (vs.take i) (vAt vs i).pp (vAt vs i).nd = false
def VTo (ps : List Pp) (vs : List Vv) (k : Nat) : Prop := ∀ i, i < k → VOk ps vs i
theorem VTo.zero (ps : List Pp) (vs : List Vv) : VTo ps vs 0 := fun i h => absurd h (by omega)
theorem VTo.next {ps : List Pp} {vs : List Vv} {k : Nat} (h : VTo ps vs k) (hk : VOk ps vs k) : VTo ps vs (k + 1) := by
  intro i hi
  by_cases e : i = k
  · subst e; exact hk
  · exact h i (by omega)

/-- The network and its valves are valid. -/
def Good (n : Int) (ps : List Pp) (vs : List Vv) : Prop := P2.Good n ps ∧ vs.length ≤ 10 ∧ VTo ps vs vs.length
open Classical in
noncomputable def goodV (n : Int) (ps : List Pp) (vs : List Vv) : Bool := decide (Good n ps vs)
theorem goodV_of {n : Int} {ps : List Pp} {vs : List Vv} (h : goodV n ps vs = true) : Good n ps vs := by simpa [goodV] using h
theorem goodV_mk {n : Int} {ps : List Pp} {vs : List Vv} (h : Good n ps vs) : goodV n ps vs = true := by simpa [goodV] using h
theorem goodV_no {n : Int} {ps : List Pp} {vs : List Vv} (h : ¬ Good n ps vs) : goodV n ps vs = false := by simpa [goodV] using h
theorem VTo.bad {n : Int} {ps : List Pp} {vs : List Vv} {k : Nat} (hk : k < vs.length) (hb : ¬ VOk ps vs k) : ¬ Good n ps vs := fun h => hb (h.2.2 k hk)

/-! ### Connected elements: the node v is v, the pipe at place i is 9 + i -/
/-- The pipe at place i and the node v are joined. -/
def Jn (ps : List Pp) (vs : List Vv) (i v : Nat) : Prop := i < ps.length ∧ ((pAt ps i).fr = (v : Int) ∨ (pAt ps i).to = (v : Int)) ∧ hasV vs (pAt ps i).id (v : Int) = false
/-- Connected with one of S. -/
inductive Co (ps : List Pp) (vs : List Vv) (S : Nat → Bool) : Nat → Prop
  | base {e : Nat} : S e = true → Co ps vs S e
  | fwd {i v : Nat} : Co ps vs S (9 + i) → Jn ps vs i v → Co ps vs S v
  | bwd {i v : Nat} : Co ps vs S v → Jn ps vs i v → Co ps vs S (9 + i)
open Classical in
noncomputable def coB (ps : List Pp) (vs : List Vv) (S : Nat → Bool) : Nat → Bool := fun e => decide (Co ps vs S e)
theorem coB_iff {ps : List Pp} {vs : List Vv} {S : Nat → Bool} {e : Nat} : coB ps vs S e = true ↔ Co ps vs S e := by simp [coB]
theorem co_closed {ps : List Pp} {vs : List Vv} {S s : Nat → Bool} (h0 : ∀ e, S e = true → s e = true) (hc : ∀ i v, Jn ps vs i v → s (9 + i) = s v) : ∀ e, Co ps vs S e → s e = true := by
  intro e h
  induction h with
  | base h => exact h0 _ h
  | fwd _ hj ih => rw [← hc _ _ hj]; exact ih
  | bwd _ hj ih => rw [hc _ _ hj]; exact ih
theorem coB_closed {ps : List Pp} {vs : List Vv} {S : Nat → Bool} {i v : Nat} (h : Jn ps vs i v) : coB ps vs S (9 + i) = coB ps vs S v := by
  rw [Bool.eq_iff_iff, coB_iff, coB_iff]
  exact ⟨fun h1 => .fwd h1 h, fun h1 => .bwd h1 h⟩
theorem co_is {ps : List Pp} {vs : List Vv} {S s : Nat → Bool} (h0 : ∀ e, S e = true → s e = true) (h1 : ∀ e, s e = true → Co ps vs S e) (hc : ∀ i v, Jn ps vs i v → s (9 + i) = s v) (e : Nat) : s e = coB ps vs S e := by
  rw [Bool.eq_iff_iff, coB_iff]
  exact ⟨h1 e, co_closed h0 hc e⟩
theorem Co.mono {ps : List Pp} {vs : List Vv} {S T : Nat → Bool} (h : ∀ e, S e = true → Co ps vs T e) : ∀ e, Co ps vs S e → Co ps vs T e := by
  intro e h1
  induction h1 with
  | base h1 => exact h _ h1
  | fwd _ hj ih => exact .fwd ih hj
  | bwd _ hj ih => exact .bwd ih hj
/-- One element alone. -/
def one (e : Nat) : Nat → Bool := fun x => decide (x = e)
theorem co_symm {ps : List Pp} {vs : List Vv} {a b : Nat} (h : Co ps vs (one a) b) : Co ps vs (one b) a := by
  have key : ∀ c, Co ps vs (one a) c → ∀ d, Co ps vs (one d) c → Co ps vs (one d) a := by
    intro c hc
    induction hc with
    | base h =>
      intro d hd
      have e : _ = a := of_decide_eq_true h
      rw [← e]; exact hd
    | fwd _ hj ih => intro d hd; exact ih d (.bwd hd hj)
    | bwd _ hj ih => intro d hd; exact ih d (.fwd hd hj)
  exact key b h b (.base (by simp [one]))
theorem co_one {ps : List Pp} {vs : List Vv} {S : Nat → Bool} {b : Nat} (h : Co ps vs S b) : ∃ a, S a = true ∧ Co ps vs (one a) b := by
  induction h with
  | @base e h => exact ⟨e, h, .base (by simp [one])⟩
  | fwd _ hj ih => obtain ⟨a, ha, h⟩ := ih; exact ⟨a, ha, .fwd h hj⟩
  | bwd _ hj ih => obtain ⟨a, ha, h⟩ := ih; exact ⟨a, ha, .bwd h hj⟩
theorem co_of {ps : List Pp} {vs : List Vv} {S : Nat → Bool} {a b : Nat} (ha : S a = true) (h : Co ps vs (one a) b) : Co ps vs S b :=
  Co.mono (fun e he => by have e1 : e = a := of_decide_eq_true he; subst e1; exact .base ha) b h

/-! ### Sets of elements -/
def upd (s : Nat → Bool) (e : Nat) (b : Bool) : Nat → Bool := fun x => if x = e then b else s x
theorem upd_at (s : Nat → Bool) (e : Nat) (b : Bool) : upd s e b e = b := by simp [upd]
theorem upd_ne (s : Nat → Bool) {e x : Nat} (b : Bool) (h : x ≠ e) : upd s e b x = s x := by simp [upd, h]
def eq19 (s t : Nat → Bool) : Bool := (List.range 19).all fun e => s e == t e
theorem eq19_iff (s t : Nat → Bool) : eq19 s t = true ↔ ∀ e, e < 19 → s e = t e := by simp [eq19]
theorem eq19_no (s t : Nat → Bool) (h : eq19 s t = false) : ¬ ∀ e, e < 19 → s e = t e := fun h2 => by rw [(eq19_iff s t).2 h2] at h; cases h
def num (s : Nat → Bool) : Nat := (List.range 19).countP s
theorem num_le (s : Nat → Bool) : num s ≤ 19 := by
  have := List.countP_le_length (p := s) (l := List.range 19)
  simpa [num] using this
theorem countP_lt {α : Type} {p q : α → Bool} : ∀ {l : List α}, (∀ x ∈ l, p x = true → q x = true) → (∃ x ∈ l, p x = false ∧ q x = true) → l.countP p < l.countP q
  | [], _, ⟨x, hx, _⟩ => by cases hx
  | y :: l, h, ⟨x, hx, h1, h2⟩ => by
    have hle : l.countP p ≤ l.countP q := List.countP_mono_left (fun z hz => h z (by simp [hz]))
    rw [List.countP_cons, List.countP_cons]
    rcases List.mem_cons.1 hx with e | hx
    · subst e; rw [h1, h2]; simp; omega
    · have := countP_lt (l := l) (fun z hz => h z (by simp [hz])) ⟨x, hx, h1, h2⟩
      by_cases hp : p y = true
      · have := h y (by simp) hp; simp [hp, this]; omega
      · simp only [hp]; split <;> split <;> simp_all <;> omega
theorem num_lt {s t : Nat → Bool} (h : ∀ e, s e = true → t e = true) (h2 : ∃ e, e < 19 ∧ s e = false ∧ t e = true) : num s < num t :=
  countP_lt (fun x _ => h x) (by obtain ⟨e, he, h3⟩ := h2; exact ⟨e, List.mem_range.2 he, h3⟩)

/-- What a round of the search has: s0 when it began, s now, the pipes before k and, of the pipe k, its first end where half holds, passed. -/
structure Rd (ps : List Pp) (vs : List Vv) (S s0 s : Nat → Bool) (k : Nat) (half : Bool) : Prop where
  sub0 : ∀ e, S e = true → s0 e = true
  sub : ∀ e, s0 e = true → s e = true
  con : ∀ e, s e = true → Co ps vs S e
  or : (∃ e, e < 19 ∧ s0 e = false ∧ s e = true) ∨ ((∀ e, s e = s0 e) ∧ (∀ i v, i < k → Jn ps vs i v → s (9 + i) = s v) ∧ (half = true → ∀ v, Jn ps vs k v → (pAt ps k).fr = (v : Int) → s (9 + k) = s v))
theorem Rd.start {ps : List Pp} {vs : List Vv} {S s : Nat → Bool} (h0 : ∀ e, S e = true → s e = true) (h1 : ∀ e, s e = true → Co ps vs S e) : Rd ps vs S s s 0 false :=
  ⟨h0, fun _ h => h, h1, .inr ⟨fun _ => rfl, fun _ _ h => absurd h (by omega), fun h => by cases h⟩⟩
theorem Rd.skip1 {ps : List Pp} {vs : List Vv} {S s0 s : Nat → Bool} {k v : Nat} (r : Rd ps vs S s0 s k false) (hv : (pAt ps k).fr = (v : Int)) (h : s (9 + k) = s v ∨ hasV vs (pAt ps k).id (v : Int) = true) : Rd ps vs S s0 s k true := by
  refine ⟨r.sub0, r.sub, r.con, ?_⟩
  rcases r.or with h1 | ⟨h1, h2, _⟩
  · exact .inl h1
  · refine .inr ⟨h1, h2, fun _ u hj hu => ?_⟩
    have e : u = v := by omega
    subst e
    rcases h with h | h
    · exact h
    · rw [hj.2.2] at h; cases h
theorem Rd.skip2 {ps : List Pp} {vs : List Vv} {S s0 s : Nat → Bool} {k v : Nat} (r : Rd ps vs S s0 s k true) (hv : (pAt ps k).to = (v : Int)) (h : s (9 + k) = s v ∨ hasV vs (pAt ps k).id (v : Int) = true) : Rd ps vs S s0 s (k + 1) false := by
  refine ⟨r.sub0, r.sub, r.con, ?_⟩
  rcases r.or with h1 | ⟨h1, h2, h3⟩
  · exact .inl h1
  · refine .inr ⟨h1, fun i u hi hj => ?_, fun h => by cases h⟩
    by_cases e : i = k
    · subst e
      rcases hj.2.1 with hu | hu
      · exact h3 rfl u hj hu
      · have e : u = v := by omega
        subst e
        rcases h with h | h
        · exact h
        · rw [hj.2.2] at h; cases h
    · exact h2 i u (by omega) hj
theorem Rd.both {ps : List Pp} {vs : List Vv} {S s0 s : Nat → Bool} {k v : Nat} {half : Bool} (r : Rd ps vs S s0 s k half) (hk : k < ps.length) (hk10 : k < 10) (hv9 : v < 9) (hv : (pAt ps k).fr = (v : Int) ∨ (pAt ps k).to = (v : Int)) (hne : s (9 + k) ≠ s v) (hh : hasV vs (pAt ps k).id (v : Int) = false) (k2 : Nat) (half2 : Bool) : Rd ps vs S s0 (upd (upd s (9 + k) true) v true) k2 half2 ∧ num s < num (upd (upd s (9 + k) true) v true) := by
  have hj : Jn ps vs k v := ⟨hk, hv, hh⟩
  have hco : Co ps vs S (9 + k) ∧ Co ps vs S v := by
    cases h1 : s (9 + k) with
    | true => exact ⟨r.con _ h1, .fwd (r.con _ h1) hj⟩
    | false =>
      have h2 : s v = true := by cases h2 : s v with | true => rfl | false => exact absurd (h1.trans h2.symm) hne
      exact ⟨.bwd (r.con _ h2) hj, r.con _ h2⟩
  have hsub : ∀ e, s e = true → upd (upd s (9 + k) true) v true e = true := by
    intro e he
    unfold upd
    split
    · rfl
    · split
      · rfl
      · exact he
  have hex : ∃ e, e < 19 ∧ s e = false ∧ upd (upd s (9 + k) true) v true e = true := by
    cases h1 : s (9 + k) with
    | false => exact ⟨9 + k, by omega, h1, by unfold upd; split <;> simp⟩
    | true =>
      have h2 : s v = false := by cases h2 : s v with | false => rfl | true => exact absurd (h1.trans h2.symm) hne
      exact ⟨v, by omega, h2, upd_at _ _ _⟩
  refine ⟨⟨r.sub0, fun e he => hsub e (r.sub e he), fun e he => ?_, .inl ?_⟩, num_lt hsub hex⟩
  · by_cases e1 : e = v
    · subst e1; exact hco.2
    · rw [upd_ne _ _ e1] at he
      by_cases e2 : e = 9 + k
      · subst e2; exact hco.1
      · rw [upd_ne _ _ e2] at he; exact r.con e he
  · obtain ⟨e, he, h1, h2⟩ := hex
    refine ⟨e, he, ?_, h2⟩
    cases h : s0 e with
    | false => rfl
    | true => rw [r.sub e h] at h1; cases h1
theorem Rd.done {ps : List Pp} {vs : List Vv} {S s0 s : Nat → Bool} (r : Rd ps vs S s0 s ps.length false) (h : eq19 s s0 = true) : ∀ e, s e = coB ps vs S e := by
  have h' := (eq19_iff s s0).1 h
  rcases r.or with ⟨e, he, h1, h2⟩ | ⟨h1, h2, _⟩
  · rw [h' e he, h1] at h2; cases h2
  · exact co_is (fun e he => r.sub e (r.sub0 e he)) r.con (fun i v hj => h2 i v hj.1 hj)
theorem Rd.again {ps : List Pp} {vs : List Vv} {S s0 s : Nat → Bool} {k : Nat} {half : Bool} (r : Rd ps vs S s0 s k half) (h : eq19 s s0 = false) : num s0 < num s := by
  have h' := eq19_no s s0 h
  rcases r.or with h1 | ⟨h1, _⟩
  · exact num_lt r.sub h1
  · exact absurd (fun e _ => h1 e) h'
theorem Rd.next {ps : List Pp} {vs : List Vv} {S s0 s : Nat → Bool} {k : Nat} {half : Bool} (r : Rd ps vs S s0 s k half) : Rd ps vs S s s 0 false :=
  Rd.start (fun e he => r.sub e (r.sub0 e he)) r.con

/-! ### What is told of a set -/
def nodesL (n : Nat) (s : Nat → Bool) (b : Bool) : List Int := ((List.range n).filter fun v => s (v + 1) == b).map fun v => ((v + 1 : Nat) : Int)
theorem nodesL_succ (k : Nat) (s : Nat → Bool) (b : Bool) : nodesL (k + 1) s b = if s (k + 1) = b then nodesL k s b ++ [((k + 1 : Nat) : Int)] else nodesL k s b := by
  unfold nodesL
  rw [List.range_succ, List.filter_append, List.map_append]
  by_cases h : s (k + 1) = b
  · simp [h]
  · simp [h]
theorem nodesL_len (k : Nat) (s : Nat → Bool) (b : Bool) : (nodesL k s b).length ≤ k := by
  unfold nodesL; rw [List.length_map]; exact Nat.le_trans (List.length_filter_le _ _) (by simp)
theorem nodesL_congr {k : Nat} {s t : Nat → Bool} {b : Bool} (h : ∀ e, s e = t e) : nodesL k s b = nodesL k t b := by
  have e : s = t := funext h
  rw [e]
theorem nodesL_mem {n : Nat} {s : Nat → Bool} {b : Bool} {y : Int} : y ∈ nodesL n s b ↔ ∃ v : Nat, y = (v : Int) ∧ 1 ≤ v ∧ v ≤ n ∧ s v = b := by
  unfold nodesL
  rw [List.mem_map]
  constructor
  · rintro ⟨v, hv, rfl⟩
    obtain ⟨h1, h2⟩ := List.mem_filter.1 hv
    have := List.mem_range.1 h1
    exact ⟨v + 1, rfl, by omega, by omega, by simpa using h2⟩
  · rintro ⟨v, rfl, h1, h2, h3⟩
    refine ⟨v - 1, List.mem_filter.2 ⟨List.mem_range.2 (by omega), ?_⟩, by omega⟩
    have e : v - 1 + 1 = v := by omega
    rw [e, h3]; simp
theorem range_sorted (n : Nat) : (List.range n).Pairwise (· < ·) := List.pairwise_lt_range
theorem nodesL_sorted (n : Nat) (s : Nat → Bool) (b : Bool) : (nodesL n s b).Pairwise (· < ·) := by
  unfold nodesL
  exact ((range_sorted n).filter _).map _ (fun x y h => by omega)
/-- The places of pipes. -/
def idxL (m : Nat) (s : Nat → Bool) (b : Bool) : List Int := ((List.range m).filter fun i => s (9 + i) == b).map fun i : Nat => (i : Int)
theorem idxL_succ (k : Nat) (s : Nat → Bool) (b : Bool) : idxL (k + 1) s b = if s (9 + k) = b then idxL k s b ++ [(k : Int)] else idxL k s b := by
  unfold idxL
  rw [List.range_succ, List.filter_append, List.map_append]
  by_cases h : s (9 + k) = b
  · simp [h]
  · simp [h]
theorem idxL_len (k : Nat) (s : Nat → Bool) (b : Bool) : (idxL k s b).length ≤ k := by
  unfold idxL; rw [List.length_map]; exact Nat.le_trans (List.length_filter_le _ _) (by simp)
theorem idxL_mem {m : Nat} {s : Nat → Bool} {b : Bool} {y : Int} : y ∈ idxL m s b ↔ ∃ i : Nat, y = (i : Int) ∧ i < m ∧ s (9 + i) = b := by
  unfold idxL
  rw [List.mem_map]
  constructor
  · rintro ⟨v, hv, rfl⟩
    obtain ⟨h1, h2⟩ := List.mem_filter.1 hv
    exact ⟨v, rfl, List.mem_range.1 h1, by simpa using h2⟩
  · rintro ⟨v, rfl, h1, h2⟩
    exact ⟨v, List.mem_filter.2 ⟨List.mem_range.2 h1, by simpa using h2⟩, rfl⟩
theorem idxL_sorted (n : Nat) (s : Nat → Bool) (b : Bool) : (idxL n s b).Pairwise (· < ·) := by
  unfold idxL
  exact ((range_sorted n).filter _).map _ (fun x y h => by omega)
/-- The Ids of pipes. -/
def pipesL (ps : List Pp) (k : Nat) (s : Nat → Bool) (b : Bool) : List Int := (idxL k s b).map fun y => (pAt ps y.toNat).id
theorem pipesL_succ (ps : List Pp) (k : Nat) (s : Nat → Bool) (b : Bool) : pipesL ps (k + 1) s b = if s (9 + k) = b then pipesL ps k s b ++ [(pAt ps k).id] else pipesL ps k s b := by
  unfold pipesL
  rw [idxL_succ]
  split
  · rw [List.map_append]; simp
  · rfl
theorem pipesL_len (ps : List Pp) (k : Nat) (s : Nat → Bool) (b : Bool) : (pipesL ps k s b).length ≤ k := by
  unfold pipesL; rw [List.length_map]; exact idxL_len k s b
end Go.Proofs.Ytbljmibaemgfeaa.P4
