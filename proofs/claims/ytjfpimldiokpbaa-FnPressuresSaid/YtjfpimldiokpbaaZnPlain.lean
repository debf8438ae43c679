/- Places, rules and levels: which level suits which place, the fewest levels, the zones, the best level: plain facts. Conditions: each theorem's own premises. -/
namespace Go.Proofs.Ytjfpimldiokpbaa.P12

/-- A rule is valid: least a, most b. -/
def rlB (a b : Int) : Bool := decide (1 ≤ a ∧ a ≤ b ∧ b ≤ 200)
theorem rlB_iff {a b : Int} : rlB a b = true ↔ 1 ≤ a ∧ a ≤ b ∧ b ≤ 200 := by unfold rlB; exact decide_eq_true_iff
def inR (a b x : Int) : Bool := decide (a ≤ x ∧ x ≤ b)
def allR (a b : Int) (l : List Int) : Bool := l.all fun x => inR a b x
/-- As many numbers as asked, all from a to b. -/
def amtB (l : List Int) (n a b : Int) : Bool := decide ((l.length : Int) = n) && allR a b l
theorem allR_at {a b : Int} {l : List Int} (h : allR a b l = true) {i : Nat} (hi : i < l.length) : a ≤ l.getD i 0 ∧ l.getD i 0 ≤ b := by
  unfold allR at h
  rw [List.all_eq_true] at h
  have := h _ (List.getElem_mem hi)
  have e : l.getD i 0 = l[i] := by simp [List.getD, hi]
  rw [e]
  simpa [inR] using this
theorem allR_mem {a b : Int} {l : List Int} (h : allR a b l = true) {x : Int} (hx : x ∈ l) : a ≤ x ∧ x ≤ b := by
  unfold allR at h
  rw [List.all_eq_true] at h
  simpa [inR] using h x hx
theorem allR_mk {a b : Int} {l : List Int} (h : ∀ j, j < l.length → inR a b (l.getD j 0) = true) : allR a b l = true := by
  unfold allR
  rw [List.all_eq_true]
  intro x hx
  obtain ⟨j, hj⟩ := List.getElem?_of_mem hx
  have hl := (List.getElem?_eq_some_iff.1 hj).1
  have := h j hl
  have e : l.getD j 0 = x := by simp [List.getD, hj]
  rwa [e] at this
theorem allR_no {a b : Int} {l : List Int} {k : Nat} (hk : k < l.length) (h : inR a b (l.getD k 0) = false) : allR a b l = false := by
  unfold allR
  rw [List.all_eq_false]
  exact ⟨l.getD k 0, by simp [List.getD, hk], by rw [h]; simp⟩
theorem inR_snoc {a b : Int} {l : List Int} {k : Nat} (h : ∀ j, j < k → inR a b (l.getD j 0) = true) (hx : inR a b (l.getD k 0) = true) : ∀ j, j < k + 1 → inR a b (l.getD j 0) = true := by
  intro j hj
  by_cases e : j = k
  · subst e; exact hx
  · exact h j (by omega)
/-- A list of places is valid. -/
def plB (l : List Int) : Bool := decide (l.length ≤ 12) && allR 0 1000 l
structure Pl (l : List Int) : Prop where
  n : l.length ≤ 12
  r : allR 0 1000 l = true
theorem plB_iff {l : List Int} : plB l = true ↔ Pl l := by
  unfold plB
  rw [Bool.and_eq_true, decide_eq_true_iff]
  exact ⟨fun ⟨h1, h2⟩ => ⟨h1, h2⟩, fun ⟨h1, h2⟩ => ⟨h1, h2⟩⟩
theorem Pl.at_ {l : List Int} (h : Pl l) {i : Nat} (hi : i < l.length) : 0 ≤ l.getD i 0 ∧ l.getD i 0 ≤ 1000 := allR_at h.r hi
theorem Pl.mem {l : List Int} (h : Pl l) {x : Int} (hx : x ∈ l) : 0 ≤ x ∧ x ≤ 1000 := allR_mem h.r hx
def askB (l : List Int) (a b : Int) : Bool := plB l && rlB a b
structure ZAsk (l : List Int) (a b : Int) : Prop extends Pl l where
  a1 : 1 ≤ a
  ab : a ≤ b
  b1 : b ≤ 200
theorem askB_iff {l : List Int} {a b : Int} : askB l a b = true ↔ ZAsk l a b := by
  unfold askB
  rw [Bool.and_eq_true, plB_iff, rlB_iff]
  exact ⟨fun ⟨h1, h2, h3, h4⟩ => ⟨h1, h2, h3, h4⟩, fun h => ⟨h.toPl, h.a1, h.ab, h.b1⟩⟩
def lvB (h : Int) : Bool := inR 0 2000 h
theorem lvB_iff {h : Int} : lvB h = true ↔ 0 ≤ h ∧ h ≤ 2000 := by unfold lvB inR; exact decide_eq_true_iff
/-- A level h suits a place x. -/
def suB (x a b h : Int) : Bool := decide (a ≤ h - x ∧ h - x ≤ b)
theorem suB_iff {x a b h : Int} : suB x a b h = true ↔ x + a ≤ h ∧ h ≤ x + b := by
  unfold suB; rw [decide_eq_true_iff]; omega
theorem suB_no {x a b h : Int} : suB x a b h = false ↔ ¬ (x + a ≤ h ∧ h ≤ x + b) := by
  rw [← suB_iff]; simp
/-- The first k places that a level suits. -/
def suF (l : List Int) (a b h : Int) : Nat → List Int
  | 0 => []
  | k + 1 => if suB (l.getD k 0) a b h = true then suF l a b h k ++ [(k : Int)] else suF l a b h k
theorem suF_yes {l : List Int} {a b h : Int} {k : Nat} (hs : suB (l.getD k 0) a b h = true) : suF l a b h (k + 1) = suF l a b h k ++ [(k : Int)] := by rw [suF, if_pos hs]
theorem suF_no {l : List Int} {a b h : Int} {k : Nat} (hs : suB (l.getD k 0) a b h = false) : suF l a b h (k + 1) = suF l a b h k := by rw [suF, if_neg (by rw [hs]; simp)]
theorem suF_len (l : List Int) (a b h : Int) : ∀ k, (suF l a b h k).length ≤ k
  | 0 => by simp [suF]
  | k + 1 => by
    have := suF_len l a b h k
    rw [suF]; split <;> simp <;> omega
theorem suF_mem {l : List Int} {a b h : Int} : ∀ {k : Nat} {x : Int}, x ∈ suF l a b h k ↔ ∃ i : Nat, i < k ∧ x = i ∧ suB (l.getD i 0) a b h = true
  | 0, x => by simp [suF]
  | k + 1, x => by
    rw [suF]
    split
    · rename_i hs
      rw [List.mem_append, suF_mem]
      constructor
      · rintro (⟨i, hi, e, h2⟩ | h2)
        · exact ⟨i, by omega, e, h2⟩
        · simp at h2; exact ⟨k, by omega, h2, hs⟩
      · rintro ⟨i, hi, e, h2⟩
        by_cases e2 : i = k
        · right; subst e2; simp [e]
        · left; exact ⟨i, by omega, e, h2⟩
    · rename_i hs
      rw [suF_mem]
      constructor
      · rintro ⟨i, hi, e, h2⟩; exact ⟨i, by omega, e, h2⟩
      · rintro ⟨i, hi, e, h2⟩
        by_cases e2 : i = k
        · subst e2; exact absurd h2 hs
        · exact ⟨i, by omega, e, h2⟩
def suL (l : List Int) (a b h : Int) : List Int := suF l a b h l.length
/-- How many places a level suits. -/
def cnt (l : List Int) (a b h : Int) : Nat := (suL l a b h).length
theorem cnt_le (l : List Int) (a b h : Int) : cnt l a b h ≤ l.length := suF_len l a b h l.length
theorem suF_mono {l : List Int} {a b h h' : Int} : ∀ {k : Nat}, (∀ i, i < k → suB (l.getD i 0) a b h = true → suB (l.getD i 0) a b h' = true) → (suF l a b h k).length ≤ (suF l a b h' k).length
  | 0, _ => by simp [suF]
  | k + 1, hm => by
    have ih := suF_mono (k := k) (fun i hi => hm i (by omega))
    cases hs : suB (l.getD k 0) a b h with
    | true =>
      rw [suF_yes hs, suF_yes (hm k (by omega) hs)]; simp; omega
    | false =>
      rw [suF_no hs]
      cases hs' : suB (l.getD k 0) a b h' with
      | true => rw [suF_yes hs']; simp; omega
      | false => rw [suF_no hs']; exact ih
theorem suF_all {l : List Int} {a b h : Int} : ∀ {k : Nat}, (suF l a b h k).length = k ↔ ∀ i, i < k → suB (l.getD i 0) a b h = true
  | 0 => by simp [suF]
  | k + 1 => by
    have hl := suF_len l a b h k
    cases hs : suB (l.getD k 0) a b h with
    | true =>
      rw [suF_yes hs]
      simp only [List.length_append, List.length_cons, List.length_nil, Nat.zero_add, Nat.add_right_cancel_iff]
      rw [suF_all]
      constructor
      · intro hh i hi
        by_cases e : i = k
        · subst e; exact hs
        · exact hh i (by omega)
      · exact fun hh i hi => hh i (by omega)
    | false =>
      rw [suF_no hs]
      constructor
      · intro e; omega
      · intro hh; have := hh k (by omega); rw [hs] at this; cases this
theorem suF_none {l : List Int} {a b h : Int} : ∀ {k : Nat}, (∀ i, i < k → suB (l.getD i 0) a b h = false) → suF l a b h k = []
  | 0, _ => rfl
  | k + 1, hn => by rw [suF_no (hn k (by omega))]; exact suF_none (fun i hi => hn i (by omega))
theorem suF_some {l : List Int} {a b h : Int} {k : Nat} (h0 : 0 < (suF l a b h k).length) : ∃ i, i < k ∧ suB (l.getD i 0) a b h = true := by
  obtain ⟨x, hx⟩ := List.exists_mem_of_length_pos h0
  obtain ⟨i, hi, _, hs⟩ := suF_mem.1 hx
  exact ⟨i, hi, hs⟩
theorem getD_mem {l : List Int} {i : Nat} (hi : i < l.length) : l.getD i 0 ∈ l := by
  have e : l.getD i 0 = l[i] := by simp [List.getD, hi]
  rw [e]; exact List.getElem_mem hi
theorem mem_getD {l : List Int} {x : Int} (hx : x ∈ l) : ∃ i, i < l.length ∧ l.getD i 0 = x := by
  obtain ⟨j, hj⟩ := List.getElem?_of_mem hx
  exact ⟨j, (List.getElem?_eq_some_iff.1 hj).1, by simp [List.getD, hj]⟩

/-! The fewest levels. -/
/-- Some level of the list suits the place. -/
def usd (a b : Int) (out : List Int) (x : Int) : Bool := out.any fun h => suB x a b h
theorem usd_iff {a b : Int} {out : List Int} {x : Int} : usd a b out x = true ↔ ∃ h, h ∈ out ∧ suB x a b h = true := by unfold usd; rw [List.any_eq_true]
theorem usd_no {a b : Int} {out : List Int} {x : Int} : usd a b out x = false ↔ ∀ h, h ∈ out → suB x a b h = false := by
  unfold usd; rw [List.any_eq_false]
  exact ⟨fun hh h hm => by have := hh h hm; simpa using this, fun hh h hm => by rw [hh h hm]; simp⟩
theorem usd_snoc (a b : Int) (out : List Int) (x h : Int) : usd a b (out ++ [h]) x = (usd a b out x || suB x a b h) := by simp [usd, List.any_append]
theorem usd_nil (a b x : Int) : usd a b [] x = false := rfl
theorem su_self {a b x : Int} (hab : a ≤ b) : suB x a b (x + b) = true := by rw [suB_iff]; omega
/-- The list grew level by level, each the greatest that suits the lowest place without one. -/
inductive GS (l : List Int) (a b : Int) : List Int → Prop
  | nil : GS l a b []
  | step {out : List Int} {x : Int} : GS l a b out → x ∈ l → usd a b out x = false → (∀ y, y ∈ l → usd a b out y = false → x ≤ y) → GS l a b (out ++ [x + b])
theorem gs_inv {l : List Int} {a b : Int} {p : List Int} {h : Int} (hg : GS l a b (p ++ [h])) : GS l a b p ∧ ∃ x, x ∈ l ∧ usd a b p x = false ∧ (∀ y, y ∈ l → usd a b p y = false → x ≤ y) ∧ h = x + b := by
  generalize hq : p ++ [h] = q at hg
  cases hg with
  | nil => simp at hq
  | step h1 h2 h3 h4 =>
    obtain ⟨rfl, e⟩ := List.append_inj' hq rfl
    simp at e
    exact ⟨h1, _, h2, h3, h4, e⟩
theorem gs_det {l : List Int} {a b : Int} {out : List Int} (hg : GS l a b out) : ∀ out', GS l a b out' → out'.length = out.length → out' = out := by
  induction hg with
  | nil => intro o _ h; exact List.length_eq_zero_iff.1 (by simpa using h)
  | @step out x h1 h2 h3 h4 ih =>
    intro o ho hl
    cases ho with
    | nil => simp at hl
    | @step o' x' g1 g2 g3 g4 =>
      have e : o' = out := ih o' g1 (by simpa using hl)
      subst e
      have e2 : x' = x := by have := g4 x h2 h3; have := h4 x' g2 g3; omega
      rw [e2]
theorem gs_take {l : List Int} {a b : Int} {out : List Int} (hg : GS l a b out) : ∀ k, GS l a b (out.take k) := by
  induction hg with
  | nil => intro k; simp; exact .nil
  | @step out x h1 h2 h3 h4 ih =>
    intro k
    by_cases hk : k ≤ out.length
    · rw [List.take_append_of_le_length hk]; exact ih k
    · rw [List.take_of_length_le (by simp; omega)]; exact .step h1 h2 h3 h4
def Full (l : List Int) (a b : Int) (out : List Int) : Prop := ∀ x, x ∈ l → usd a b out x = true
theorem gs_full_le {l : List Int} {a b : Int} {o1 o2 : List Int} (h1 : GS l a b o1) (f1 : Full l a b o1) (h2 : GS l a b o2) : o2.length ≤ o1.length := by
  apply Classical.byContradiction
  intro hc
  have hlt : o1.length < o2.length := by omega
  have e1 : o2.take o1.length = o1 := gs_det h1 _ (gs_take h2 _) (by simp; omega)
  have h3 := gs_take h2 (o1.length + 1)
  rw [List.take_succ_eq_append_getElem hlt, e1] at h3
  obtain ⟨_, x, hx, hu, _⟩ := gs_inv h3
  rw [f1 x hx] at hu; cases hu
theorem gs_full_eq {l : List Int} {a b : Int} {o1 o2 : List Int} (h1 : GS l a b o1) (f1 : Full l a b o1) (h2 : GS l a b o2) (f2 : Full l a b o2) : o1 = o2 :=
  gs_det h2 _ h1 (by have := gs_full_le h1 f1 h2; have := gs_full_le h2 f2 h1; omega)
theorem gs_lt {l : List Int} {a b : Int} (hab : a ≤ b) {out : List Int} (hg : GS l a b out) : ∀ x, x ∈ l → usd a b out x = false → ∀ h, h ∈ out → h < x + b := by
  induction hg with
  | nil => intro x _ _ h hm; cases hm
  | @step out y h1 h2 h3 h4 ih =>
    intro x hx hu h hm
    rw [usd_snoc, Bool.or_eq_false_iff] at hu
    rcases List.mem_append.1 hm with hm | hm
    · exact ih x hx hu.1 h hm
    · simp at hm
      have := h4 x hx hu.1
      have hne : y ≠ x := by
        rintro rfl
        rw [su_self hab] at hu
        exact absurd hu.2 (by simp)
      omega
theorem gs_asc {l : List Int} {a b : Int} (hab : a ≤ b) {out : List Int} (hg : GS l a b out) : out.Pairwise (· < ·) := by
  induction hg with
  | nil => exact .nil
  | @step out y h1 h2 h3 h4 ih =>
    rw [List.pairwise_append]
    exact ⟨ih, by simp, fun h hm z hz => by simp at hz; subst hz; exact gs_lt hab h1 y h2 h3 h hm⟩
theorem filter_le {p q : Int → Bool} (hpq : ∀ x, p x = true → q x = true) : ∀ l : List Int, (l.filter p).length ≤ (l.filter q).length
  | [] => by simp
  | y :: l => by
    have ih := filter_le hpq l
    rw [List.filter_cons, List.filter_cons]
    cases h : p y with
    | true => rw [if_pos rfl, if_pos (hpq y h)]; simp; exact ih
    | false =>
      rw [if_neg (by simp)]
      split
      · simp; omega
      · exact ih
theorem filter_lt {p q : Int → Bool} (hpq : ∀ x, p x = true → q x = true) {x : Int} (hq : q x = true) (hp : p x = false) : ∀ l : List Int, x ∈ l → (l.filter p).length < (l.filter q).length
  | [], h => by cases h
  | y :: l, h => by
    rw [List.filter_cons, List.filter_cons]
    by_cases e : y = x
    · subst e
      rw [if_neg (by rw [hp]; simp), if_pos hq]
      have := filter_le hpq l
      simp; omega
    · have hm : x ∈ l := by
        rcases List.mem_cons.1 h with h | h
        · exact absurd h.symm e
        · exact h
      have ih := filter_lt hpq hq hp l hm
      cases h : p y with
      | true => rw [if_pos rfl, if_pos (hpq y h)]; simp; exact ih
      | false =>
        rw [if_neg (by simp)]
        split
        · simp; omega
        · exact ih
theorem gs_len {l : List Int} {a b : Int} (hab : a ≤ b) {out : List Int} (hg : GS l a b out) : out.length ≤ l.length := by
  have h : out.length + (l.filter fun y => !(usd a b out y)).length ≤ l.length := by
    induction hg with
    | nil => simpa using List.length_filter_le _ l
    | @step out x h1 h2 h3 h4 ih =>
      have := filter_lt (p := fun y => !(usd a b (out ++ [x + b]) y)) (q := fun y => !(usd a b out y)) (fun y hy => by
        rw [Bool.not_eq_true', usd_snoc, Bool.or_eq_false_iff] at hy
        rw [hy.1]; rfl) (x := x) (by rw [h3]; rfl) (by rw [usd_snoc, su_self hab]; simp) l h2
      simp only [List.length_append, List.length_cons, List.length_nil]
      omega
  omega
theorem gs_mem {l : List Int} {a b : Int} {out : List Int} (hg : GS l a b out) : ∀ h, h ∈ out → ∃ x, x ∈ l ∧ h = x + b := by
  induction hg with
  | nil => intro h hm; cases hm
  | @step out x h1 h2 h3 h4 ih =>
    intro h hm
    rcases List.mem_append.1 hm with hm | hm
    · exact ih h hm
    · simp at hm; exact ⟨x, h2, hm⟩
/-- While a place has no level the list grows. -/
theorem gs_more {l : List Int} {a b : Int} {out : List Int} {x : Int} (hg : GS l a b out) (h2 : x ∈ l) (h3 : usd a b out x = false) (h4 : ∀ y, y ∈ l → usd a b out y = false → x ≤ y) : GS l a b (out ++ [x + b]) := .step hg h2 h3 h4
open Classical in
/-- The fewest levels. -/
noncomputable def fewL (l : List Int) (a b : Int) : List Int := if h : ∃ out, GS l a b out ∧ Full l a b out then h.choose else []
theorem few_is {l : List Int} {a b : Int} {out : List Int} (hg : GS l a b out) (hf : Full l a b out) : fewL l a b = out := by
  have h : ∃ out, GS l a b out ∧ Full l a b out := ⟨out, hg, hf⟩
  unfold fewL
  rw [dif_pos h]
  exact gs_full_eq h.choose_spec.1 h.choose_spec.2 hg hf

/-! The program's way: the places from the lowest on. -/
def lastB (a b : Int) (out : List Int) (x : Int) : Bool := match out.getLast? with | none => false | some h => suB x a b h
structure PI (l : List Int) (a b : Int) (ss : List Int) (j : Nat) (out : List Int) : Prop where
  gs : GS l a b out
  done : ∀ i, i < j → usd a b out (ss.getD i 0) = true
  last : ∀ x, (∀ i, i < j → ss.getD i 0 ≤ x) → usd a b out x = lastB a b out x
  le : ∀ x, (∀ i, i < j → ss.getD i 0 ≤ x) → ∀ h, h ∈ out → h ≤ x + b
theorem pi_zero (l : List Int) (a b : Int) (ss : List Int) : PI l a b ss 0 [] :=
  ⟨.nil, fun i hi => absurd hi (by omega), fun x _ => rfl, fun x _ h hm => by cases hm⟩
theorem asc_le {ss : List Int} (hs : ss.Pairwise (· ≤ ·)) {i j : Nat} (hij : i ≤ j) (hj : j < ss.length) : ss.getD i 0 ≤ ss.getD j 0 := by
  by_cases e : i = j
  · subst e; omega
  · have := List.pairwise_iff_getElem.1 hs i j (by omega) hj (by omega)
    have e1 : ss.getD i 0 = ss[i] := by simp [List.getD, show i < ss.length by omega]
    have e2 : ss.getD j 0 = ss[j] := by simp [List.getD, hj]
    rw [e1, e2]; exact this
theorem pi_skip {l : List Int} {a b : Int} {ss : List Int} {j : Nat} {out : List Int} (hs : ss.Pairwise (· ≤ ·)) (h : PI l a b ss j out) (hj : j < ss.length) (hl : lastB a b out (ss.getD j 0) = true) : PI l a b ss (j + 1) out := by
  refine ⟨h.gs, fun i hi => ?_, fun x hx => h.last x (fun i hi => hx i (by omega)), fun x hx => h.le x (fun i hi => hx i (by omega))⟩
  by_cases e : i = j
  · subst e
    rw [h.last _ (fun k hk => asc_le hs (by omega) hj)]; exact hl
  · exact h.done i (by omega)
theorem pi_more {l : List Int} {a b : Int} {ss : List Int} {j : Nat} {out : List Int} (hab : a ≤ b) (hs : ss.Pairwise (· ≤ ·)) (hp : ss.Perm l) (h : PI l a b ss j out) (hj : j < ss.length) (hl : lastB a b out (ss.getD j 0) = false) : PI l a b ss (j + 1) (out ++ [ss.getD j 0 + b]) := by
  have hu : usd a b out (ss.getD j 0) = false := by rw [h.last _ (fun k hk => asc_le hs (by omega) hj)]; exact hl
  refine ⟨.step h.gs (hp.mem_iff.1 (getD_mem hj)) hu (fun y hy hyu => ?_), fun i hi => ?_, fun x hx => ?_, fun x hx g hm => ?_⟩
  · obtain ⟨i, hi, rfl⟩ := mem_getD (hp.mem_iff.2 hy)
    by_cases hij : i < j
    · rw [h.done i hij] at hyu; cases hyu
    · exact asc_le hs (by omega) hi
  · rw [usd_snoc]
    by_cases e : i = j
    · subst e; rw [su_self hab]; simp
    · rw [h.done i (by omega)]; rfl
  · rw [usd_snoc]
    have e1 : lastB a b (out ++ [ss.getD j 0 + b]) x = suB x a b (ss.getD j 0 + b) := by simp [lastB]
    rw [e1]
    have hxj := hx j (by omega)
    cases hu2 : usd a b out x with
    | false => simp
    | true =>
      rw [h.last x (fun i hi => hx i (by omega))] at hu2
      rw [Bool.true_or]
      symm
      unfold lastB at hu2 hl
      cases hg : out.getLast? with
      | none => rw [hg] at hu2; cases hu2
      | some g =>
        rw [hg] at hu2 hl
        have h1 := suB_iff.1 hu2
        have h2 := suB_no.1 hl
        have h3 := h.le (ss.getD j 0) (fun k hk => asc_le hs (by omega) hj) g (List.mem_of_getLast? hg)
        omega
  · rcases List.mem_append.1 hm with hm | hm
    · exact h.le x (fun i hi => hx i (by omega)) g hm
    · simp at hm
      have := hx j (by omega)
      simp only [List.getD_eq_getElem?_getD] at this
      omega
theorem pin_end {l : List Int} {a b : Int} {ss : List Int} {out : List Int} (hp : ss.Perm l) (h : PI l a b ss ss.length out) : GS l a b out ∧ Full l a b out :=
  ⟨h.gs, fun x hx => by obtain ⟨i, hi, rfl⟩ := mem_getD (hp.mem_iff.2 hx); exact h.done i hi⟩
/-- A full list is there. -/
theorem pi_all {l : List Int} {a b : Int} {ss : List Int} (hab : a ≤ b) (hs : ss.Pairwise (· ≤ ·)) (hp : ss.Perm l) : ∀ j, j ≤ ss.length → ∃ out, PI l a b ss j out
  | 0, _ => ⟨[], pi_zero l a b ss⟩
  | j + 1, hj => by
    obtain ⟨out, h⟩ := pi_all hab hs hp j (by omega)
    cases hl : lastB a b out (ss.getD j 0) with
    | true => exact ⟨_, pi_skip hs h (by omega) hl⟩
    | false => exact ⟨_, pi_more hab hs hp h (by omega) hl⟩
theorem sort_asc (l : List Int) : (l.mergeSort fun x y => decide (x ≤ y)).Pairwise (· ≤ ·) := by
  have h2 : (l.mergeSort (fun x y => decide (x ≤ y))).Pairwise (fun a b => decide (a ≤ b) = true) := List.pairwise_mergeSort (fun a b c h1 h2 => by simp at h1 h2 ⊢; omega) (fun a b => by simp; omega) l
  exact h2.imp (fun h => by simpa using h)
theorem few_ok {l : List Int} {a b : Int} (hab : a ≤ b) : GS l a b (fewL l a b) ∧ Full l a b (fewL l a b) := by
  obtain ⟨out, h⟩ := pi_all (l := l) hab (sort_asc l) (List.mergeSort_perm l _) _ (Nat.le_refl _)
  obtain ⟨h1, h2⟩ := pin_end (List.mergeSort_perm l _) h
  rw [few_is h1 h2]
  exact ⟨h1, h2⟩
theorem few_len {l : List Int} {a b : Int} (hab : a ≤ b) : (fewL l a b).length ≤ l.length := gs_len hab (few_ok hab).1
theorem few_at {l : List Int} {a b : Int} (hab : a ≤ b) {k : Nat} (hk : k < (fewL l a b).length) : ∃ x, x ∈ l ∧ (fewL l a b).getD k 0 = x + b := gs_mem (few_ok hab).1 _ (getD_mem hk)
theorem few_lt {l : List Int} {a b : Int} (hab : a ≤ b) {i k : Nat} (hi : i < k) (hk : k < (fewL l a b).length) : (fewL l a b).getD i 0 < (fewL l a b).getD k 0 := by
  have := List.pairwise_iff_getElem.1 (gs_asc hab (few_ok hab).1) i k (by omega) hk hi
  have e1 : (fewL l a b).getD i 0 = (fewL l a b)[i] := by simp [List.getD, show i < (fewL l a b).length by omega]
  have e2 : (fewL l a b).getD k 0 = (fewL l a b)[k] := by simp [List.getD, hk]
  rw [e1, e2]; exact this

/-! The zones. -/
/-- The first level that suits a place. -/
def zi (a b : Int) (L : List Int) (x : Int) : Nat := L.findIdx fun h => suB x a b h
theorem zi_is {a b : Int} {L : List Int} {x : Int} {k : Nat} (hk : k < L.length) (hy : suB x a b (L.getD k 0) = true) (hn : ∀ j, j < k → suB x a b (L.getD j 0) = false) : zi a b L x = k := by
  unfold zi
  have e : L.getD k 0 = L[k] := by simp [List.getD, hk]
  rw [List.findIdx_eq hk]
  refine ⟨by rw [← e]; exact hy, fun j hj => ?_⟩
  have e2 : L.getD j 0 = L[j] := by simp [List.getD, show j < L.length by omega]
  rw [← e2]; exact hn j hj
theorem zi_lt {a b : Int} {L : List Int} {x : Int} (h : usd a b L x = true) : zi a b L x < L.length := by
  obtain ⟨g, hg, hs⟩ := usd_iff.1 h
  unfold zi
  exact List.findIdx_lt_length.2 ⟨g, hg, hs⟩
theorem zi_su {a b : Int} {L : List Int} {x : Int} (h : usd a b L x = true) : suB x a b (L.getD (zi a b L x) 0) = true := by
  have hl := zi_lt h
  have e : L.getD (zi a b L x) 0 = L[zi a b L x] := by simp [List.getD, hl]
  rw [e]
  exact List.findIdx_getElem (p := fun h => suB x a b h) (xs := L) (w := hl)
def znK (l : List Int) (a b : Int) (L : List Int) (k : Nat) : List Int := (List.range k).map fun i => ((zi a b L (l.getD i 0) : Nat) : Int)
theorem znK_len (l : List Int) (a b : Int) (L : List Int) (k : Nat) : (znK l a b L k).length = k := by simp [znK]
theorem znK_succ (l : List Int) (a b : Int) (L : List Int) (k : Nat) : znK l a b L (k + 1) = znK l a b L k ++ [((zi a b L (l.getD k 0) : Nat) : Int)] := by simp [znK, List.range_succ]
theorem znK_at (l : List Int) (a b : Int) (L : List Int) {k i : Nat} (h : i < k) : (znK l a b L k).getD i 0 = ((zi a b L (l.getD i 0) : Nat) : Int) := by simp [znK, List.getD, h]
noncomputable def znL (l : List Int) (a b : Int) : List Int := znK l a b (fewL l a b) l.length
theorem zn_in {l : List Int} {a b : Int} (hab : a ≤ b) {i : Nat} (hi : i < l.length) : zi a b (fewL l a b) (l.getD i 0) < (fewL l a b).length := zi_lt ((few_ok hab).2 _ (getD_mem hi))
theorem zn_su {l : List Int} {a b : Int} (hab : a ≤ b) {i : Nat} (hi : i < l.length) : suB (l.getD i 0) a b ((fewL l a b).getD (zi a b (fewL l a b) (l.getD i 0)) 0) = true := zi_su ((few_ok hab).2 _ (getD_mem hi))

/-! Levels for all places. -/
def mxK (l : List Int) : Nat → Int
  | 0 => l.getD 0 0
  | k + 1 => max (mxK l k) (l.getD k 0)
def mnK (l : List Int) : Nat → Int
  | 0 => l.getD 0 0
  | k + 1 => min (mnK l k) (l.getD k 0)
theorem mxK_ge (l : List Int) : ∀ k j, j < k → l.getD j 0 ≤ mxK l k
  | 0, j, h => absurd h (by omega)
  | k + 1, j, h => by
    rw [mxK]
    by_cases e : j = k
    · subst e; omega
    · have := mxK_ge l k j (by omega); omega
theorem mnK_le (l : List Int) : ∀ k j, j < k → mnK l k ≤ l.getD j 0
  | 0, j, h => absurd h (by omega)
  | k + 1, j, h => by
    rw [mnK]
    by_cases e : j = k
    · subst e; omega
    · have := mnK_le l k j (by omega); omega
theorem mxK_at (l : List Int) : ∀ k, 0 < k → ∃ j, j < k ∧ mxK l k = l.getD j 0
  | 0, h => absurd h (by omega)
  | k + 1, _ => by
    rw [mxK]
    by_cases e : mxK l k ≤ l.getD k 0
    · exact ⟨k, by omega, by omega⟩
    · by_cases e0 : k = 0
      · subst e0; simp [mxK] at e
      · obtain ⟨j, hj, he⟩ := mxK_at l k (by omega)
        exact ⟨j, by omega, by omega⟩
theorem mnK_at (l : List Int) : ∀ k, 0 < k → ∃ j, j < k ∧ mnK l k = l.getD j 0
  | 0, h => absurd h (by omega)
  | k + 1, _ => by
    rw [mnK]
    by_cases e : l.getD k 0 ≤ mnK l k
    · exact ⟨k, by omega, by omega⟩
    · by_cases e0 : k = 0
      · subst e0; simp [mnK] at e
      · obtain ⟨j, hj, he⟩ := mnK_at l k (by omega)
        exact ⟨j, by omega, by omega⟩
def loL (l : List Int) (a : Int) : Int := mxK l l.length + a
def hiL (l : List Int) (b : Int) : Int := mnK l l.length + b
theorem Pl.mx {l : List Int} (h : Pl l) {k : Nat} (hk : k ≤ l.length) (h0 : 0 < k) : 0 ≤ mxK l k ∧ mxK l k ≤ 1000 := by
  obtain ⟨j, hj, e⟩ := mxK_at l k h0
  rw [e]; exact h.at_ (by omega)
theorem Pl.mn {l : List Int} (h : Pl l) {k : Nat} (hk : k ≤ l.length) (h0 : 0 < k) : 0 ≤ mnK l k ∧ mnK l k ≤ 1000 := by
  obtain ⟨j, hj, e⟩ := mnK_at l k h0
  rw [e]; exact h.at_ (by omega)
/-- What the model has after k places. -/
def loS (l : List Int) (a : Int) (k : Nat) : Int := if k = 0 then 0 else mxK l k + a
def hiS (l : List Int) (b : Int) (k : Nat) : Int := if k = 0 then 2000 else mnK l k + b
theorem loS_succ {l : List Int} {a b : Int} (h : ZAsk l a b) {k : Nat} (hk : k < l.length) : loS l a (k + 1) = max (loS l a k) (l.getD k 0 + a) := by
  have h1 := h.at_ hk
  have h2 := h.a1
  unfold loS
  rw [if_neg (by omega), mxK]
  split
  · rename_i e; subst e; simp only [mxK]; omega
  · omega
theorem hiS_succ {l : List Int} {a b : Int} (h : ZAsk l a b) {k : Nat} (hk : k < l.length) : hiS l b (k + 1) = min (hiS l b k) (l.getD k 0 + b) := by
  have h1 := h.at_ hk
  have h2 := h.b1
  unfold hiS
  rw [if_neg (by omega), mnK]
  split
  · rename_i e; subst e; simp only [mnK]; omega
  · omega
theorem loS_in {l : List Int} {a b : Int} (h : ZAsk l a b) {k : Nat} (hk : k ≤ l.length) : 0 ≤ loS l a k ∧ loS l a k ≤ 1200 := by
  unfold loS
  split
  · omega
  · have := h.mx hk (by omega); have := h.a1; have := h.ab; have := h.b1; omega
theorem hiS_in {l : List Int} {a b : Int} (h : ZAsk l a b) {k : Nat} (hk : k ≤ l.length) : 0 ≤ hiS l b k ∧ hiS l b k ≤ 2000 := by
  unfold hiS
  split
  · omega
  · have := h.mn hk (by omega); have := h.a1; have := h.ab; have := h.b1; omega
theorem loS_end {l : List Int} {a : Int} (h0 : 0 < l.length) : loS l a l.length = loL l a := by unfold loS loL; rw [if_neg (by omega)]
theorem hiS_end {l : List Int} {b : Int} (h0 : 0 < l.length) : hiS l b l.length = hiL l b := by unfold hiS hiL; rw [if_neg (by omega)]
/-- Some level suits all places. -/
def suOk (l : List Int) (a b : Int) : Bool := askB l a b && (decide (0 < l.length) && decide (loL l a ≤ hiL l b))

/-! The best level. -/
structure Bst (l : List Int) (a b : Int) (B : Int) (M : Nat) : Prop where
  b0 : 0 ≤ B
  b1 : B ≤ 2000
  m : cnt l a b B = M
  top : ∀ h, 0 ≤ h → h ≤ 2000 → cnt l a b h ≤ M ∧ (cnt l a b h = M → B ≤ h)
theorem bst_one {l : List Int} {a b B B' : Int} {M M' : Nat} (h : Bst l a b B M) (h' : Bst l a b B' M') : B = B' ∧ M = M' := by
  have h1 := h.top B' h'.b0 h'.b1
  have h2 := h'.top B h.b0 h.b1
  have h3 := h.m
  have h4 := h'.m
  have e : M = M' := by omega
  subst e
  exact ⟨by have := h1.2 h4; have := h2.2 h3; omega, rfl⟩
theorem cnt_zero {l : List Int} {a b : Int} (h : ZAsk l a b) : cnt l a b 0 = 0 := by
  unfold cnt suL
  rw [suF_none]
  · rfl
  · intro i hi
    rw [suB_no]
    have := h.at_ hi
    have := h.a1
    omega
/-- A level that suits some place is not better than the least level of one of them. -/
theorem cnt_low {l : List Int} {a b h : Int} (hc : 0 < cnt l a b h) : ∃ x, x ∈ l ∧ x + a ≤ h ∧ cnt l a b h ≤ cnt l a b (x + a) := by
  have key : ∀ k, k ≤ l.length → 0 < (suF l a b h k).length → ∃ i, i < k ∧ suB (l.getD i 0) a b h = true ∧ ∀ j, j < k → suB (l.getD j 0) a b h = true → l.getD j 0 ≤ l.getD i 0 := by
    intro k
    induction k with
    | zero => intro _ h0; simp [suF] at h0
    | succ k ih =>
      intro hk h0
      cases hs : suB (l.getD k 0) a b h with
      | false =>
        rw [suF_no hs] at h0
        obtain ⟨i, hi, h1, h2⟩ := ih (by omega) h0
        refine ⟨i, by omega, h1, fun j hj hsj => ?_⟩
        by_cases e : j = k
        · subst e; rw [hs] at hsj; cases hsj
        · exact h2 j (by omega) hsj
      | true =>
        by_cases hp : 0 < (suF l a b h k).length
        · obtain ⟨i, hi, h1, h2⟩ := ih (by omega) hp
          by_cases hle : l.getD i 0 ≤ l.getD k 0
          · refine ⟨k, by omega, hs, fun j hj hsj => ?_⟩
            by_cases e : j = k
            · subst e; omega
            · have := h2 j (by omega) hsj; omega
          · refine ⟨i, by omega, h1, fun j hj hsj => ?_⟩
            by_cases e : j = k
            · subst e; omega
            · exact h2 j (by omega) hsj
        · refine ⟨k, by omega, hs, fun j hj hsj => ?_⟩
          by_cases e : j = k
          · subst e; omega
          · exfalso
            have hm : ((j : Nat) : Int) ∈ suF l a b h k := suF_mem.2 ⟨j, by omega, rfl, hsj⟩
            have : suF l a b h k = [] := List.length_eq_zero_iff.1 (by omega)
            rw [this] at hm; cases hm
  obtain ⟨i, hi, h1, h2⟩ := key l.length (Nat.le_refl _) hc
  have hx := suB_iff.1 h1
  refine ⟨l.getD i 0, getD_mem hi, hx.1, suF_mono (fun j hj hs => ?_)⟩
  have := h2 j hj hs
  have hh := suB_iff.1 hs
  rw [suB_iff]
  omega
/-- The program: the lowest places' least levels. -/
structure BI (l : List Int) (a b : Int) (ss : List Int) (j : Nat) (B : Int) (M : Nat) : Prop where
  is : (B = 0 ∧ M = 0) ∨ ∃ i, i < j ∧ B = ss.getD i 0 + a ∧ cnt l a b B = M
  top : ∀ i, i < j → cnt l a b (ss.getD i 0 + a) ≤ M ∧ (cnt l a b (ss.getD i 0 + a) = M → B ≤ ss.getD i 0 + a)
theorem bi_zero (l : List Int) (a b : Int) (ss : List Int) : BI l a b ss 0 0 0 := ⟨.inl ⟨rfl, rfl⟩, fun i hi => absurd hi (by omega)⟩
theorem bi_more {l : List Int} {a b : Int} {ss : List Int} {j : Nat} {B : Int} {M : Nat} (h : BI l a b ss j B M) (hg : M < cnt l a b (ss.getD j 0 + a)) : BI l a b ss (j + 1) (ss.getD j 0 + a) (cnt l a b (ss.getD j 0 + a)) := by
  refine ⟨.inr ⟨j, by omega, rfl, rfl⟩, fun i hi => ?_⟩
  by_cases e : i = j
  · subst e; exact ⟨Nat.le_refl _, fun _ => Int.le_refl _⟩
  · have := (h.top i (by omega)).1
    exact ⟨by omega, fun e => by omega⟩
theorem bi_skip {l : List Int} {a b : Int} {ss : List Int} {j : Nat} {B : Int} {M : Nat} (hq : ZAsk l a b) (hs : ss.Pairwise (· ≤ ·)) (hp : ss.Perm l) (h : BI l a b ss j B M) (hj : j < ss.length) (hg : ¬ M < cnt l a b (ss.getD j 0 + a)) : BI l a b ss (j + 1) B M := by
  refine ⟨?_, fun i hi => ?_⟩
  · rcases h.is with h1 | ⟨i, hi, h1⟩
    · exact .inl h1
    · exact .inr ⟨i, by omega, h1⟩
  · by_cases e : i = j
    · subst e
      refine ⟨by omega, fun _ => ?_⟩
      rcases h.is with h1 | ⟨k, hk, h1, _⟩
      · have := hq.mem (hp.mem_iff.1 (getD_mem hj))
        have := hq.a1
        omega
      · have := asc_le hs (Nat.le_of_lt hk) hj
        omega
    · exact h.top i (by omega)
theorem bi_end {l : List Int} {a b : Int} {ss : List Int} {B : Int} {M : Nat} (hq : ZAsk l a b) (hp : ss.Perm l) (h : BI l a b ss ss.length B M) : Bst l a b B M := by
  have hz := cnt_zero hq
  have ha := hq.a1
  have hab := hq.ab
  have hb1 := hq.b1
  refine ⟨?_, ?_, ?_, fun g g0 g1 => ?_⟩
  · rcases h.is with ⟨h1, _⟩ | ⟨i, hi, h1, _⟩
    · omega
    · have := hq.mem (hp.mem_iff.1 (getD_mem hi)); omega
  · rcases h.is with ⟨h1, _⟩ | ⟨i, hi, h1, _⟩
    · omega
    · have := hq.mem (hp.mem_iff.1 (getD_mem hi)); omega
  · rcases h.is with ⟨h1, h2⟩ | ⟨i, hi, h1, h2⟩
    · rw [h1, h2]; exact hz
    · exact h2
  · by_cases hc : 0 < cnt l a b g
    · obtain ⟨x, hx, hxg, hle⟩ := cnt_low hc
      obtain ⟨i, hi, rfl⟩ := mem_getD (hp.mem_iff.2 hx)
      have ht := h.top i hi
      exact ⟨by omega, fun e => by have := ht.2 (by omega); omega⟩
    · refine ⟨by omega, fun e => ?_⟩
      rcases h.is with ⟨h1, h2⟩ | ⟨i, hi, h1, h2⟩
      · omega
      · exfalso
        have h3 : 0 < cnt l a b B := by
          have hm : ((0 : Nat) : Int) = 0 := rfl
          obtain ⟨k, hk, hke⟩ := mem_getD (hp.mem_iff.1 (getD_mem hi))
          have : ((k : Nat) : Int) ∈ suF l a b B l.length := suF_mem.2 ⟨k, hk, rfl, by rw [hke, suB_iff, h1]; omega⟩
          exact List.length_pos_of_mem this
        omega
open Classical in
noncomputable def bsB (l : List Int) (a b : Int) : Int := if h : ∃ p : Int × Nat, Bst l a b p.1 p.2 then h.choose.1 else 0
open Classical in
noncomputable def bsM (l : List Int) (a b : Int) : Nat := if h : ∃ p : Int × Nat, Bst l a b p.1 p.2 then h.choose.2 else 0
theorem bs_is {l : List Int} {a b B : Int} {M : Nat} (hb : Bst l a b B M) : bsB l a b = B ∧ bsM l a b = M := by
  have h : ∃ p : Int × Nat, Bst l a b p.1 p.2 := ⟨(B, M), hb⟩
  unfold bsB bsM
  rw [dif_pos h, dif_pos h]
  exact bst_one h.choose_spec hb
/-- The model: level by level. -/
structure BK (l : List Int) (a b : Int) (j : Nat) (B : Int) (M : Nat) : Prop where
  b0 : 0 ≤ B
  b1 : B ≤ 2000
  m : cnt l a b B = M
  top : ∀ h : Int, 0 ≤ h → h < j → cnt l a b h ≤ M ∧ (cnt l a b h = M → B ≤ h)
theorem bk_zero {l : List Int} {a b : Int} (h : ZAsk l a b) : BK l a b 0 0 0 := ⟨by omega, by omega, cnt_zero h, fun g h1 h2 => by exfalso; simp at h2; omega⟩
theorem bk_more {l : List Int} {a b : Int} {j : Nat} {B : Int} {M : Nat} (h : BK l a b j B M) (hj : j ≤ 2000) (hg : M < cnt l a b (j : Int)) : BK l a b (j + 1) (j : Int) (cnt l a b (j : Int)) := by
  refine ⟨by omega, by omega, rfl, fun g h1 h2 => ?_⟩
  by_cases e : g = j
  · subst e; exact ⟨Nat.le_refl _, fun _ => Int.le_refl _⟩
  · have := (h.top g h1 (by omega)).1
    exact ⟨by omega, fun e => by omega⟩
theorem bk_skip {l : List Int} {a b : Int} {j : Nat} {B : Int} {M : Nat} (h : BK l a b j B M) (hB : B ≤ j) (hg : ¬ M < cnt l a b (j : Int)) : BK l a b (j + 1) B M := by
  refine ⟨h.b0, h.b1, h.m, fun g h1 h2 => ?_⟩
  by_cases e : g = j
  · subst e; exact ⟨by omega, fun _ => hB⟩
  · exact h.top g h1 (by omega)
theorem bk_end {l : List Int} {a b : Int} {B : Int} {M : Nat} (h : BK l a b 2001 B M) : Bst l a b B M := ⟨h.b0, h.b1, h.m, fun g h1 h2 => h.top g h1 (by omega)⟩
theorem bs_ok {l : List Int} {a b : Int} (h : ZAsk l a b) : Bst l a b (bsB l a b) (bsM l a b) := by
  have key : ∀ j, j ≤ 2001 → ∃ B M, BK l a b j B M ∧ B ≤ j := by
    intro j
    induction j with
    | zero => intro _; exact ⟨0, 0, bk_zero h, by simp⟩
    | succ j ih =>
      intro hj
      obtain ⟨B, M, hb, hB⟩ := ih (by omega)
      by_cases hg : M < cnt l a b (j : Int)
      · exact ⟨_, _, bk_more hb (by omega) hg, by omega⟩
      · exact ⟨_, _, bk_skip hb hB hg, by omega⟩
  obtain ⟨B, M, hb, _⟩ := key 2001 (Nat.le_refl _)
  have := bs_is (bk_end hb)
  rw [this.1, this.2]
  exact bk_end hb

/-! What the law on zones asks. -/
theorem all_of {l : List Int} {a b h : Int} (hm : mxK l l.length + a ≤ h) (hn : h ≤ mnK l l.length + b) : ∀ i, i < l.length → suB (l.getD i 0) a b h = true := by
  intro i hi
  have h1 := mxK_ge l l.length i hi
  have h2 := mnK_le l l.length i hi
  rw [suB_iff]; omega
theorem of_all {l : List Int} {a b h : Int} (h0 : 0 < l.length) (hs : ∀ i, i < l.length → suB (l.getD i 0) a b h = true) : mxK l l.length + a ≤ h ∧ h ≤ mnK l l.length + b := by
  obtain ⟨i, hi, e1⟩ := mxK_at l l.length h0
  obtain ⟨j, hj, e2⟩ := mnK_at l l.length h0
  have h1 := suB_iff.1 (hs i hi)
  have h2 := suB_iff.1 (hs j hj)
  rw [e1, e2]; exact ⟨h1.1, h2.2⟩
theorem ok_few {l : List Int} {a b : Int} (h : ZAsk l a b) : suOk l a b = decide ((fewL l a b).length = 1) := by
  unfold suOk
  rw [askB_iff.2 h, Bool.true_and, Bool.eq_iff_iff, Bool.and_eq_true, decide_eq_true_iff, decide_eq_true_iff, decide_eq_true_iff]
  obtain ⟨hg, hf⟩ := few_ok (l := l) h.ab
  constructor
  · rintro ⟨h0, hle⟩
    unfold loL hiL at hle
    have hs := all_of (l := l) (a := a) (b := b) (h := mnK l l.length + b) hle (Int.le_refl _)
    have h1 : GS l a b ([] ++ [mnK l l.length + b]) := by
      obtain ⟨j, hj, e⟩ := mnK_at l l.length h0
      rw [e]
      refine .step .nil (getD_mem hj) rfl (fun y hy _ => ?_)
      obtain ⟨i, hi, rfl⟩ := mem_getD hy
      rw [← e]
      exact mnK_le l _ i hi
    rw [few_is h1 (fun x hx => by obtain ⟨i, hi, rfl⟩ := mem_getD hx; exact usd_iff.2 ⟨_, by simp, hs i hi⟩)]
    rfl
  · intro he
    obtain ⟨g, hL⟩ := List.length_eq_one_iff.1 he
    rw [hL] at hg hf
    have hs : ∀ i, i < l.length → suB (l.getD i 0) a b g = true := by
      intro i hi
      obtain ⟨g', hg', hsu⟩ := usd_iff.1 (hf _ (getD_mem hi))
      simp at hg'
      rw [← hg']; exact hsu
    have h0 : 0 < l.length := by
      obtain ⟨x, hx, _⟩ := gs_mem hg g (by simp)
      exact List.length_pos_of_mem hx
    have := of_all h0 hs
    refine ⟨h0, ?_⟩
    unfold loL hiL; omega
theorem ok_best {l : List Int} {a b : Int} (h : ZAsk l a b) : suOk l a b = (decide (bsM l a b = l.length) && decide (0 < bsM l a b)) := by
  unfold suOk
  have hb := bs_ok h
  have hcl := cnt_le l a b (bsB l a b)
  rw [askB_iff.2 h, Bool.true_and, Bool.eq_iff_iff, Bool.and_eq_true, Bool.and_eq_true, decide_eq_true_iff, decide_eq_true_iff, decide_eq_true_iff, decide_eq_true_iff]
  constructor
  · rintro ⟨h0, hle⟩
    unfold loL hiL at hle
    have hs := all_of (l := l) (a := a) (b := b) (h := mnK l l.length + b) hle (Int.le_refl _)
    have hc : cnt l a b (mnK l l.length + b) = l.length := suF_all.2 hs
    have hmn := h.mn (Nat.le_refl _) h0
    have := (hb.top (mnK l l.length + b) (by have := h.a1; have := h.ab; omega) (by have := h.b1; omega)).1
    have := hb.m
    omega
  · rintro ⟨he, hp⟩
    have h0 : 0 < l.length := by omega
    have hs := suF_all.1 (show (suF l a b (bsB l a b) l.length).length = l.length from by have := hb.m; unfold cnt suL at this; omega)
    have := of_all h0 hs
    refine ⟨h0, ?_⟩
    unfold loL hiL; omega
theorem few_in {l : List Int} {a b : Int} (h : ZAsk l a b) {k : Nat} (hk : k < (fewL l a b).length) : 0 ≤ (fewL l a b).getD k 0 ∧ (fewL l a b).getD k 0 ≤ 1200 := by
  obtain ⟨x, hx, e⟩ := few_at h.ab hk
  have := h.mem hx
  have := h.a1
  have := h.ab
  have := h.b1
  rw [e]; omega
theorem few_cnt {l : List Int} {a b : Int} (h : ZAsk l a b) {k : Nat} (hk : k < (fewL l a b).length) : cnt l a b ((fewL l a b).getD k 0) ≤ bsM l a b := by
  have := few_in h hk
  exact ((bs_ok h).top _ (by omega) (by omega)).1

/-! Pressures and raised places. -/
def prK (l : List Int) (h : Int) (k : Nat) : List Int := (List.range k).map fun i => h - l.getD i 0
theorem prK_len (l : List Int) (h : Int) (k : Nat) : (prK l h k).length = k := by simp [prK]
theorem prK_succ (l : List Int) (h : Int) (k : Nat) : prK l h (k + 1) = prK l h k ++ [h - l.getD k 0] := by simp [prK, List.range_succ]
theorem prK_at (l : List Int) (h : Int) {k i : Nat} (hi : i < k) : (prK l h k).getD i 0 = h - l.getD i 0 := by simp [prK, List.getD, hi]
def rsK (l : List Int) (m : Int) (k : Nat) : List Int := (List.range k).map fun i => l.getD i 0 + m
theorem rsK_len (l : List Int) (m : Int) (k : Nat) : (rsK l m k).length = k := by simp [rsK]
theorem rsK_succ (l : List Int) (m : Int) (k : Nat) : rsK l m (k + 1) = rsK l m k ++ [l.getD k 0 + m] := by simp [rsK, List.range_succ]
theorem rsK_at (l : List Int) (m : Int) {k i : Nat} (hi : i < k) : (rsK l m k).getD i 0 = l.getD i 0 + m := by simp [rsK, List.getD, hi]
theorem rs_back (l : List Int) (m : Int) : rsK (rsK l m l.length) (-m) l.length = l := by
  apply List.ext_getElem
  · simp [rsK]
  · intro i h1 h2
    have hi : i < l.length := h2
    have e : (rsK (rsK l m l.length) (-m) l.length)[i] = (rsK (rsK l m l.length) (-m) l.length).getD i 0 := by simp [List.getD, h1]
    rw [e, rsK_at _ _ hi, rsK_at _ _ hi]
    have e2 : l[i] = l.getD i 0 := by simp [List.getD, hi]
    rw [e2]; omega
/-- The reduction of a pressure p. -/
def rdI (p b : Int) : Int := if p - b < 0 then 0 else p - b
def rdB (x a b h : Int) : Bool := inR 0 1000 x && (rlB a b && (lvB h && decide (a ≤ h - x)))
end Go.Proofs.Ytjfpimldiokpbaa.P12
