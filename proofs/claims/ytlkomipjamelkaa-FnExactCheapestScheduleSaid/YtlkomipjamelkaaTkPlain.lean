/- A tank hour by hour: the level after an hour, what is spilled and what is missing; a day of hours: plain facts. Conditions: each theorem's own premises. -/
namespace Go.Proofs.Ytlkomipjamelkaa.P11

/-- A tank is valid: level L, least a, most b. -/
def tkB (L a b : Int) : Bool := decide (0 ≤ a ∧ a ≤ L ∧ L ≤ b ∧ b ≤ 60)
theorem tkB_iff {L a b : Int} : tkB L a b = true ↔ 0 ≤ a ∧ a ≤ L ∧ L ≤ b ∧ b ≤ 60 := by unfold tkB; exact decide_eq_true_iff
/-- What is spilled in an hour, and what is missing. -/
def spl (b L x : Int) : Int := if 0 < L + x - b then L + x - b else 0
def mis (a b L x y : Int) : Int := if 0 < a - (L + x - spl b L x - y) then a - (L + x - spl b L x - y) else 0
def nxt (a b L x y : Int) : Int := L + x - spl b L x - y + mis a b L x y
theorem step_in {a b L x y : Int} (h : tkB L a b = true) (hx : 0 ≤ x ∧ x ≤ 100) (hy : 0 ≤ y ∧ y ≤ 100) :
    (0 ≤ spl b L x ∧ spl b L x ≤ 160) ∧ (0 ≤ mis a b L x y ∧ mis a b L x y ≤ 160) ∧ a ≤ nxt a b L x y ∧ nxt a b L x y ≤ b := by
  have h := tkB_iff.1 h
  unfold nxt mis spl
  repeat' split
  all_goals omega
theorem step_tk {a b L x y : Int} (h : tkB L a b = true) (hx : 0 ≤ x ∧ x ≤ 100) (hy : 0 ≤ y ∧ y ≤ 100) : tkB (nxt a b L x y) a b = true := by
  have h2 := step_in h hx hy
  have h := tkB_iff.1 h
  exact tkB_iff.2 (by omega)

/-- The level before hour k of a day. -/
def lev (a b L : Int) (xs ys : List Int) : Nat → Int
  | 0 => L
  | k + 1 => nxt a b (lev a b L xs ys k) (xs.getD k 0) (ys.getD k 0)
def spA (a b L : Int) (xs ys : List Int) (k : Nat) : Int := spl b (lev a b L xs ys k) (xs.getD k 0)
def miA (a b L : Int) (xs ys : List Int) (k : Nat) : Int := mis a b (lev a b L xs ys k) (xs.getD k 0) (ys.getD k 0)
def sumF (f : Nat → Int) : Nat → Int
  | 0 => 0
  | k + 1 => sumF f k + f k
/-- The levels, the spilled and the missing volumes of the first k hours. -/
def levL (a b L : Int) (xs ys : List Int) (k : Nat) : List Int := (List.range k).map fun i => lev a b L xs ys (i + 1)
def spL (a b L : Int) (xs ys : List Int) (k : Nat) : List Int := (List.range k).map fun i => spA a b L xs ys i
def miL (a b L : Int) (xs ys : List Int) (k : Nat) : List Int := (List.range k).map fun i => miA a b L xs ys i
theorem levL_len (a b L : Int) (xs ys : List Int) (k : Nat) : (levL a b L xs ys k).length = k := by simp [levL]
theorem spL_len (a b L : Int) (xs ys : List Int) (k : Nat) : (spL a b L xs ys k).length = k := by simp [spL]
theorem miL_len (a b L : Int) (xs ys : List Int) (k : Nat) : (miL a b L xs ys k).length = k := by simp [miL]
theorem levL_snoc (a b L : Int) (xs ys : List Int) (k : Nat) : levL a b L xs ys (k + 1) = levL a b L xs ys k ++ [lev a b L xs ys (k + 1)] := by simp [levL, List.range_succ]
theorem spL_snoc (a b L : Int) (xs ys : List Int) (k : Nat) : spL a b L xs ys (k + 1) = spL a b L xs ys k ++ [spA a b L xs ys k] := by simp [spL, List.range_succ]
theorem miL_snoc (a b L : Int) (xs ys : List Int) (k : Nat) : miL a b L xs ys (k + 1) = miL a b L xs ys k ++ [miA a b L xs ys k] := by simp [miL, List.range_succ]
theorem levL_at (a b L : Int) (xs ys : List Int) {k i : Nat} (h : i < k) : (levL a b L xs ys k).getD i 0 = lev a b L xs ys (i + 1) := by simp [levL, List.getD, h]
theorem spL_at (a b L : Int) (xs ys : List Int) {k i : Nat} (h : i < k) : (spL a b L xs ys k).getD i 0 = spA a b L xs ys i := by simp [spL, List.getD, h]
theorem miL_at (a b L : Int) (xs ys : List Int) {k i : Nat} (h : i < k) : (miL a b L xs ys k).getD i 0 = miA a b L xs ys i := by simp [miL, List.getD, h]
theorem sumF_le {f : Nat → Int} {B : Int} (hB : 0 ≤ B) : ∀ {k : Nat}, (∀ i, i < k → 0 ≤ f i ∧ f i ≤ B) → 0 ≤ sumF f k ∧ sumF f k ≤ B * k
  | 0, _ => by simp [sumF]
  | k + 1, h => by
    have h1 := sumF_le hB (k := k) (fun i hi => h i (by omega))
    have h2 := h k (by omega)
    have e : B * ((k + 1 : Nat) : Int) = B * k + B := by rw [Int.natCast_add, Int.mul_add]; simp
    rw [e]
    show 0 ≤ sumF f k + f k ∧ sumF f k + f k ≤ B * k + B
    omega
theorem sumF_congr {f g : Nat → Int} : ∀ {k : Nat}, (∀ i, i < k → f i = g i) → sumF f k = sumF g k
  | 0, _ => rfl
  | k + 1, h => by
    show sumF f k + f k = sumF g k + g k
    rw [sumF_congr (k := k) (fun i hi => h i (by omega)), h k (by omega)]
theorem sumF_pos {f : Nat → Int} : ∀ {k : Nat}, (∀ i, i < k → 0 ≤ f i) → (0 < sumF f k ↔ ∃ i, i < k ∧ 0 < f i)
  | 0, _ => by simp [sumF]
  | k + 1, h => by
    have ih := sumF_pos (f := f) (k := k) (fun i hi => h i (by omega))
    have hk := h k (by omega)
    have h0 : 0 ≤ sumF f k := by
      clear ih hk
      induction k with
      | zero => simp [sumF]
      | succ k ih =>
        have := ih (fun i hi => h i (by omega))
        have h2 := h k (by omega)
        show 0 ≤ sumF f k + f k
        omega
    show 0 < sumF f k + f k ↔ _
    constructor
    · intro hp
      by_cases hs : 0 < sumF f k
      · obtain ⟨i, hi, hf⟩ := ih.1 hs
        exact ⟨i, by omega, hf⟩
      · exact ⟨k, by omega, by omega⟩
    · rintro ⟨i, hi, hf⟩
      by_cases e : i = k
      · subst e; omega
      · have := ih.2 ⟨i, by omega, hf⟩
        omega

/-- All volumes of a list lie from 0 to 100. -/
def volB (x : Int) : Bool := decide (0 ≤ x ∧ x ≤ 100)
def volsB (l : List Int) : Bool := l.all volB
theorem vols_at {l : List Int} (h : volsB l = true) {i : Nat} (hi : i < l.length) : 0 ≤ l.getD i 0 ∧ l.getD i 0 ≤ 100 := by
  unfold volsB at h
  rw [List.all_eq_true] at h
  have := h _ (List.getElem_mem hi)
  have e : l.getD i 0 = l[i] := by simp [List.getD, hi]
  rw [e]
  simpa [volB] using this
theorem vols_mk {l : List Int} (h : ∀ j, j < l.length → volB (l.getD j 0) = true) : volsB l = true := by
  unfold volsB
  rw [List.all_eq_true]
  intro x hx
  obtain ⟨j, hj⟩ := List.getElem?_of_mem hx
  have hl := (List.getElem?_eq_some_iff.1 hj).1
  have := h j hl
  have e : l.getD j 0 = x := by simp [List.getD, hj]
  rwa [e] at this
theorem vols_no {l : List Int} {k : Nat} (hk : k < l.length) (h : volB (l.getD k 0) = false) : volsB l = false := by
  unfold volsB
  rw [List.all_eq_false]
  exact ⟨l.getD k 0, by simp [List.getD, hk], by rw [h]; simp⟩
/-- A valid tank and a day. -/
def dayB (L a b : Int) (xs ys : List Int) : Bool := tkB L a b && (decide (1 ≤ xs.length ∧ xs.length ≤ 12) && (decide (ys.length = xs.length) && (volsB xs && volsB ys)))
structure Day (L a b : Int) (xs ys : List Int) : Prop where
  tk : tkB L a b = true
  n0 : 1 ≤ xs.length
  n1 : xs.length ≤ 12
  eq : ys.length = xs.length
  xv : volsB xs = true
  yv : volsB ys = true
theorem dayB_iff {L a b : Int} {xs ys : List Int} : dayB L a b xs ys = true ↔ Day L a b xs ys := by
  unfold dayB
  constructor
  · intro h
    simp only [Bool.and_eq_true, decide_eq_true_eq] at h
    exact ⟨h.1, h.2.1.1, h.2.1.2, h.2.2.1, h.2.2.2.1, h.2.2.2.2⟩
  · intro h
    simp only [Bool.and_eq_true, decide_eq_true_eq]
    exact ⟨h.tk, ⟨h.n0, h.n1⟩, h.eq, h.xv, h.yv⟩
theorem Day.other {L L' a b : Int} {xs ys : List Int} (h : Day L a b xs ys) (h' : tkB L' a b = true) : Day L' a b xs ys := ⟨h', h.n0, h.n1, h.eq, h.xv, h.yv⟩
theorem Day.lev {L a b : Int} {xs ys : List Int} (h : Day L a b xs ys) : ∀ {k : Nat}, k ≤ xs.length → tkB (lev a b L xs ys k) a b = true
  | 0, _ => h.tk
  | k + 1, hk => step_tk (h.lev (k := k) (by omega)) (vols_at h.xv (by omega)) (vols_at h.yv (by rw [h.eq]; omega))
theorem Day.sp {L a b : Int} {xs ys : List Int} (h : Day L a b xs ys) {k : Nat} (hk : k < xs.length) : 0 ≤ spA a b L xs ys k ∧ spA a b L xs ys k ≤ 160 :=
  (step_in (h.lev (k := k) (by omega)) (vols_at h.xv hk) (vols_at h.yv (by rw [h.eq]; exact hk))).1
theorem Day.mi {L a b : Int} {xs ys : List Int} (h : Day L a b xs ys) {k : Nat} (hk : k < xs.length) : 0 ≤ miA a b L xs ys k ∧ miA a b L xs ys k ≤ 160 :=
  (step_in (h.lev (k := k) (by omega)) (vols_at h.xv hk) (vols_at h.yv (by rw [h.eq]; exact hk))).2.1
theorem Day.spS {L a b : Int} {xs ys : List Int} (h : Day L a b xs ys) {k : Nat} (hk : k ≤ xs.length) : 0 ≤ sumF (spA a b L xs ys) k ∧ sumF (spA a b L xs ys) k ≤ 1920 := by
  have := sumF_le (f := spA a b L xs ys) (B := 160) (by omega) (k := k) (fun i hi => h.sp (by omega))
  have := h.n1
  omega
theorem Day.miS {L a b : Int} {xs ys : List Int} (h : Day L a b xs ys) {k : Nat} (hk : k ≤ xs.length) : 0 ≤ sumF (miA a b L xs ys) k ∧ sumF (miA a b L xs ys) k ≤ 1920 := by
  have := sumF_le (f := miA a b L xs ys) (B := 160) (by omega) (k := k) (fun i hi => h.mi (by omega))
  have := h.n1
  omega
theorem vol_sum {l : List Int} (h : volsB l = true) (hl : l.length ≤ 13) {k : Nat} (hk : k ≤ l.length) : 0 ≤ sumF (fun i => l.getD i 0) k ∧ sumF (fun i => l.getD i 0) k ≤ 1300 := by
  have := sumF_le (f := fun i => l.getD i 0) (B := 100) (by omega) (k := k) (fun i hi => vols_at h (by omega))
  omega
/-- The level after a day follows from what flows in, is spilled and is taken out. -/
theorem balance (a b L : Int) (xs ys : List Int) : ∀ k, lev a b L xs ys k = L + sumF (fun i => xs.getD i 0) k - sumF (spA a b L xs ys) k - sumF (fun i => ys.getD i 0) k + sumF (miA a b L xs ys) k
  | 0 => by simp [lev, sumF]
  | k + 1 => by
    have ih := balance a b L xs ys k
    have hs : spA a b L xs ys k = spl b (lev a b L xs ys k) (xs.getD k 0) := rfl
    have hm : miA a b L xs ys k = mis a b (lev a b L xs ys k) (xs.getD k 0) (ys.getD k 0) := rfl
    show nxt a b (lev a b L xs ys k) (xs.getD k 0) (ys.getD k 0) = L + (sumF (fun i => xs.getD i 0) k + xs.getD k 0) - (sumF (spA a b L xs ys) k + spA a b L xs ys k) - (sumF (fun i => ys.getD i 0) k + ys.getD k 0) + (sumF (miA a b L xs ys) k + miA a b L xs ys k)
    unfold nxt
    rw [← hs, ← hm]
    omega
/-- The level after a whole day, and after many. -/
def aft (a b : Int) (xs ys : List Int) (L : Int) : Int := lev a b L xs ys xs.length
def rep (a b : Int) (xs ys : List Int) (L : Int) : Nat → Int
  | 0 => L
  | k + 1 => aft a b xs ys (rep a b xs ys L k)
theorem Day.aft {L a b : Int} {xs ys : List Int} (h : Day L a b xs ys) : Day (aft a b xs ys L) a b xs ys := h.other (h.lev (Nat.le_refl _))
theorem Day.rep {L a b : Int} {xs ys : List Int} (h : Day L a b xs ys) : ∀ k, Day (rep a b xs ys L k) a b xs ys
  | 0 => h
  | k + 1 => (h.rep k).aft
theorem rep_steady {L a b : Int} {xs ys : List Int} (h : aft a b xs ys L = L) : ∀ k, rep a b xs ys L k = L
  | 0 => rfl
  | k + 1 => by show P11.aft a b xs ys (P11.rep a b xs ys L k) = L; rw [rep_steady h k, h]
/-- What is missing in a day. -/
def misS (a b : Int) (xs ys : List Int) (L : Int) : Int := sumF (miA a b L xs ys) xs.length
def spiS (a b : Int) (xs ys : List Int) (L : Int) : Int := sumF (spA a b L xs ys) xs.length
/-- The first hour in which something is missing, or none. -/
def fstM (a b L : Int) (xs ys : List Int) : Nat → Nat → Option Nat
  | _, 0 => none
  | i, r + 1 => if 0 < miA a b L xs ys i then some i else fstM a b L xs ys (i + 1) r
def firM (a b : Int) (xs ys : List Int) (L : Int) : Option Nat := fstM a b L xs ys 0 xs.length
theorem fstM_none {a b L : Int} {xs ys : List Int} : ∀ {r i : Nat}, (∀ j, i ≤ j → j < i + r → ¬ 0 < miA a b L xs ys j) → fstM a b L xs ys i r = none
  | 0, _, _ => rfl
  | r + 1, i, h => by
    unfold fstM
    rw [if_neg (h i (by omega) (by omega))]
    exact fstM_none (fun j h1 h2 => h j (by omega) (by omega))
theorem fstM_some {a b L : Int} {xs ys : List Int} : ∀ {r i k : Nat}, i ≤ k → k < i + r → (∀ j, i ≤ j → j < k → ¬ 0 < miA a b L xs ys j) → 0 < miA a b L xs ys k → fstM a b L xs ys i r = some k
  | 0, i, k, h1, h2, _, _ => absurd h2 (by omega)
  | r + 1, i, k, h1, h2, h3, h4 => by
    unfold fstM
    by_cases e : i = k
    · subst e; rw [if_pos h4]
    · rw [if_neg (h3 i (by omega) (by omega))]
      exact fstM_some (by omega) (by omega) (fun j h5 h6 => h3 j (by omega) h6) h4
theorem Day.fir_none {L a b : Int} {xs ys : List Int} (h : Day L a b xs ys) (h0 : ∀ j, j < xs.length → ¬ 0 < miA a b L xs ys j) : firM a b xs ys L = none ∧ misS a b xs ys L = 0 := by
  refine ⟨fstM_none (fun j _ h2 => h0 j (by omega)), ?_⟩
  have hp := sumF_pos (f := miA a b L xs ys) (k := xs.length) (fun i hi => (h.mi hi).1)
  have hs := h.miS (Nat.le_refl _)
  unfold misS
  by_cases e : 0 < sumF (miA a b L xs ys) xs.length
  · obtain ⟨i, hi, hf⟩ := hp.1 e
    exact absurd hf (h0 i hi)
  · omega
theorem Day.fir_some {L a b : Int} {xs ys : List Int} (h : Day L a b xs ys) {k : Nat} (hk : k < xs.length) (h0 : ∀ j, j < k → ¬ 0 < miA a b L xs ys j) (h1 : 0 < miA a b L xs ys k) : firM a b xs ys L = some k ∧ 0 < misS a b xs ys L :=
  ⟨fstM_some (Nat.zero_le _) (by omega) (fun j _ h3 => h0 j h3) h1, (sumF_pos (f := miA a b L xs ys) (k := xs.length) (fun i hi => (h.mi hi).1)).2 ⟨k, hk, h1⟩⟩
/-- The smallest level from i on, among r of them, with a property. -/
def lowL (p : Int → Bool) : Int → Nat → Option Int
  | _, 0 => none
  | i, r + 1 => if p i then some i else lowL p (i + 1) r
def lowI (p : Int → Bool) (a b : Int) : Option Int := lowL p a (b + 1 - a).toNat
theorem lowL_none {p : Int → Bool} : ∀ {r : Nat} {i : Int}, (∀ j, i ≤ j → j < i + r → p j = false) → lowL p i r = none
  | 0, _, _ => rfl
  | r + 1, i, h => by
    unfold lowL
    rw [h i (by omega) (by omega)]
    exact lowL_none (fun j h1 h2 => h j (by omega) (by omega))
theorem lowL_some {p : Int → Bool} : ∀ {r : Nat} {i k : Int}, i ≤ k → k < i + r → (∀ j, i ≤ j → j < k → p j = false) → p k = true → lowL p i r = some k
  | 0, i, k, h1, h2, _, _ => absurd h2 (by omega)
  | r + 1, i, k, h1, h2, h3, h4 => by
    unfold lowL
    by_cases e : i = k
    · subst e; rw [if_pos h4]
    · rw [h3 i (by omega) (by omega)]
      exact lowL_some (by omega) (by omega) (fun j h5 h6 => h3 j (by omega) h6) h4
theorem low_none {p : Int → Bool} {a b : Int} (h : ∀ j, a ≤ j → j ≤ b → p j = false) : lowI p a b = none := lowL_none (fun j h1 h2 => h j h1 (by omega))
theorem low_some {p : Int → Bool} {a b k : Int} (h1 : a ≤ k) (h2 : k ≤ b) (h3 : ∀ j, a ≤ j → j < k → p j = false) (h4 : p k = true) : lowI p a b = some k := lowL_some h1 (by omega) h3 h4
theorem lowL_is {p : Int → Bool} : ∀ {r : Nat} {i k : Int}, lowL p i r = some k → i ≤ k ∧ k < i + r ∧ p k = true ∧ ∀ j, i ≤ j → j < k → p j = false
  | 0, _, _, h => by cases h
  | r + 1, i, k, h => by
    unfold lowL at h
    cases e : p i with
    | true =>
      rw [e, if_pos rfl] at h
      injection h with h
      subst h
      exact ⟨by omega, by omega, e, fun j h1 h2 => absurd h2 (by omega)⟩
    | false =>
      rw [e] at h
      obtain ⟨h1, h2, h3, h4⟩ := lowL_is (r := r) (i := i + 1) h
      refine ⟨by omega, by omega, h3, fun j h5 h6 => ?_⟩
      by_cases e2 : j = i
      · subst e2; exact e
      · exact h4 j (by omega) h6
theorem low_is {p : Int → Bool} {a b k : Int} (h : lowI p a b = some k) : a ≤ k ∧ k ≤ b ∧ p k = true ∧ ∀ j, a ≤ j → j < k → p j = false := by
  obtain ⟨h1, h2, h3, h4⟩ := lowL_is h
  exact ⟨h1, by omega, h3, h4⟩
/-- A start with which nothing is missing; a level that a day leaves as it is. -/
def okSt (a b : Int) (xs ys : List Int) (L : Int) : Bool := decide (misS a b xs ys L = 0)
def stdB (a b : Int) (xs ys : List Int) (L : Int) : Bool := decide (aft a b xs ys L = L)
end Go.Proofs.Ytlkomipjamelkaa.P11
