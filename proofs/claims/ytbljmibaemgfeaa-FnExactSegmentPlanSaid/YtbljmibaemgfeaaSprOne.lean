/- Plain facts on the lists that the model gathers (chapter 4); no program in them. No conditions. -/
import Derived.Test.YtbljmibaemgfeaaValOne
import Derived.Test.YtbljmibaemgfeaaPutOne
namespace Go.Proofs.Ytbljmibaemgfeaa.P4
open P2 S2

theorem sorted_ext4 : ∀ (l m : List Int), l.Pairwise (· < ·) → m.Pairwise (· < ·) → (∀ y, y ∈ l ↔ y ∈ m) → l = m
  | [], [], _, _, _ => rfl
  | [], y :: m, _, _, h => by have := (h y).2 (by simp); simp at this
  | x :: l, [], _, _, h => by have := (h x).1 (by simp); simp at this
  | x :: l, y :: m, hl, hm, h => by
    have h1 := List.pairwise_cons.1 hl
    have h2 := List.pairwise_cons.1 hm
    have hxy : x = y := by
      have a := (h x).1 (by simp)
      have b := (h y).2 (by simp)
      rcases List.mem_cons.1 a with a | a
      · exact a
      · rcases List.mem_cons.1 b with b | b
        · exact b.symm
        · have := h2.1 x a
          have := h1.1 y b
          omega
    subst hxy
    rw [sorted_ext4 l m h1.2 h2.2 fun z => ?_]
    constructor
    · intro hz
      have := h1.1 z hz
      rcases List.mem_cons.1 ((h z).1 (by simp [hz])) with e | e
      · omega
      · exact e
    · intro hz
      have := h2.1 z hz
      rcases List.mem_cons.1 ((h z).2 (by simp [hz])) with e | e
      · omega
      · exact e
theorem sorted_few : ∀ (l : List Int) (a n : Int), l.Pairwise (· < ·) → (∀ y, y ∈ l → a < y ∧ y ≤ n) → (l.length : Int) ≤ max 0 (n - a)
  | [], a, n, _, _ => by simp; omega
  | x :: t, a, n, hp, hy => by
    have h1 := List.pairwise_cons.1 hp
    have hx := hy x (by simp)
    have h2 := sorted_few t x n h1.2 (fun y hm => ⟨h1.1 y hm, (hy y (by simp [hm])).2⟩)
    simp only [List.length_cons]
    omega

/-- The valves that are barriers: all, or the shut ones. -/
def bar (vs : List Vv) (shut : Bool) : List Vv := if shut then vs.filter (·.sh) else vs
def hitV (shut : Bool) (p n : Int) (v : Vv) : Bool := decide (v.pp = p ∧ v.nd = n) && (!shut || v.sh)
theorem hasV_bar (vs : List Vv) (shut : Bool) (p n : Int) : hasV (bar vs shut) p n = vs.any (hitV shut p n) := by
  unfold hasV bar
  cases shut
  · simp only [Bool.false_eq_true, if_false]
    congr 1
    funext v
    simp [hitV]
  · simp only [if_true, List.any_filter]
    congr 1
    funext v
    simp [hitV, Bool.and_comm]
theorem bar_len (vs : List Vv) (shut : Bool) : (bar vs shut).length ≤ vs.length := by
  unfold bar
  split
  · exact List.length_filter_le _ _
  · exact Nat.le_refl _

/-- The set that two lists stand for. -/
def sOf (ns is : List Int) : Nat → Bool := fun e => if e < 9 then decide ((e : Int) ∈ ns) else decide (((e - 9 : Nat) : Int) ∈ is)
theorem sOf_node (ns is : List Int) (v : Nat) (h : v < 9) : sOf ns is v = decide ((v : Int) ∈ ns) := by simp [sOf, h]
theorem sOf_pipe (ns is : List Int) (i : Nat) : sOf ns is (9 + i) = decide ((i : Int) ∈ is) := by
  have h : ¬ 9 + i < 9 := by omega
  have e : 9 + i - 9 = i := by omega
  simp [sOf, h, e]
theorem sOf_put {ns is r1 r2 : List Int} {u i : Nat} (hu : u < 9) (h1 : PutOk ns (u : Int) r1) (h2 : PutOk is (i : Int) r2) : sOf r1 r2 = P4.upd (P4.upd (sOf ns is) (9 + i) true) u true := by
  funext e
  unfold P4.upd
  by_cases he : e < 9
  · rw [sOf_node _ _ e he]
    by_cases heu : e = u
    · subst heu; rw [if_pos rfl]; exact decide_eq_true ((h1.2.1 _).2 (.inr rfl))
    · rw [if_neg heu, if_neg (by omega), sOf_node _ _ e he]
      rw [Bool.eq_iff_iff, decide_eq_true_eq, decide_eq_true_eq, h1.2.1]
      exact ⟨fun h => h.resolve_right (by omega), .inl⟩
  · obtain ⟨j, rfl⟩ : ∃ j, e = 9 + j := ⟨e - 9, by omega⟩
    rw [sOf_pipe, if_neg (by omega)]
    by_cases hj : j = i
    · subst hj; rw [if_pos rfl]; exact decide_eq_true ((h2.2.1 _).2 (.inr rfl))
    · rw [if_neg (by omega), sOf_pipe]
      rw [Bool.eq_iff_iff, decide_eq_true_eq, decide_eq_true_eq, h2.2.1]
      exact ⟨fun h => h.resolve_right (by omega), .inl⟩
/-- The lists of a search: sorted, of nodes and of places. -/
structure Ls (N m : Nat) (ns is : List Int) : Prop where
  sn : ns.Pairwise (· < ·)
  si : is.Pairwise (· < ·)
  rn : ∀ y, y ∈ ns → 1 ≤ y ∧ y ≤ N
  ri : ∀ y, y ∈ is → 0 ≤ y ∧ y < m
theorem Ls.len {N m : Nat} {ns is : List Int} (h : Ls N m ns is) : ns.length ≤ N ∧ is.length ≤ m := by
  have h1 := sorted_few ns 0 N h.sn (fun y hy => by have := h.rn y hy; omega)
  have h2 := sorted_few is (-1) (m - 1 : Int) h.si (fun y hy => by have := h.ri y hy; omega)
  omega
theorem Ls.put {N m : Nat} {ns is r1 r2 : List Int} {u i : Nat} (h : Ls N m ns is) (h1 : PutOk ns (u : Int) r1) (h2 : PutOk is (i : Int) r2) (hu : 1 ≤ u ∧ u ≤ N) (hi : i < m) : Ls N m r1 r2 := by
  refine ⟨h1.1 h.sn, h2.1 h.si, fun y hy => ?_, fun y hy => ?_⟩
  · rcases (h1.2.1 y).1 hy with hy | hy
    · exact h.rn y hy
    · omega
  · rcases (h2.2.1 y).1 hy with hy | hy
    · exact h.ri y hy
    · omega
theorem Ls.told {N m : Nat} {ns is : List Int} {s : Nat → Bool} (h : Ls N m ns is) (hN : N ≤ 8) (hs : ∀ e, sOf ns is e = s e) : ns = nodesL N s true ∧ is = idxL m s true := by
  constructor
  · refine sorted_ext4 _ _ h.sn (nodesL_sorted N s true) fun y => ?_
    rw [nodesL_mem]
    constructor
    · intro hy
      have hr := h.rn y hy
      refine ⟨y.toNat, by omega, by omega, by omega, ?_⟩
      rw [← hs, sOf_node _ _ _ (by omega)]
      have e : ((y.toNat : Nat) : Int) = y := by omega
      rw [e]; exact decide_eq_true hy
    · rintro ⟨v, rfl, h1, h2, h3⟩
      rw [← hs, sOf_node _ _ _ (by omega)] at h3
      exact of_decide_eq_true h3
  · refine sorted_ext4 _ _ h.si (idxL_sorted m s true) fun y => ?_
    rw [idxL_mem]
    constructor
    · intro hy
      have hr := h.ri y hy
      refine ⟨y.toNat, by omega, by omega, ?_⟩
      rw [← hs, sOf_pipe]
      have e : ((y.toNat : Nat) : Int) = y := by omega
      rw [e]; exact decide_eq_true hy
    · rintro ⟨v, rfl, h1, h2⟩
      rw [← hs, sOf_pipe] at h2
      exact of_decide_eq_true h2
end Go.Proofs.Ytbljmibaemgfeaa.P4
