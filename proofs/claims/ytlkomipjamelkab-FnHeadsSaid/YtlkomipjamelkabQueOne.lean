/- A queue: a slice of numbers of the call's own that is cut at its head and grows at its end. Conditions: each theorem's own premises. -/
import Derived.Test.YtlkomipjamelkabIntsOne
import Derived.ArgAppend
import Derived.Laws.Append
namespace Go.Proofs.Ytlkomipjamelkab.S2
open Go.RowKit P2

def QOwn (w : World) (B : Nat) (v : Value) (q : List Int) : Prop :=
  ∃ g off cap cur, v = .slice (some ⟨g, off, none⟩) q.length cap ∧ B ≤ g ∧ w.heap[g]? = some (.cells cur 3 (0, 0)) ∧ q.length ≤ cap ∧ cap ≤ maxLen ∧ off + cap ≤ cur.size ∧ ∀ i, i < q.length → cur[off + i]? = some (iv (q.getD i 0))
def qblk : Value → Nat
  | .slice (some a) _ _ => a.block
  | _ => 0

theorem getD_snoc (q : List Int) (x : Int) (j : Nat) (h : j < q.length) : (q ++ [x]).getD j 0 = q.getD j 0 := by
  simp [List.getD, List.getElem?_append_left h]

theorem QOwn.lt {w : World} {B : Nat} {v : Value} {q : List Int} (h : QOwn w B v q) : B ≤ qblk v ∧ qblk v < w.heap.size := by
  obtain ⟨g, off, cap, cur, rfl, hB, hg, _⟩ := h
  exact ⟨hB, (Array.getElem?_eq_some_iff.1 hg).1⟩
theorem QOwn.kept {w w' : World} {B : Nat} {v : Value} {q : List Int} (h : QOwn w B v q) (hb : w'.heap[qblk v]? = w.heap[qblk v]?) : QOwn w' B v q := by
  obtain ⟨g, off, cap, cur, rfl, hB, hg, rest⟩ := h
  exact ⟨g, off, cap, cur, rfl, hB, hb.trans hg, rest⟩
theorem QOwn.alloc {w : World} {B : Nat} {v : Value} {q : List Int} (h : QOwn w B v q) (o : Obj) : QOwn (w.alloc o) B v q := h.kept (Below.heap_alloc w o _ h.lt.2)
theorem QOwn.below {w w' : World} {B : Nat} {v : Value} {q : List Int} (h : QOwn w B v q) (hb : Below w.heap.size w w') : QOwn w' B v q := h.kept (hb.block _ h.lt.2)
theorem QOwn.start (w : World) (B : Nat) (x : Int) (hB : B ≤ w.heap.size) : QOwn (w.alloc (.cells #[iv x] 3)) B (.slice (some ⟨w.heap.size, 0, none⟩) 1 1) [x] :=
  ⟨w.heap.size, 0, 1, #[iv x], rfl, hB, heap_alloc_new w _, Nat.le_refl _, by simp [maxLen], by simp, fun i hi => by
    have e : i = 0 := by simpa using hi
    subst e; rfl⟩
theorem QOwn.head {w : World} {B : Nat} {v : Value} {x : Int} {q : List Int} (h : QOwn w B v (x :: q)) :
    ∃ g off cap, v = .slice (some ⟨g, off, none⟩) (q.length + 1) cap ∧ q.length + 1 ≤ cap ∧ cap ≤ maxLen ∧ g < w.heap.size ∧ w.cell? ⟨g, off, none⟩ = some (iv x) ∧
      QOwn w B (.slice (if cap = 1 then some ⟨g, off, none⟩ else some ⟨g, off + 1, none⟩) q.length (cap - 1)) q := by
  obtain ⟨g, off, cap, cur, rfl, hB, hg, hl, hm, hs, hc⟩ := h
  simp only [List.length_cons] at hl hc ⊢
  refine ⟨g, off, cap, rfl, hl, hm, (Array.getElem?_eq_some_iff.1 hg).1, ?_, ?_⟩
  · rw [cell_of_row w g off cur 3 (0, 0) hg]
    have := hc 0 (by omega)
    simpa using this
  · by_cases h1 : cap = 1
    · rw [if_pos h1]
      exact ⟨g, off, cap - 1, cur, rfl, hB, hg, by omega, by omega, by omega, fun i hi => by omega⟩
    · rw [if_neg h1]
      refine ⟨g, off + 1, cap - 1, cur, rfl, hB, hg, by omega, by omega, by omega, fun i hi => ?_⟩
      have := hc (i + 1) (by omega)
      rw [show off + 1 + i = off + (i + 1) by omega, this]
      simp

section
variable {P : Program} (w : World)
theorem run_append_q (t ty : TypeId) (i : TypeInfo) (ht : P.underlying t = some (.slice 3)) (hi : P.info? 3 = some i) (hz : i.zero = some (.int .i64 0)) (hsize : i.size = 1) (hby : i.bytes = 8)
    (B : Nat) (v : Value) (q : List Int) (hq : QOwn w B v q) (a : Addr) (c : Nat) (x : Int) (hx : w.cell? a = some (iv x)) (hn : q.length + 1 ≤ 1048576) (hB : B ≤ w.heap.size) :
    ∃ v' w', (Builtin.append_ #[t, t] ty #[v, .slice (some a) 1 c]).run P w = .ok v' w' ∧ QOwn w' B v' (q ++ [x]) ∧ w.grownBy w' (some (qblk v)) ∧ (qblk v' = qblk v ∨ qblk v' = w.heap.size) := by
  obtain ⟨g, off, cap, cur, rfl, hBg, hg, hl, hm, hs, hc⟩ := hq
  have hgl := (Array.getElem?_eq_some_iff.1 hg).1
  have hadd : a.add 0 = a := by simp [Addr.add]
  have hnew : ∀ j u, [iv x][j]? = some u → w.cell? (a.add j) = some u := by
    intro j u hu
    have hj : j = 0 := by
      have := (List.getElem?_eq_some_iff.1 hu).1
      simpa using this
    subst hj
    rw [hadd, hx]
    simpa using hu
  have h1 : ∀ u ∈ [iv x], u.oneCell' = true := by intro u hu; simp at hu; subst hu; rfl
  by_cases hroom : q.length + 1 ≤ cap
  · have hcell : ∀ j, j < [iv x].length → (w.cell? ⟨g, off + q.length * i.size + j, none⟩).isSome = true := by
      intro j hj
      have hj0 : j = 0 := by simpa using hj
      subst hj0
      rw [hsize, cell_of_row w g _ cur 3 (0, 0) hg]
      simp
      omega
    have hfr : ∀ j, j < [iv x].length → w.frozen? ⟨g, off + q.length * i.size + j, none⟩ = false := by
      intro j _
      simp [World.frozen?, hg]
    have hr := run_append_room_cells (P := P) w t ty 3 i ht hi g off q.length cap a 1 c [iv x] (by rw [hsize]; rfl) hnew h1 hroom hcell hfr
    rw [hsize, Nat.mul_one] at hr
    have hset : w.setCells g (off + q.length) [iv x] = w.setCell ⟨g, off + q.length, none⟩ (iv x) := rfl
    rw [hset] at hr
    refine ⟨_, _, hr, ⟨g, off, cap, cur.setIfInBounds (off + q.length) (iv x), by simp, hBg, ?_, by simp; omega, hm, by simpa using hs, fun j hj => ?_⟩, ?_, .inl rfl⟩
    · simp [World.setCell, Array.getElem?_modify, hg]
    · rw [Array.getElem?_setIfInBounds]
      by_cases e : j = q.length
      · subst e
        rw [if_pos rfl, if_pos (by omega)]
        simp [List.getD]
      · have hjl : j < q.length := by simp at hj; omega
        rw [if_neg (by omega), hc j hjl, getD_snoc q x j hjl]
    · exact ⟨rfl, rfl, rfl, by simp, fun k hk hne => Below.heap_setCell _ _ _ _ (by intro e; exact hne (by rw [e]; rfl))⟩
  · have holds : ∀ j u, (q.map iv)[j]? = some u → w.cell? ((⟨g, off, none⟩ : Addr).add j) = some u := by
      intro j u hu
      have hj : j < q.length := by
        have := (List.getElem?_eq_some_iff.1 hu).1
        simpa using this
      have ea : (⟨g, off, none⟩ : Addr).add j = ⟨g, off + j, none⟩ := by unfold Addr.add; split <;> simp_all
      rw [ea, cell_of_row w g _ cur 3 (0, 0) hg, hc j hj]
      simp [List.getD, hj] at hu ⊢
      exact hu
    have hr := run_append_grow (P := P) w t ty 3 i _ ht hi hz ⟨g, off, none⟩ q.length cap (q.map iv) (by rw [hsize]; simp) holds a 1 c [iv x] (by rw [hsize]; rfl) hnew (by omega) (by omega) (growslice_fits (by omega) (by rw [hby]; omega))
    refine ⟨_, _, hr, ⟨w.heap.size, 0, _, _, by simp; rfl, hB, heap_alloc_new w.drew _, by simp; exact grownCap_ge _ _ _ _, grownCap_le_maxLen _ _ _ _ (by simp only [maxLen]; omega), ?_, fun j hj => ?_⟩, ⟨rfl, rfl, rfl, by simp, fun k hk _ => Below.heap_alloc w.drew _ k hk⟩, .inr rfl⟩
    · have hge := grownCap_ge w (q.length + 1) cap 3
      have hz1 : (Value.int .i64 0).cells.size = 1 := rfl
      simp only [Array.size_append, List.size_toArray, size_zeroCells, hz1, List.length_map, List.length_singleton]
      omega
    · have hj' : j < (q ++ [x]).length := hj
      have hj1 : j < q.length + 1 := by simpa using hj'
      rw [Nat.zero_add, Array.getElem?_append_left (by simp; omega)]
      rw [Array.getElem?_append]
      simp only [List.size_toArray, List.length_map, List.getElem?_toArray]
      by_cases e : j < q.length
      · rw [if_pos e, getD_snoc q x j e]
        simp [List.getD, e]
      · have e2 : j = q.length := by omega
        subst e2
        rw [if_neg e]
        simp [List.getD]

theorem wpList_append_q {ops : Array Oper} {rest : List Oper} {o : Oper} {ac : Act} {Q : Exit → Act → World → Prop} (hgd : o.guard = none) (s y : Operand) (t : TypeId)
    (ho : o.op = .call { callee := .builtin .append, args := #[s, y], argTypes := #[t, t] })
    (i : TypeInfo) (ht : P.underlying t = some (.slice 3)) (hi : P.info? 3 = some i) (hz : i.zero = some (.int .i64 0)) (hsize : i.size = 1) (hby : i.bytes = 8)
    (B : Nat) (v : Value) (q : List Int) (hs : ac.eval s = v) (hq : QOwn w B v q) (a : Addr) (c : Nat) (x : Int) (hy : ac.eval y = .slice (some a) 1 c) (hx : w.cell? a = some (iv x)) (hn : q.length + 1 ≤ 1048576) (hB : B ≤ w.heap.size)
    (h : ∀ v' w', QOwn w' B v' (q ++ [x]) → w.grownBy w' (some (qblk v)) → (qblk v' = qblk v ∨ qblk v' = w.heap.size) → wpList P ops Q rest (ac.put o.dst v') w') : wpList P ops Q (o :: rest) ac w :=
  wpList_plain hgd fun K hK => by
    obtain ⟨v', w', hrun, h2, h3, h4⟩ := run_append_q (P := P) w t o.type i ht hi hz hsize hby B v q hq a c x hx hn hB
    unfold Oper.wp execOp
    simp only [ho, resolve, invoke, builtin, Sem.run_bind, Sem.run_pure, Result.andThen_ok, List.map_toArray, List.map_cons, List.map_nil, hs, hy, hrun]
    exact hK _ _ (h v' w' h2 h3 h4)
end
end Go.Proofs.Ytlkomipjamelkab.S2
