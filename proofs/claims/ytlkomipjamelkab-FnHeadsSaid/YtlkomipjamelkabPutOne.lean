/- The model's l1Has and l1Put: contracts. Conditions: each theorem's own premises. -/
import Derived.Test.YtlkomipjamelkabQueOne
import Derived.OwnWalk
import Derived.Deep.RegionHeld3
namespace Go.Proofs.Ytlkomipjamelkab.S2
open Go.RowKit P2

def hasB (l : List Int) (x : Int) : Bool := decide (x ∈ l)
theorem take_getD (l : List Int) (k : Nat) (h : k < l.length) : l.take (k + 1) = l.take k ++ [l.getD k 0] := by
  rw [List.take_succ_eq_append_getElem h]; simp [List.getD, h]
theorem getD_mem (l : List Int) (k : Nat) (h : k < l.length) : l.getD k 0 ∈ l := by
  have e : l.getD k 0 = l[k] := by simp [List.getD, h]
  rw [e]; exact List.getElem_mem h

theorem has_any (A : Option Addr) (cap : Nat) (l : List Int) (x : Int) (w : World) (h : IAt w A l) (hn : l.length ≤ 1048576) :
    Calls Try.prog 128 #[.slice A l.length cap, .int .i64 x] w fun e w' => e = .returned (.bool (hasB l x)) ∧ w' = w := by
  have HA := Lib.hid h
  clear h
  go_enter Try.func128, Try.ntmps128
  go_wp2
  go_loop [5] (fun i => ∃ k : Nat, k ≤ l.length ∧ i = .int .i64 k ∧ Hid (x ∉ l.take k)) (fun i => l.length - (intOf i).toNat)
  case atStart => exact ⟨0, Nat.zero_le _, rfl, Lib.hid (by simp)⟩
  case round =>
    obtain ⟨k, hk, rfl, hn'⟩ := hrel
    by_cases hlt : k < l.length
    · obtain ⟨b, off, hA, hbl, h0⟩ := HA.out.at_ hlt
      subst hA
      have hmem := getD_mem l k hlt
      have htk := take_getD l k hlt
      generalize l.getD k 0 = y at *
      by_cases he : y = x
      · have hE : (y == x) = true := by simpa using he
        have hfin := Lib.hid (show hasB l x = true from decide_eq_true (by rw [← he]; exact hmem))
        clear he htk hmem
        go_wp2
        go_ret
        exact ⟨by rw [hfin.out]; rfl, rfl⟩
      · have hE : (y == x) = false := by simpa using he
        have hst := Lib.hid (show x ∉ l.take (k + 1) by
          rw [htk]
          intro hm
          rcases List.mem_append.1 hm with hm | hm
          · exact hn'.out hm
          · exact he (List.mem_singleton.1 hm).symm)
        clear he htk hmem
        go_wp2
        go_round
        case rel => exact ⟨k + 1, by omega, by go_num, hst⟩
        case measure => simp [intOf]; omega
    · have hfin := Lib.hid (show hasB l x = false from decide_eq_false (by have := hn'.out; rwa [List.take_of_length_le (by omega)] at this))
      go_wp2
      go_ret
      exact ⟨by rw [hfin.out]; rfl, rfl⟩

/-- What a number put in its place leaves. -/
def PutOk (l : List Int) (x : Int) (r : List Int) : Prop := (l.Pairwise (· < ·) → r.Pairwise (· < ·)) ∧ (∀ y, y ∈ r ↔ y ∈ l ∨ y = x) ∧ (x ∉ l → r.length = l.length + 1) ∧ (x ∈ l → r = l)
theorem put_same (l : List Int) (x : Int) (h : x ∈ l) : PutOk l x l :=
  ⟨id, fun y => ⟨.inl, fun hy => by rcases hy with hy | hy; exact hy; rw [hy]; exact h⟩, fun hn => absurd h hn, fun _ => rfl⟩
theorem lt_take {l : List Int} {x : Int} {k : Nat} (h : ∀ i, i < k → i < l.length → l.getD i 0 < x) : ∀ y ∈ l.take k, y < x := by
  intro y hy
  obtain ⟨i, hi⟩ := List.getElem?_of_mem hy
  rw [List.getElem?_take] at hi
  split at hi
  · rename_i hik
    have hl : i < l.length := (List.getElem?_eq_some_iff.1 hi).1
    have := h i hik hl
    simp [List.getD, hi] at this
    exact this
  · cases hi
theorem put_new (l : List Int) (x : Int) (k : Nat) (hk : k ≤ l.length) (h : ∀ i, i < k → i < l.length → l.getD i 0 < x) (hx : k < l.length → l.getD k 0 ≠ x ∧ ¬ l.getD k 0 < x) (hs : l.Pairwise (· < ·)) : PutOk l x (l.take k ++ [x] ++ l.drop k) := by
  have ht := lt_take h
  have hd : ∀ y ∈ l.drop k, x < y := by
    intro y hy
    by_cases hkl : k < l.length
    · have e : l.drop k = l.getD k 0 :: l.drop (k + 1) := by rw [List.drop_eq_getElem_cons hkl]; simp [List.getD, hkl]
      have hp : (l.drop k).Pairwise (· < ·) := hs.sublist (List.drop_sublist k l)
      rw [e] at hp hy
      have h1 := hx hkl
      rcases List.mem_cons.1 hy with hy | hy
      · rw [hy]; omega
      · have := (List.pairwise_cons.1 hp).1 y hy
        omega
    · rw [List.drop_eq_nil_of_le (by omega)] at hy
      cases hy
  have hno : x ∉ l := by
    intro hm
    rw [← List.take_append_drop k l] at hm
    rcases List.mem_append.1 hm with hm | hm
    · have := ht x hm; omega
    · have := hd x hm; omega
  refine ⟨fun _ => ?_, fun y => ?_, fun _ => by simp; omega, fun hm => absurd hm hno⟩
  · rw [List.append_assoc, List.pairwise_append]
    refine ⟨hs.sublist (List.take_sublist k l), ?_, fun a ha b hb => ?_⟩
    · exact List.pairwise_cons.2 ⟨hd, hs.sublist (List.drop_sublist k l)⟩
    · have h1 := ht a ha
      rcases List.mem_cons.1 hb with hb | hb
      · rw [hb]; exact h1
      · have := hd b hb; omega
  · conv => rhs; rw [← List.take_append_drop k l]
    simp only [List.mem_append, List.mem_singleton]
    constructor
    · rintro ((h1 | h1) | h1)
      · exact .inl (.inl h1)
      · exact .inr h1
      · exact .inl (.inr h1)
    · rintro ((h1 | h1) | h1)
      · exact .inl (.inl h1)
      · exact .inr h1
      · exact .inl (.inr h1)

/-- append, as one step of a region that draws its order. -/
theorem step_append_row {P : Program} (w : World) {ops : Array Oper} {o : Oper} {a : Act} {K : Act → World → Prop} {Q : Exit → Act → World → Prop} {E : Prop} (hgd : o.guard = none) (s x : Operand) (t : TypeId)
    (ho : o.op = .call { callee := .builtin .append, args := #[s, x], argTypes := #[t, t] })
    (i : TypeInfo) (ht : P.underlying t = some (.slice 3)) (hi : P.info? 3 = some i) (hz : i.zero = some (.int .i64 0)) (hsize : i.size = 1) (hby : i.bytes = 8)
    (B : Nat) (v : Value) (l : List Int) (hs : a.eval s = v) (hown : IOwn w B v l) (hv : v ≠ .slice none 0 0)
    (ad : Addr) (m c : Nat) (news : List Int) (hx : a.eval x = .slice (some ad) m c) (hl : news.length = m) (hnews : ∀ j, j < news.length → w.cell? (ad.add j) = some (iv (news.getD j 0)))
    (hn : l.length + m ≤ 1048576) (hbase : B ≤ w.heap.size)
    (h : ∀ v' w', IOwn w' B v' (l ++ news) → w.grownBy w' v.ownBlock → v' ≠ .slice none 0 0 → K (a.put o.dst v') w') :
    if Region.wanted o (yielded ops a.tmps) = true then Oper.wp P o a w K Q else E := by
  have hw : Region.wanted o (yielded ops a.tmps) = true := by simp [Region.wanted, hgd]
  rw [if_pos hw]
  refine wp_append_own w s x t ho B 3 i (.int .i64 0) 1 8 ht hi hz hsize hby rfl (by omega) v l.length (l.map iv) hs hown ad m c (news.map iv) hx (by simp [hl]) (fun j u hu => ?_) (fun u hu => ?_) (by simp only [maxLen]; omega) (by omega) hbase fun v' w' h2 h3 h4 => h v' w' ?_ h3 (fun e => hv (h4.1 e).1)
  · have hj : j < news.length := by
      have := (List.getElem?_eq_some_iff.1 hu).1
      simpa using this
    rw [hnews j hj]
    simp [List.getD, hj] at hu ⊢
    exact hu
  · obtain ⟨y, _, rfl⟩ := List.mem_map.1 hu
    rfl
  · unfold IOwn
    rw [List.length_append, List.map_append, hl]
    exact h2
end Go.Proofs.Ytlkomipjamelkab.S2
