/- The laws' marks in a slice of strings: written, and found again: contracts. Conditions: each theorem's own premises. -/
import Derived.Test.YtcheogmnhooffaaMarkOne
import Derived.Laws.OwnMore
import Derived.OwnWalk
import Derived.Deep.RegionWith
import Derived.Below
namespace Go.Proofs.Ytcheogmnhooffaa.S1
open Go.RowKit Go.Lib P1

theorem own_on {A B : World} {base : Nat} {e : TypeId} {size : Nat} {v : Value} {n : Nat} {xs : List Value} (h : A.ownsRow base e size v n xs) (hb : Below A.heap.size A B) : B.ownsRow base e size v n xs :=
  h.kept ⟨hb.os, hb.tape, hb.output, hb.size, fun k hk _ => hb.block k hk⟩ (Classical.or_iff_not_imp_left.2 fun hn => hn)

/-- The first j values are marks, the rest is xs. -/
def mk (m : Nat) (xs : List Value) (j : Nat) : List Value := (List.range j).map (fun i => Value.string (markB (m + i))) ++ xs.drop j
theorem mk_zero (m : Nat) (xs : List Value) : mk m xs 0 = xs := by simp [mk]
theorem mk_set (m : Nat) (xs : List Value) (j : Nat) (h : j < xs.length) : (mk m xs j).set j (.string (markB (m + j))) = mk m xs (j + 1) := by
  unfold mk
  rw [List.set_append_right _ _ (by simp), List.range_succ, List.map_append, List.append_assoc]
  congr 1
  simp only [List.length_map, List.length_range, Nat.sub_self]
  rw [List.drop_eq_getElem_cons h]
  rfl
theorem mk_len (m : Nat) (xs : List Value) (j : Nat) (h : j ≤ xs.length) : (mk m xs j).length = xs.length := by simp [mk]; omega
theorem mk_has (m : Nat) (xs : List Value) (j : Nat) (h : j < xs.length) : ∃ u, (mk m xs j)[j]? = some u := by
  have hl := mk_len m xs j (by omega)
  exact ⟨_, List.getElem?_eq_getElem (by rw [hl]; exact h)⟩
theorem mk_full (m : Nat) (xs : List Value) : mk m xs xs.length = ((List.range xs.length).map (fun i => markB (m + i))).map Value.string := by
  simp [mk]
/-- The marks, as strings. -/
def marks (m n : Nat) : List ByteArray := (List.range n).map (fun i => markB (m + i))
theorem marks_len (m n : Nat) : (marks m n).length = n := by simp [marks]
theorem marks_get (m n j : Nat) (h : j < n) : (marks m n).getD j ByteArray.empty = markB (m + j) := by simp [marks, List.getD, h]

set_option maxHeartbeats 1000000 in
theorem mark_row (B g cap n m : Nat) (xs : List Value) (hx : xs.length = n) (w : World) (h : w.ownsRow B 9 1 (.slice (some ⟨g, 0, none⟩) n cap) n xs) (h1 : 1 ≤ m) (hm : m + n ≤ 999999) :
    Calls Try.prog 19 #[.slice (some ⟨g, 0, none⟩) n cap, .int .i64 (m : Int)] w fun e w' => e = .returned (.int .i64 ((m + n : Nat) : Int)) ∧ w'.ownsRow B 9 1 (.slice (some ⟨g, 0, none⟩) n cap) n ((marks m n).map Value.string) ∧ Below B w w' := by
  have hB := (h.lt g rfl).1
  have HF := Lib.hid (show mk m xs n = (marks m n).map Value.string by rw [← hx]; exact mk_full m xs)
  have HX := Lib.hid hx
  clear hx
  go_enter Try.func19, Try.ntmps19
  go_wp2
  go_loopw [1, 5] (fun k i wr => ∃ j : Nat, j ≤ n ∧ k = .int .i64 ((m + j : Nat) : Int) ∧ i = .int .i64 j ∧ wr.ownsRow B 9 1 (.slice (some ⟨g, 0, none⟩) n cap) n (mk m xs j) ∧ Below B w wr) (fun _ i _ => n - (intOf i).toNat)
  case atStart => exact ⟨0, Nat.zero_le _, rfl, rfl, by rw [mk_zero]; exact h, Below.refl _ _⟩
  case round =>
    obtain ⟨j, hj, rfl, rfl, hown, hb⟩ := hrel
    clear h
    by_cases hlt : j < n
    · have hset := Lib.hid (mk_set m xs j (by rw [HX.out]; exact hlt))
      obtain ⟨u, hu⟩ := mk_has m xs j (by rw [HX.out]; exact hlt)
      have HU := Lib.hid hu
      have HO := Lib.hid hown
      have hjn : m + j + 1 = m + (j + 1) := by omega
      clear hown hu
      go_wp2_with (go_at_call 37; refine (mark_any (m + j) _ (by omega) (by omega)).mono ?_; rintro e w1 ⟨rfl, hb1⟩; have hown1 := Lib.hid (own_on HO.out hb1); have hcell := (hown1.out.cellAt j (by omega)).trans HU.out; have hfz := hown1.out.frozenAt j)
      have hst := hown1.out.stored j (.string (markB (m + j)))
      rw [hset.out] at hst
      go_roundw
      case rel => exact ⟨j + 1, by omega, by go_num, by go_num, hst.1, (hb.trans (hb1.mono (by have := (HO.out.lt g rfl).2; omega))).setCell (p := ⟨g, j, none⟩) hB _⟩
      case measure => simp [intOf]; omega
    · have hjn : j = n := by omega
      subst hjn
      go_wp2
      go_ret
      exact ⟨rfl, by rw [← HF.out]; exact hown, hb⟩

/-- The marks are found. -/
theorem mark_cell (m : Nat) (p : Addr) (v : Value) (w : World) (h1 : 1 ≤ m) (hm : m ≤ 999999) (hp : p.block < w.heap.size) (hc : w.cell? p = some v) :
    Calls Try.prog 37 #[.int .i64 (m : Int)] w fun e w' => e = .returned (.string (markB m)) ∧ (w'.cell? p = some v ∧ Below w.heap.size w w') :=
  (mark_any m w h1 hm).mono fun _ _ ⟨he, hb⟩ => ⟨he, (hb.cell (p := p) hp).trans hc, hb⟩

set_option maxHeartbeats 1000000 in
theorem held_row (g cap n m : Nat) (w : World) (h : At w g 0 (marks m n)) (h1 : 1 ≤ m) (hm : m + n ≤ 999999) :
    Calls Try.prog 20 #[.slice (some ⟨g, 0, none⟩) n cap, .int .i64 (m : Int)] w fun e w' => e = .returned (.int .i64 ((m + n : Nat) : Int)) ∧ Below w.heap.size w w' := by
  have hg := h.1
  have HC := Lib.hid (show ∀ j, j < n → w.cell? ⟨g, j, none⟩ = some (.string (markB (m + j))) from fun j hj => by
    have := h.2 j (by rw [marks_len]; exact hj)
    rw [marks_get m n j hj, Nat.zero_add] at this
    exact this)
  clear h
  go_enter Try.func20, Try.ntmps20
  go_wp2
  go_loopw [1, 5] (fun k i wr => ∃ j : Nat, j ≤ n ∧ k = .int .i64 ((m + j : Nat) : Int) ∧ i = .int .i64 j ∧ Below w.heap.size w wr) (fun _ i _ => n - (intOf i).toNat)
  case atStart => exact ⟨0, Nat.zero_le _, rfl, rfl, Below.refl _ _⟩
  case round =>
    obtain ⟨j, hj, rfl, rfl, hb⟩ := hrel
    by_cases hlt : j < n
    · have hc : wr.cell? ⟨g, j, none⟩ = some (.string (markB (m + j))) := (hb.cell (p := ⟨g, j, none⟩) hg).trans (HC.out j hlt)
      have hgr : g < wr.heap.size := by have := hb.size; omega
      have hj0 : (0 : Int) ≤ (j : Int) := by omega
      have hjn : (j : Int) < (n : Int) := by omega
      go_wp2
      go_region_with (go_at_call 37; refine (mark_cell (m + j) ⟨g, j, none⟩ _ wr.drew (by omega) (by omega) hgr hc).mono ?_; rintro e w1 ⟨rfl, hc1, hb1⟩)
      all_goals go_wp2
      all_goals go_roundw
      all_goals first | exact ⟨j + 1, by omega, by go_num, by go_num, hb.drew.trans (hb1.mono hb.size)⟩ | (simp [intOf]; omega)
    · have hjn : j = n := by omega
      subst hjn
      go_wp2
      go_ret
      exact ⟨rfl, hb⟩
end Go.Proofs.Ytcheogmnhooffaa.S1
