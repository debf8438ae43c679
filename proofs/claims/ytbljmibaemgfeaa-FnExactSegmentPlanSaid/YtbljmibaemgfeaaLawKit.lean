/- What the walks of the laws over a network and valves need: sizes, marks, how facts go on. Conditions: each theorem's own premises. -/
import Derived.Test.YtbljmibaemgfeaaLawInts
import Derived.Test.YtbljmibaemgfeaaSsTwoKit
import Derived.Test.YtbljmibaemgfeaaValTwo
namespace Go.Proofs.Ytbljmibaemgfeaa.S2
open Go.RowKit P2 P4

theorem szpipes_le (A : Option Addr) (len cap : Nat) (w : World) (hm : len ≤ maxLen) :
    Calls Try.prog 79 #[.slice A len cap, .int .i64 1048576] w fun e w' => (∃ r : Int, e = .returned (.int .i64 r) ∧ (r < 0 ∨ (0 ≤ r ∧ r ≤ 1048576 ∧ len ≤ 1048576))) ∧ w' = w := by
  unfold maxLen at hm
  by_cases h0 : len ≤ 1048576
  · go_enter Try.func79, Try.ntmps79
    go_wp2
    go_ret
    exact ⟨⟨_, rfl, .inr ⟨by omega, by omega, h0⟩⟩, rfl⟩
  · go_enter Try.func79, Try.ntmps79
    go_wp2
    go_ret
    exact ⟨⟨_, rfl, .inl (by omega)⟩, rfl⟩
theorem sznet_le (n : Int) (A : Option Addr) (len cap : Nat) (w : World) (hm : len ≤ maxLen) :
    Calls Try.prog 15 #[nv n A len cap, .int .i64 1048576] w fun e w' => (∃ r : Int, e = .returned (.int .i64 r) ∧ (r < 0 ∨ (0 ≤ r ∧ r ≤ 1048576 ∧ len ≤ 1048576))) ∧ Below w.heap.size w w' := by
  have H := Lib.hid (fun w => szpipes_le A len cap w hm)
  clear hm
  go_enter Try.func15, Try.ntmps15
  go_wp2_with (go_at_call 79; refine (H.out _).mono ?_; rintro e w1 ⟨⟨r, rfl, hr⟩, rfl⟩)
  all_goals
    go_ret
    first
      | exact ⟨⟨_, rfl, hr⟩, (Below.refl _ _).alloc (Nat.le_refl _) _⟩
      | exact ⟨⟨_, rfl, .inl (by omega)⟩, (Below.refl _ _).alloc (Nat.le_refl _) _⟩

theorem vrow_own {w : World} {g n : Nat} {f : Nat → Value} (h : w.rowIs g 60 (n * 4) f) (hn : n ≤ 1048576) : ∃ xs : List Value, xs.length = n * 4 ∧ w.ownsRow g 60 4 (.slice (some ⟨g, 0, none⟩) n n) n xs := by
  obtain ⟨c, hb, hs, _⟩ := h
  refine ⟨c.toList, by simpa using hs, by simpa using hs, .inr ⟨g, n, c, rfl, Nat.le_refl _, hb, Nat.le_refl _, by simp only [maxLen]; omega, hs, ?_⟩⟩
  rw [List.take_of_length_le (by simp; omega)]
set_option maxHeartbeats 2000000 in
theorem markvalves_any (g m n : Nat) (xs : List Value) (w : World) (h : w.ownsRow g 60 4 (.slice (some ⟨g, 0, none⟩) n n) n xs) (hn : n ≤ 1048576) (hm : m ≤ 104857600) :
    Calls Try.prog 28 #[.slice (some ⟨g, 0, none⟩) n n, .int .i64 (m : Int)] w fun e w' => e = .returned (.int .i64 ((m + n * 4 : Nat) : Int)) ∧ w.grownBy w' (some g) := by
  go_enter Try.func28, Try.ntmps28
  go_wp2
  go_loopw [1, 5] (fun k i wr => ∃ (j : Nat) (xs : List Value), j ≤ n ∧ k = .int .i64 ((m + j * 4 : Nat) : Int) ∧ i = .int .i64 j ∧ Hid (wr.ownsRow g 60 4 (.slice (some ⟨g, 0, none⟩) n n) n xs) ∧ w.grownBy wr (some g)) (fun _ i _ => n - (intOf i).toNat)
  case atStart => exact ⟨0, xs, Nat.zero_le _, rfl, rfl, Lib.hid h, World.grownBy.refl _ _⟩
  case round =>
    obtain ⟨j, xs, hj, rfl, rfl, hown, hb⟩ := hrel
    clear h
    by_cases hlt : j < n
    · have hL : xs.length = n * 4 := hown.out.1
      have c0 := (hown.out.cellAt (j * 4) (by omega)).trans (List.getElem?_eq_getElem (by omega))
      have c1 := (hown.out.cellAt (j * 4 + 1) (by omega)).trans (List.getElem?_eq_getElem (by omega))
      have c2 := (hown.out.cellAt (j * 4 + 2) (by omega)).trans (List.getElem?_eq_getElem (by omega))
      have c3 := (hown.out.cellAt (j * 4 + 3) (by omega)).trans (List.getElem?_eq_getElem (by omega))
      generalize xs[j * 4]'(by omega) = u0 at c0
      generalize xs[j * 4 + 1]'(by omega) = u1 at c1
      generalize xs[j * 4 + 2]'(by omega) = u2 at c2
      generalize xs[j * 4 + 3]'(by omega) = u3 at c3
      have hfz := fun o => hown.out.frozenAt o
      clear hL
      go_wp2
      go_roundw
      case rel => exact ⟨j + 1, _, by omega, by congr 1; omega, by go_num, Lib.hid ((((hown.out.stored (j * 4) _).1.stored (j * 4 + 1) _).1.stored (j * 4 + 2) _).1.stored (j * 4 + 3) _).1, grown_set (grown_set (grown_set (grown_set hb _ _) _ _) _ _) _ _⟩
      case measure => simp [intOf]; omega
    · have hjn : j = n := by omega
      subst hjn
      go_wp2
      go_ret
      exact ⟨rfl, hb⟩
theorem markvrow_any (g m : Nat) (vs : List Vv) (w : World) (h : VRow w g vs) (hn : vs.length ≤ 1048576) (hm : m ≤ 104857600) :
    Calls Try.prog 28 #[.slice (some ⟨g, 0, none⟩) vs.length vs.length, .int .i64 (m : Int)] w fun e w' => e = .returned (.int .i64 ((m + vs.length * 4 : Nat) : Int)) ∧ w.grownBy w' (some g) := by
  obtain ⟨xs, _, ho⟩ := vrow_own h hn
  exact markvalves_any g m vs.length xs w ho hn hm
theorem marknetk_any (x : Int) (g m : Nat) (ps : List Pp) (w : World) (h : PRow w g ps) (hn : ps.length ≤ 1048576) (hm : m ≤ 1048576) :
    Calls Try.prog 27 #[nv x (some ⟨g, 0, none⟩) ps.length ps.length, .int .i64 (m : Int)] w fun e w' => e = .returned (.int .i64 ((m + ps.length * 4 : Nat) : Int)) ∧ w.grownBy w' (some g) :=
  (marknet_any x g m ps w h hn hm).mono fun _ _ ⟨he, _, hb, hg⟩ => ⟨he, hg.os.trans hb.os, hg.tape.trans hb.tape, hg.output.trans hb.output, Nat.le_trans hb.size hg.size, fun k hk hne => (hg.block k (Nat.lt_of_lt_of_le hk hb.size) hne).trans (hb.block k hk)⟩
theorem markvrow_i (g : Nat) (mi : Int) (vs : List Vv) (w : World) (h : VRow w g vs) (hn : vs.length ≤ 1048576) (h0 : 0 ≤ mi) (h9 : mi ≤ 104857600) :
    Calls Try.prog 28 #[.slice (some ⟨g, 0, none⟩) vs.length vs.length, .int .i64 mi] w fun e w' => e = .returned (.int .i64 (mi + (vs.length : Int) * 4)) ∧ w.grownBy w' (some g) := by
  obtain ⟨m, rfl⟩ : ∃ m : Nat, mi = (m : Int) := ⟨mi.toNat, by omega⟩
  exact (markvrow_any g m vs w h hn (by omega)).mono fun _ _ ⟨he, hg⟩ => ⟨by rw [he]; congr 2, hg⟩
theorem markints_i (B g cap m : Nat) (mi : Int) (l : List Int) (w : World) (h : IOwn w B (.slice (some ⟨g, 0, none⟩) l.length cap) l) (hn : l.length ≤ 1048576) (hm : m ≤ 104857600) (hmi : mi = (m : Int)) :
    Calls Try.prog 29 #[.slice (some ⟨g, 0, none⟩) l.length cap, .int .i64 mi] w fun e w' => e = .returned (.int .i64 (mi + (l.length : Int))) ∧ IOwn w' B (.slice (some ⟨g, 0, none⟩) l.length cap) (marksI m l.length) ∧ w.grownBy w' (some g) := by
  subst hmi
  exact (markints_far B g cap m l w h hn hm).mono fun _ _ ⟨he, ho, hg⟩ => ⟨by rw [he]; congr 2, ho, hg⟩
theorem heldints_i (A : Option Addr) (cap m n : Nat) (mi : Int) (w : World) (h : IAt w A (marksI m n)) (hn : n ≤ 1048576) (hm : m ≤ 1048576) (hmi : mi = (m : Int)) :
    Calls Try.prog 30 #[.slice A n cap, .int .i64 mi] w fun e w' => e = .returned (.int .i64 (mi + (n : Int))) ∧ Below w.heap.size w w' := by
  subst hmi
  exact (heldints_any A cap m n w h hn hm).mono fun _ _ ⟨he, hb⟩ => ⟨by rw [he]; congr 2, hb⟩
theorem PRow.far {w w' : World} {g x : Nat} {ps : List Pp} (h : PRow w g ps) (hg : w.grownBy w' (some x)) (hne : g ≠ x) : PRow w' g ps :=
  World.rowIs.of_block h (hg.block g h.lt (by simp; exact fun e => hne e))
theorem VRow.far {w w' : World} {g x : Nat} {vs : List Vv} (h : VRow w g vs) (hg : w.grownBy w' (some x)) (hne : g ≠ x) : VRow w' g vs :=
  World.rowIs.of_block h (hg.block g h.lt (by simp; exact fun e => hne e))
theorem VRow.alloc {w : World} {g : Nat} {vs : List Vv} (h : VRow w g vs) (o : Obj) : VRow (w.alloc o) g vs := h.kept ((Below.refl w.heap.size w).alloc (Nat.le_refl _) o) h.lt

/-- What the model gives: two slices of numbers beside a bool. -/
def GivesA2 (w : World) (l1 l2 : List Int) (ok : Bool) (e : Ending) (w' : World) : Prop :=
  ∃ g1 o1 c1 g2 o2 c2, e = .returned (.tuple #[.slice (some ⟨g1, o1, none⟩) l1.length c1, .slice (some ⟨g2, o2, none⟩) l2.length c2, .bool ok]) ∧ IAt w' (some ⟨g1, o1, none⟩) l1 ∧ g1 < w'.heap.size ∧ IAt w' (some ⟨g2, o2, none⟩) l2 ∧ g2 < w'.heap.size ∧ Below w.heap.size w w'
/-- What the program gives: two slices of its own. -/
def GivesI2 (w : World) (l1 l2 : List Int) (ok : Bool) (e : Ending) (w' : World) : Prop :=
  ∃ g1 c1 g2 c2, e = .returned (.tuple #[.slice (some ⟨g1, 0, none⟩) l1.length c1, .slice (some ⟨g2, 0, none⟩) l2.length c2, .bool ok]) ∧ w.heap.size ≤ g1 ∧ w.heap.size ≤ g2 ∧ g1 ≠ g2 ∧ IOwn w' w.heap.size (.slice (some ⟨g1, 0, none⟩) l1.length c1) l1 ∧ IOwn w' w.heap.size (.slice (some ⟨g2, 0, none⟩) l2.length c2) l2 ∧ Below w.heap.size w w'
end Go.Proofs.Ytbljmibaemgfeaa.S2
