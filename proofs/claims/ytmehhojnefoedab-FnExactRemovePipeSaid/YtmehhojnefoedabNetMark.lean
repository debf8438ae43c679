/- Networks in boxes, marks in a network's pipes written and found again, as the laws on networks that are returned want them: contracts. Conditions: each theorem's own premises. -/
import Derived.Test.YtmehhojnefoedabMarkNet
import Derived.Test.YtmehhojnefoedabIRemY
namespace Go.Proofs.Ytmehhojnefoedab.S2
open Go.RowKit P2

theorem boxA0 {w : World} {x y : Value} {t : TypeId} : (w.alloc (.cells #[x, y] t)).cell? ⟨w.heap.size, 0, none⟩ = some x := by
  rw [World.cell?_alloc_at _ _ _ _ rfl]; rfl
theorem boxA1 {w : World} {x y : Value} {t : TypeId} : (w.alloc (.cells #[x, y] t)).cell? ⟨w.heap.size, 1, none⟩ = some y := by
  rw [World.cell?_alloc_at _ _ _ _ rfl]; rfl
theorem alloc_below (w : World) (o : Obj) : Below w.heap.size w (w.alloc o) := (Below.refl _ _).alloc (Nat.le_refl _) o
/-- Pipes read in a block below S. -/
def PB (S : Nat) (w : World) (A : Option Addr) (L : List Pp) : Prop := PAt w A L ∧ S ≤ w.heap.size ∧ (L = [] ∨ ∃ b off, A = some ⟨b, off, none⟩ ∧ b < S)
theorem PB.of {w : World} {A : Option Addr} {L : List Pp} (h : PAt w A L) : PB w.heap.size w A L := by
  refine ⟨h, Nat.le_refl _, ?_⟩
  rcases h with h | ⟨b, off, hA, hb, _⟩
  · exact .inl h
  · exact .inr ⟨b, off, hA, hb⟩
theorem PB.kept {S : Nat} {w w' : World} {A : Option Addr} {L : List Pp} (h : PB S w A L) (hb : Below w.heap.size w w') : PB S w' A L := ⟨h.1.kept hb (Nat.le_refl _), Nat.le_trans h.2.1 hb.size, h.2.2⟩
theorem PB.far {S g : Nat} {w w' : World} {A : Option Addr} {L : List Pp} (h : PB S w A L) (hg : w.grownBy w' (some g)) (hS : S ≤ g) : PB S w' A L := by
  refine ⟨?_, Nat.le_trans h.2.1 hg.size, h.2.2⟩
  rcases h.1 with h1 | ⟨b, off, hA, hlt, hc⟩
  · exact .inl h1
  · rcases h.2.2 with h2 | ⟨b', off', hA', hb'⟩
    · exact .inl h2
    · rw [hA] at hA'
      simp only [Option.some.injEq, Addr.mk.injEq, and_true] at hA'
      obtain ⟨rfl, rfl⟩ := hA'
      refine .inr ⟨b, off, hA, Nat.lt_of_lt_of_le hlt hg.size, fun i hi => ?_⟩
      have hcc : ∀ k, w'.cell? ⟨b, k, none⟩ = w.cell? ⟨b, k, none⟩ := fun k => hg.cell_far ⟨b, k, none⟩ hlt (by simp; omega)
      rw [hcc, hcc, hcc, hcc]
      exact hc i hi
theorem own_farP {w w' : World} {B g n cap x : Nat} {xs : List Value} (h : w.ownsRow B 38 4 (.slice (some ⟨g, 0, none⟩) n cap) n xs) (hb : w.grownBy w' (some x)) (hg : g ≠ x) : w'.ownsRow B 38 4 (.slice (some ⟨g, 0, none⟩) n cap) n xs :=
  World.ownsRow.kept h hb (.inr (by simp [Value.ownBlock]; exact hg))
theorem own_onP {w w' : World} {B n : Nat} {v : Value} {xs : List Value} (h : w.ownsRow B 38 4 v n xs) (hb : Below w.heap.size w w') : w'.ownsRow B 38 4 v n xs := own_on h hb
theorem own_patP {w : World} {B cap : Nat} {A : Option Addr} {ps : List Pp} (h : w.ownsRow B 38 4 (.slice A ps.length cap) ps.length (pcs ps)) : PAt w A ps := by
  rcases Nat.eq_zero_or_pos ps.length with h0 | h0
  · exact .inl (List.length_eq_zero_iff.1 h0)
  · obtain ⟨g, cap', hv, _, hlt⟩ := h.form h0
    injection hv with hA
    subst hA
    refine .inr ⟨g, 0, rfl, hlt, fun i hi => ?_⟩
    simp only [Nat.zero_add]
    have hc := fun j (hj : j < 4) => (h.cellAt (i * 4 + j) (by omega)).trans (pcs_get ps i hi j hj)
    exact ⟨hc 0 (by omega), hc 1 (by omega), hc 2 (by omega), hc 3 (by omega)⟩
/-- Marks lie in pipes. -/
def MP (w : World) (g m n : Nat) : Prop := g < w.heap.size ∧ ∀ j, j < n * 4 → w.cell? ⟨g, j, none⟩ = some (iv ((m + j : Nat) : Int))
theorem MP.kept {w w' : World} {g m n : Nat} (h : MP w g m n) (hb : Below w.heap.size w w') : MP w' g m n :=
  ⟨Nat.lt_of_lt_of_le h.1 hb.size, fun j hj => (hb.cell (p := ⟨g, j, none⟩) h.1).trans (h.2 j hj)⟩
theorem marknet_own (x : Int) (B g cap n : Nat) (xs : List Value) (hx : xs.length = n * 4) (w : World) (h : w.ownsRow B 38 4 (.slice (some ⟨g, 0, none⟩) n cap) n xs) (hn : n ≤ 1048576) :
    Calls Try.prog 17 #[nv x (some ⟨g, 0, none⟩) n cap, .int .i64 1] w fun e w' => e = .returned (.int .i64 (1 + (n : Int) * 4)) ∧ MP w' g 1 n ∧ w.grownBy w' (some g) := by
  have hg := h.lt g rfl
  have HM := Lib.hid (fun w' (hb : Below w.heap.size w w') => markpipes_any B g cap 1 n xs hx w' (own_onP h hb) hn (by omega))
  clear h
  go_enter Try.func17, Try.ntmps17
  go_wp2_with (go_at_call 103; refine (HM.out _ (alloc_below w (.cells #[.int .i64 x, .slice (some ⟨g, 0, none⟩) n cap] 28))).mono ?_; rintro e w1 ⟨rfl, ho, hg1⟩)
  go_ret
  have hb := alloc_below w (.cells #[.int .i64 x, .slice (some ⟨g, 0, none⟩) n cap] 28)
  refine ⟨by first | rfl | (congr 2; done) | (congr 2; omega), ⟨(ho.lt g rfl).2, fun j hj => ?_⟩, hg1.os.trans hb.os, hg1.tape.trans hb.tape, hg1.output.trans hb.output, Nat.le_trans hb.size hg1.size, fun k hk hne => (hg1.block k (Nat.lt_of_lt_of_le hk hb.size) hne).trans (hb.block k hk)⟩
  rw [ho.cellAt j (by omega)]
  simp [marksI, hj]
set_option maxHeartbeats 2000000 in
theorem heldpipes_any (g cap n : Nat) (w : World) (h : MP w g 1 n) (hn : n ≤ 1048576) :
    Calls Try.prog 104 #[.slice (some ⟨g, 0, none⟩) n cap, .int .i64 1] w fun e w' => e = .returned (.int .i64 (1 + (n : Int) * 4)) ∧ Below w.heap.size w w' := by
  have HA := Lib.hid h.2
  clear h
  go_enter Try.func104, Try.ntmps104
  go_wp2
  go_loop [1, 5] (fun k i => ∃ j : Nat, j ≤ n ∧ k = .int .i64 (1 + (j : Int) * 4) ∧ i = .int .i64 j) (fun _ i => n - (intOf i).toNat)
  case atStart => exact ⟨0, Nat.zero_le _, by simp, rfl⟩
  case round =>
    obtain ⟨j, hj, rfl, rfl⟩ := hrel
    by_cases hlt : j < n
    · have c0 := HA.out (j * 4) (by omega)
      have c1 := HA.out (j * 4 + 1) (by omega)
      have c2 := HA.out (j * 4 + 2) (by omega)
      have c3 := HA.out (j * 4 + 3) (by omega)
      rw [show ((1 + j * 4 : Nat) : Int) = 1 + (j : Int) * 4 by omega] at c0
      rw [show ((1 + (j * 4 + 1) : Nat) : Int) = 1 + (j : Int) * 4 + 1 by omega] at c1
      rw [show ((1 + (j * 4 + 2) : Nat) : Int) = 1 + (j : Int) * 4 + 1 + 1 by omega] at c2
      rw [show ((1 + (j * 4 + 3) : Nat) : Int) = 1 + (j : Int) * 4 + 1 + 1 + 1 by omega] at c3
      go_wp2
      go_round
      case rel => exact ⟨j + 1, by omega, by congr 1; omega, by go_num⟩
      case measure => simp [intOf]; omega
    · have hjn : j = n := by omega
      subst hjn
      go_wp2
      go_ret
      exact ⟨rfl, Below.refl _ _⟩
theorem heldnet_any (x : Int) (g cap n : Nat) (w : World) (h : MP w g 1 n) (hn : n ≤ 1048576) :
    Calls Try.prog 18 #[nv x (some ⟨g, 0, none⟩) n cap, .int .i64 1] w fun e w' => e = .returned (.int .i64 (1 + (n : Int) * 4)) ∧ Below w.heap.size w w' := by
  have HM := Lib.hid (fun w' (hb : Below w.heap.size w w') => heldpipes_any g cap n w' (h.kept hb) hn)
  clear h
  go_enter Try.func18, Try.ntmps18
  go_wp2_with (go_at_call 104; refine (HM.out _ (alloc_below w (.cells #[.int .i64 x, .slice (some ⟨g, 0, none⟩) n cap] 28))).mono ?_; rintro e w1 ⟨rfl, hb1⟩)
  go_ret
  exact ⟨rfl, (alloc_below w _).trans (hb1.mono (by simp))⟩
theorem markpipes_nil (w : World) : Calls Try.prog 103 #[.slice none 0 0, .int .i64 1] w fun e w' => e = .returned (.int .i64 1) ∧ w' = w := by
  go_enter Try.func103, Try.ntmps103
  go_wp2
  go_loop [1, 5] (fun k i => k = .int .i64 1 ∧ i = .int .i64 0) (fun _ _ => 0)
  case atStart => exact ⟨rfl, rfl⟩
  case round =>
    obtain ⟨rfl, rfl⟩ := hrel
    go_wp2
    go_ret
    exact ⟨rfl, rfl⟩
theorem heldpipes_nil (w : World) : Calls Try.prog 104 #[.slice none 0 0, .int .i64 1] w fun e w' => e = .returned (.int .i64 1) ∧ w' = w := by
  go_enter Try.func104, Try.ntmps104
  go_wp2
  go_loop [1, 5] (fun k i => k = .int .i64 1 ∧ i = .int .i64 0) (fun _ _ => 0)
  case atStart => exact ⟨rfl, rfl⟩
  case round =>
    obtain ⟨rfl, rfl⟩ := hrel
    go_wp2
    go_ret
    exact ⟨rfl, rfl⟩
theorem marknet_nil (x : Int) (w : World) : Calls Try.prog 17 #[nv x none 0 0, .int .i64 1] w fun e w' => e = .returned (.int .i64 1) ∧ Below w.heap.size w w' := by
  have HM := Lib.hid (fun w => markpipes_nil w)
  go_enter Try.func17, Try.ntmps17
  go_wp2_with (go_at_call 103; refine (HM.out _).mono ?_; rintro e w1 ⟨rfl, rfl⟩)
  go_ret
  exact ⟨rfl, alloc_below w _⟩
theorem heldnet_nil (x : Int) (w : World) : Calls Try.prog 18 #[nv x none 0 0, .int .i64 1] w fun e w' => e = .returned (.int .i64 1) ∧ Below w.heap.size w w' := by
  have HM := Lib.hid (fun w => heldpipes_nil w)
  go_enter Try.func18, Try.ntmps18
  go_wp2_with (go_at_call 104; refine (HM.out _).mono ?_; rintro e w1 ⟨rfl, rfl⟩)
  go_ret
  exact ⟨rfl, alloc_below w _⟩
theorem marknetk_any (x : Int) (g m : Nat) (ps : List Pp) (w : World) (h : PRow w g ps) (hn : ps.length ≤ 1048576) (hm : m ≤ 1048576) :
    Calls Try.prog 17 #[nv x (some ⟨g, 0, none⟩) ps.length ps.length, .int .i64 (m : Int)] w fun e w' => e = .returned (.int .i64 ((m + ps.length * 4 : Nat) : Int)) ∧ w.grownBy w' (some g) :=
  (marknet_any x g m ps w h hn hm).mono fun _ _ ⟨he, _, hb, hg⟩ => ⟨he, hg.os.trans hb.os, hg.tape.trans hb.tape, hg.output.trans hb.output, Nat.le_trans hb.size hg.size, fun k hk hne => (hg.block k (Nat.lt_of_lt_of_le hk hb.size) hne).trans (hb.block k hk)⟩
theorem szpipes_le (A : Option Addr) (len cap : Nat) (w : World) (hm : len ≤ maxLen) :
    Calls Try.prog 94 #[.slice A len cap, .int .i64 1048576] w fun e w' => (∃ r : Int, e = .returned (.int .i64 r) ∧ (r < 0 ∨ (0 ≤ r ∧ r ≤ 1048576 ∧ len ≤ 1048576))) ∧ w' = w := by
  unfold maxLen at hm
  by_cases h0 : len ≤ 1048576
  · go_enter Try.func94, Try.ntmps94
    go_wp2
    go_ret
    exact ⟨⟨_, rfl, .inr ⟨by omega, by omega, h0⟩⟩, rfl⟩
  · go_enter Try.func94, Try.ntmps94
    go_wp2
    go_ret
    exact ⟨⟨_, rfl, .inl (by omega)⟩, rfl⟩
theorem sznet_le (n : Int) (A : Option Addr) (len cap : Nat) (w : World) (hm : len ≤ maxLen) :
    Calls Try.prog 12 #[nv n A len cap, .int .i64 1048576] w fun e w' => (∃ r : Int, e = .returned (.int .i64 r) ∧ (r < 0 ∨ (0 ≤ r ∧ r ≤ 1048576 ∧ len ≤ 1048576))) ∧ Below w.heap.size w w' := by
  have H := Lib.hid (fun w => szpipes_le A len cap w hm)
  clear hm
  go_enter Try.func12, Try.ntmps12
  go_wp2_with (go_at_call 94; refine (H.out _).mono ?_; rintro e w1 ⟨⟨r, rfl, hr⟩, rfl⟩)
  all_goals
    go_ret
    first
      | exact ⟨⟨_, rfl, hr⟩, (Below.refl _ _).alloc (Nat.le_refl _) _⟩
      | exact ⟨⟨_, rfl, .inl (by omega)⟩, (Below.refl _ _).alloc (Nat.le_refl _) _⟩
/-- A network whose pipes the call owns, beside a bool. -/
def GivesNI (w : World) (N : Int) (L : List Pp) (ok : Bool) (e : Ending) (w' : World) : Prop :=
  ∃ g c B, e = .returned (.tuple #[nv N (some ⟨g, 0, none⟩) L.length c, .bool ok]) ∧ w.heap.size ≤ g ∧ w'.ownsRow B 38 4 (.slice (some ⟨g, 0, none⟩) L.length c) L.length (pcs L) ∧ Below w.heap.size w w'
/-- A network without pipes, whose slice is nil, beside a bool. -/
def GivesN0 (w : World) (N : Int) (ok : Bool) (e : Ending) (w' : World) : Prop := e = .returned (.tuple #[nv N none 0 0, .bool ok]) ∧ Below w.heap.size w w'
end Go.Proofs.Ytmehhojnefoedab.S2
