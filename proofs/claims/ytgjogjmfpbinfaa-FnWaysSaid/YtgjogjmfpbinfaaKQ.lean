/- SpanningTree of the program: contracts. Conditions: each theorem's own premises. -/
import Derived.Test.YtgjogjmfpbinfaaKN
import Derived.Deep.DeepCutAuto
import Derived.Deep.RegionHeld
import Derived.Deep.RegionHeld3
import Derived.Deep.Draws
import Derived.Deep.LoopGhost
namespace Go.Proofs.Ytgjogjmfpbinfaa.S2
open Go.RowKit P2

theorem IAt.low {w w' : World} {g o B : Nat} {l : List Int} (h : IAt w (some ⟨g, o, none⟩) l) (hb : Below B w w') (hg : g < B) : IAt w' (some ⟨g, o, none⟩) l := by
  rcases h with h | ⟨b, off, hA, hlt, h⟩
  · exact .inl h
  · simp only [Option.some.injEq, Addr.mk.injEq, and_true] at hA
    obtain ⟨rfl, rfl⟩ := hA
    exact .inr ⟨g, o, rfl, Nat.lt_of_lt_of_le hlt hb.size, fun i hi => (hb.cell (p := ⟨g, o + i, none⟩) hg).trans (h i hi)⟩
theorem IAt.far {w w' : World} {g o x : Nat} {l : List Int} (h : IAt w (some ⟨g, o, none⟩) l) (hb : w.grownBy w' (some x)) (hg : g ≠ x) : IAt w' (some ⟨g, o, none⟩) l := by
  rcases h with h | ⟨b, off, hA, hlt, h⟩
  · exact .inl h
  · simp only [Option.some.injEq, Addr.mk.injEq, and_true] at hA
    obtain ⟨rfl, rfl⟩ := hA
    exact .inr ⟨g, o, rfl, Nat.lt_of_lt_of_le hlt hb.size, fun i hi => (World.cell?_of_block (hb.block g hlt (by simp; exact hg))).trans (h i hi)⟩
theorem IOwn.far {w w' : World} {B g cap x : Nat} {l : List Int} (h : IOwn w B (.slice (some ⟨g, 0, none⟩) l.length cap) l) (hb : w.grownBy w' (some x)) (hg : g ≠ x) : IOwn w' B (.slice (some ⟨g, 0, none⟩) l.length cap) l :=
  World.ownsRow.kept h hb (.inr (by simp [Value.ownBlock]; exact hg))
theorem iown_lt {w : World} {B g n cap : Nat} {l : List Int} (h : IOwn w B (.slice (some ⟨g, 0, none⟩) n cap) l) : g < w.heap.size := (World.ownsRow.lt h g rfl).2
theorem iown_lt' {w : World} {B g n cap : Nat} {l : List Int} (h : IOwn w B (.slice (some ⟨g, 0, none⟩) n cap) l) : g < w.heap.size := iown_lt h
theorem iown_base {w : World} {B g n cap : Nat} {l : List Int} (h : IOwn w B (.slice (some ⟨g, 0, none⟩) n cap) l) : B ≤ g := (World.ownsRow.lt h g rfl).1
theorem IOwn.iat_marks {w : World} {B g n m cap : Nat} (h : IOwn w B (.slice (some ⟨g, 0, none⟩) n cap) (marksI m n)) : IAt w (some ⟨g, 0, none⟩) (marksI m n) := by
  have e : n = (marksI m n).length := (marksI_len m n).symm
  have h' : IOwn w B (.slice (some ⟨g, 0, none⟩) (marksI m n).length cap) (marksI m n) := by rw [← e]; exact h
  exact h'.iat
end Go.Proofs.Ytgjogjmfpbinfaa.S2

namespace Go.Proofs.Ytgjogjmfpbinfaa.S2
open Go.RowKit P2

theorem boxA0 {w : World} {x y : Value} {t : TypeId} : (w.alloc (.cells #[x, y] t)).cell? ⟨w.heap.size, 0, none⟩ = some x := by
  rw [World.cell?_alloc_at _ _ _ _ rfl]; rfl
theorem boxA1 {w : World} {x y : Value} {t : TypeId} : (w.alloc (.cells #[x, y] t)).cell? ⟨w.heap.size, 1, none⟩ = some y := by
  rw [World.cell?_alloc_at _ _ _ _ rfl]; rfl
theorem alloc_below (w : World) (o : Obj) : Below w.heap.size w (w.alloc o) := (Below.refl _ _).alloc (Nat.le_refl _) o
/-- Pipes read in a block below S. -/
def PB (S : Nat) (w : World) (A : Option Addr) (L : List Pp) : Prop := PAt w A L ∧ S ≤ w.heap.size ∧ (L = [] ∨ ∃ b off, A = some ⟨b, off, none⟩ ∧ b < S)
theorem PB.of {w : World} {A : Option Addr} {L : List Pp} (h : PAt w A L) : PB w.heap.size w A L := by
  refine ⟨h, Nat.le_refl _, ?_⟩
  rcases h with h | ⟨b, off, hA, hb, _⟩
  · exact .inl h
  · exact .inr ⟨b, off, hA, hb⟩
theorem PB.kept {S : Nat} {w w' : World} {A : Option Addr} {L : List Pp} (h : PB S w A L) (hb : Below w.heap.size w w') : PB S w' A L := ⟨h.1.kept hb (Nat.le_refl _), Nat.le_trans h.2.1 hb.size, h.2.2⟩
theorem PB.far {S g : Nat} {w w' : World} {A : Option Addr} {L : List Pp} (h : PB S w A L) (hg : w.grownBy w' (some g)) (hS : S ≤ g) : PB S w' A L := by
  refine ⟨?_, Nat.le_trans h.2.1 hg.size, h.2.2⟩
  rcases h.1 with h1 | ⟨b, off, hA, hlt, hc⟩
  · exact .inl h1
  · rcases h.2.2 with h2 | ⟨b', off', hA', hb'⟩
    · exact .inl h2
    · rw [hA] at hA'
      simp only [Option.some.injEq, Addr.mk.injEq, and_true] at hA'
      obtain ⟨rfl, rfl⟩ := hA'
      refine .inr ⟨b, off, hA, Nat.lt_of_lt_of_le hlt hg.size, fun i hi => ?_⟩
      have hcc : ∀ k, w'.cell? ⟨b, k, none⟩ = w.cell? ⟨b, k, none⟩ := fun k => hg.cell_far ⟨b, k, none⟩ hlt (by simp; omega)
      rw [hcc, hcc, hcc, hcc]
      exact hc i hi
theorem own_farP {w w' : World} {B g n cap x : Nat} {xs : List Value} (h : w.ownsRow B 75 4 (.slice (some ⟨g, 0, none⟩) n cap) n xs) (hb : w.grownBy w' (some x)) (hg : g ≠ x) : w'.ownsRow B 75 4 (.slice (some ⟨g, 0, none⟩) n cap) n xs :=
  World.ownsRow.kept h hb (.inr (by simp [Value.ownBlock]; exact hg))
theorem own_onP {w w' : World} {B n : Nat} {v : Value} {xs : List Value} (h : w.ownsRow B 75 4 v n xs) (hb : Below w.heap.size w w') : w'.ownsRow B 75 4 v n xs := own_on h hb
theorem own_patP {w : World} {B cap : Nat} {A : Option Addr} {ps : List Pp} (h : w.ownsRow B 75 4 (.slice A ps.length cap) ps.length (pcs ps)) : PAt w A ps := by
  rcases Nat.eq_zero_or_pos ps.length with h0 | h0
  · exact .inl (List.length_eq_zero_iff.1 h0)
  · obtain ⟨g, cap', hv, _, hlt⟩ := h.form h0
    injection hv with hA
    subst hA
    refine .inr ⟨g, 0, rfl, hlt, fun i hi => ?_⟩
    simp only [Nat.zero_add]
    have hc := fun j (hj : j < 4) => (h.cellAt (i * 4 + j) (by omega)).trans (pcs_get ps i hi j hj)
    exact ⟨hc 0 (by omega), hc 1 (by omega), hc 2 (by omega), hc 3 (by omega)⟩
/-- Marks lie in pipes. -/
def MP (w : World) (g m n : Nat) : Prop := g < w.heap.size ∧ ∀ j, j < n * 4 → w.cell? ⟨g, j, none⟩ = some (iv ((m + j : Nat) : Int))
theorem MP.kept {w w' : World} {g m n : Nat} (h : MP w g m n) (hb : Below w.heap.size w w') : MP w' g m n :=
  ⟨Nat.lt_of_lt_of_le h.1 hb.size, fun j hj => (hb.cell (p := ⟨g, j, none⟩) h.1).trans (h.2 j hj)⟩
theorem marknet_own (x : Int) (B g cap n : Nat) (xs : List Value) (hx : xs.length = n * 4) (w : World) (h : w.ownsRow B 75 4 (.slice (some ⟨g, 0, none⟩) n cap) n xs) (hn : n ≤ 1048576) :
    Calls Try.prog 27 #[nv x (some ⟨g, 0, none⟩) n cap, .int .i64 1] w fun e w' => e = .returned (.int .i64 (1 + (n : Int) * 4)) ∧ MP w' g 1 n ∧ w.grownBy w' (some g) := by
  have hg := h.lt g rfl
  have HM := Lib.hid (fun w' (hb : Below w.heap.size w w') => markpipes_any B g cap 1 n xs hx w' (own_onP h hb) hn (by omega))
  clear h
  go_enter Try.func27, Try.ntmps27
  go_wp2_with (go_at_call 120; refine (HM.out _ (alloc_below w (.cells #[.int .i64 x, .slice (some ⟨g, 0, none⟩) n cap] 30))).mono ?_; rintro e w1 ⟨rfl, ho, hg1⟩)
  go_ret
  have hb := alloc_below w (.cells #[.int .i64 x, .slice (some ⟨g, 0, none⟩) n cap] 30)
  refine ⟨by first | rfl | (congr 2; done) | (congr 2; omega), ⟨(ho.lt g rfl).2, fun j hj => ?_⟩, hg1.os.trans hb.os, hg1.tape.trans hb.tape, hg1.output.trans hb.output, Nat.le_trans hb.size hg1.size, fun k hk hne => (hg1.block k (Nat.lt_of_lt_of_le hk hb.size) hne).trans (hb.block k hk)⟩
  rw [ho.cellAt j (by omega)]
  simp [marksI, hj]
set_option maxHeartbeats 2000000 in
theorem heldpipes_any (g cap n : Nat) (w : World) (h : MP w g 1 n) (hn : n ≤ 1048576) :
    Calls Try.prog 148 #[.slice (some ⟨g, 0, none⟩) n cap, .int .i64 1] w fun e w' => e = .returned (.int .i64 (1 + (n : Int) * 4)) ∧ Below w.heap.size w w' := by
  have HA := Lib.hid h.2
  clear h
  go_enter Try.func148, Try.ntmps148
  go_wp2
  go_loop [1, 5] (fun k i => ∃ j : Nat, j ≤ n ∧ k = .int .i64 (1 + (j : Int) * 4) ∧ i = .int .i64 j) (fun _ i => n - (intOf i).toNat)
  case atStart => exact ⟨0, Nat.zero_le _, by simp, rfl⟩
  case round =>
    obtain ⟨j, hj, rfl, rfl⟩ := hrel
    by_cases hlt : j < n
    · have c0 := HA.out (j * 4) (by omega)
      have c1 := HA.out (j * 4 + 1) (by omega)
      have c2 := HA.out (j * 4 + 2) (by omega)
      have c3 := HA.out (j * 4 + 3) (by omega)
      rw [show ((1 + j * 4 : Nat) : Int) = 1 + (j : Int) * 4 by omega] at c0
      rw [show ((1 + (j * 4 + 1) : Nat) : Int) = 1 + (j : Int) * 4 + 1 by omega] at c1
      rw [show ((1 + (j * 4 + 2) : Nat) : Int) = 1 + (j : Int) * 4 + 1 + 1 by omega] at c2
      rw [show ((1 + (j * 4 + 3) : Nat) : Int) = 1 + (j : Int) * 4 + 1 + 1 + 1 by omega] at c3
      go_wp2
      go_round
      case rel => exact ⟨j + 1, by omega, by congr 1; omega, by go_num⟩
      case measure => simp [intOf]; omega
    · have hjn : j = n := by omega
      subst hjn
      go_wp2
      go_ret
      exact ⟨rfl, Below.refl _ _⟩
theorem heldnet_any (x : Int) (g cap n : Nat) (w : World) (h : MP w g 1 n) (hn : n ≤ 1048576) :
    Calls Try.prog 43 #[nv x (some ⟨g, 0, none⟩) n cap, .int .i64 1] w fun e w' => e = .returned (.int .i64 (1 + (n : Int) * 4)) ∧ Below w.heap.size w w' := by
  have HM := Lib.hid (fun w' (hb : Below w.heap.size w w') => heldpipes_any g cap n w' (h.kept hb) hn)
  clear h
  go_enter Try.func43, Try.ntmps43
  go_wp2_with (go_at_call 148; refine (HM.out _ (alloc_below w (.cells #[.int .i64 x, .slice (some ⟨g, 0, none⟩) n cap] 30))).mono ?_; rintro e w1 ⟨rfl, hb1⟩)
  go_ret
  exact ⟨rfl, (alloc_below w _).trans (hb1.mono (by simp))⟩
theorem markpipes_nil (w : World) : Calls Try.prog 120 #[.slice none 0 0, .int .i64 1] w fun e w' => e = .returned (.int .i64 1) ∧ w' = w := by
  go_enter Try.func120, Try.ntmps120
  go_wp2
  go_loop [1, 5] (fun k i => k = .int .i64 1 ∧ i = .int .i64 0) (fun _ _ => 0)
  case atStart => exact ⟨rfl, rfl⟩
  case round =>
    obtain ⟨rfl, rfl⟩ := hrel
    go_wp2
    go_ret
    exact ⟨rfl, rfl⟩
theorem heldpipes_nil (w : World) : Calls Try.prog 148 #[.slice none 0 0, .int .i64 1] w fun e w' => e = .returned (.int .i64 1) ∧ w' = w := by
  go_enter Try.func148, Try.ntmps148
  go_wp2
  go_loop [1, 5] (fun k i => k = .int .i64 1 ∧ i = .int .i64 0) (fun _ _ => 0)
  case atStart => exact ⟨rfl, rfl⟩
  case round =>
    obtain ⟨rfl, rfl⟩ := hrel
    go_wp2
    go_ret
    exact ⟨rfl, rfl⟩
theorem marknet_nil (x : Int) (w : World) : Calls Try.prog 27 #[nv x none 0 0, .int .i64 1] w fun e w' => e = .returned (.int .i64 1) ∧ Below w.heap.size w w' := by
  have HM := Lib.hid (fun w => markpipes_nil w)
  go_enter Try.func27, Try.ntmps27
  go_wp2_with (go_at_call 120; refine (HM.out _).mono ?_; rintro e w1 ⟨rfl, rfl⟩)
  go_ret
  exact ⟨rfl, alloc_below w _⟩
theorem heldnet_nil (x : Int) (w : World) : Calls Try.prog 43 #[nv x none 0 0, .int .i64 1] w fun e w' => e = .returned (.int .i64 1) ∧ Below w.heap.size w w' := by
  have HM := Lib.hid (fun w => heldpipes_nil w)
  go_enter Try.func43, Try.ntmps43
  go_wp2_with (go_at_call 148; refine (HM.out _).mono ?_; rintro e w1 ⟨rfl, rfl⟩)
  go_ret
  exact ⟨rfl, alloc_below w _⟩
theorem marknetk_any (x : Int) (g m : Nat) (ps : List Pp) (w : World) (h : PRow w g ps) (hn : ps.length ≤ 1048576) (hm : m ≤ 1048576) :
    Calls Try.prog 27 #[nv x (some ⟨g, 0, none⟩) ps.length ps.length, .int .i64 (m : Int)] w fun e w' => e = .returned (.int .i64 ((m + ps.length * 4 : Nat) : Int)) ∧ w.grownBy w' (some g) :=
  (marknet_any x g m ps w h hn hm).mono fun _ _ ⟨he, _, hb, hg⟩ => ⟨he, hg.os.trans hb.os, hg.tape.trans hb.tape, hg.output.trans hb.output, Nat.le_trans hb.size hg.size, fun k hk hne => (hg.block k (Nat.lt_of_lt_of_le hk hb.size) hne).trans (hb.block k hk)⟩
theorem szpipes_le (A : Option Addr) (len cap : Nat) (w : World) (hm : len ≤ maxLen) :
    Calls Try.prog 111 #[.slice A len cap, .int .i64 1048576] w fun e w' => (∃ r : Int, e = .returned (.int .i64 r) ∧ (r < 0 ∨ (0 ≤ r ∧ r ≤ 1048576 ∧ len ≤ 1048576))) ∧ w' = w := by
  unfold maxLen at hm
  by_cases h0 : len ≤ 1048576
  · go_enter Try.func111, Try.ntmps111
    go_wp2
    go_ret
    exact ⟨⟨_, rfl, .inr ⟨by omega, by omega, h0⟩⟩, rfl⟩
  · go_enter Try.func111, Try.ntmps111
    go_wp2
    go_ret
    exact ⟨⟨_, rfl, .inl (by omega)⟩, rfl⟩
theorem sznet_le (n : Int) (A : Option Addr) (len cap : Nat) (w : World) (hm : len ≤ maxLen) :
    Calls Try.prog 19 #[nv n A len cap, .int .i64 1048576] w fun e w' => (∃ r : Int, e = .returned (.int .i64 r) ∧ (r < 0 ∨ (0 ≤ r ∧ r ≤ 1048576 ∧ len ≤ 1048576))) ∧ Below w.heap.size w w' := by
  have H := Lib.hid (fun w => szpipes_le A len cap w hm)
  clear hm
  go_enter Try.func19, Try.ntmps19
  go_wp2_with (go_at_call 111; refine (H.out _).mono ?_; rintro e w1 ⟨⟨r, rfl, hr⟩, rfl⟩)
  all_goals
    go_ret
    first
      | exact ⟨⟨_, rfl, hr⟩, (Below.refl _ _).alloc (Nat.le_refl _) _⟩
      | exact ⟨⟨_, rfl, .inl (by omega)⟩, (Below.refl _ _).alloc (Nat.le_refl _) _⟩
/-- A network whose pipes the call owns, beside a bool. -/
def GivesNI (w : World) (N : Int) (L : List Pp) (ok : Bool) (e : Ending) (w' : World) : Prop :=
  ∃ g c B, e = .returned (.tuple #[nv N (some ⟨g, 0, none⟩) L.length c, .bool ok]) ∧ w.heap.size ≤ g ∧ w'.ownsRow B 75 4 (.slice (some ⟨g, 0, none⟩) L.length c) L.length (pcs L) ∧ Below w.heap.size w w'
/-- A network without pipes, whose slice is nil, beside a bool. -/
def GivesN0 (w : World) (N : Int) (ok : Bool) (e : Ending) (w' : World) : Prop := e = .returned (.tuple #[nv N none 0 0, .bool ok]) ∧ Below w.heap.size w w'
/-- A network whose pipes can be read, beside a bool. -/
def GivesNA (w : World) (N : Int) (L : List Pp) (ok : Bool) (e : Ending) (w' : World) : Prop :=
  ∃ A c, e = .returned (.tuple #[nv N A L.length c, .bool ok]) ∧ L.length ≤ c ∧ PAt w' A L ∧ Below w.heap.size w w'
theorem GivesNA.none {w w' : World} (h : Below w.heap.size w w') : GivesNA w 0 [] false (.returned (.tuple #[nv 0 none 0 0, .bool false])) w' :=
  ⟨Option.none, 0, rfl, Nat.le_refl _, .inl rfl, h⟩
theorem PRow.far {w w' : World} {g x : Nat} {ps : List Pp} (h : PRow w g ps) (hg : w.grownBy w' (some x)) (hne : g ≠ x) : PRow w' g ps :=
  World.rowIs.of_block h (hg.block g h.lt (by simp; exact fun e => hne e))
theorem markints_i (B g cap m : Nat) (mi : Int) (l : List Int) (w : World) (h : IOwn w B (.slice (some ⟨g, 0, none⟩) l.length cap) l) (hn : l.length ≤ 1048576) (hm : m ≤ 104857600) (hmi : mi = (m : Int)) :
    Calls Try.prog 28 #[.slice (some ⟨g, 0, none⟩) l.length cap, .int .i64 mi] w fun e w' => e = .returned (.int .i64 (mi + (l.length : Int))) ∧ IOwn w' B (.slice (some ⟨g, 0, none⟩) l.length cap) (marksI m l.length) ∧ w.grownBy w' (some g) := by
  subst hmi
  exact (markints_far B g cap m l w h hn hm).mono fun _ _ ⟨he, ho, hg⟩ => ⟨by rw [he]; congr 2, ho, hg⟩
theorem heldints_i (A : Option Addr) (cap m n : Nat) (mi : Int) (w : World) (h : IAt w A (marksI m n)) (hn : n ≤ 1048576) (hm : m ≤ 1048576) (hmi : mi = (m : Int)) :
    Calls Try.prog 29 #[.slice A n cap, .int .i64 mi] w fun e w' => e = .returned (.int .i64 (mi + (n : Int))) ∧ Below w.heap.size w w' := by
  subst hmi
  exact (heldints_any A cap m n w h hn hm).mono fun _ _ ⟨he, hb⟩ => ⟨by rw [he]; congr 2, hb⟩
theorem MP.far {w w' : World} {g m n x : Nat} (h : MP w g m n) (hb : w.grownBy w' (some x)) (hg : g ≠ x) : MP w' g m n :=
  ⟨Nat.lt_of_lt_of_le h.1 hb.size, fun j hj => (hb.cell_far ⟨g, j, none⟩ h.1 (by simp; exact hg)).trans (h.2 j hj)⟩
/-- A network, a slice of numbers and a bool: what the model gives; what the program gives, each of its own; the same where there are no pipes. -/
def GivesXA (w : World) (N : Int) (L : List Pp) (I : List Int) (ok : Bool) (e : Ending) (w' : World) : Prop :=
  ∃ A c g o ci, e = .returned (.tuple #[nv N A L.length c, .slice (some ⟨g, o, none⟩) I.length ci, .bool ok]) ∧ L.length ≤ c ∧ PAt w' A L ∧ w.heap.size ≤ g ∧ IAt w' (some ⟨g, o, none⟩) I ∧ Below w.heap.size w w' ∧ g < w'.heap.size
def GivesXI (w : World) (N : Int) (L : List Pp) (I : List Int) (ok : Bool) (e : Ending) (w' : World) : Prop :=
  ∃ g c B gi ci, e = .returned (.tuple #[nv N (some ⟨g, 0, none⟩) L.length c, .slice (some ⟨gi, 0, none⟩) I.length ci, .bool ok]) ∧ w.heap.size ≤ g ∧ w.heap.size ≤ gi ∧ g ≠ gi ∧ w'.ownsRow B 75 4 (.slice (some ⟨g, 0, none⟩) L.length c) L.length (pcs L) ∧ IOwn w' w.heap.size (.slice (some ⟨gi, 0, none⟩) I.length ci) I ∧ Below w.heap.size w w'
def GivesX0 (w : World) (N : Int) (I : List Int) (ok : Bool) (e : Ending) (w' : World) : Prop :=
  ∃ gi ci, e = .returned (.tuple #[nv N none 0 0, .slice (some ⟨gi, 0, none⟩) I.length ci, .bool ok]) ∧ w.heap.size ≤ gi ∧ IOwn w' w.heap.size (.slice (some ⟨gi, 0, none⟩) I.length ci) I ∧ Below w.heap.size w w'
end Go.Proofs.Ytgjogjmfpbinfaa.S2
namespace Go.Proofs.Ytgjogjmfpbinfaa.S2
open Go.RowKit Go.ChangeShapes Go.WideShapes Go.Deep Go.Joins P2

def fiI (l : List Int) (j : Nat) : List Value := (l.take j).map iv ++ List.replicate (l.length - j) (iv 0)
theorem fiI_len (l : List Int) (j : Nat) (h : j ≤ l.length) : (fiI l j).length = l.length := by simp [fiI]; omega
theorem fiI_set (l : List Int) (j : Nat) (h : j < l.length) : (fiI l j).set j (iv (l.getD j 0)) = fiI l (j + 1) := by
  unfold fiI
  have e1 : ((l.take j).map iv).length = j := by simp; omega
  have e2 : l.length - j = (l.length - (j + 1)) + 1 := by omega
  have e3 : l.getD j 0 = l[j] := by simp [List.getD, h]
  rw [List.set_append_right _ _ (by omega), e1, Nat.sub_self, e2, List.replicate_succ, List.set_cons_zero, List.take_succ_eq_append_getElem h, List.map_append, e3]
  simp
theorem fiI_has (l : List Int) (j : Nat) (h : j < l.length) : ∃ u, (fiI l j)[j]? = some u := ⟨_, List.getElem?_eq_getElem (by rw [fiI_len l j (by omega)]; exact h)⟩
theorem fiI_full (l : List Int) : fiI l l.length = l.map iv := by simp [fiI]
theorem made_own (l : List Int) (w : World) (hn : l.length ≤ 1048576) : (w.alloc (.cells (madeCells #[.int .i64 0] l.length) 3)).ownsRow w.heap.size 3 1 (.slice (some ⟨w.heap.size, 0, none⟩) l.length l.length) l.length (fiI l 0) := by
  have hs : (madeCells #[Value.int .i64 0] l.length).toList = List.replicate l.length (iv 0) := toList_madeCells_one _ _
  have hz : (madeCells #[Value.int .i64 0] l.length).size = l.length := by rw [← Array.length_toList, hs]; simp
  refine ⟨by simp [fiI], .inr ⟨w.heap.size, l.length, madeCells #[.int .i64 0] l.length, rfl, Nat.le_refl _, heap_alloc_new w _, Nat.le_refl _, by unfold maxLen; omega, by simpa using hz, ?_⟩⟩
  simp [fiI, hs]

set_option maxHeartbeats 2000000 in
theorem toints_any (A : Option Addr) (cap : Nat) (l : List Int) (w : World) (h : IAt w A l) (hn : l.length ≤ 1048576) :
    Calls Try.prog 31 #[.slice A l.length cap] w fun e w' => (∃ g, e = .returned (.slice (some ⟨g, 0, none⟩) l.length l.length) ∧ w.heap.size ≤ g ∧ IOwn w' w.heap.size (.slice (some ⟨g, 0, none⟩) l.length l.length) l) ∧ Below w.heap.size w w' := by
  have HA := Lib.hid h
  have hmk := run_make_row' (P := Try.prog) 34 3 (.int .i64 0) 8 Try.underlying34 infoI rfl .i64 .i64 l.length (by omega) (by omega)
  have HO := Lib.hid (made_own l w hn)
  have HF := Lib.hid (fiI_full l)
  clear h
  go_enter Try.func31, Try.ntmps31
  go_wp2
  clear hmk
  go_loopw [4] (fun i wr => ∃ k : Nat, k ≤ l.length ∧ i = .int .i64 k ∧ Hid (wr.ownsRow w.heap.size 3 1 (.slice (some ⟨w.heap.size, 0, none⟩) l.length l.length) l.length (fiI l k)) ∧ Below w.heap.size w wr) (fun i _ => l.length - (intOf i).toNat)
  case atStart => exact ⟨0, Nat.zero_le _, rfl, HO, (Below.refl _ _).alloc (Nat.le_refl _) _⟩
  case round =>
    obtain ⟨k, hk, rfl, hown, hb⟩ := hrel
    clear HO
    by_cases hlt : k < l.length
    · obtain ⟨b, off, hA, hbl, hx⟩ := HA.out.at_ hlt
      subst hA
      have c1 := (hb.cell (p := ⟨b, off + k, none⟩) hbl).trans hx
      obtain ⟨u, hu⟩ := fiI_has l k hlt
      have hcell := (hown.out.cellAt k (by omega)).trans hu
      have hfz := hown.out.frozenAt k
      have HST := Lib.hid (fiI_set l k hlt)
      generalize l.getD k 0 = x at *
      have hst0 := Lib.hid (hown.out.stored k (iv x))
      clear hx hu
      go_wp2
      have hst := hst0.out
      rw [HST.out] at hst
      go_roundw
      case rel => exact ⟨k + 1, by omega, by go_num, Lib.hid hst.1, hb.setCell (p := ⟨w.heap.size, k, none⟩) (Nat.le_refl _) _⟩
      case measure => simp [intOf]; omega
    · have e : k = l.length := by omega
      subst e
      have hown2 := hown.out
      rw [HF.out] at hown2
      have H2 := Lib.hid hown2
      clear hown hown2
      go_wp2
      go_ret
      exact ⟨⟨_, rfl, Nat.le_refl _, H2.out⟩, hb⟩

section
variable {H : Type} {enc : TypeId × Value → H} {P : Program} {w : World} {base : Nat} {spare : Nat → Bool} {held : Bool}
theorem trodAll_five {t0 t1 t2 t3 t4 : TypeId} {args : Array Value} {ds : List (DataW H)} {ps : List MemPlace} (h : DataW.TrodAll enc P w base spare held [t0, t1, t2, t3, t4] args.toList ds ps) :
    ∃ v0 v1 v2 v3 v4 d0 d1 d2 d3 d4 p0 p1 p2 p3 p4, args = #[v0, v1, v2, v3, v4] ∧ ds = [d0, d1, d2, d3, d4] ∧ ps = p0 ++ p1 ++ p2 ++ p3 ++ p4 ∧ DataW.Trod enc P w base spare held t0 v0 d0 p0 ∧ DataW.Trod enc P w base spare held t1 v1 d1 p1 ∧ DataW.Trod enc P w base spare held t2 v2 d2 p2 ∧ DataW.Trod enc P w base spare held t3 v3 d3 p3 ∧ DataW.Trod enc P w base spare held t4 v4 d4 p4 := by
  obtain ⟨v0, vs0, d0, ds0, p0, q0, hargs, rfl, rfl, h0, r0⟩ := trodAll_cons h
  obtain ⟨v1, vs1, d1, ds1, p1, q1, rfl, rfl, rfl, h1, r1⟩ := trodAll_cons r0
  obtain ⟨v2, vs2, d2, ds2, p2, q2, rfl, rfl, rfl, h2, r2⟩ := trodAll_cons r1
  obtain ⟨v3, vs3, d3, ds3, p3, q3, rfl, rfl, rfl, h3, r3⟩ := trodAll_cons r2
  obtain ⟨v4, vs4, d4, ds4, p4, q4, rfl, rfl, rfl, h4, r4⟩ := trodAll_cons r3
  obtain ⟨rfl, rfl, rfl⟩ := trodAll_nil r4
  exact ⟨v0, v1, v2, v3, v4, d0, d1, d2, d3, d4, p0, p1, p2, p3, p4, by cases args; simp_all, rfl, by simp, h0, h1, h2, h3, h4⟩
theorem trodAll_six {t0 t1 t2 t3 t4 t5 : TypeId} {args : Array Value} {ds : List (DataW H)} {ps : List MemPlace} (h : DataW.TrodAll enc P w base spare held [t0, t1, t2, t3, t4, t5] args.toList ds ps) :
    ∃ v0 v1 v2 v3 v4 v5 d0 d1 d2 d3 d4 d5 p0 p1 p2 p3 p4 p5, args = #[v0, v1, v2, v3, v4, v5] ∧ ds = [d0, d1, d2, d3, d4, d5] ∧ ps = p0 ++ p1 ++ p2 ++ p3 ++ p4 ++ p5 ∧ DataW.Trod enc P w base spare held t0 v0 d0 p0 ∧ DataW.Trod enc P w base spare held t1 v1 d1 p1 ∧ DataW.Trod enc P w base spare held t2 v2 d2 p2 ∧ DataW.Trod enc P w base spare held t3 v3 d3 p3 ∧ DataW.Trod enc P w base spare held t4 v4 d4 p4 ∧ DataW.Trod enc P w base spare held t5 v5 d5 p5 := by
  obtain ⟨v0, vs0, d0, ds0, p0, q0, hargs, rfl, rfl, h0, r0⟩ := trodAll_cons h
  obtain ⟨v1, vs1, d1, ds1, p1, q1, rfl, rfl, rfl, h1, r1⟩ := trodAll_cons r0
  obtain ⟨v2, vs2, d2, ds2, p2, q2, rfl, rfl, rfl, h2, r2⟩ := trodAll_cons r1
  obtain ⟨v3, vs3, d3, ds3, p3, q3, rfl, rfl, rfl, h3, r3⟩ := trodAll_cons r2
  obtain ⟨v4, vs4, d4, ds4, p4, q4, rfl, rfl, rfl, h4, r4⟩ := trodAll_cons r3
  obtain ⟨v5, vs5, d5, ds5, p5, q5, rfl, rfl, rfl, h5, r5⟩ := trodAll_cons r4
  obtain ⟨rfl, rfl, rfl⟩ := trodAll_nil r5
  exact ⟨v0, v1, v2, v3, v4, v5, d0, d1, d2, d3, d4, d5, p0, p1, p2, p3, p4, p5, by cases args; simp_all, rfl, by simp, h0, h1, h2, h3, h4, h5⟩
theorem trodAll_mk5 {t0 t1 t2 t3 t4 : TypeId} {v0 v1 v2 v3 v4 : Value} {d0 d1 d2 d3 d4 : DataW H} {p0 p1 p2 p3 p4 : List MemPlace} (h0 : DataW.Trod enc P w base spare held t0 v0 d0 p0) (h1 : DataW.Trod enc P w base spare held t1 v1 d1 p1)
    (h2 : DataW.Trod enc P w base spare held t2 v2 d2 p2) (h3 : DataW.Trod enc P w base spare held t3 v3 d3 p3) (h4 : DataW.Trod enc P w base spare held t4 v4 d4 p4) : DataW.TrodAll enc P w base spare held [t0, t1, t2, t3, t4] [v0, v1, v2, v3, v4] [d0, d1, d2, d3, d4] (p0 ++ (p1 ++ (p2 ++ (p3 ++ p4)))) := ⟨p0, p1 ++ (p2 ++ (p3 ++ p4)), h0, trodAll_mk4 h1 h2 h3 h4, rfl⟩
theorem trodAll_mk6 {t0 t1 t2 t3 t4 t5 : TypeId} {v0 v1 v2 v3 v4 v5 : Value} {d0 d1 d2 d3 d4 d5 : DataW H} {p0 p1 p2 p3 p4 p5 : List MemPlace} (h0 : DataW.Trod enc P w base spare held t0 v0 d0 p0) (h1 : DataW.Trod enc P w base spare held t1 v1 d1 p1)
    (h2 : DataW.Trod enc P w base spare held t2 v2 d2 p2) (h3 : DataW.Trod enc P w base spare held t3 v3 d3 p3) (h4 : DataW.Trod enc P w base spare held t4 v4 d4 p4) (h5 : DataW.Trod enc P w base spare held t5 v5 d5 p5) : DataW.TrodAll enc P w base spare held [t0, t1, t2, t3, t4, t5] [v0, v1, v2, v3, v4, v5] [d0, d1, d2, d3, d4, d5] (p0 ++ (p1 ++ (p2 ++ (p3 ++ (p4 ++ p5))))) := ⟨p0, p1 ++ (p2 ++ (p3 ++ (p4 ++ p5))), h0, trodAll_mk5 h1 h2 h3 h4 h5, rfl⟩
end

section
variable {H : Type} {enc : TypeId × Value → H} {w : World}
set_option maxRecDepth 100000 in
/-- A law's argument that is a slice of numbers, opened. -/
theorem intsarg_open {r : Reach} {b0 : Nat} {v : Value} {d : DataW H} {p : List MemPlace} (hv : Value.okWide Try.prog w r b0 34 v) (h : DataW.Trod enc Try.prog w 0 (fun _ => true) true 34 v d p) :
    ∃ (A : Option Addr) (cap : Nat) (l : List Int), v = .slice A l.length cap ∧ IAt w A l ∧ l.length ≤ maxLen := by
  obtain ⟨a, len, cp, rfl⟩ := okWide_slice Try.underlying34 hv
  obtain ⟨fuel, h⟩ := h
  rcases open_slice Try.underlying34 h with ⟨hcs, _⟩ | ⟨a', len', cap', m, n, D, Pl, hcs, _, hl, hm, hmm, _, hi⟩
  · injection hcs with hcs
    injection hcs with h1 h2 h3
    subst h1 h2 h3
    exact ⟨none, 0, [], rfl, .inl rfl, by simp⟩
  · injection hcs with hcs
    injection hcs with h1 h2 h3
    subst h1 h2 h3
    have hm' : len ≤ m := by rw [hmm]; split <;> omega
    have hq : ∀ i, ∃ x : Int, i < len → w.cell? (a'.add i) = some (iv x) := by
      intro i
      by_cases hil : i < len
      · obtain ⟨cs', hc, ht⟩ := hi i (by omega)
        rw [intsOne] at hc
        obtain ⟨h4, _, hat⟩ := World.cells?_some hc
        match cs', h4 with
        | [c], _ =>
          obtain ⟨x, e, _⟩ := DataW.trod_int (cs := [c]) Try.underlying3 ht
          injection e with e
          refine ⟨x, fun _ => ?_⟩
          have := hat 0 (by simp)
          rw [e] at this
          simpa [Addr.add] using this
      · exact ⟨0, fun h => absurd h hil⟩
    obtain ⟨f, hf⟩ := Classical.axiomOfChoice hq
    have hlen : ((List.range len).map f).length = len := by simp
    refine ⟨some a', cp, (List.range len).map f, by rw [hlen], ?_, by rw [hlen]; omega⟩
    by_cases h0 : len = 0
    · subst h0; exact .inl rfl
    · obtain ⟨b, off, spot⟩ := a'
      have hspot : spot = none := by
        have := hf 0 (by omega)
        simpa [Addr.add] using World.cell?_spot this
      subst hspot
      have hbl : b < w.heap.size := by
        have := World.block_lt_of_cell? w _ (hf 0 (by omega))
        rw [add_plus] at this
        exact this
      refine .inr ⟨b, off, rfl, hbl, fun i hi' => ?_⟩
      rw [hlen] at hi'
      have e : ((List.range len).map f).getD i 0 = f i := by simp [List.getD, hi']
      have := hf i hi'
      rw [add_plus] at this
      rw [e]; exact this
end
theorem pat_set1 {w : World} {g : Nat} {ps : List Pp} {p : Addr} {v : Value} (h : PAt w (some ⟨g, 0, none⟩) ps) (hne : p.block ≠ g) : PAt (w.setCell p v) (some ⟨g, 0, none⟩) ps := by
  rcases h with h | ⟨b, off, hA, hlt, hc⟩
  · exact .inl h
  · refine .inr ⟨b, off, hA, by simpa using hlt, fun i hi => ?_⟩
    injection hA with hA
    injection hA with hb _ _
    have hp : p.block ≠ b := by rw [← hb]; exact hne
    obtain ⟨h0, h1, h2, h3⟩ := hc i hi
    exact ⟨(World.cell?_setCell_far _ p _ _ hp).trans h0, (World.cell?_setCell_far _ p _ _ hp).trans h1, (World.cell?_setCell_far _ p _ _ hp).trans h2, (World.cell?_setCell_far _ p _ _ hp).trans h3⟩
end Go.Proofs.Ytgjogjmfpbinfaa.S2

namespace Go.Proofs.Ytgjogjmfpbinfaa.S2
open Go.RowKit P2

theorem infoPS : (Try.prog.info? 28).map (fun i => (i.zero, i.size, i.bytes)) = some (some (.slice none 0 0), 1, 24) := by kernel_rfl

/-- A slice of the pipes at each node. -/
def ByNode (w : World) (lo G N : Nat) (ps : List Pp) : Prop := ∃ vs B, lo ≤ B ∧ Bk w B G N (rowOf ps) vs

/-- The relation of the loop, one bucket at a time. -/
theorem made_bk (w : World) (N : Nat) (ps : List Pp) : Bk (w.alloc (.cells (madeCells #[.slice none 0 0] N) 28)) (w.heap.size + 1) w.heap.size N (rowTo ps 0) (fun _ => .slice none 0 0) :=
  ⟨World.rowIs_made _ _ _ _, fun i _ => by rw [rowTo_zero]; exact World.ownsRow_nil _ _ _ _, fun _ _ _ _ _ _ h => by simp [Value.ownBlock] at h, by omega⟩

set_option maxHeartbeats 4000000 in
set_option maxRecDepth 100000 in
theorem bynode_any (N : Nat) (A : Option Addr) (cap : Nat) (ps : List Pp) (w : World) (h : PAt w A ps) (hg : P2.Good N ps) :
    Calls Try.prog 197 #[nv N A ps.length cap] w fun e w' => (∃ G, e = .returned (.slice (some ⟨G, 0, none⟩) (N + 1) (N + 1)) ∧ ByNode w' w.heap.size G (N + 1) ps) ∧ Below w.heap.size w w' := by
  have HA := Lib.hid h
  have HG := Lib.hid hg
  have hN : N ≤ 8 := by have := hg.2.1; omega
  have hl := hg.2.2.1
  clear h hg
  obtain ⟨i0, hi0, hz0, hz1, hz2⟩ := info_parts infoP
  have hmk : ∀ wx : World, (Instr.makeSlice 156 (.int .i64 ((N : Int) + 1)) (.int .i64 ((N : Int) + 1))).run Try.prog wx = .ok (.slice (some ⟨wx.heap.size, 0, none⟩) (N + 1) (N + 1)) (wx.alloc (.cells (madeCells #[.slice none 0 0] (N + 1)) 28)) := fun wx => by
    rw [show ((N : Int) + 1) = ((N + 1 : Nat) : Int) by omega]
    exact run_make_row' (P := Try.prog) 156 28 (.slice none 0 0) 24 Try.underlying156 infoPS rfl .i64 .i64 (N + 1) (by omega) (by omega) wx
  have hN0 : 0 ≤ (N : Int) := by omega
  have hN1 : (N : Int) ≤ 8 := by omega
  go_enter Try.func197, Try.ntmps197
  go_wp2
  clear hmk
  go_loopw [13] (fun i wr => ∃ (k : Nat) (vs : Nat → Value), k ≤ ps.length ∧ i = .int .i64 k ∧ Hid (Bk wr (w.heap.size + 2) (w.heap.size + 1) (N + 1) (rowTo ps k) vs) ∧ Below (w.heap.size + 1) (w.alloc (.cells #[.int .i64 N, .slice A ps.length cap] 30)) wr) (fun i _ => ps.length - (intOf i).toNat)
  case atStart => exact ⟨0, _, Nat.zero_le _, rfl, Lib.hid (by simpa using made_bk (w.alloc (.cells #[.int .i64 N, .slice A ps.length cap] 30)) (N + 1) ps), (Below.refl _ _).alloc (by simp) _⟩
  case round =>
    obtain ⟨k, vs, hk, rfl, hbk, hb⟩ := hrel
    by_cases hlt : k < ps.length
    · obtain ⟨b, off, hA, hbl, h0, h1, h2, h3⟩ := HA.out.at_ hlt
      subst hA
      obtain ⟨hc, hf⟩ := bcell (W := w.alloc (.cells #[.int .i64 N, .slice (some ⟨b, off, none⟩) ps.length cap] 30)) (by simpa using hb)
      have hz := hbk.out.row.lt
      have hok := (HG.out.2.2.2 k hlt _ (pAt_get ps k hlt)).1
      have hst := Lib.hid (fun a c => rowTo_step ps k a c hlt)
      generalize pAt ps k = p at *
      obtain ⟨id, fr, tt, sz⟩ := p
      obtain ⟨a, rfl⟩ : ∃ a : Nat, fr = a := ⟨fr.toNat, by have := hok.2.2.1; simp at this; omega⟩
      obtain ⟨c, rfl⟩ : ∃ c : Nat, tt = c := ⟨tt.toNat, by have := hok.2.2.2.2.1; simp at this; omega⟩
      have ha1 : a < N + 1 := by have := hok.2.2.2.1; simp at this; omega
      have hc1 : c < N + 1 := by have := hok.2.2.2.2.2.1; simp at this; omega
      have hac : a ≠ c := by have := hok.2.2.2.2.2.2.1; simp at this; omega
      have hst' := Lib.hid (hst.out a c rfl rfl hac)
      clear hok hst
      have ca := hbk.out.row.cell ha1
      have fa := hbk.out.row.frozen a
      have la := rowTo_len ps k a
      have HO := Lib.hid (hbk.out.own a ha1)
      have hne : w.heap.size + 1 ≠ wr.heap.size := by omega
      have ha0 : (0 : Int) ≤ (a : Int) := by omega
      have haN : (a : Int) < (N : Int) + 1 := by omega
      have hzw : w.heap.size < wr.heap.size := by omega
      obtain ⟨f1, hf1⟩ : ∃ f1, f1 = upd (rowTo ps k) a (rowTo ps k a ++ [⟨id, a, c, sz⟩]) := ⟨_, rfl⟩
      have l1 : (f1 c).length ≤ k + 1 := by rw [hf1]; unfold upd; rw [if_neg (by omega)]; have := rowTo_len ps k c; omega
      rw [← hf1] at hst'
      have HF1 := Lib.hid hf1
      clear hf1
      have hpbn : some wr.heap.size ≠ (vs a).ownBlock := fun e => by have := (HO.out.lt _ e.symm).2; omega
      have hGn : some (w.heap.size + 1) ≠ (vs a).ownBlock := fun e => by have := (HO.out.lt _ e.symm).1; omega
      have hW1 := Lib.hid ((((Below.refl wr.heap.size wr).alloc (Nat.le_refl _) (.cells #[.int .i64 id, .int .i64 a, .int .i64 c, .int .i64 sz] 75)).alloc (by simp) (.cells #[.int .i64 id, .int .i64 a, .int .i64 c, .int .i64 sz] 75)).drew)
      go_upto_region 5 with (fail)
      go_cut [5] (fun s5 wx => s5 = .pointer (some ⟨wr.heap.size, 0, none⟩) ∧ (∃ vs1, Hid (Bk wx (w.heap.size + 2) (w.heap.size + 1) (N + 1) f1 vs1) ∧ Hid (∀ j, j < N + 1 → (vs1 j).ownBlock ≠ some wr.heap.size)) ∧ Below (w.heap.size + 1) (w.alloc (.cells #[.int .i64 N, .slice (some ⟨b, off, none⟩) ps.length cap] 30)) wx ∧ wr.heap.size < wx.heap.size ∧ wx.cell? ⟨wr.heap.size, 0, none⟩ = some (.int .i64 id) ∧ wx.cell? ⟨wr.heap.size, 1, none⟩ = some (.int .i64 a) ∧ wx.cell? ⟨wr.heap.size, 2, none⟩ = some (.int .i64 c) ∧ wx.cell? ⟨wr.heap.size, 3, none⟩ = some (.int .i64 sz))
      case first =>
        refine wp_region_held_drew (S := fun w' => w'.cell? ⟨wr.heap.size, 0, none⟩ = some (.int .i64 id) ∧ w'.cell? ⟨wr.heap.size, 1, none⟩ = some (.int .i64 a) ∧ w'.cell? ⟨wr.heap.size, 2, none⟩ = some (.int .i64 c) ∧ w'.cell? ⟨wr.heap.size, 3, none⟩ = some (.int .i64 sz)) (by kernel_rfl) (by go_keep) (fun hHeld => ?_)
        refine wpAnyH_take (i := 0) (v := .slice (some ⟨w.heap.size + 1, 0, none⟩) (N + 1) (N + 1)) rfl (by kernel_rfl) (by kernel_rfl) (by kernel_rfl) (fun _ _ _ h => h) (Or.inl ⟨by rfl, ?_⟩) (by assumption) ?_
        · (intro w hSw; (try dsimp only at hSw); go_simp)
        simp only [Act.put, List.setIfInBounds_toArray]
        refine wpAnyH_take (i := 1) (v := .pointer (some ⟨wr.heap.size, 1, none⟩)) rfl (by kernel_rfl) (by kernel_rfl) (by kernel_rfl) (fun _ _ _ h => h) (Or.inl ⟨by rfl, ?_⟩) (by assumption) ?_
        · (intro w hSw; (try dsimp only at hSw); go_simp)
        simp only [Act.put]
        refine wpAnyH_take (i := 2) (v := .int .i64 (a : Int)) rfl (by kernel_rfl) (by kernel_rfl) (by kernel_rfl) (fun _ _ _ h => h) (Or.inl ⟨by rfl, ?_⟩) (by assumption) ?_
        · (intro w hSw; (try dsimp only at hSw); go_simp)
        simp only [Act.put]
        refine wpAnyH_take (i := 3) (v := .slice (some ⟨w.heap.size + 1, 0, none⟩) (N + 1) (N + 1)) rfl (by kernel_rfl) (by kernel_rfl) (by kernel_rfl) (fun _ _ _ h => h) (Or.inl ⟨by rfl, ?_⟩) (by assumption) ?_
        · (intro w hSw; (try dsimp only at hSw); go_simp)
        simp only [Act.put]
        refine wpAnyH_take (i := 4) (v := .pointer (some ⟨wr.heap.size, 1, none⟩)) rfl (by kernel_rfl) (by kernel_rfl) (by kernel_rfl) (fun _ _ _ h => h) (Or.inl ⟨by rfl, ?_⟩) (by assumption) ?_
        · (intro w hSw; (try dsimp only at hSw); go_simp)
        simp only [Act.put]
        refine wpAnyH_take (i := 5) (v := .int .i64 (a : Int)) rfl (by kernel_rfl) (by kernel_rfl) (by kernel_rfl) (fun _ _ _ h => h) (Or.inl ⟨by rfl, ?_⟩) (by assumption) ?_
        · (intro w hSw; (try dsimp only at hSw); go_simp)
        simp only [Act.put]
        refine wpAnyH_take (i := 6) (v := .pointer (some ⟨w.heap.size + 1, a, none⟩)) rfl (by kernel_rfl) (by kernel_rfl) (by kernel_rfl) (fun _ _ _ h => h) (Or.inl ⟨by rfl, ?_⟩) (by assumption) ?_
        · (intro w hSw; (try dsimp only at hSw); go_simp)
        simp only [Act.put]
        refine wpAnyH_take (i := 8) (v := .agg #[.int .i64 id, .int .i64 a, .int .i64 c, .int .i64 sz]) rfl (by kernel_rfl) (by kernel_rfl) (by kernel_rfl) (fun _ _ _ h => h) (Or.inl ⟨by rfl, ?_⟩) (by assumption) ?_
        · (intro w hSw; (try dsimp only at hSw); go_simp)
        simp only [Act.put]
        refine wpAnyH_ready (rs := [7, 9]) (by kernel_rfl) (by simp) ?_
        refine AllReadyH.cons rfl (fun K hK => ?_) (AllReadyH.cons rfl (fun K hK => ?_) AllReadyH.nil)
        · go_simp
          refine hK.out _ _ (by first | assumption | go_keep) (fun hHeld => ?_)
          clear hK K
          refine wpAnyH_ready (rs := [9]) (by kernel_rfl) (by simp) ?_
          refine AllReadyH.cons rfl (fun K hK => ?_) AllReadyH.nil
          go_simp
          refine hK.out _ _ (by first | assumption | go_keep) (fun hHeld => ?_)
          clear hK K
          refine wpAnyH_ready (rs := [10]) (by kernel_rfl) (by simp) ?_
          refine AllReadyH.cons rfl (fun K hK => ?_) AllReadyH.nil
          refine step_append_lies _ (by rfl) _ _ _ (by rfl) (w.heap.size + 2) 75 i0 _ 4 32 Try.underlying28 hi0 hz0 hz1 hz2 rfl (by omega) (vs a) (rowTo ps k a).length (pcs (rowTo ps k a)) (by rfl) (((HO.out.alloc _).alloc _).drew)
            ⟨wr.heap.size + 1, 0, none⟩ 1 1 [.int .i64 id, .int .i64 a, .int .i64 c, .int .i64 sz] (by rfl) (by rfl) (World.news_of_block (cs := #[.int .i64 id, .int .i64 a, .int .i64 c, .int .i64 sz]) (t := 75) (fr := (0, 0)) (by have h := heap_alloc_new (wr.alloc (.cells #[.int .i64 id, .int .i64 a, .int .i64 c, .int .i64 sz] 75)) (.cells #[.int .i64 id, .int .i64 a, .int .i64 c, .int .i64 sz] 75); rwa [show (wr.alloc (.cells #[.int .i64 id, .int .i64 a, .int .i64 c, .int .i64 sz] 75)).heap.size = wr.heap.size + 1 by simp] at h)) (by simp [Value.oneCell'])
            (by omega) (by simp only [maxLen]; omega) (by omega) (by simp; omega) (wr.heap.size + 2) (by simp) ?_
          intro gg cap' w1 hown1 hgrow hat hlt1
          have hHeld2 := hHeld
          refine hK.out _ _ (by rcases hHeld2 with ⟨q0, q1, q2, q3⟩; exact ⟨(hgrow.cell_far _ (by simp; omega) hpbn).trans q0, (hgrow.cell_far _ (by simp; omega) hpbn).trans q1, (hgrow.cell_far _ (by simp; omega) hpbn).trans q2, (hgrow.cell_far _ (by simp; omega) hpbn).trans q3⟩) (fun hHeld => ?_)
          clear hK K hHeld2
          have cell1 : w1.cell? ⟨w.heap.size + 1, a, none⟩ = some (vs a) := (hgrow.cell_far _ (by simp; omega) hGn).trans ((hW1.out.cell (p := ⟨w.heap.size + 1, a, none⟩) hz).trans ca)
          have froz1 : w1.frozen? ⟨w.heap.size + 1, a, none⟩ = false := (hgrow.frozen_far _ (by simp; omega) hGn).trans ((hW1.out.frozen (p := ⟨w.heap.size + 1, a, none⟩) hz).trans fa)
          refine wpAnyH_ready (rs := [11]) (by kernel_rfl) (by simp) ?_
          refine AllReadyH.cons rfl (fun K hK => ?_) AllReadyH.nil
          go_simp
          refine hK.out _ _ (by first | assumption | go_keep) (fun hHeld => ?_)
          clear hK K
          refine wpAnyH_ready (rs := [12]) (by kernel_rfl) (by simp) ?_
          refine AllReadyH.cons rfl (fun K hK => ?_) AllReadyH.nil
          go_simp
          refine hK.out _ _ (by first | assumption | go_keep) (fun hHeld => ?_)
          clear hK K
          refine wpAnyH_done (by kernel_rfl) ?_ _
          go_wp2_with fail
          go_meet
          refine ⟨rfl, ⟨_, Lib.hid (by rw [HF1.out]; exact Bk.push (p := ⟨id, a, c, sz⟩) hbk.out ha1 hW1.out hgrow hown1 hat (by omega)), Lib.hid (Bk.push_ne hbk.out ha1 hat (Nat.le_refl _) (by omega))⟩, ?_, ?_, hHeld⟩
          · exact (((((hb.alloc (by omega) _).alloc (by simp; omega) _).drew).grown hgrow (by simp; omega) (fun g hg => by have := (HO.out.lt g hg).1; omega))).setCell (by show w.heap.size + 1 ≤ w.heap.size + 1; omega) _
          · have := hgrow.size; simp at this ⊢; omega
        · go_simp
          refine hK.out _ _ (by first | assumption | go_keep) (fun hHeld => ?_)
          clear hK K
          refine wpAnyH_ready (rs := [7]) (by kernel_rfl) (by simp) ?_
          refine AllReadyH.cons rfl (fun K hK => ?_) AllReadyH.nil
          go_simp
          refine hK.out _ _ (by first | assumption | go_keep) (fun hHeld => ?_)
          clear hK K
          refine wpAnyH_ready (rs := [10]) (by kernel_rfl) (by simp) ?_
          refine AllReadyH.cons rfl (fun K hK => ?_) AllReadyH.nil
          refine step_append_lies _ (by rfl) _ _ _ (by rfl) (w.heap.size + 2) 75 i0 _ 4 32 Try.underlying28 hi0 hz0 hz1 hz2 rfl (by omega) (vs a) (rowTo ps k a).length (pcs (rowTo ps k a)) (by rfl) (((HO.out.alloc _).alloc _).drew)
            ⟨wr.heap.size + 1, 0, none⟩ 1 1 [.int .i64 id, .int .i64 a, .int .i64 c, .int .i64 sz] (by rfl) (by rfl) (World.news_of_block (cs := #[.int .i64 id, .int .i64 a, .int .i64 c, .int .i64 sz]) (t := 75) (fr := (0, 0)) (by have h := heap_alloc_new (wr.alloc (.cells #[.int .i64 id, .int .i64 a, .int .i64 c, .int .i64 sz] 75)) (.cells #[.int .i64 id, .int .i64 a, .int .i64 c, .int .i64 sz] 75); rwa [show (wr.alloc (.cells #[.int .i64 id, .int .i64 a, .int .i64 c, .int .i64 sz] 75)).heap.size = wr.heap.size + 1 by simp] at h)) (by simp [Value.oneCell'])
            (by omega) (by simp only [maxLen]; omega) (by omega) (by simp; omega) (wr.heap.size + 2) (by simp) ?_
          intro gg cap' w1 hown1 hgrow hat hlt1
          have hHeld2 := hHeld
          refine hK.out _ _ (by rcases hHeld2 with ⟨q0, q1, q2, q3⟩; exact ⟨(hgrow.cell_far _ (by simp; omega) hpbn).trans q0, (hgrow.cell_far _ (by simp; omega) hpbn).trans q1, (hgrow.cell_far _ (by simp; omega) hpbn).trans q2, (hgrow.cell_far _ (by simp; omega) hpbn).trans q3⟩) (fun hHeld => ?_)
          clear hK K hHeld2
          have cell1 : w1.cell? ⟨w.heap.size + 1, a, none⟩ = some (vs a) := (hgrow.cell_far _ (by simp; omega) hGn).trans ((hW1.out.cell (p := ⟨w.heap.size + 1, a, none⟩) hz).trans ca)
          have froz1 : w1.frozen? ⟨w.heap.size + 1, a, none⟩ = false := (hgrow.frozen_far _ (by simp; omega) hGn).trans ((hW1.out.frozen (p := ⟨w.heap.size + 1, a, none⟩) hz).trans fa)
          refine wpAnyH_ready (rs := [11]) (by kernel_rfl) (by simp) ?_
          refine AllReadyH.cons rfl (fun K hK => ?_) AllReadyH.nil
          go_simp
          refine hK.out _ _ (by first | assumption | go_keep) (fun hHeld => ?_)
          clear hK K
          refine wpAnyH_ready (rs := [12]) (by kernel_rfl) (by simp) ?_
          refine AllReadyH.cons rfl (fun K hK => ?_) AllReadyH.nil
          go_simp
          refine hK.out _ _ (by first | assumption | go_keep) (fun hHeld => ?_)
          clear hK K
          refine wpAnyH_done (by kernel_rfl) ?_ _
          go_wp2_with fail
          go_meet
          refine ⟨rfl, ⟨_, Lib.hid (by rw [HF1.out]; exact Bk.push (p := ⟨id, a, c, sz⟩) hbk.out ha1 hW1.out hgrow hown1 hat (by omega)), Lib.hid (Bk.push_ne hbk.out ha1 hat (Nat.le_refl _) (by omega))⟩, ?_, ?_, hHeld⟩
          · exact (((((hb.alloc (by omega) _).alloc (by simp; omega) _).drew).grown hgrow (by simp; omega) (fun g hg => by have := (HO.out.lt g hg).1; omega))).setCell (by show w.heap.size + 1 ≤ w.heap.size + 1; omega) _
          · have := hgrow.size; simp at this ⊢; omega
      case rest =>
        obtain ⟨rfl, ⟨vs1, hbk1, hpb1⟩, hb1, hzx, hHeld0⟩ := hcut
        have hzc := hbk1.out.row.lt
        have cc := hbk1.out.row.cell hc1
        have fc := hbk1.out.row.frozen c
        have HO1 := Lib.hid (hbk1.out.own c hc1)
        have hpbn : some wr.heap.size ≠ (vs1 c).ownBlock := fun e => hpb1.out c hc1 e.symm
        have hGn : some (w.heap.size + 1) ≠ (vs1 c).ownBlock := fun e => by have := (HO1.out.lt _ e.symm).1; omega
        have hc0 : (0 : Int) ≤ (c : Int) := by omega
        have hcN : (c : Int) < (N : Int) + 1 := by omega
        have hW2 := Lib.hid (((Below.refl wc.heap.size wc).alloc (Nat.le_refl _) (.cells #[.int .i64 id, .int .i64 a, .int .i64 c, .int .i64 sz] 75)).drew)
        go_wp2_with fail
        refine wp_region_held_drew (S := fun w' => w'.cell? ⟨wr.heap.size, 0, none⟩ = some (.int .i64 id) ∧ w'.cell? ⟨wr.heap.size, 1, none⟩ = some (.int .i64 a) ∧ w'.cell? ⟨wr.heap.size, 2, none⟩ = some (.int .i64 c) ∧ w'.cell? ⟨wr.heap.size, 3, none⟩ = some (.int .i64 sz)) (by kernel_rfl) (by go_keep) (fun hHeld => ?_)
        refine wpAnyH_take (i := 0) (v := .slice (some ⟨w.heap.size + 1, 0, none⟩) (N + 1) (N + 1)) rfl (by kernel_rfl) (by kernel_rfl) (by kernel_rfl) (fun _ _ _ h => h) (Or.inl ⟨by rfl, ?_⟩) (by assumption) ?_
        · (intro w hSw; (try dsimp only at hSw); go_simp)
        simp only [Act.put, List.setIfInBounds_toArray]
        refine wpAnyH_take (i := 1) (v := .pointer (some ⟨wr.heap.size, 2, none⟩)) rfl (by kernel_rfl) (by kernel_rfl) (by kernel_rfl) (fun _ _ _ h => h) (Or.inl ⟨by rfl, ?_⟩) (by assumption) ?_
        · (intro w hSw; (try dsimp only at hSw); go_simp)
        simp only [Act.put]
        refine wpAnyH_take (i := 2) (v := .int .i64 (c : Int)) rfl (by kernel_rfl) (by kernel_rfl) (by kernel_rfl) (fun _ _ _ h => h) (Or.inl ⟨by rfl, ?_⟩) (by assumption) ?_
        · (intro w hSw; (try dsimp only at hSw); go_simp)
        simp only [Act.put]
        refine wpAnyH_take (i := 3) (v := .slice (some ⟨w.heap.size + 1, 0, none⟩) (N + 1) (N + 1)) rfl (by kernel_rfl) (by kernel_rfl) (by kernel_rfl) (fun _ _ _ h => h) (Or.inl ⟨by rfl, ?_⟩) (by assumption) ?_
        · (intro w hSw; (try dsimp only at hSw); go_simp)
        simp only [Act.put]
        refine wpAnyH_take (i := 4) (v := .pointer (some ⟨wr.heap.size, 2, none⟩)) rfl (by kernel_rfl) (by kernel_rfl) (by kernel_rfl) (fun _ _ _ h => h) (Or.inl ⟨by rfl, ?_⟩) (by assumption) ?_
        · (intro w hSw; (try dsimp only at hSw); go_simp)
        simp only [Act.put]
        refine wpAnyH_take (i := 5) (v := .int .i64 (c : Int)) rfl (by kernel_rfl) (by kernel_rfl) (by kernel_rfl) (fun _ _ _ h => h) (Or.inl ⟨by rfl, ?_⟩) (by assumption) ?_
        · (intro w hSw; (try dsimp only at hSw); go_simp)
        simp only [Act.put]
        refine wpAnyH_take (i := 6) (v := .pointer (some ⟨w.heap.size + 1, c, none⟩)) rfl (by kernel_rfl) (by kernel_rfl) (by kernel_rfl) (fun _ _ _ h => h) (Or.inl ⟨by rfl, ?_⟩) (by assumption) ?_
        · (intro w hSw; (try dsimp only at hSw); go_simp)
        simp only [Act.put]
        refine wpAnyH_take (i := 8) (v := .agg #[.int .i64 id, .int .i64 a, .int .i64 c, .int .i64 sz]) rfl (by kernel_rfl) (by kernel_rfl) (by kernel_rfl) (fun _ _ _ h => h) (Or.inl ⟨by rfl, ?_⟩) (by assumption) ?_
        · (intro w hSw; (try dsimp only at hSw); go_simp)
        simp only [Act.put]
        refine wpAnyH_ready (rs := [7, 9]) (by kernel_rfl) (by simp) ?_
        refine AllReadyH.cons rfl (fun K hK => ?_) (AllReadyH.cons rfl (fun K hK => ?_) AllReadyH.nil)
        · go_simp
          refine hK.out _ _ (by first | assumption | go_keep) (fun hHeld => ?_)
          clear hK K
          refine wpAnyH_ready (rs := [9]) (by kernel_rfl) (by simp) ?_
          refine AllReadyH.cons rfl (fun K hK => ?_) AllReadyH.nil
          go_simp
          refine hK.out _ _ (by first | assumption | go_keep) (fun hHeld => ?_)
          clear hK K
          refine wpAnyH_ready (rs := [10]) (by kernel_rfl) (by simp) ?_
          refine AllReadyH.cons rfl (fun K hK => ?_) AllReadyH.nil
          refine step_append_lies _ (by rfl) _ _ _ (by rfl) (w.heap.size + 2) 75 i0 _ 4 32 Try.underlying28 hi0 hz0 hz1 hz2 rfl (by omega) (vs1 c) (f1 c).length (pcs (f1 c)) (by rfl) ((HO1.out.alloc _).drew)
            ⟨wc.heap.size, 0, none⟩ 1 1 [.int .i64 id, .int .i64 a, .int .i64 c, .int .i64 sz] (by rfl) (by rfl) (World.news_of_block (cs := #[.int .i64 id, .int .i64 a, .int .i64 c, .int .i64 sz]) (t := 75) (fr := (0, 0)) (by exact heap_alloc_new wc (.cells #[.int .i64 id, .int .i64 a, .int .i64 c, .int .i64 sz] 75))) (by simp [Value.oneCell'])
            (by omega) (by simp only [maxLen]; omega) (by omega) (by simp; omega) (wc.heap.size + 1) (by simp) ?_
          intro gg cap' w1 hown1 hgrow hat hlt1
          have hHeld2 := hHeld
          refine hK.out _ _ (by rcases hHeld2 with ⟨q0, q1, q2, q3⟩; exact ⟨(hgrow.cell_far _ (by simp; omega) hpbn).trans q0, (hgrow.cell_far _ (by simp; omega) hpbn).trans q1, (hgrow.cell_far _ (by simp; omega) hpbn).trans q2, (hgrow.cell_far _ (by simp; omega) hpbn).trans q3⟩) (fun hHeld => ?_)
          clear hK K hHeld2
          have cell1 : w1.cell? ⟨w.heap.size + 1, c, none⟩ = some (vs1 c) := (hgrow.cell_far _ (by simp; omega) hGn).trans ((hW2.out.cell (p := ⟨w.heap.size + 1, c, none⟩) hzc).trans cc)
          have froz1 : w1.frozen? ⟨w.heap.size + 1, c, none⟩ = false := (hgrow.frozen_far _ (by simp; omega) hGn).trans ((hW2.out.frozen (p := ⟨w.heap.size + 1, c, none⟩) hzc).trans fc)
          refine wpAnyH_ready (rs := [11]) (by kernel_rfl) (by simp) ?_
          refine AllReadyH.cons rfl (fun K hK => ?_) AllReadyH.nil
          go_simp
          refine hK.out _ _ (by first | assumption | go_keep) (fun hHeld => ?_)
          clear hK K
          refine wpAnyH_ready (rs := [12]) (by kernel_rfl) (by simp) ?_
          refine AllReadyH.cons rfl (fun K hK => ?_) AllReadyH.nil
          go_simp
          refine hK.out _ _ (by first | assumption | go_keep) (fun hHeld => ?_)
          clear hK K
          refine wpAnyH_done (by kernel_rfl) ?_ _
          go_wp2
          go_roundw
          case rel => exact ⟨k + 1, _, by omega, by go_num, Lib.hid ((Bk.push (p := ⟨id, a, c, sz⟩) hbk1.out hc1 hW2.out hgrow hown1 hat (by omega)).congr (fun i _ => hst'.out i)), (((hb1.alloc (by omega) _).drew.grown hgrow (by simp; omega) (fun g hg => by have := (HO1.out.lt g hg).1; omega))).setCell (by show w.heap.size + 1 ≤ w.heap.size + 1; omega) _⟩
          case measure => simp [intOf]; omega
        · go_simp
          refine hK.out _ _ (by first | assumption | go_keep) (fun hHeld => ?_)
          clear hK K
          refine wpAnyH_ready (rs := [7]) (by kernel_rfl) (by simp) ?_
          refine AllReadyH.cons rfl (fun K hK => ?_) AllReadyH.nil
          go_simp
          refine hK.out _ _ (by first | assumption | go_keep) (fun hHeld => ?_)
          clear hK K
          refine wpAnyH_ready (rs := [10]) (by kernel_rfl) (by simp) ?_
          refine AllReadyH.cons rfl (fun K hK => ?_) AllReadyH.nil
          refine step_append_lies _ (by rfl) _ _ _ (by rfl) (w.heap.size + 2) 75 i0 _ 4 32 Try.underlying28 hi0 hz0 hz1 hz2 rfl (by omega) (vs1 c) (f1 c).length (pcs (f1 c)) (by rfl) ((HO1.out.alloc _).drew)
            ⟨wc.heap.size, 0, none⟩ 1 1 [.int .i64 id, .int .i64 a, .int .i64 c, .int .i64 sz] (by rfl) (by rfl) (World.news_of_block (cs := #[.int .i64 id, .int .i64 a, .int .i64 c, .int .i64 sz]) (t := 75) (fr := (0, 0)) (by exact heap_alloc_new wc (.cells #[.int .i64 id, .int .i64 a, .int .i64 c, .int .i64 sz] 75))) (by simp [Value.oneCell'])
            (by omega) (by simp only [maxLen]; omega) (by omega) (by simp; omega) (wc.heap.size + 1) (by simp) ?_
          intro gg cap' w1 hown1 hgrow hat hlt1
          have hHeld2 := hHeld
          refine hK.out _ _ (by rcases hHeld2 with ⟨q0, q1, q2, q3⟩; exact ⟨(hgrow.cell_far _ (by simp; omega) hpbn).trans q0, (hgrow.cell_far _ (by simp; omega) hpbn).trans q1, (hgrow.cell_far _ (by simp; omega) hpbn).trans q2, (hgrow.cell_far _ (by simp; omega) hpbn).trans q3⟩) (fun hHeld => ?_)
          clear hK K hHeld2
          have cell1 : w1.cell? ⟨w.heap.size + 1, c, none⟩ = some (vs1 c) := (hgrow.cell_far _ (by simp; omega) hGn).trans ((hW2.out.cell (p := ⟨w.heap.size + 1, c, none⟩) hzc).trans cc)
          have froz1 : w1.frozen? ⟨w.heap.size + 1, c, none⟩ = false := (hgrow.frozen_far _ (by simp; omega) hGn).trans ((hW2.out.frozen (p := ⟨w.heap.size + 1, c, none⟩) hzc).trans fc)
          refine wpAnyH_ready (rs := [11]) (by kernel_rfl) (by simp) ?_
          refine AllReadyH.cons rfl (fun K hK => ?_) AllReadyH.nil
          go_simp
          refine hK.out _ _ (by first | assumption | go_keep) (fun hHeld => ?_)
          clear hK K
          refine wpAnyH_ready (rs := [12]) (by kernel_rfl) (by simp) ?_
          refine AllReadyH.cons rfl (fun K hK => ?_) AllReadyH.nil
          go_simp
          refine hK.out _ _ (by first | assumption | go_keep) (fun hHeld => ?_)
          clear hK K
          refine wpAnyH_done (by kernel_rfl) ?_ _
          go_wp2
          go_roundw
          case rel => exact ⟨k + 1, _, by omega, by go_num, Lib.hid ((Bk.push (p := ⟨id, a, c, sz⟩) hbk1.out hc1 hW2.out hgrow hown1 hat (by omega)).congr (fun i _ => hst'.out i)), (((hb1.alloc (by omega) _).drew.grown hgrow (by simp; omega) (fun g hg => by have := (HO1.out.lt g hg).1; omega))).setCell (by show w.heap.size + 1 ≤ w.heap.size + 1; omega) _⟩
          case measure => simp [intOf]; omega
    · have hfin := Lib.hid (hbk.out.congr (g := rowOf ps) (fun i _ => rowTo_all ps k i (by omega)))
      go_wp2
      go_ret
      exact ⟨⟨_, rfl, _, _, by omega, hfin.out⟩, below_box hb⟩
end Go.Proofs.Ytgjogjmfpbinfaa.S2

namespace Go.Proofs.Ytgjogjmfpbinfaa.S2
open Go.RowKit P2

/-- The Ids of the pipes at a node. -/
def atL (ps : List Pp) (x : Int) : List Int := (ps.filter fun p => decide (p.fr = x ∨ p.to = x)).map (·.id)
def idsTo (ps : List Pp) (k : Nat) : List Int := (ps.take k).map (·.id)
theorem idsTo_len (ps : List Pp) (k : Nat) : (idsTo ps k).length ≤ k := by unfold idsTo; rw [List.length_map]; exact List.length_take_le _ _
theorem idsTo_succ (ps : List Pp) (k : Nat) (h : k < ps.length) : idsTo ps (k + 1) = idsTo ps k ++ [(pAt ps k).id] := by
  unfold idsTo
  rw [List.take_succ_eq_append_getElem h, List.map_append]
  simp [pAt, List.getD, h]
theorem idsTo_all (ps : List Pp) (k : Nat) (h : ps.length ≤ k) : idsTo ps k = ps.map (·.id) := by unfold idsTo; rw [List.take_of_length_le h]
theorem rowOf_len (ps : List Pp) (i : Nat) : (rowOf ps i).length ≤ ps.length := List.length_filter_le _ _
theorem atL_row (ps : List Pp) (i : Nat) : atL ps i = (rowOf ps i).map (·.id) := rfl

/-- One bucket, read. -/
theorem ByNode.at_ {w : World} {lo G N : Nat} {ps : List Pp} (h : ByNode w lo G N ps) {i : Nat} (hi : i < N) :
    ∃ A cap, w.cell? ⟨G, i, none⟩ = some (.slice A (rowOf ps i).length cap) ∧ PAt w A (rowOf ps i) ∧ ∀ b, A.map (·.block) = some b → lo ≤ b := by
  obtain ⟨vs, B, hB, hb⟩ := h
  have ho := hb.own i hi
  have hc := hb.row.cell hi
  rcases ho.2 with ⟨hv, h0⟩ | ⟨g, cap, cur, hv, hbg, _⟩
  · rw [hv] at hc
    rw [← h0] at hc
    exact ⟨none, _, hc, .inl (List.length_eq_zero_iff.1 h0), fun b hb => by cases hb⟩
  · rw [hv] at hc ho
    refine ⟨_, _, hc, own_pat ho, fun b hb => ?_⟩
    simp at hb
    omega
theorem ByNode.kept {w w' : World} {lo G N : Nat} {ps : List Pp} (h : ByNode w lo G N ps) (hb : Below w.heap.size w w') : ByNode w' lo G N ps := by
  obtain ⟨vs, B, hB, h⟩ := h
  exact ⟨vs, B, hB, h.kept hb⟩
theorem ByNode.lt {w : World} {lo G N : Nat} {ps : List Pp} (h : ByNode w lo G N ps) : G < w.heap.size := by
  obtain ⟨vs, B, hB, h⟩ := h
  exact h.row.lt
/-- Pipes in another block than the row that grows. -/
theorem PAt.grown {w w' : World} {A : Option Addr} {ps : List Pp} {row : Option Nat} (h : PAt w A ps) (hg : w.grownBy w' row) (hne : ∀ b, A.map (·.block) = some b → row ≠ some b) : PAt w' A ps := by
  rcases h with h | ⟨b, off, hA, hlt, h⟩
  · exact .inl h
  · have hb : w'.heap[b]? = w.heap[b]? := hg.block b hlt (fun e => hne b (by rw [hA]; rfl) e.symm)
    have hc : ∀ o, w'.cell? ⟨b, o, none⟩ = w.cell? ⟨b, o, none⟩ := fun o => World.cell?_of_block hb
    refine .inr ⟨b, off, hA, Nat.lt_of_lt_of_le hlt hg.size, fun i hi => ?_⟩
    obtain ⟨h0, h1, h2, h3⟩ := h i hi
    rw [hc, hc, hc, hc]
    exact ⟨h0, h1, h2, h3⟩
theorem PAt.alloc {w : World} {A : Option Addr} {ps : List Pp} (h : PAt w A ps) (o : Obj) : PAt (w.alloc o) A ps := h.kept ((Below.refl w.heap.size w).alloc (Nat.le_refl _) o) (Nat.le_refl _)
/-- The row lies elsewhere still. -/
theorem far_next {A : Option Addr} {ps : List Pp} {w : World} {v : Value} {g H l cap : Nat} (h : PAt w A ps) (hp : 0 < ps.length) (hne : ∀ b, A.map (·.block) = some b → v.ownBlock ≠ some b) (hat : v.ownBlock = some g ∨ g = H) (hH : w.heap.size ≤ H) :
    ∀ b, A.map (·.block) = some b → (Value.slice (some ⟨g, 0, none⟩) l cap).ownBlock ≠ some b := by
  intro b hb e
  have hgb : g = b := by simpa [Value.ownBlock] using e
  subst hgb
  rcases hat with hat | hat
  · exact hne g hb hat
  · rcases h with h | ⟨b', off, hA, hlt, _⟩
    · subst h; simp at hp
    · rw [hA] at hb
      simp at hb
      omega

set_option maxHeartbeats 2000000 in
theorem at_no (n : Int) (A : Option Addr) (cap : Nat) (ps : List Pp) (x : Int) (w : World) (h : PAt w A ps) (hm : ps.length ≤ maxLen) (hv : nodeB n ps x = false) :
    Calls Try.prog 108 #[nv n A ps.length cap, .int .i64 x] w (GivesI w [] false) := by
  have H := Lib.hid (fun w' (hb : Below w.heap.size w w') => node_v hv A cap w' (h.kept hb (Nat.le_refl _)) hm)
  clear h hv
  go_enter Try.func108, Try.ntmps108
  go_wp2_with (go_at_call 188; refine (H.out _ ((Below.refl _ _).alloc (Nat.le_refl _) _)).mono ?_; rintro e w1 ⟨rfl, hb1⟩)
  go_ret2
  exact gives_none (below_alloc_call hb1)

set_option maxHeartbeats 2000000 in
set_option maxRecDepth 100000 in
theorem at_yes (N X : Nat) (A : Option Addr) (cap : Nat) (ps : List Pp) (w : World) (h : PAt w A ps) (hv : nodeB N ps X = true) :
    Calls Try.prog 108 #[nv N A ps.length cap, .int .i64 X] w (GivesI w (atL ps X) true) := by
  obtain ⟨hg, hx1, hx2⟩ := nodeB_of hv
  have hl10 := hg.2.2.1
  have hm : ps.length ≤ maxLen := by unfold maxLen; omega
  have H := Lib.hid (fun w' (hb : Below w.heap.size w w') => node_v hv A cap w' (h.kept hb (Nat.le_refl _)) hm)
  have HB := Lib.hid (fun w' (hb : Below w.heap.size w w') => bynode_any N A cap ps w' (h.kept hb (Nat.le_refl _)) hg)
  have hX : X < N + 1 := by omega
  have hX0 : (0 : Int) ≤ (X : Int) := by omega
  have hXN : (X : Int) < (N : Int) + 1 := by omega
  have hR := rowOf_len ps X
  have HAT := Lib.hid (atL_row ps X)
  obtain ⟨i0, hi, hz0, hz1, hz2⟩ := info_parts infoI
  clear h hv hg hx1 hx2 hm
  go_enter Try.func108, Try.ntmps108
  go_wp2_with (first
    | (go_at_call 188; refine (H.out _ ((Below.refl _ _).alloc (Nat.le_refl _) _)).mono ?_; rintro e w1 ⟨rfl, hb1⟩; obtain ⟨hc1, hf1⟩ := bcell hb1; have hz1' := hb1.size; have hB1 := Lib.hid (below_alloc_call hb1); have hs1 : w.heap.size < w1.heap.size := by (simp at hz1'; omega))
    | (go_at_call 197; refine (HB.out _ (hB1.out.alloc hB1.out.size _)).mono ?_; rintro e w2 ⟨⟨G, rfl, hbn⟩, hb2⟩; obtain ⟨AR, capR, hcR, hpR, hloR⟩ := hbn.at_ hX))
  have hB2 : Below w.heap.size w w2 := (hB1.out.alloc hB1.out.size (.cells #[] 3)).trans (hb2.mono (by simp; omega))
  have hO2 : IOwn w2 w.heap.size (.slice (some ⟨w1.heap.size, 0, none⟩) 0 0) [] := (own_empty w1 w.heap.size hB1.out.size).on hb2
  have HP := Lib.hid hpR
  have hF0 : Hid (∀ b, AR.map (·.block) = some b → (Value.slice (some ⟨w1.heap.size, 0, none⟩) 0 0).ownBlock ≠ some b) := Lib.hid (by
    intro b hb e
    have h1 := hloR b hb
    have h2 : w1.heap.size = b := by simpa [Value.ownBlock] using e
    simp at h1
    omega)
  generalize rowOf ps X = R at *
  clear hbn hc1 hf1 hz1' hb1 hb2 hcR hpR hloR
  go_loopw [6, 21] (fun v i wr => ∃ k : Nat, k ≤ R.length ∧ i = .int .i64 k ∧ Hid (IOwn wr w.heap.size v (idsTo R k)) ∧ Hid (v ≠ .slice none 0 0) ∧ Below w.heap.size w wr ∧ Hid (PAt wr AR R) ∧ Hid (∀ b, AR.map (·.block) = some b → v.ownBlock ≠ some b)) (fun _ i _ => R.length - (intOf i).toNat)
  case atStart => exact ⟨0, Nat.zero_le _, rfl, Lib.hid hO2, Lib.hid (by simp), hB2, HP, hF0⟩
  case round =>
    obtain ⟨k, hk, rfl, hown, hvn, hb, hpr, hfar⟩ := hrel
    by_cases hlt : k < R.length
    · obtain ⟨b, off, hA, hbl, h0, h1, h2, h3⟩ := hpr.out.at_ hlt
      subst hA
      have hsn := Lib.hid (idsTo_succ R k hlt)
      have hil := idsTo_len R k
      generalize pAt R k = p at *
      have ho := hown.out
      unfold IOwn at ho
      go_wp2_with (at_builtin; refine wpList_append_lies _ rfl _ _ 34 rfl w.heap.size 3 i0 (.int .i64 0) 1 8 Try.underlying34 hi hz0 hz1 hz2 rfl (by decide) _ _ _ rfl ((ho.alloc _).alloc _) ⟨wr.heap.size + 1, 0, none⟩ 1 1 [iv p.id] rfl rfl (cell_new2 _ _ _ _) ?c2 (by omega) ?c3 ?c4 ?c5 (wr.heap.size + 2) (by simp) ?_)
      case c2 => intro u hu; simp at hu; subst hu; rfl
      case c3 => unfold maxLen; omega
      case c4 => omega
      case c5 => have := hb.size; simp; omega
      intro gg cap' w3 hown' hgrow hat hlt1
      have hown3 := Lib.hid (IOwn.push hown')
      have hB3 := Lib.hid (((hb.alloc hb.size _).alloc (by have := hb.size; simp; omega) _).grown hgrow (by have := hb.size; simp; omega) (fun g hg => (ho.lt g hg).1))
      have hP3 := Lib.hid (((hpr.out.alloc _).alloc _).grown hgrow (fun b hb => hfar.out b hb))
      have hF3 := Lib.hid (far_next (l := k + 1) (cap := cap') hpr.out (by omega) hfar.out hat (by omega))
      rw [← hsn.out] at hown3
      clear hown' hgrow ho hat
      go_wp2
      go_roundw
      case rel => exact ⟨k + 1, by omega, by go_num, hown3, Lib.hid (by simp), hB3.out, hP3, Lib.hid (fun b hb e => hF3.out b hb (by simpa [Value.ownBlock] using e))⟩
      case measure => simp [intOf]; omega
    · have hfin := Lib.hid (idsTo_all R k (by omega))
      rw [hfin.out] at hown
      obtain ⟨g, capg, rfl, hg⟩ := own_slice hown.out hvn.out
      go_wp2
      go_ret2
      exact ⟨g, capg, by rw [HAT.out]; rfl, hg, by rw [HAT.out]; exact hown.out, hb⟩
end Go.Proofs.Ytgjogjmfpbinfaa.S2

namespace Go.Proofs.Ytgjogjmfpbinfaa.S2
open Go.RowKit P2

def qI (Q : List Nat) : List Int := Q.map fun n : Nat => (n : Int)
theorem qI_snoc (Q : List Nat) (u : Nat) : qI (Q ++ [u]) = qI Q ++ [(u : Int)] := by simp [qI]
theorem cell_head (w : World) (a : Addr) (u x : Value) (t : TypeId) : ((w.setCell a u).alloc (.cells #[x] t)).cell? ⟨w.heap.size, 0, none⟩ = some x := by
  rw [World.cell?_alloc_at _ _ _ _ (by simp)]
  rfl
/-- The distances lie in block g. -/
def DRow (w : World) (g : Nat) (D : List Int) : Prop := w.heap[g]? = some (.cells (D.map iv).toArray 3 (0, 0))
theorem DRow.lt {w : World} {g : Nat} {D : List Int} (h : DRow w g D) : g < w.heap.size := (Array.getElem?_eq_some_iff.1 h).1
theorem DRow.cell {w : World} {g : Nat} {D : List Int} (h : DRow w g D) {v : Nat} (hv : v < D.length) : w.cell? ⟨g, v, none⟩ = some (iv (dA D v)) := by
  rw [cell_of_row w g v _ 3 (0, 0) h]
  simp [dA, List.getD, hv]
theorem DRow.frozen {w : World} {g : Nat} {D : List Int} (h : DRow w g D) (o : Nat) : w.frozen? ⟨g, o, none⟩ = false := by
  unfold DRow at h
  simp [World.frozen?, h]
theorem DRow.set {w : World} {g : Nat} {D : List Int} (h : DRow w g D) (v : Nat) (x : Int) : DRow (w.setCell ⟨g, v, none⟩ (iv x)) g (D.set v x) := by
  unfold DRow at h ⊢
  simp [World.setCell, Array.getElem?_modify, h, List.map_set]
theorem DRow.kept {w w' : World} {g : Nat} {D : List Int} (h : DRow w g D) (hb : w'.heap[g]? = w.heap[g]?) : DRow w' g D := hb.trans h
theorem DRow.iat {w : World} {g : Nat} {D : List Int} (h : DRow w g D) : IAt w (some ⟨g, 0, none⟩) D :=
  .inr ⟨g, 0, rfl, h.lt, fun i hi => by rw [Nat.zero_add]; exact h.cell hi⟩

theorem other_any (p : Pp) (x : Int) (w : World) :
    Calls Try.prog 170 #[pv p, .int .i64 x] w fun e w' => e = .returned (iv (oth p x)) ∧ Below w.heap.size w w' := by
  obtain ⟨id, fr, tt, sz⟩ := p
  by_cases h : fr = x
  · have e : oth ⟨id, fr, tt, sz⟩ x = tt := by unfold oth; rw [if_pos h]
    have hE : (fr == x) = true := by simpa using h
    rw [e]
    clear h e
    go_enter Try.func170, Try.ntmps170
    go_wp2
    go_ret
    exact ⟨rfl, (Below.refl _ _).alloc (Nat.le_refl _) _⟩
  · have e : oth ⟨id, fr, tt, sz⟩ x = fr := by unfold oth; rw [if_neg h]
    have hE : (fr == x) = false := by simpa using h
    rw [e]
    clear h e
    go_enter Try.func170, Try.ntmps170
    go_wp2
    go_ret
    exact ⟨rfl, (Below.refl _ _).alloc (Nat.le_refl _) _⟩

/-- All distances, from node 0 on. -/
noncomputable def distL (n : Nat) (ps : List Pp) (t : Int) : List Int := (List.range (n + 1)).map fun v : Nat => if v = 0 then -1 else dist ps t (v : Int)

theorem told_dist {N : Nat} {ps : List Pp} {t : Nat} {D : List Int} (b : Bf N ps t D []) (hg : P2.Good N ps) (ht : t ≤ N) : D = distL N ps t := by
  have h1 := b.told hg ht
  apply List.ext_getElem
  · rw [b.len]; simp [distL]
  · intro v hv hv2
    have hvN : v ≤ N := by rw [b.len] at hv; omega
    have e : D[v] = dA D v := by simp [dA, List.getD, hv]
    rw [e]
    simp only [distL, List.getElem_map, List.getElem_range]
    by_cases h0 : v = 0
    · rw [if_pos h0, h0]; exact b.zero
    · rw [if_neg h0]; exact h1 v hvN
theorem other_v {p : Pp} {x : Int} {u : Int} (hu : oth p x = u) (w : World) :
    Calls Try.prog 170 #[pv p, .int .i64 x] w fun e w' => e = .returned (iv u) ∧ Below w.heap.size w w' := by
  rw [← hu]; exact other_any p x w
theorem row_mem {ps : List Pp} {h j : Nat} (hj : j < (rowOf ps h).length) : pAt (rowOf ps h) j ∈ ps ∧ ((pAt (rowOf ps h) j).fr = (h : Int) ∨ (pAt (rowOf ps h) j).to = (h : Int)) := by
  have hm : pAt (rowOf ps h) j ∈ rowOf ps h := by
    have e : pAt (rowOf ps h) j = (rowOf ps h)[j] := by simp [pAt, List.getD, hj]
    rw [e]; exact List.getElem_mem hj
  obtain ⟨h1, h2⟩ := List.mem_filter.1 (show pAt (rowOf ps h) j ∈ ps.filter (touchB h) from hm)
  exact ⟨h1, by simpa [touchB] using h2⟩
theorem row_has {n : Int} {ps : List Pp} (hg : P2.Good n ps) {h : Nat} (u : Nat) (ha : Adj ps h u) : ∃ i, i < (rowOf ps h).length ∧ oth (pAt (rowOf ps h) i) h = u := by
  obtain ⟨p, hp, hj⟩ := ha
  obtain ⟨ho, ht⟩ := jn_oth (good_pp hg hp) hj
  have hm : p ∈ rowOf ps h := List.mem_filter.2 ⟨hp, by simpa [touchB] using ht⟩
  obtain ⟨i, hi⟩ := List.getElem?_of_mem hm
  have hlt : i < (rowOf ps h).length := (List.getElem?_eq_some_iff.1 hi).1
  refine ⟨i, hlt, ?_⟩
  have e : pAt (rowOf ps h) i = p := by simp [pAt, List.getD, hi]
  rw [e]; exact ho

set_option maxHeartbeats 8000000 in
set_option maxRecDepth 100000 in
theorem dist_any (N t : Nat) (A : Option Addr) (cap : Nat) (ps : List Pp) (w : World) (h : PAt w A ps) (hg : P2.Good N ps) (ht1 : 1 ≤ t) (ht2 : t ≤ N) :
    Calls Try.prog 157 #[nv N A ps.length cap, .int .i64 (t : Int)] w fun e w' => (∃ g D, e = .returned (.slice (some ⟨g, 0, none⟩) (N + 1) (N + 1)) ∧ w.heap.size ≤ g ∧ DRow w' g D ∧ D = distL N ps t) ∧ Below w.heap.size w w' := by
  have HB := Lib.hid (fun w' (hb : Below w.heap.size w w') => bynode_any N A cap ps w' (h.kept hb (Nat.le_refl _)) hg)
  have HG := Lib.hid hg
  have hN : N ≤ 8 := by have := hg.2.1; omega
  have hl10 := hg.2.2.1
  have hN0 : (0 : Int) ≤ (N : Int) := by omega
  have hN8 : (N : Int) ≤ 8 := by omega
  have ht0 : (0 : Int) ≤ (t : Int) := by omega
  have htN : (t : Int) < (N : Int) + 1 := by omega
  have HR := Lib.hid (fun (b off c : Nat) (w : World) (hb : b < w.heap.size) (hx : w.cell? ⟨b, off, none⟩ = some (iv (-1))) => repeat_any (-1) b off c (N + 1) w hb hx (by omega) (by omega))
  obtain ⟨i0, hi, hz0, hz1, hz2⟩ := info_parts infoI
  clear h hg
  go_enter Try.func157, Try.ntmps157
  go_wp2_with (first
    | (go_at_call 197; refine (HB.out _ ((Below.refl _ _).alloc (Nat.le_refl _) _)).mono ?_; rintro e wB ⟨⟨G, rfl, hbn⟩, hbB⟩; refine Hid.out ?_)
    | fail)
  have hB1 : Below (w.heap.size + 1) (w.alloc (.cells #[.int .i64 N, .slice A ps.length cap] 30)) wB := by simpa using hbB
  obtain ⟨b0, b1⟩ := box2 hB1
  have hzB := box_lt hB1
  have HBN := Lib.hid hbn
  have hGB := hbn.lt
  clear hbB hbn
  refine Lib.hid ?_
  have hcast : ((N + 1 : Nat) : Int) = (N : Int) + 1 := by omega
  have HR2 := Lib.hid (fun (w : World) (h1 : wB.heap.size < w.heap.size) (h2 : w.cell? ⟨wB.heap.size, 0, none⟩ = some (iv (-1))) => HR.out wB.heap.size 0 1 w h1 h2)
  simp only [hcast] at HR2
  go_wp2_with (first
    | (go_at_call 213; refine (HR2.out _ (by simp) (by simp)).mono ?_; rintro e w2 ⟨⟨gD, rfl, hgD, hD⟩, hb2⟩; refine Hid.out ?_)
    | fail)
  have hgD1 : wB.heap.size + 1 ≤ gD := by simp at hgD; omega
  have hD2 : DRow w2 gD (List.replicate (N + 1) (-1)) := by unfold DRow; rw [hD, List.map_replicate]
  have hbw2 : Below wB.heap.size wB w2 := ((Below.refl _ _).alloc (Nat.le_refl _) _).trans (hb2.mono (by simp))
  have hz2' := hb2.size
  simp at hz2'
  have ct := hD2.cell (v := t) (by simp; omega)
  have ft := hD2.frozen t
  have hDt := Lib.hid (hD2.set t 0)
  have hgl2 := hD2.lt
  clear b0 b1 hgD hD hb2 HR HR2 hcast hD2
  refine Lib.hid ?_
  go_wp2
  have hD3 := Lib.hid (hDt.out.kept (Below.heap_alloc (w2.setCell ⟨gD, t, none⟩ (iv 0)) (.cells #[iv t] 3) gD (by simpa using hgl2)))
  have hQ3 : QOwn ((w2.setCell ⟨gD, t, none⟩ (iv 0)).alloc (.cells #[iv t] 3)) (gD + 1) (.slice (some ⟨w2.heap.size, 0, none⟩) 1 1) (qI [t]) := by
    have := QOwn.start (w2.setCell ⟨gD, t, none⟩ (iv 0)) (gD + 1) (t : Int) (by simp; omega)
    simpa [qI] using this
  have HQ3 := Lib.hid hQ3
  have hb3 : Below wB.heap.size wB ((w2.setCell ⟨gD, t, none⟩ (iv 0)).alloc (.cells #[iv t] 3)) := (hbw2.setCell (by show wB.heap.size ≤ gD; omega) _).alloc (by simp; omega) _
  have HF3 := Lib.hid (Bf.start N ps t ht1 ht2)
  have HBD3 := Lib.hid (Bd.start N t ht2)
  clear ct ft hDt hbw2 hQ3
  go_loopg [7] (2 * (N + 1) + 1) (fun k v wr => ∃ (D : List Int) (Q : List Nat), Hid (Bf N ps t D Q) ∧ Hid (DRow wr gD D) ∧ Hid (QOwn wr (gD + 1) v (qI Q)) ∧ Below wB.heap.size wB wr ∧ Hid (Bd N D) ∧ Hid (2 * und D + Q.length ≤ k))
  case atStart => exact ⟨_, _, HF3, hD3, HQ3, hb3, HBD3, Lib.hid (by have := HF3.out.cnt; simp at this ⊢; omega)⟩
  case round =>
    obtain ⟨D, Q, hbf, hd, hq, hb, hbd, hm⟩ := hrel
    match Q, hbf, hq, hm with
    | [], hbf, hq, hm =>
      obtain ⟨g, off, capq, cur, rfl, _⟩ := hq.out
      have hfin := told_dist hbf.out HG.out ht2
      have HFIN := Lib.hid hfin
      clear hfin
      go_wp2
      go_ret
      exact ⟨⟨_, D, rfl, by omega, hd.out, HFIN.out⟩, below_box (hB1.trans (hb.mono (by omega)))⟩
    | h :: r, hbf, hq, hm =>
      obtain ⟨g, off, capq, rfl, hlc, hcm, hgl, hcq, hq2⟩ := QOwn.head (q := qI r) (x := (h : Int)) hq.out
      have HQ2 := Lib.hid hq2
      obtain ⟨AR, capR, hcR, hpR, hloR⟩ := (HBN.out).at_ (i := h) (by have := (hbf.out.inq h (by simp)).1; omega)
      have hcR' := (hb.cell (p := ⟨G, h, none⟩) hGB).trans hcR
      have hhN := (hbf.out.inq h (by simp)).1
      have hh0 : (0 : Int) ≤ (h : Int) := by omega
      have hhN' : (h : Int) < (N : Int) + 1 := by omega
      clear hcR hq2
      obtain ⟨M, hMe⟩ : ∃ M, M = gk := ⟨_, rfl⟩
      have hM := Lib.hid (show 2 * und D + r.length < M by have := hm.out; simp at this; omega)
      have HMG := Lib.hid hMe
      clear hMe
      have hBi := Lib.hid (Bf.pop hbf.out (rowOf ps h))
      have HROW := Lib.hid (fun (u : Nat) (ha : Adj ps h u) => row_has HG.out u ha)
      have HMEM := Lib.hid (fun (j : Nat) (hj : j < (rowOf ps h).length) => row_mem (ps := ps) (h := h) hj)
      have HPR := Lib.hid hpR
      have hRl := rowOf_len ps h
      clear hbf hm hq hpR hloR
      by_cases hc1 : capq = 1
      · subst hc1
        have HR0 := Lib.hid (show (qI r).length = 0 by omega)
        go_wp2
        obtain ⟨V2, hV2⟩ : ∃ V2, V2 = Value.slice (some ⟨g, off, none⟩) 0 0 := ⟨_, rfl⟩
        rw [← hV2]
        have HV := Lib.hid (show QOwn wr (gD + 1) V2 (qI r) by
          rw [hV2]
          have h2 := HQ2.out
          simp only [if_true] at h2
          rw [HR0.out] at h2
          exact h2)
        clear hV2 HQ2
        generalize rowOf ps h = R at *
        go_loopg [7, 37] R.length (fun k v i wr => ∃ (j : Nat) (D : List Int) (Q : List Nat), j ≤ R.length ∧ i = .int .i64 (j : Int) ∧ Hid (Bi N ps t D Q h R j) ∧ Hid (DRow wr gD D) ∧ Hid (QOwn wr (gD + 1) v (qI Q)) ∧ Below wB.heap.size wB wr ∧ Hid (Bd N D) ∧ Hid (2 * und D + Q.length < M) ∧ k = R.length - j)
        case atStart => exact ⟨0, D, r, Nat.zero_le _, rfl, hBi, hd, HV, hb, hbd, hM, rfl⟩
        case round =>
          clear hBi hd HV hb hbd hM
          obtain ⟨j, D, Q, hj, rfl, hbi, hd, hq, hb, hbd, hM, rfl⟩ := hrel
          by_cases hlt : j < R.length
          · obtain ⟨b, o, hA, hbl, h0, h1, h2, h3⟩ := (HPR.out.kept hb (Nat.le_refl _)).at_ hlt
            subst hA
            obtain ⟨hpm, hpt⟩ := HMEM.out j hlt
            have hok := good_pp HG.out hpm
            have hoi := oth_in (x := (h : Int)) hok
            have hadj := (Adj.symm ⟨_, hpm, oth_jn hpt⟩ : Adj ps (oth (pAt R j) h) h)
            obtain ⟨u, hu⟩ : ∃ u : Nat, oth (pAt R j) h = (u : Int) := ⟨(oth (pAt R j) h).toNat, by omega⟩
            rw [hu] at hoi hadj
            have HU := Lib.hid hu
            have HO := Lib.hid (fun w => other_v hu w)
            have HADJ := Lib.hid hadj
            clear hpm hpt hok hadj hu
            have hu1 : 1 ≤ u := by omega
            have huN : u ≤ N := by omega
            have hu0 : (0 : Int) ≤ (u : Int) := by omega
            have huN' : (u : Int) < (N : Int) + 1 := by omega
            have hDl := hbi.out.len
            have hzw := hb.size
            have hgDw := hd.out.lt
            have hhd := hbi.out.hd
            clear hoi
            have HBI := Lib.hid (show ∀ (h1 : dA D u ≠ -1), Bi N ps t D Q h R (j + 1) from fun h1 => hbi.out.old HU.out huN h1)
            have HBN' := Lib.hid (show ∀ (h1 : dA D u = -1), Bi N ps t (D.set u (dA D h + 1)) (Q ++ [u]) h R (j + 1) from fun h1 => hbi.out.new HU.out hu1 huN h1 HADJ.out)
            generalize pAt R j = p at *
            by_cases hne : dA D u = -1
            · have hB2 := Lib.hid (HBN'.out hne)
              have hhx : dA D h + 1 ≠ -1 := by
                rcases hbi.out.sound h hhd.1 with e | ⟨k, e, _⟩
                · exact absurd e hhd.2
                · omega
              have hbd2 := Lib.hid (Bd.set hbd.out (by omega) hne hhd.1 hhx)
              have hund := und_set D u (dA D h + 1) (by omega) hne hhx
              have hM2 := Lib.hid (show 2 * und (D.set u (dA D h + 1)) + (Q ++ [u]).length < M by have := hM.out; simp; omega)
              have hbh := hbd.out h hhd.1
              have hlo : -1 ≤ dA D h := by
                rcases hbi.out.sound h hhd.1 with e | ⟨k, e, _⟩ <;> omega
              have hQl : (qI Q).length + 1 ≤ 1048576 := by have := hbi.out.cnt; simp [qI]; omega
              have hx1 : dA D h ≤ 8 := by omega
              go_wp2_with (first
                | (go_at_call 170; refine (HO.out _).mono ?_; rintro e w3 ⟨rfl, hb4⟩; have hz4 := hb4.size; simp at hz4; have hd4 := Lib.hid ((hd.out.kept (Below.heap_alloc wr _ gD hgDw)).kept (hb4.block gD (by simp; omega))); have cu := (hd4.out.cell (v := u) (by omega)); have ch := hd4.out.cell (v := h) (by omega); have fu := hd4.out.frozen u; rw [hne] at cu; have hq4 := Lib.hid ((hq.out.alloc (.cells #[.int .i64 p.id, .int .i64 p.fr, .int .i64 p.to, .int .i64 p.sz] 75)).below hb4); have hB4 := Lib.hid (((hb.alloc hzw (.cells #[.int .i64 p.id, .int .i64 p.fr, .int .i64 p.to, .int .i64 p.sz] 75)).trans (hb4.mono (by simp; omega)))))
                | (at_builtin; go_must (refine wpList_append_q _ rfl (.tmp 57) (.tmp 59) 34 rfl i0 Try.underlying34 hi hz0 hz1 hz2 (gD + 1) u7 (qI Q) rfl ((hq4.out.kept (Below.heap_setCell _ ⟨gD, u, none⟩ (iv (dA D h + 1)) _ (by have := hq4.out.lt; show qblk _ ≠ gD; omega))).alloc _) ⟨w3.heap.size, 0, none⟩ 1 (u : Int) rfl (cell_head _ _ _ _ _) hQl (by simp; omega) ?_); intro v5 w5 hq5 hg5 hat5))
              have hblk := hq4.out.lt
              have hd5 := Lib.hid (((hd4.out.set u (dA D h + 1)).kept (Below.heap_alloc _ (.cells #[iv u] 3) gD (by simp; omega))).kept (hg5.block gD (by simp; omega) (by simp; omega)))
              have hB5 := Lib.hid ((((hB4.out.setCell (p := ⟨gD, u, none⟩) (by show wB.heap.size ≤ gD; omega) (iv (dA D h + 1))).alloc (by simp; omega) (.cells #[iv u] 3))).grown hg5 (by simp; omega) (fun k hk => by simp at hk; omega))
              have hq6 := Lib.hid (show QOwn w5 (gD + 1) v5 (qI (Q ++ [u])) by rw [qI_snoc]; exact hq5)
              go_wp2
              go_roundg (R.length - (j + 1))
              case measure => omega
              case rel => exact ⟨j + 1, _, _, by omega, by go_num, hB2, hd5, hq6, hB5.out, hbd2, hM2, rfl⟩
            · have hB2 := Lib.hid (HBI.out hne)
              have hnb : (dA D u == -1) = false := by simpa using hne
              go_wp2_with (first
                | (go_at_call 170; refine (HO.out _).mono ?_; rintro e w3 ⟨rfl, hb4⟩; have hz4 := hb4.size; simp at hz4; have hd4 := Lib.hid ((hd.out.kept (Below.heap_alloc wr _ gD hgDw)).kept (hb4.block gD (by simp; omega))); have cu := (hd4.out.cell (v := u) (by omega)); have hq4 := Lib.hid ((hq.out.alloc (.cells #[.int .i64 p.id, .int .i64 p.fr, .int .i64 p.to, .int .i64 p.sz] 75)).below hb4); have hB4 := Lib.hid (((hb.alloc hzw (.cells #[.int .i64 p.id, .int .i64 p.fr, .int .i64 p.to, .int .i64 p.sz] 75)).trans (hb4.mono (by simp; omega))))))
              go_roundg (R.length - (j + 1))
              case measure => omega
              case rel => exact ⟨j + 1, _, _, by omega, by go_num, hB2, hd4, hq4, hB4.out, hbd, hM, rfl⟩
          · have hfin := Lib.hid (hbi.out.finish (by omega) HROW.out)
            go_wp2
            go_roundg (2 * und D + Q.length)
            case measure => have h9 := hM.out; rw [HMG.out] at h9; exact h9
            case rel => exact ⟨D, Q, hfin, hd, hq, hb, hbd, Lib.hid (Nat.le_refl _)⟩
      · go_wp2
        obtain ⟨V2, hV2⟩ : ∃ V2, V2 = Value.slice (some ⟨g, off + 1, none⟩) (qI r).length (capq - 1) := ⟨_, rfl⟩
        rw [← hV2]
        have HV := Lib.hid (show QOwn wr (gD + 1) V2 (qI r) by rw [hV2]; simpa [hc1] using HQ2.out)
        clear hV2 HQ2
        generalize rowOf ps h = R at *
        go_loopg [7, 37] R.length (fun k v i wr => ∃ (j : Nat) (D : List Int) (Q : List Nat), j ≤ R.length ∧ i = .int .i64 (j : Int) ∧ Hid (Bi N ps t D Q h R j) ∧ Hid (DRow wr gD D) ∧ Hid (QOwn wr (gD + 1) v (qI Q)) ∧ Below wB.heap.size wB wr ∧ Hid (Bd N D) ∧ Hid (2 * und D + Q.length < M) ∧ k = R.length - j)
        case atStart => exact ⟨0, D, r, Nat.zero_le _, rfl, hBi, hd, HV, hb, hbd, hM, rfl⟩
        case round =>
          clear hBi hd HV hb hbd hM
          obtain ⟨j, D, Q, hj, rfl, hbi, hd, hq, hb, hbd, hM, rfl⟩ := hrel
          by_cases hlt : j < R.length
          · obtain ⟨b, o, hA, hbl, h0, h1, h2, h3⟩ := (HPR.out.kept hb (Nat.le_refl _)).at_ hlt
            subst hA
            obtain ⟨hpm, hpt⟩ := HMEM.out j hlt
            have hok := good_pp HG.out hpm
            have hoi := oth_in (x := (h : Int)) hok
            have hadj := (Adj.symm ⟨_, hpm, oth_jn hpt⟩ : Adj ps (oth (pAt R j) h) h)
            obtain ⟨u, hu⟩ : ∃ u : Nat, oth (pAt R j) h = (u : Int) := ⟨(oth (pAt R j) h).toNat, by omega⟩
            rw [hu] at hoi hadj
            have HU := Lib.hid hu
            have HO := Lib.hid (fun w => other_v hu w)
            have HADJ := Lib.hid hadj
            clear hpm hpt hok hadj hu
            have hu1 : 1 ≤ u := by omega
            have huN : u ≤ N := by omega
            have hu0 : (0 : Int) ≤ (u : Int) := by omega
            have huN' : (u : Int) < (N : Int) + 1 := by omega
            have hDl := hbi.out.len
            have hzw := hb.size
            have hgDw := hd.out.lt
            have hhd := hbi.out.hd
            clear hoi
            have HBI := Lib.hid (show ∀ (h1 : dA D u ≠ -1), Bi N ps t D Q h R (j + 1) from fun h1 => hbi.out.old HU.out huN h1)
            have HBN' := Lib.hid (show ∀ (h1 : dA D u = -1), Bi N ps t (D.set u (dA D h + 1)) (Q ++ [u]) h R (j + 1) from fun h1 => hbi.out.new HU.out hu1 huN h1 HADJ.out)
            generalize pAt R j = p at *
            by_cases hne : dA D u = -1
            · have hB2 := Lib.hid (HBN'.out hne)
              have hhx : dA D h + 1 ≠ -1 := by
                rcases hbi.out.sound h hhd.1 with e | ⟨k, e, _⟩
                · exact absurd e hhd.2
                · omega
              have hbd2 := Lib.hid (Bd.set hbd.out (by omega) hne hhd.1 hhx)
              have hund := und_set D u (dA D h + 1) (by omega) hne hhx
              have hM2 := Lib.hid (show 2 * und (D.set u (dA D h + 1)) + (Q ++ [u]).length < M by have := hM.out; simp; omega)
              have hbh := hbd.out h hhd.1
              have hlo : -1 ≤ dA D h := by
                rcases hbi.out.sound h hhd.1 with e | ⟨k, e, _⟩ <;> omega
              have hQl : (qI Q).length + 1 ≤ 1048576 := by have := hbi.out.cnt; simp [qI]; omega
              have hx1 : dA D h ≤ 8 := by omega
              go_wp2_with (first
                | (go_at_call 170; refine (HO.out _).mono ?_; rintro e w3 ⟨rfl, hb4⟩; have hz4 := hb4.size; simp at hz4; have hd4 := Lib.hid ((hd.out.kept (Below.heap_alloc wr _ gD hgDw)).kept (hb4.block gD (by simp; omega))); have cu := (hd4.out.cell (v := u) (by omega)); have ch := hd4.out.cell (v := h) (by omega); have fu := hd4.out.frozen u; rw [hne] at cu; have hq4 := Lib.hid ((hq.out.alloc (.cells #[.int .i64 p.id, .int .i64 p.fr, .int .i64 p.to, .int .i64 p.sz] 75)).below hb4); have hB4 := Lib.hid (((hb.alloc hzw (.cells #[.int .i64 p.id, .int .i64 p.fr, .int .i64 p.to, .int .i64 p.sz] 75)).trans (hb4.mono (by simp; omega)))))
                | (at_builtin; go_must (refine wpList_append_q _ rfl (.tmp 57) (.tmp 59) 34 rfl i0 Try.underlying34 hi hz0 hz1 hz2 (gD + 1) u7 (qI Q) rfl ((hq4.out.kept (Below.heap_setCell _ ⟨gD, u, none⟩ (iv (dA D h + 1)) _ (by have := hq4.out.lt; show qblk _ ≠ gD; omega))).alloc _) ⟨w3.heap.size, 0, none⟩ 1 (u : Int) rfl (cell_head _ _ _ _ _) hQl (by simp; omega) ?_); intro v5 w5 hq5 hg5 hat5))
              have hblk := hq4.out.lt
              have hd5 := Lib.hid (((hd4.out.set u (dA D h + 1)).kept (Below.heap_alloc _ (.cells #[iv u] 3) gD (by simp; omega))).kept (hg5.block gD (by simp; omega) (by simp; omega)))
              have hB5 := Lib.hid ((((hB4.out.setCell (p := ⟨gD, u, none⟩) (by show wB.heap.size ≤ gD; omega) (iv (dA D h + 1))).alloc (by simp; omega) (.cells #[iv u] 3))).grown hg5 (by simp; omega) (fun k hk => by simp at hk; omega))
              have hq6 := Lib.hid (show QOwn w5 (gD + 1) v5 (qI (Q ++ [u])) by rw [qI_snoc]; exact hq5)
              go_wp2
              go_roundg (R.length - (j + 1))
              case measure => omega
              case rel => exact ⟨j + 1, _, _, by omega, by go_num, hB2, hd5, hq6, hB5.out, hbd2, hM2, rfl⟩
            · have hB2 := Lib.hid (HBI.out hne)
              have hnb : (dA D u == -1) = false := by simpa using hne
              go_wp2_with (first
                | (go_at_call 170; refine (HO.out _).mono ?_; rintro e w3 ⟨rfl, hb4⟩; have hz4 := hb4.size; simp at hz4; have hd4 := Lib.hid ((hd.out.kept (Below.heap_alloc wr _ gD hgDw)).kept (hb4.block gD (by simp; omega))); have cu := (hd4.out.cell (v := u) (by omega)); have hq4 := Lib.hid ((hq.out.alloc (.cells #[.int .i64 p.id, .int .i64 p.fr, .int .i64 p.to, .int .i64 p.sz] 75)).below hb4); have hB4 := Lib.hid (((hb.alloc hzw (.cells #[.int .i64 p.id, .int .i64 p.fr, .int .i64 p.to, .int .i64 p.sz] 75)).trans (hb4.mono (by simp; omega))))))
              go_roundg (R.length - (j + 1))
              case measure => omega
              case rel => exact ⟨j + 1, _, _, by omega, by go_num, hB2, hd4, hq4, hB4.out, hbd, hM, rfl⟩
          · have hfin := Lib.hid (hbi.out.finish (by omega) HROW.out)
            go_wp2
            go_roundg (2 * und D + Q.length)
            case measure => have h9 := hM.out; rw [HMG.out] at h9; exact h9
            case rel => exact ⟨D, Q, hfin, hd, hq, hb, hbd, Lib.hid (Nat.le_refl _)⟩
end Go.Proofs.Ytgjogjmfpbinfaa.S2

namespace Go.Proofs.Ytgjogjmfpbinfaa.S2
open Go.RowKit P2

def conTo (D : List Int) (k : Nat) : List Int := ((List.range k).filter fun v => dA D v != -1).map fun v : Nat => (v : Int)
theorem conTo_len (D : List Int) (k : Nat) : (conTo D k).length ≤ k := by
  unfold conTo; rw [List.length_map]; exact Nat.le_trans (List.length_filter_le _ _) (by simp)
theorem conTo_yes (D : List Int) (k : Nat) (h : dA D k ≠ -1) : conTo D (k + 1) = conTo D k ++ [(k : Int)] := by
  unfold conTo
  rw [List.range_succ, List.filter_append, List.map_append]
  simp [h]
theorem conTo_no (D : List Int) (k : Nat) (h : dA D k = -1) : conTo D (k + 1) = conTo D k := by
  unfold conTo
  rw [List.range_succ, List.filter_append, List.map_append]
  simp [h]
/-- The nodes connected with t, in ascending order. -/
noncomputable def conL (n : Nat) (ps : List Pp) (t : Int) : List Int := conTo (distL n ps t) (n + 1)
theorem distL_len (n : Nat) (ps : List Pp) (t : Int) : (distL n ps t).length = n + 1 := by simp [distL]
theorem distL_at (n : Nat) (ps : List Pp) (t : Int) (v : Nat) (hv : v ≤ n) (h0 : v ≠ 0) : dA (distL n ps t) v = dist ps t v := by
  have : v < n + 1 := by omega
  simp [dA, distL, List.getD, this, h0]
theorem distL_zero (n : Nat) (ps : List Pp) (t : Int) : dA (distL n ps t) 0 = -1 := by simp [dA, distL, List.getD]

/-- A fresh slice of numbers. -/
def GivesL (w : World) (l : List Int) (e : Ending) (w' : World) : Prop :=
  ∃ g cap, e = .returned (.slice (some ⟨g, 0, none⟩) l.length cap) ∧ w.heap.size ≤ g ∧ IOwn w' w.heap.size (.slice (some ⟨g, 0, none⟩) l.length cap) l ∧ Below w.heap.size w w'

theorem DRow.grown {w w' : World} {g : Nat} {D : List Int} {row : Option Nat} (h : DRow w g D) (hg : w.grownBy w' row) (hne : row ≠ some g) : DRow w' g D :=
  h.kept (hg.block g h.lt (fun e => hne e.symm))

set_option maxHeartbeats 4000000 in
set_option maxRecDepth 100000 in
theorem con_any (N t : Nat) (A : Option Addr) (cap : Nat) (ps : List Pp) (w : World) (h : PAt w A ps) (hg : P2.Good N ps) (ht1 : 1 ≤ t) (ht2 : t ≤ N) :
    Calls Try.prog 199 #[nv N A ps.length cap, .int .i64 (t : Int)] w (GivesL w (conL N ps t)) := by
  have HD := Lib.hid (fun w' (hb : Below w.heap.size w w') => dist_any N t A cap ps w' (h.kept hb (Nat.le_refl _)) hg ht1 ht2)
  have hN : N ≤ 8 := by have := hg.2.1; omega
  have HL := Lib.hid (distL_len N ps t)
  have HC := Lib.hid (show conL N ps t = conTo (distL N ps t) (N + 1) from rfl)
  obtain ⟨i0, hi, hz0, hz1, hz2⟩ := info_parts infoI
  clear h hg
  go_enter Try.func199, Try.ntmps199
  go_wp2_with (first
    | (go_at_call 157; refine (HD.out _ (((Below.refl _ _).alloc (Nat.le_refl _) _).alloc (by simp) _)).mono ?_; rintro e w1 ⟨⟨gD, D, rfl, hgD, hd, hDe⟩, hb1⟩)
    | fail)
  rw [← hDe] at HL HC
  have hB0 : Below w.heap.size w ((w.alloc (.cells #[.int .i64 N, .slice A ps.length cap] 30)).alloc (.cells #[] 3)) := ((Below.refl _ _).alloc (Nat.le_refl _) _).alloc (by simp) _
  have hB1 := hB0.trans (hb1.mono (by simp; omega))
  have hO0 := (own_empty (w.alloc (.cells #[.int .i64 N, .slice A ps.length cap] 30)) w.heap.size (by simp)).on hb1
  have hO1 : Hid (IOwn w1 w.heap.size (.slice (some ⟨w.heap.size + 1, 0, none⟩) 0 0) []) := Lib.hid (by simpa using hO0)
  have hgD1 : w.heap.size + 2 ≤ gD := by simp at hgD; omega
  have hF1 : Hid ((Value.slice (some ⟨w.heap.size + 1, 0, none⟩) 0 0).ownBlock ≠ some gD) := Lib.hid (by simp [Value.ownBlock]; omega)
  have HD1 := Lib.hid hd
  clear hd hb1 hO0 hB0 hDe hgD
  go_loopw [5, 13] (fun v i wr => ∃ k : Nat, k ≤ N + 1 ∧ i = .int .i64 k ∧ Hid (IOwn wr w.heap.size v (conTo D k)) ∧ Hid (v ≠ .slice none 0 0) ∧ Hid (v.ownBlock ≠ some gD) ∧ Hid (DRow wr gD D) ∧ Below w.heap.size w wr) (fun _ i _ => N + 1 - (intOf i).toNat)
  case atStart => exact ⟨0, Nat.zero_le _, rfl, Lib.hid (by have : conTo D 0 = [] := rfl; rw [this]; exact hO1.out), Lib.hid (by simp), hF1, HD1, hB1⟩
  case round =>
    clear hO1 hF1 HD1 hB1
    obtain ⟨k, hk, rfl, hown, hvn, hfar, hd, hb⟩ := hrel
    by_cases hlt : k < N + 1
    · have ck := hd.out.cell (v := k) (by rw [HL.out]; omega)
      have hk0 : (0 : Int) ≤ (k : Int) := by omega
      have hkN : (k : Int) < (N : Int) + 1 := by omega
      have hil := conTo_len D k
      by_cases hne : dA D k = -1
      · have hs := Lib.hid (conTo_no D k hne)
        rw [hne] at ck
        rw [← hs.out] at hown
        go_wp2
        go_roundw
        case rel => exact ⟨k + 1, by omega, by go_num, hown, hvn, hfar, hd, hb⟩
        case measure => simp [intOf]; omega
      · have hs := Lib.hid (conTo_yes D k hne)
        have hnb : (dA D k != -1) = true := by simpa using hne
        have ho := hown.out
        unfold IOwn at ho
        have hzd := hd.out.lt
        clear hne
        go_wp2_with (at_builtin; go_must (refine wpList_append_lies _ rfl _ _ 34 rfl w.heap.size 3 i0 (.int .i64 0) 1 8 Try.underlying34 hi hz0 hz1 hz2 rfl (by decide) _ _ _ rfl (ho.alloc _) ⟨wr.heap.size, 0, none⟩ 1 1 [iv (k : Int)] rfl rfl (cell_one_new _ _ _) (by intro u hu; simp at hu; subst hu; rfl) (by omega) (by unfold maxLen; omega) (by omega) (by have := hb.size; simp; omega) (wr.heap.size + 1) (by simp) ?_); intro gg cap' w3 hown' hgrow hat hlt1)
        have hown3 := Lib.hid (IOwn.push hown')
        rw [← hs.out] at hown3
        have hB3 := Lib.hid ((hb.alloc hb.size _).grown hgrow (by have := hb.size; simp; omega) (fun g hg => (ho.lt g hg).1))
        have hD3 := Lib.hid (((hd.out.kept (Below.heap_alloc wr (.cells #[iv (k : Int)] 3) gD hzd))).grown hgrow hfar.out)
        have hF3 : Hid ((Value.slice (some ⟨gg, 0, none⟩) ((conTo D k).length + 1) cap').ownBlock ≠ some gD) := Lib.hid (by
          intro e
          have hgb : gg = gD := by simpa [Value.ownBlock] using e
          subst hgb
          rcases hat with hat | hat
          · exact hfar.out hat
          · omega)
        clear hown' hgrow ho hat
        go_wp2
        go_roundw
        case rel => exact ⟨k + 1, by omega, by go_num, hown3, Lib.hid (by simp), hF3, hD3, hB3.out⟩
        case measure => simp [intOf]; omega
    · have hkN : k = N + 1 := by omega
      have hown2 := hown.out
      rw [hkN, ← HC.out] at hown2
      obtain ⟨g, capg, rfl, hg⟩ := own_slice hown2 hvn.out
      clear hkN
      go_wp2
      go_ret
      exact ⟨g, capg, rfl, hg, hown2, hb⟩

theorem reach_no (n : Int) (A : Option Addr) (cap : Nat) (ps : List Pp) (x : Int) (w : World) (h : PAt w A ps) (hm : ps.length ≤ maxLen) (hv : nodeB n ps x = false) :
    Calls Try.prog 106 #[nv n A ps.length cap, .int .i64 x] w (GivesI w [] false) := by
  have H := Lib.hid (fun w' (hb : Below w.heap.size w w') => node_v hv A cap w' (h.kept hb (Nat.le_refl _)) hm)
  clear h hv
  go_enter Try.func106, Try.ntmps106
  go_wp2_with (go_at_call 188; refine (H.out _ ((Below.refl _ _).alloc (Nat.le_refl _) _)).mono ?_; rintro e w1 ⟨rfl, hb1⟩)
  go_ret2
  exact gives_none (below_alloc_call hb1)

theorem reach_yes (N X : Nat) (A : Option Addr) (cap : Nat) (ps : List Pp) (w : World) (h : PAt w A ps) (hv : nodeB N ps X = true) :
    Calls Try.prog 106 #[nv N A ps.length cap, .int .i64 X] w (GivesI w (conL N ps X) true) := by
  obtain ⟨hg, hx1, hx2⟩ := nodeB_of hv
  have hl10 := hg.2.2.1
  have hm : ps.length ≤ maxLen := by unfold maxLen; omega
  have H := Lib.hid (fun w' (hb : Below w.heap.size w w') => node_v hv A cap w' (h.kept hb (Nat.le_refl _)) hm)
  have HC := Lib.hid (fun w' (hb : Below w.heap.size w w') => con_any N X A cap ps w' (h.kept hb (Nat.le_refl _)) hg (by omega) (by omega))
  clear h hv hg hx1 hx2 hm
  go_enter Try.func106, Try.ntmps106
  go_wp2_with (first
    | (go_at_call 188; refine (H.out _ ((Below.refl _ _).alloc (Nat.le_refl _) _)).mono ?_; rintro e w1 ⟨rfl, hb1⟩; obtain ⟨hc1, hf1⟩ := bcell hb1; have hB1 := Lib.hid (below_alloc_call hb1))
    | (go_at_call 199; refine (HC.out _ hB1.out).mono ?_; rintro e w2 ⟨g, capg, rfl, hg, ho, hb2⟩))
  go_ret2
  have hz := hB1.out.size
  exact ⟨g, capg, rfl, by omega, own_lower ho, hB1.out.trans (hb2.mono hz)⟩
end Go.Proofs.Ytgjogjmfpbinfaa.S2

namespace Go.Proofs.Ytgjogjmfpbinfaa.S2
open Go.RowKit P2

theorem sorted_len : ∀ (l : List Int) (a n : Int), l.Pairwise (· < ·) → (∀ y, y ∈ l → a < y ∧ y ≤ n) → (l.length : Int) ≤ max 0 (n - a)
  | [], a, n, _, _ => by simp; omega
  | x :: t, a, n, hp, hy => by
    have h1 := List.pairwise_cons.1 hp
    have hx := hy x (by simp)
    have h2 := sorted_len t x n h1.2 (fun y hm => ⟨h1.1 y hm, (hy y (by simp [hm])).2⟩)
    simp only [List.length_cons]
    omega
theorem sorted_ext : ∀ (l m : List Int), l.Pairwise (· < ·) → m.Pairwise (· < ·) → (∀ y, y ∈ l ↔ y ∈ m) → l = m
  | [], [], _, _, _ => rfl
  | [], y :: m, _, _, h => by have := (h y).2 (by simp); simp at this
  | x :: l, [], _, _, h => by have := (h x).1 (by simp); simp at this
  | x :: l, y :: m, hl, hm, h => by
    have h1 := List.pairwise_cons.1 hl
    have h2 := List.pairwise_cons.1 hm
    have hxy : x = y := by
      have a := (h x).1 (by simp)
      have b := (h y).2 (by simp)
      rcases List.mem_cons.1 a with a | a
      · exact a
      · rcases List.mem_cons.1 b with b | b
        · exact b.symm
        · have := h2.1 x a
          have := h1.1 y b
          omega
    subst hxy
    rw [sorted_ext l m h1.2 h2.2 fun z => ?_]
    constructor
    · intro hz
      have := h1.1 z hz
      rcases List.mem_cons.1 ((h z).1 (by simp [hz])) with e | e
      · omega
      · exact e
    · intro hz
      have := h2.1 z hz
      rcases List.mem_cons.1 ((h z).2 (by simp [hz])) with e | e
      · omega
      · exact e

/-- What has been gathered. -/
structure Ga (n : Nat) (ps : List Pp) (t : Int) (r : List Int) : Prop where
  sorted : r.Pairwise (· < ·)
  has : t ∈ r
  conn : ∀ y, y ∈ r → 1 ≤ y ∧ y ≤ n ∧ Conn ps y t
theorem Ga.start (n : Nat) (ps : List Pp) (t : Int) (h1 : 1 ≤ t) (h2 : t ≤ n) : Ga n ps t [t] :=
  ⟨List.pairwise_singleton _ _, by simp, fun y hy => by
    have e : y = t := by simpa using hy
    subst e; exact ⟨h1, h2, 0, rfl⟩⟩
theorem Ga.len {n : Nat} {ps : List Pp} {t : Int} {r : List Int} (g : Ga n ps t r) : r.length ≤ n := by
  have := sorted_len r 0 n g.sorted (fun y hy => by have := g.conn y hy; omega)
  omega
theorem Ga.more {n : Nat} {ps : List Pp} {t : Int} {r r1 r2 : List Int} {p : Pp} (g : Ga n ps t r) (hp : p ∈ ps) (hok : PpOk n p) (h1 : PutOk r p.fr r1) (h2 : PutOk r1 p.to r2) (hne : hasB r p.fr ≠ hasB r p.to) : Ga n ps t r2 ∧ r.length < r2.length := by
  have hfr : 1 ≤ p.fr ∧ p.fr ≤ n := ⟨hok.2.2.1, hok.2.2.2.1⟩
  have hto : 1 ≤ p.to ∧ p.to ≤ n := ⟨hok.2.2.2.2.1, hok.2.2.2.2.2.1⟩
  have hadj : Adj ps p.fr p.to := ⟨p, hp, .inl ⟨rfl, rfl⟩⟩
  have both : Conn ps p.fr t ∧ Conn ps p.to t := by
    by_cases ha : p.fr ∈ r
    · obtain ⟨_, _, k, hk⟩ := g.conn _ ha
      exact ⟨⟨k, hk⟩, ⟨k + 1, p.fr, hadj.symm, hk⟩⟩
    · have hb : p.to ∈ r := Classical.byContradiction fun hb => hne (by simp [hasB, ha, hb])
      obtain ⟨_, _, k, hk⟩ := g.conn _ hb
      exact ⟨⟨k + 1, p.to, hadj, hk⟩, ⟨k, hk⟩⟩
  refine ⟨⟨h2.1 (h1.1 g.sorted), (h2.2.1 t).2 (.inl ((h1.2.1 t).2 (.inl g.has))), fun y hy => ?_⟩, ?_⟩
  · rcases (h2.2.1 y).1 hy with hy | hy
    · rcases (h1.2.1 y).1 hy with hy | hy
      · exact g.conn y hy
      · rw [hy]; exact ⟨hfr.1, hfr.2, both.1⟩
    · rw [hy]; exact ⟨hto.1, hto.2, both.2⟩
  · by_cases ha : p.fr ∈ r
    · have hb : p.to ∉ r := fun hb => hne (by simp [hasB, ha, hb])
      have e1 := h1.2.2.2 ha
      subst e1
      have := h2.2.2.1 hb
      omega
    · have l1 := h1.2.2.1 ha
      by_cases hb : p.to ∈ r1
      · rw [h2.2.2.2 hb]; omega
      · have := h2.2.2.1 hb; omega
/-- Every pipe has both ends in the list, or none. -/
def Cl (ps : List Pp) (r : List Int) (k : Nat) : Prop := ∀ j, j < k → j < ps.length → hasB r (pAt ps j).fr = hasB r (pAt ps j).to
theorem Ga.all {n : Nat} {ps : List Pp} {t : Int} {r : List Int} (g : Ga n ps t r) (hc : Cl ps r ps.length) : r = conL n ps t := by
  have step : ∀ a b, Adj ps a b → a ∈ r → b ∈ r := by
    rintro a b ⟨p, hp, hj⟩ ha
    obtain ⟨i, hi⟩ := List.getElem?_of_mem hp
    have hlt : i < ps.length := (List.getElem?_eq_some_iff.1 hi).1
    have e : pAt ps i = p := by simp [pAt, List.getD, hi]
    have h1 := hc i hlt hlt
    rw [e] at h1
    have h2 : (p.fr ∈ r ↔ p.to ∈ r) := by simpa [hasB] using h1
    rcases hj with ⟨h3, h4⟩ | ⟨h3, h4⟩
    · rw [← h4]; rw [← h3] at ha; exact h2.1 ha
    · rw [← h4]; rw [← h3] at ha; exact h2.2 ha
  have path : ∀ (k : Nat) (a : Int), Path ps k t a → a ∈ r := by
    intro k
    induction k with
    | zero => intro a h; rw [← (show t = a from h)]; exact g.has
    | succ k ih =>
      intro a h
      have h' := h.symm
      obtain ⟨c, hj, hp⟩ := h'
      exact step c a hj.symm (ih c hp.symm)
  have hmem : ∀ y, y ∈ conL n ps t ↔ 1 ≤ y ∧ y ≤ n ∧ Conn ps y t := by
    intro y
    unfold conL conTo
    rw [List.mem_map]
    constructor
    · rintro ⟨v, hv, rfl⟩
      obtain ⟨hv1, hv2⟩ := List.mem_filter.1 hv
      have hvn : v ≤ n := by have := List.mem_range.1 hv1; omega
      have hv0 : v ≠ 0 := by
        intro e
        rw [e, distL_zero] at hv2
        simp at hv2
      rw [distL_at n ps t v hvn hv0] at hv2
      exact ⟨by omega, by omega, dist_conn.1 (by simpa using hv2)⟩
    · rintro ⟨h1, h2, h3⟩
      refine ⟨y.toNat, List.mem_filter.2 ⟨List.mem_range.2 (by omega), ?_⟩, by omega⟩
      rw [distL_at n ps t _ (by omega) (by omega), Int.toNat_of_nonneg (by omega)]
      simpa using dist_conn.2 h3
  have hsort : (conL n ps t).Pairwise (· < ·) := by
    unfold conL conTo
    rw [List.pairwise_map]
    refine (List.pairwise_lt_range.sublist List.filter_sublist).imp ?_
    intro a b h
    omega
  refine sorted_ext r _ g.sorted hsort fun y => ?_
  rw [hmem]
  constructor
  · exact g.conn y
  · rintro ⟨_, _, k, hk⟩
    exact path k y hk.symm
end Go.Proofs.Ytgjogjmfpbinfaa.S2

namespace Go.Proofs.Ytgjogjmfpbinfaa.S2
open Go.RowKit P2

/-- The list lies in a slice there. -/
def LAt (w : World) (g o c : Nat) (r : List Int) : Prop := g < w.heap.size ∧ r.length ≤ c ∧ c ≤ maxLen ∧ ∀ i, i < r.length → w.cell? ⟨g, o + i, none⟩ = some (iv (r.getD i 0))
theorem LAt.kept {w w' : World} {g o c : Nat} {r : List Int} (h : LAt w g o c r) (hb : Below w.heap.size w w') : LAt w' g o c r :=
  ⟨Nat.lt_of_lt_of_le h.1 hb.size, h.2.1, h.2.2.1, fun i hi => (hb.cell (p := ⟨g, o + i, none⟩) h.1).trans (h.2.2.2 i hi)⟩
theorem LAt.iat {w : World} {g o c : Nat} {r : List Int} (h : LAt w g o c r) : IAt w (some ⟨g, o, none⟩) r := .inr ⟨g, o, rfl, h.1, h.2.2.2⟩

theorem put_len {l r : List Int} {x : Int} (h : PutOk l x r) (hl : l.length ≤ 8) : r.length ≤ 9 := by
  by_cases hm : x ∈ l
  · rw [h.2.2.2 hm]; omega
  · rw [h.2.2.1 hm]; omega
/-- l1Put, where the list lies. -/
theorem put_at {g o c : Nat} {r : List Int} {x : Int} {w : World} (h : LAt w g o c r) (hn : r.length ≤ 1000) (hs : r.Pairwise (· < ·)) (_hr : 0 < r.length) (B : Nat) (hB : B ≤ w.heap.size) (hgB : B ≤ g) :
    Calls Try.prog 218 #[.slice (some ⟨g, o, none⟩) r.length c, .int .i64 x] w fun e w' =>
      ∃ r2 g2 o2 c2, e = .returned (.slice (some ⟨g2, o2, none⟩) r2.length c2) ∧ Hid (PutOk r x r2) ∧ Hid (LAt w' g2 o2 c2 r2) ∧ B ≤ g2 ∧ Below w.heap.size w w' ∧ Hid (0 < r2.length) := by
  refine (put_any g o c r x w h.1 h.2.2.2 h.2.1 h.2.2.1 hn hs).mono ?_
  rintro e w' ⟨r2, g2, o2, c2, rfl, hc, hcm, hp, hg2, hcell, hb, hor⟩
  refine ⟨r2, g2, o2, c2, rfl, hp, ⟨hg2, hc, hcm, hcell⟩, ?_, hb, ?_⟩
  · rcases hor with ⟨h1, _⟩ | ⟨_, h2⟩
    · omega
    · omega
  · match r2, hp with
    | [], hp =>
      have := (hp.2.1 x).2 (.inr rfl)
      simp at this
    | _ :: _, _ => show 0 < _; simp

set_option maxHeartbeats 8000000 in
set_option maxRecDepth 100000 in
theorem sreach_any (N t : Nat) (A : Option Addr) (cap : Nat) (ps : List Pp) (w : World) (h : PAt w A ps) (hg : P2.Good N ps) (ht1 : 1 ≤ t) (ht2 : t ≤ N) :
    Calls Try.prog 177 #[nv N A ps.length cap, .int .i64 (t : Int)] w fun e w' => ∃ g o c, e = .returned (.slice (some ⟨g, o, none⟩) (conL N ps t).length c) ∧ w.heap.size ≤ g ∧ LAt w' g o c (conL N ps t) ∧ Below w.heap.size w w' := by
  have HA := Lib.hid h
  have HG := Lib.hid hg
  have hN : N ≤ 8 := by have := hg.2.1; omega
  have hl10 := hg.2.2.1
  have HST := Lib.hid (Ga.start N ps t (by omega) (by omega))
  clear h hg
  go_enter Try.func177, Try.ntmps177
  go_wp2
  have hB0 : Below (w.heap.size + 1) (w.alloc (.cells #[.int .i64 N, .slice A ps.length cap] 30)) ((w.alloc (.cells #[.int .i64 N, .slice A ps.length cap] 30)).alloc (.cells #[iv t] 3)) := (Below.refl _ _).alloc (by simp) _
  have hL0 : LAt ((w.alloc (.cells #[.int .i64 N, .slice A ps.length cap] 30)).alloc (.cells #[iv t] 3)) (w.heap.size + 1) 0 1 [(t : Int)] :=
    ⟨by simp, by simp, by simp [maxLen], fun i hi => by
      have e : i = 0 := by simpa using hi
      subst e
      rw [World.cell?_alloc_at _ _ _ _ (by simp)]
      rfl⟩
  go_loopg [5, 6] (N + 2) (fun K v m wr => ∃ (r : List Int) (g o c : Nat) (mb : Bool), v = .slice (some ⟨g, o, none⟩) r.length c ∧ m = .bool mb ∧ Hid (Ga N ps t r) ∧ Hid (LAt wr g o c r) ∧ w.heap.size + 1 ≤ g ∧ Below (w.heap.size + 1) (w.alloc (.cells #[.int .i64 N, .slice A ps.length cap] 30)) wr ∧ Hid (mb = true → N + 2 - r.length ≤ K) ∧ Hid (mb = false → Cl ps r ps.length))
  case atStart => exact ⟨[(t : Int)], _, 0, 1, true, rfl, rfl, HST, Lib.hid hL0, Nat.le_refl _, hB0, Lib.hid (fun _ => by omega), Lib.hid (fun h => by cases h)⟩
  case round =>
    clear hL0 hB0 HST
    obtain ⟨r, g, o, c, mb, rfl, rfl, hga, hla, hgw, hb, hK, hcl⟩ := hrel
    cases mb with
    | false =>
      have hfin := Lib.hid (hga.out.all (hcl.out rfl))
      have hla2 := hla.out
      have hlen : r.length = (conL N ps t).length := by rw [← hfin.out]
      have HL := Lib.hid hlen
      clear hlen
      go_wp2
      go_ret
      rw [hfin.out] at hla2
      exact ⟨g, o, c, by rw [HL.out]; rfl, by omega, hla2, below_box hb⟩
    | true =>
      obtain ⟨M, hMe⟩ : ∃ M, M = gk := ⟨_, rfl⟩
      have hK2 := Lib.hid (show N + 2 - r.length ≤ M by rw [hMe]; exact hK.out rfl)
      have HMG := Lib.hid hMe
      obtain ⟨n0, hn0⟩ : ∃ n0, n0 = r.length := ⟨_, rfl⟩
      have hK3 := Lib.hid (show N + 2 - n0 ≤ M by rw [hn0]; exact hK2.out)
      have HN0 := Lib.hid (show n0 ≤ N by rw [hn0]; exact hga.out.len)
      have HN1 := Lib.hid (show n0 = r.length from hn0)
      clear hMe hK hcl hK2 hn0
      go_wp2
      go_loopw [5, 6, 7] (fun v m i wr => ∃ (r : List Int) (g o c k : Nat) (mb : Bool), v = .slice (some ⟨g, o, none⟩) r.length c ∧ m = .bool mb ∧ i = .int .i64 (k : Int) ∧ k ≤ ps.length ∧ Hid (Ga N ps t r) ∧ Hid (LAt wr g o c r) ∧ w.heap.size + 1 ≤ g ∧ Below (w.heap.size + 1) (w.alloc (.cells #[.int .i64 N, .slice A ps.length cap] 30)) wr ∧ Hid (mb = true → n0 < r.length) ∧ Hid (mb = false → n0 = r.length ∧ Cl ps r k)) (fun _ _ i _ => ps.length - (intOf i).toNat)
      case atStart => exact ⟨r, g, o, c, 0, false, rfl, rfl, rfl, Nat.zero_le _, hga, hla, hgw, hb, Lib.hid (fun h => by cases h), Lib.hid (fun _ => ⟨HN1.out, fun j hj => absurd hj (by omega)⟩)⟩
      case round =>
        clear hga hla hgw hb HN1
        obtain ⟨r, g, o, c, k, mb, rfl, rfl, rfl, hk, hga, hla, hgw, hb, ht, hf⟩ := hrel
        by_cases hlt : k < ps.length
        · obtain ⟨b, off, hA, hbl, h0, h1, h2, h3⟩ := HA.out.at_ hlt
          subst hA
          obtain ⟨b0, b1⟩ := box2 hb
          have hzw := box_lt hb
          have hbc : ∀ o, wr.cell? ⟨b, o, none⟩ = w.cell? ⟨b, o, none⟩ := fun o => (below_box hb).cell (p := ⟨b, o, none⟩) hbl
          have p1 := (hbc _).trans h1
          have p2 := (hbc _).trans h2
          have hk0i : (0 : Int) ≤ (k : Int) := by omega
          have hk1i : (k : Int) < (ps.length : Int) := by omega
          have hmem : pAt ps k ∈ ps := by
            have e : pAt ps k = ps[k] := by simp [pAt, List.getD, hlt]
            rw [e]; exact List.getElem_mem hlt
          have HOK := Lib.hid (good_pp HG.out hmem)
          have HMEM := Lib.hid hmem
          have HCL := Lib.hid (show hasB r (pAt ps k).fr = hasB r (pAt ps k).to → Cl ps r k → Cl ps r (k + 1) from fun h1 h2 j hj hj2 => by
            by_cases e : j = k
            · rw [e]; exact h1
            · exact h2 j (by omega) hj2)
          have HH := Lib.hid (fun (x : Int) (n : Nat) => has_any (some ⟨g, o, none⟩) c r x (wr.drewN n) hla.out.iat (by have := hga.out.len; omega))
          have hrl := hga.out.len
          have HR0 := Lib.hid (show 0 < r.length from List.length_pos_iff.2 (fun e => by have := hga.out.has; rw [e] at this; simp at this))
          have HMO := Lib.hid (fun (r1 r2 : List Int) h1 h2 h3 => hga.out.more (p := pAt ps k) (r1 := r1) (r2 := r2) HMEM.out HOK.out h1 h2 h3)
          clear hmem hbc h0 h1 h2 h3
          generalize pAt ps k = p at *
          obtain ⟨va, hva⟩ : ∃ va, hasB r p.fr = va := ⟨_, rfl⟩
          obtain ⟨vb, hvb⟩ : ∃ vb, hasB r p.to = vb := ⟨_, rfl⟩
          have HA1 := Lib.hid (fun n => by have := HH.out p.fr n; rwa [hva] at this)
          have HB1 := Lib.hid (fun n => by have := HH.out p.to n; rwa [hvb] at this)
          have HV := Lib.hid (And.intro hva hvb)
          clear hva hvb HH
          by_cases hvv : va = vb
          · subst hvv
            have HC2 := Lib.hid (HCL.out (by rw [HV.out.1, HV.out.2]))
            go_wp2
            go_quiet ((first | (go_at_call_of 176 (Value.int IntKind.i64 p.fr); exact Calls.quiet_of_same (HA1.out _)) | (go_at_call_of 176 (Value.int IntKind.i64 p.to); exact Calls.quiet_of_same (HB1.out _))))
            go_wp2
            go_roundw
            case rel => exact ⟨r, g, o, c, k + 1, mb, rfl, rfl, by go_num, by omega, hga, Lib.hid (hla.out.kept (below_drewN (Below.refl _ _) nq)), hgw, below_drewN hb nq, ht, Lib.hid (fun h => ⟨(hf.out h).1, HC2.out (hf.out h).2⟩)⟩
            case measure => simp [intOf]; omega
          · have hE : (va == vb) = false := by simpa using hvv
            have HNE := Lib.hid (show hasB r p.fr ≠ hasB r p.to by rw [HV.out.1, HV.out.2]; exact hvv)
            have HLT := Lib.hid (show n0 ≤ r.length by cases mb; exact Nat.le_of_eq (hf.out rfl).1; exact Nat.le_of_lt (ht.out rfl))
            clear hvv
            go_wp2
            go_quiet ((first | (go_at_call_of 176 (Value.int IntKind.i64 p.fr); exact Calls.quiet_of_same (HA1.out _)) | (go_at_call_of 176 (Value.int IntKind.i64 p.to); exact Calls.quiet_of_same (HB1.out _))))
            go_wp2
            have hlq := Lib.hid (show LAt (wr.drewN nq) g o c r from hla.out)
            have hsorted := Lib.hid hga.out.sorted
            have hbwr : b < wr.heap.size := by have := below_box hb; have := this.size; omega
            have hzw2 : w.heap.size + 1 ≤ wr.heap.size := by omega
            go_region_held3 (fun w' => w'.cell? ⟨w.heap.size, 0, none⟩ = some (.int .i64 N) ∧ w'.cell? ⟨w.heap.size, 1, none⟩ = some (.slice (some ⟨b, off, none⟩) ps.length cap) ∧ w'.cell? ⟨b, off + k * 4 + 1, none⟩ = some (.int .i64 p.fr) ∧ w'.cell? ⟨b, off + k * 4 + 2, none⟩ = some (.int .i64 p.to))
              (first
                | go_keep
                | (go_split_ands
                   exact ⟨(hbx.cell (p := ⟨w.heap.size, 0, none⟩) hzx).trans (by assumption), (hbx.cell (p := ⟨w.heap.size, 1, none⟩) hzx).trans (by assumption), (hbx.cell (p := ⟨b, off + k * 4 + 1, none⟩) hbx2).trans (by assumption), (hbx.cell (p := ⟨b, off + k * 4 + 2, none⟩) hbx2).trans (by assumption)⟩)
                | (go_split_ands
                   exact ⟨(hby.cell (p := ⟨w.heap.size, 0, none⟩) hzy).trans (by assumption), (hby.cell (p := ⟨w.heap.size, 1, none⟩) hzy).trans (by assumption), (hby.cell (p := ⟨b, off + k * 4 + 1, none⟩) hby2).trans (by assumption), (hby.cell (p := ⟨b, off + k * 4 + 2, none⟩) hby2).trans (by assumption)⟩))
              (first
                | (go_at_call_of 218 (Value.int IntKind.i64 p.fr); refine (put_at (w := (wr.drewN nq).drew) (show LAt (wr.drewN nq).drew g o c r from hlq.out) (by omega) hsorted.out HR0.out (w.heap.size + 1) hzw2 hgw).mono ?_; rintro e w4 ⟨r1, g1, o1, c1, rfl, hp1, hla1, hgw1, hbx, hpos1⟩; have hzx : w.heap.size < wr.heap.size := hzw; have hbx2 : b < wr.heap.size := hbwr; have hz4 : wr.heap.size ≤ w4.heap.size := hbx.size; have hs1 := Lib.hid (hp1.out.1 hsorted.out); have hl1 : r1.length ≤ 9 := put_len hp1.out (by omega))
                | (go_at_call_of 218 (Value.int IntKind.i64 p.to); refine (put_at (w := w4) hla1.out (by omega) hs1.out hpos1.out (w.heap.size + 1) (by omega) hgw1).mono ?_; rintro e w5 ⟨r2, g2, o2, c2, rfl, hp2, hla2, hgw2, hby, hpos2⟩; have hzy : w.heap.size < w4.heap.size := (by omega); have hby2 : b < w4.heap.size := (by omega)))
            go_wp2
            have hgm := HMO.out r1 r2 hp1.out hp2.out HNE.out
            have hB5 := (below_drewN hb nq).drew.trans ((hbx.trans (hby.mono hbx.size)).mono hzw2)
            go_roundw
            case rel => exact ⟨r2, g2, o2, c2, k + 1, true, rfl, rfl, by go_num, by omega, Lib.hid hgm.1, hla2, hgw2, hB5, Lib.hid (fun _ => Nat.lt_of_le_of_lt HLT.out hgm.2), Lib.hid (fun h => by cases h)⟩
            case measure => simp [intOf]; omega
        · have hkk : k = ps.length := by omega
          have hfk := Lib.hid (show mb = false → Cl ps r ps.length from fun h => by have := (hf.out h).2; rwa [hkk] at this)
          have hgl := hga.out.len
          obtain ⟨b0, b1⟩ := box2 hb
          clear hkk
          go_wp2
          cases mb with
          | true =>
            have h9 := ht.out rfl
            go_roundg (N + 2 - r.length)
            case measure => have h8 := hK3.out; rw [HMG.out] at h8; omega
            case rel => exact ⟨r, g, o, c, true, rfl, rfl, hga, hla, hgw, hb, Lib.hid (fun _ => Nat.le_refl _), Lib.hid (fun h => by cases h)⟩
          | false =>
            go_roundg 0
            case measure => have h8 := hK3.out; have h7 := HN0.out; rw [HMG.out] at h8; omega
            case rel => exact ⟨r, g, o, c, false, rfl, rfl, hga, hla, hgw, hb, Lib.hid (fun h => by cases h), hfk⟩
end Go.Proofs.Ytgjogjmfpbinfaa.S2

namespace Go.Proofs.Ytgjogjmfpbinfaa.S2
open Go.RowKit P2

theorem con_mem (n : Nat) (ps : List Pp) (t : Int) (y : Int) : y ∈ conL n ps t ↔ 1 ≤ y ∧ y ≤ n ∧ Conn ps y t := by
  unfold conL conTo
  rw [List.mem_map]
  constructor
  · rintro ⟨v, hv, rfl⟩
    obtain ⟨hv1, hv2⟩ := List.mem_filter.1 hv
    have hvn : v ≤ n := by have := List.mem_range.1 hv1; omega
    have hv0 : v ≠ 0 := by
      intro e
      rw [e, distL_zero] at hv2
      simp at hv2
    rw [distL_at n ps t v hvn hv0] at hv2
    exact ⟨by omega, by omega, dist_conn.1 (by simpa using hv2)⟩
  · rintro ⟨h1, h2, h3⟩
    refine ⟨y.toNat, List.mem_filter.2 ⟨List.mem_range.2 (by omega), ?_⟩, by omega⟩
    rw [distL_at n ps t _ (by omega) (by omega), Int.toNat_of_nonneg (by omega)]
    simpa using dist_conn.2 h3
theorem conn_symm {ps : List Pp} {a b : Int} (h : Conn ps a b) : Conn ps b a := by
  obtain ⟨k, hk⟩ := h
  exact ⟨k, hk.symm⟩
theorem has_con {N X T : Nat} {ps : List Pp} (h1 : 1 ≤ T) (h2 : T ≤ N) : hasB (conL N ps X) T = decide (dist ps T X ≠ -1) := by
  unfold hasB
  refine decide_eq_decide.2 ?_
  rw [con_mem, dist_conn]
  exact ⟨fun h => conn_symm h.2.2, fun h => ⟨by omega, by omega, conn_symm h⟩⟩
theorem good_pair {n : Int} {ps : List Pp} (h : P2.Good n ps) : ps.Pairwise (fun p q => p.id < q.id) := by
  rw [List.pairwise_iff_getElem]
  intro i j hi hj hij
  induction j with
  | zero => omega
  | succ j ih =>
    have h1 := (h.2.2.2 (j + 1) hj ps[j + 1] (List.getElem?_eq_getElem hj)).2 ps[j] (by omega) (by rw [Nat.add_sub_cancel]; exact List.getElem?_eq_getElem (by omega))
    by_cases e : i = j
    · subst e; exact h1
    · exact Int.lt_trans (ih (by omega) (by omega)) h1
theorem good_sub {n : Int} {ps qs : List Pp} (h : P2.Good n ps) (hs : qs.Sublist ps) : P2.Good n qs := by
  have hp := (good_pair h).sublist hs
  rw [List.pairwise_iff_getElem] at hp
  refine ⟨h.1, h.2.1, Nat.le_trans hs.length_le h.2.2.1, fun i hi p hip => ⟨good_pp h (hs.subset (List.mem_of_getElem? hip)), fun q h0 hq => ?_⟩⟩
  obtain ⟨h1, rfl⟩ := List.getElem?_eq_some_iff.1 hip
  obtain ⟨h2, rfl⟩ := List.getElem?_eq_some_iff.1 hq
  exact hp (i - 1) i h2 h1 (by omega)
def wo (ps : List Pp) (i : Nat) : List Pp := ps.take i ++ ps.drop (i + 1)
theorem wo_sub (ps : List Pp) (i : Nat) : (wo ps i).Sublist ps := by
  unfold wo
  rw [← List.eraseIdx_eq_take_drop_succ]
  exact List.eraseIdx_sublist ps i
theorem wo_len (ps : List Pp) (i : Nat) (h : i < ps.length) : (wo ps i).length = ps.length - 1 := by
  unfold wo; rw [List.length_append, List.length_take, List.length_drop]; omega
end Go.Proofs.Ytgjogjmfpbinfaa.S2

namespace Go.Proofs.Ytgjogjmfpbinfaa.S2
open Go.RowKit P2

set_option maxHeartbeats 2000000 in
theorem sreached_no (n : Int) (A : Option Addr) (cap : Nat) (ps : List Pp) (x : Int) (w : World) (h : PAt w A ps) (hm : ps.length ≤ maxLen) (hv : nodeB n ps x = false) :
    Calls Try.prog 110 #[nv n A ps.length cap, .int .i64 x] w (GivesA w [] false) := by
  have H := Lib.hid (fun w' (hb : Below w.heap.size w w') => snode_v hv A cap w' (h.kept hb (Nat.le_refl _)) hm)
  clear h hv
  go_enter Try.func110, Try.ntmps110
  go_wp2_with (go_at_call 126; refine (H.out _ ((Below.refl _ _).alloc (Nat.le_refl _) _)).mono ?_; rintro e w1 ⟨rfl, hb1⟩)
  go_ret2
  have hB := below_alloc_call hb1
  exact ⟨_, 0, 0, rfl, hB.size, .inl rfl, hB.alloc hB.size _, by simp⟩

set_option maxHeartbeats 2000000 in
theorem sreached_yes (N X : Nat) (A : Option Addr) (cap : Nat) (ps : List Pp) (w : World) (h : PAt w A ps) (hv : nodeB N ps X = true) :
    Calls Try.prog 110 #[nv N A ps.length cap, .int .i64 X] w (GivesA w (conL N ps X) true) := by
  obtain ⟨hg, hx1, hx2⟩ := nodeB_of hv
  have hl10 := hg.2.2.1
  have hm : ps.length ≤ maxLen := by unfold maxLen; omega
  have H := Lib.hid (fun w' (hb : Below w.heap.size w w') => snode_v hv A cap w' (h.kept hb (Nat.le_refl _)) hm)
  have HC := Lib.hid (fun w' (hb : Below w.heap.size w w') => sreach_any N X A cap ps w' (h.kept hb (Nat.le_refl _)) hg (by omega) (by omega))
  clear h hv hg hx1 hx2 hm
  go_enter Try.func110, Try.ntmps110
  go_wp2_with (first
    | (go_at_call 126; refine (H.out _ ((Below.refl _ _).alloc (Nat.le_refl _) _)).mono ?_; rintro e w1 ⟨rfl, hb1⟩; obtain ⟨hc1, hf1⟩ := bcell hb1; have hB1 := Lib.hid (below_alloc_call hb1))
    | (go_at_call 177; refine (HC.out _ hB1.out).mono ?_; rintro e w2 ⟨g, o, c, rfl, hg, hla, hb2⟩))
  go_ret2
  have hz := hB1.out.size
  exact ⟨g, o, c, rfl, by omega, hla.iat, hB1.out.trans (hb2.mono hz), hla.1⟩

theorem conL_len (n : Nat) (ps : List Pp) (t : Int) : (conL n ps t).length ≤ n + 1 := conTo_len _ _
end Go.Proofs.Ytgjogjmfpbinfaa.S2

namespace Go.Proofs.Ytgjogjmfpbinfaa.S2
open Go.RowKit P2

def inR (a b x : Int) : Bool := decide (a ≤ x ∧ x ≤ b)
def allR (a b : Int) (l : List Int) : Bool := l.all fun x => inR a b x
/-- As many numbers as asked, all from a to b. -/
def amtB (l : List Int) (n a b : Int) : Bool := decide ((l.length : Int) = n) && allR a b l
theorem allR_at {a b : Int} {l : List Int} (h : allR a b l = true) {i : Nat} (hi : i < l.length) : a ≤ l.getD i 0 ∧ l.getD i 0 ≤ b := by
  unfold allR at h
  rw [List.all_eq_true] at h
  have := h _ (List.getElem_mem hi)
  have e : l.getD i 0 = l[i] := by simp [List.getD, hi]
  rw [e]
  simpa [inR] using this
theorem allR_mk {a b : Int} {l : List Int} (h : ∀ j, j < l.length → inR a b (l.getD j 0) = true) : allR a b l = true := by
  unfold allR
  rw [List.all_eq_true]
  intro x hx
  obtain ⟨j, hj⟩ := List.getElem?_of_mem hx
  have hl := (List.getElem?_eq_some_iff.1 hj).1
  have := h j hl
  have e : l.getD j 0 = x := by simp [List.getD, hj]
  rwa [e] at this
theorem allR_no {a b : Int} {l : List Int} {k : Nat} (hk : k < l.length) (h : inR a b (l.getD k 0) = false) : allR a b l = false := by
  unfold allR
  rw [List.all_eq_false]
  exact ⟨l.getD k 0, by simp [List.getD, hk], by rw [h]; simp⟩
theorem inR_snoc {a b : Int} {l : List Int} {k : Nat} (h : ∀ j, j < k → inR a b (l.getD j 0) = true) (hx : inR a b (l.getD k 0) = true) : ∀ j, j < k + 1 → inR a b (l.getD j 0) = true := by
  intro j hj
  by_cases e : j = k
  · subst e; exact hx
  · exact h j (by omega)

theorem amc_any (x a b : Int) (b1 b2 : Nat) (w : World) (h1 : w.cell? ⟨b1, 0, none⟩ = some (.int .i64 a)) (h2 : w.cell? ⟨b2, 0, none⟩ = some (.int .i64 b)) :
    Calls Try.prog 210 #[.int .i64 x, .pointer (some ⟨b1, 0, none⟩), .pointer (some ⟨b2, 0, none⟩)] w fun e w' => e = .returned (.bool (!(inR a b x))) ∧ w' = w := by
  by_cases g1 : x < a
  · have e : inR a b x = false := by simp [inR]; omega
    rw [e]; clear e
    go_enter Try.func210, Try.ntmps210
    go_wp2
    go_ret
    exact ⟨rfl, rfl⟩
  · by_cases g2 : b < x
    · have e : inR a b x = false := by simp [inR]; omega
      rw [e]; clear e
      have d1 : decide (x < a) = false := by simpa using g1
      have d2 : decide (b < x) = true := by simpa using g2
      clear g1 g2
      go_enter Try.func210, Try.ntmps210
      go_wp2
      go_ret
      exact ⟨rfl, rfl⟩
    · have e : inR a b x = true := by simp [inR]; omega
      rw [e]; clear e
      have d1 : decide (x < a) = false := by simpa using g1
      have d2 : decide (b < x) = false := by simpa using g2
      clear g1 g2
      go_enter Try.func210, Try.ntmps210
      go_wp2
      go_ret
      exact ⟨rfl, rfl⟩
/-- The first number out of the range, or -1. -/
def FirstR (a b : Int) (l : List Int) (r : Int) : Prop := (r = -1 ∧ allR a b l = true) ∨ (0 ≤ r ∧ allR a b l = false)
theorem am_idx (A : Option Addr) (cap : Nat) (l : List Int) (a b : Int) (b1 b2 : Nat) (w : World) (h : IAt w A l) (hl : l.length ≤ 1048576) (h1 : w.cell? ⟨b1, 0, none⟩ = some (.int .i64 a)) (h2 : w.cell? ⟨b2, 0, none⟩ = some (.int .i64 b)) :
    Calls Try.prog 226 #[.slice A l.length cap, .func (.func 210) #[] #[.pointer (some ⟨b1, 0, none⟩), .pointer (some ⟨b2, 0, none⟩)]] w fun e w' => (∃ r, e = .returned (.int .i64 r) ∧ FirstR a b l r) ∧ w' = w := by
  have HA := Lib.hid h
  have HC := Lib.hid (fun x => amc_any x a b b1 b2 w h1 h2)
  clear h h1 h2
  go_enter Try.func226, Try.ntmps226
  go_wp2
  go_loop [8] (fun i => ∃ k : Nat, k ≤ l.length ∧ i = .int .i64 (k : Int) ∧ Hid (∀ j, j < k → inR a b (l.getD j 0) = true)) (fun i => l.length - (intOf i).toNat)
  case atStart => exact ⟨0, Nat.zero_le _, rfl, Lib.hid (fun j hj => absurd hj (by omega))⟩
  case round =>
    obtain ⟨k, hk, rfl, hno⟩ := hrel
    by_cases hlt : k < l.length
    · obtain ⟨bb, off, hA, hbl, h0⟩ := HA.out.at_ hlt
      subst hA
      have hk0 : (0 : Int) ≤ (k : Int) := by omega
      have hkn : (k : Int) < (l.length : Int) := by omega
      have HC1 := Lib.hid (HC.out (l.getD k 0))
      cases hv : inR a b (l.getD k 0) with
      | false =>
        have HFI := Lib.hid (show FirstR a b l (k : Int) from .inr ⟨by omega, allR_no hlt hv⟩)
        rw [hv] at HC1
        clear hv hno HC
        generalize l.getD k 0 = y at *
        go_wp2_with (go_at_call 210; refine HC1.out.mono ?_; rintro e w1 ⟨rfl, hw⟩; replace hw := hw.symm; subst hw)
        go_ret
        exact ⟨⟨_, rfl, HFI.out⟩, rfl⟩
      | true =>
        have hno2 := Lib.hid (inR_snoc hno.out hv)
        rw [hv] at HC1
        clear hv hno
        generalize l.getD k 0 = y at *
        go_wp2_with (go_at_call 210; refine HC1.out.mono ?_; rintro e w1 ⟨rfl, hw⟩; replace hw := hw.symm; subst hw)
        go_round
        case rel => exact ⟨k + 1, by omega, by go_num, hno2⟩
        case measure => simp [intOf]; omega
    · have HFI := Lib.hid (show FirstR a b l (-1) from .inl ⟨rfl, allR_mk (fun i hi => hno.out i (by omega))⟩)
      go_wp2
      go_ret
      exact ⟨⟨_, rfl, HFI.out⟩, rfl⟩
theorem am_con (A : Option Addr) (cap : Nat) (l : List Int) (a b : Int) (b1 b2 : Nat) (w : World) (h : IAt w A l) (hl : l.length ≤ 1048576) (h1 : w.cell? ⟨b1, 0, none⟩ = some (.int .i64 a)) (h2 : w.cell? ⟨b2, 0, none⟩ = some (.int .i64 b)) :
    Calls Try.prog 209 #[.slice A l.length cap, .func (.func 210) #[] #[.pointer (some ⟨b1, 0, none⟩), .pointer (some ⟨b2, 0, none⟩)]] w fun e w' => e = .returned (.bool (!(allR a b l))) ∧ w' = w := by
  have H := Lib.hid (am_idx A cap l a b b1 b2 w h hl h1 h2)
  clear h h1 h2
  cases ha : allR a b l with
  | true =>
    have H2 := Lib.hid (H.out.mono (R' := fun e w' => e = .returned (.int .i64 (-1)) ∧ w' = w) fun _ _ ⟨⟨r, he, hr⟩, hw⟩ => ⟨by
      rcases hr with ⟨h, _⟩ | ⟨_, h⟩
      · rw [he, h]
      · exact absurd (h.symm.trans ha) (by simp), hw⟩)
    clear ha H
    go_enter Try.func209, Try.ntmps209
    go_wp2_with (go_at_call 226; refine H2.out.mono ?_; rintro e w1 ⟨rfl, hw⟩; replace hw := hw.symm; subst hw)
    go_ret
    exact ⟨rfl, rfl⟩
  | false =>
    have H2 := Lib.hid (H.out.mono (R' := fun e w' => (∃ r : Int, e = .returned (.int .i64 r) ∧ 0 ≤ r) ∧ w' = w) fun _ _ ⟨⟨r, he, hr⟩, hw⟩ => ⟨⟨r, he, by
      rcases hr with ⟨_, h⟩ | ⟨h, _⟩
      · rw [h] at ha; cases ha
      · exact h⟩, hw⟩)
    clear ha H
    go_enter Try.func209, Try.ntmps209
    go_wp2_with (go_at_call 226; refine H2.out.mono ?_; rintro e w1 ⟨⟨r, rfl, hr⟩, hw⟩; replace hw := hw.symm; subst hw)
    go_ret
    exact ⟨rfl, rfl⟩

set_option maxHeartbeats 1000000 in
theorem am_any (A : Option Addr) (cap : Nat) (l : List Int) (n a b : Int) (w : World) (h : IAt w A l) (hl : l.length ≤ 1048576) :
    Calls Try.prog 145 #[.slice A l.length cap, .int .i64 n, .int .i64 a, .int .i64 b] w fun e w' => e = .returned (.bool (amtB l n a b)) ∧ Below w.heap.size w w' := by
  have H := Lib.hid (fun b1 b2 w' (hb : Below w.heap.size w w') h1 h2 => am_con A cap l a b b1 b2 w' (h.kept hb (Nat.le_refl _)) hl h1 h2)
  have HB0 := Lib.hid (show Below w.heap.size w ((w.alloc (.cells #[.int .i64 a] 3)).alloc (.cells #[.int .i64 b] 3)) from ((Below.refl _ _).alloc (Nat.le_refl _) _).alloc (by simp) _)
  clear h
  unfold amtB
  by_cases he : (l.length : Int) = n
  · have g1 : ((l.length : Int) == n) = true := beq_iff_eq.2 he
    have e : decide ((l.length : Int) = n) = true := by simp [he]
    rw [e, Bool.true_and]
    clear e he
    generalize allR a b l = v at *
    go_enter Try.func145, Try.ntmps145
    go_wp2_with (go_at_call 209; refine (H.out _ _ _ HB0.out ?_ ?_).mono ?_; go_simp; go_simp; rintro e w1 ⟨rfl, hw⟩; replace hw := hw.symm; subst hw)
    go_ret
    exact ⟨by simp, HB0.out⟩
  · have g1 : ((l.length : Int) == n) = false := beq_eq_false_iff_ne.2 he
    have e : decide ((l.length : Int) = n) = false := by simp [he]
    rw [e, Bool.false_and]
    clear e he
    go_enter Try.func145, Try.ntmps145
    go_wp2
    go_ret
    exact ⟨rfl, HB0.out⟩
theorem am_v {l : List Int} {n a b : Int} {v : Bool} (hv : amtB l n a b = v) (A : Option Addr) (cap : Nat) (w : World) (h : IAt w A l) (hl : l.length ≤ 1048576) :
    Calls Try.prog 145 #[.slice A l.length cap, .int .i64 n, .int .i64 a, .int .i64 b] w fun e w' => e = .returned (.bool v) ∧ Below w.heap.size w w' := by
  rw [← hv]; exact am_any A cap l n a b w h hl
end Go.Proofs.Ytgjogjmfpbinfaa.S2

namespace Go.Proofs.Ytgjogjmfpbinfaa.S2
open Go.RowKit P2

noncomputable def demB (n : Int) (ps : List Pp) (dm : List Int) : Bool := goodB n ps && amtB dm n 0 1000
noncomputable def floB (n : Int) (ps : List Pp) (fl : List Int) : Bool := goodB n ps && amtB fl ps.length (-8000) 8000

set_option maxHeartbeats 1000000 in
theorem dem_any (n : Int) (A : Option Addr) (cap : Nat) (ps : List Pp) (AD : Option Addr) (dc : Nat) (dm : List Int) (w : World) (h : PAt w A ps) (hm : ps.length ≤ maxLen) (hd : IAt w AD dm) (hdl : dm.length ≤ 1048576) :
    Calls Try.prog 166 #[nv n A ps.length cap, .slice AD dm.length dc] w fun e w' => e = .returned (.bool (demB n ps dm)) ∧ Below w.heap.size w w' := by
  unfold demB
  obtain ⟨v, hv⟩ : ∃ v, goodB n ps = v := ⟨_, rfl⟩
  obtain ⟨u, hu⟩ : ∃ u, amtB dm n 0 1000 = u := ⟨_, rfl⟩
  have H := Lib.hid (fun w' (hb : Below w.heap.size w w') => valid_v hv A cap w' (h.kept hb (Nat.le_refl _)) hm)
  have HD := Lib.hid (fun w' (hb : Below w.heap.size w w') => am_v hu AD dc w' (hd.kept hb (Nat.le_refl _)) hdl)
  rw [hv, hu]
  clear hv hu h hd
  cases v
  · go_enter Try.func166, Try.ntmps166
    go_wp2_with (go_at_call 115; refine (H.out _ ((Below.refl _ _).alloc (Nat.le_refl _) _)).mono ?_; rintro e w1 ⟨rfl, hb1⟩)
    go_ret
    exact ⟨rfl, below_alloc_call hb1⟩
  · go_enter Try.func166, Try.ntmps166
    go_wp2_with (first
      | (go_at_call 115; refine (H.out _ ((Below.refl _ _).alloc (Nat.le_refl _) _)).mono ?_; rintro e w1 ⟨rfl, hb1⟩; obtain ⟨hc1, hf1⟩ := bcell hb1; have hz1 := hb1.size; simp at hz1; have hb2 := Lib.hid (below_alloc_call hb1))
      | (go_at_call 145; refine (HD.out _ hb2.out).mono ?_; rintro e w2 ⟨rfl, hb3⟩))
    go_ret
    exact ⟨rfl, hb2.out.trans (hb3.mono hb2.out.size)⟩
theorem dem_v {n : Int} {ps : List Pp} {dm : List Int} {v : Bool} (hv : demB n ps dm = v) (A : Option Addr) (cap : Nat) (AD : Option Addr) (dc : Nat) (w : World) (h : PAt w A ps) (hm : ps.length ≤ maxLen) (hd : IAt w AD dm) (hdl : dm.length ≤ 1048576) :
    Calls Try.prog 166 #[nv n A ps.length cap, .slice AD dm.length dc] w fun e w' => e = .returned (.bool v) ∧ Below w.heap.size w w' := by
  rw [← hv]; exact dem_any n A cap ps AD dc dm w h hm hd hdl

set_option maxHeartbeats 1000000 in
theorem flo_any (n : Int) (A : Option Addr) (cap : Nat) (ps : List Pp) (AD : Option Addr) (dc : Nat) (dm : List Int) (w : World) (h : PAt w A ps) (hm : ps.length ≤ maxLen) (hd : IAt w AD dm) (hdl : dm.length ≤ 1048576) :
    Calls Try.prog 124 #[nv n A ps.length cap, .slice AD dm.length dc] w fun e w' => e = .returned (.bool (floB n ps dm)) ∧ Below w.heap.size w w' := by
  unfold floB
  obtain ⟨v, hv⟩ : ∃ v, goodB n ps = v := ⟨_, rfl⟩
  obtain ⟨u, hu⟩ : ∃ u, amtB dm ps.length (-8000) 8000 = u := ⟨_, rfl⟩
  have H := Lib.hid (fun w' (hb : Below w.heap.size w w') => valid_v hv A cap w' (h.kept hb (Nat.le_refl _)) hm)
  have HD := Lib.hid (fun w' (hb : Below w.heap.size w w') => am_v hu AD dc w' (hd.kept hb (Nat.le_refl _)) hdl)
  rw [hv, hu]
  clear hv hu h hd
  cases v
  · go_enter Try.func124, Try.ntmps124
    go_wp2_with (go_at_call 115; refine (H.out _ ((Below.refl _ _).alloc (Nat.le_refl _) _)).mono ?_; rintro e w1 ⟨rfl, hb1⟩)
    go_ret
    exact ⟨rfl, below_alloc_call hb1⟩
  · go_enter Try.func124, Try.ntmps124
    go_wp2_with (first
      | (go_at_call 115; refine (H.out _ ((Below.refl _ _).alloc (Nat.le_refl _) _)).mono ?_; rintro e w1 ⟨rfl, hb1⟩; obtain ⟨hc1, hf1⟩ := bcell hb1; have hz1 := hb1.size; simp at hz1; have hb2 := Lib.hid (below_alloc_call hb1))
      | (go_at_call 145; refine (HD.out _ hb2.out).mono ?_; rintro e w2 ⟨rfl, hb3⟩))
    go_ret
    exact ⟨rfl, hb2.out.trans (hb3.mono hb2.out.size)⟩
theorem flo_v {n : Int} {ps : List Pp} {dm : List Int} {v : Bool} (hv : floB n ps dm = v) (A : Option Addr) (cap : Nat) (AD : Option Addr) (dc : Nat) (w : World) (h : PAt w A ps) (hm : ps.length ≤ maxLen) (hd : IAt w AD dm) (hdl : dm.length ≤ 1048576) :
    Calls Try.prog 124 #[nv n A ps.length cap, .slice AD dm.length dc] w fun e w' => e = .returned (.bool v) ∧ Below w.heap.size w w' := by
  rw [← hv]; exact flo_any n A cap ps AD dc dm w h hm hd hdl

/-! ### The model -/
set_option maxHeartbeats 1000000 in
theorem sdem_any (n : Int) (A : Option Addr) (len cap : Nat) (AU : Option Addr) (cc : Nat) (l : List Int) (w : World) (h : IAt w AU l) (hl : l.length ≤ 1048576) :
    Calls Try.prog 127 #[nv n A len cap, .slice AU l.length cc] w fun e w' => e = .returned (.bool (amtB l n 0 1000)) ∧ Below w.heap.size w w' := by
  have HA := Lib.hid (h.kept (show Below w.heap.size w (w.alloc (.cells #[.int .i64 n, .slice A len cap] 30)) from (Below.refl _ _).alloc (Nat.le_refl _) _) (Nat.le_refl _))
  clear h
  go_enter Try.func127, Try.ntmps127
  go_wp2
  go_loop [5] (fun i => ∃ k : Nat, k ≤ l.length ∧ i = .int .i64 (k : Int) ∧ Hid (∀ j, j < k → inR 0 1000 (l.getD j 0) = true)) (fun i => l.length - (intOf i).toNat)
  case atStart => exact ⟨0, Nat.zero_le _, rfl, Lib.hid (fun j hj => absurd hj (by omega))⟩
  case round =>
    obtain ⟨k, hk, rfl, hno⟩ := hrel
    by_cases hlt : k < l.length
    · obtain ⟨b, off, hA, hbl, h0⟩ := HA.out.at_ hlt
      subst hA
      have hk0 : (0 : Int) ≤ (k : Int) := by omega
      have hkn : (k : Int) < (l.length : Int) := by omega
      obtain ⟨v, hv⟩ : ∃ v, inR 0 1000 (l.getD k 0) = v := ⟨_, rfl⟩
      have HC := Lib.hid (fun w' => in_eq (l.getD k 0) 0 1000 v hv w')
      cases v with
      | false =>
        have HR := Lib.hid (show amtB l n 0 1000 = false from by rw [amtB, allR_no hlt hv, Bool.and_false])
        clear hv hno
        generalize l.getD k 0 = y at *
        go_wp2_with (go_at_call 122; refine (HC.out _).mono ?_; rintro e w1 ⟨rfl, hw⟩; replace hw := hw.symm; subst hw)
        go_ret
        exact ⟨by rw [HR.out]; rfl, (Below.refl _ _).alloc (Nat.le_refl _) _⟩
      | true =>
        have hno2 := Lib.hid (inR_snoc hno.out hv)
        clear hv hno
        generalize l.getD k 0 = y at *
        go_wp2_with (go_at_call 122; refine (HC.out _).mono ?_; rintro e w1 ⟨rfl, hw⟩; replace hw := hw.symm; subst hw)
        go_round
        case rel => exact ⟨k + 1, by omega, by go_num, hno2⟩
        case measure => simp [intOf]; omega
    · have HALL := Lib.hid (show allR 0 1000 l = true from allR_mk (fun i hi => hno.out i (by omega)))
      by_cases he : (l.length : Int) = n
      · have g1 : ((l.length : Int) == n) = true := beq_iff_eq.2 he
        have HR := Lib.hid (show amtB l n 0 1000 = true from by rw [amtB, HALL.out]; simp [he])
        clear he
        go_wp2
        go_ret
        exact ⟨by rw [HR.out]; rfl, (Below.refl _ _).alloc (Nat.le_refl _) _⟩
      · have g1 : ((l.length : Int) == n) = false := beq_eq_false_iff_ne.2 he
        have HR := Lib.hid (show amtB l n 0 1000 = false from by rw [amtB, HALL.out]; simp [he])
        clear he
        go_wp2
        go_ret
        exact ⟨by rw [HR.out]; rfl, (Below.refl _ _).alloc (Nat.le_refl _) _⟩
theorem sdem_v {n : Int} {l : List Int} {v : Bool} (hv : amtB l n 0 1000 = v) (A : Option Addr) (len cap : Nat) (AU : Option Addr) (cc : Nat) (w : World) (h : IAt w AU l) (hl : l.length ≤ 1048576) :
    Calls Try.prog 127 #[nv n A len cap, .slice AU l.length cc] w fun e w' => e = .returned (.bool v) ∧ Below w.heap.size w w' := by
  rw [← hv]; exact sdem_any n A len cap AU cc l w h hl

set_option maxHeartbeats 1000000 in
theorem sflo_any (n : Int) (A : Option Addr) (len cap : Nat) (AU : Option Addr) (cc : Nat) (l : List Int) (w : World) (h : IAt w AU l) (hl : l.length ≤ 1048576) :
    Calls Try.prog 121 #[nv n A len cap, .slice AU l.length cc] w fun e w' => e = .returned (.bool (amtB l len (-8000) 8000)) ∧ Below w.heap.size w w' := by
  have HA := Lib.hid (h.kept (show Below w.heap.size w (w.alloc (.cells #[.int .i64 n, .slice A len cap] 30)) from (Below.refl _ _).alloc (Nat.le_refl _) _) (Nat.le_refl _))
  clear h
  go_enter Try.func121, Try.ntmps121
  go_wp2
  go_loop [5] (fun i => ∃ k : Nat, k ≤ l.length ∧ i = .int .i64 (k : Int) ∧ Hid (∀ j, j < k → inR (-8000) 8000 (l.getD j 0) = true)) (fun i => l.length - (intOf i).toNat)
  case atStart => exact ⟨0, Nat.zero_le _, rfl, Lib.hid (fun j hj => absurd hj (by omega))⟩
  case round =>
    obtain ⟨k, hk, rfl, hno⟩ := hrel
    by_cases hlt : k < l.length
    · obtain ⟨b, off, hA, hbl, h0⟩ := HA.out.at_ hlt
      subst hA
      have hk0 : (0 : Int) ≤ (k : Int) := by omega
      have hkn : (k : Int) < (l.length : Int) := by omega
      obtain ⟨v, hv⟩ : ∃ v, inR (-8000) 8000 (l.getD k 0) = v := ⟨_, rfl⟩
      have HC := Lib.hid (fun w' => in_eq (l.getD k 0) (-8000) 8000 v hv w')
      cases v with
      | false =>
        have HR := Lib.hid (show amtB l len (-8000) 8000 = false from by rw [amtB, allR_no hlt hv, Bool.and_false])
        clear hv hno
        generalize l.getD k 0 = y at *
        go_wp2_with (go_at_call 122; refine (HC.out _).mono ?_; rintro e w1 ⟨rfl, hw⟩; replace hw := hw.symm; subst hw)
        go_ret
        exact ⟨by rw [HR.out]; rfl, (Below.refl _ _).alloc (Nat.le_refl _) _⟩
      | true =>
        have hno2 := Lib.hid (inR_snoc hno.out hv)
        clear hv hno
        generalize l.getD k 0 = y at *
        go_wp2_with (go_at_call 122; refine (HC.out _).mono ?_; rintro e w1 ⟨rfl, hw⟩; replace hw := hw.symm; subst hw)
        go_round
        case rel => exact ⟨k + 1, by omega, by go_num, hno2⟩
        case measure => simp [intOf]; omega
    · have HALL := Lib.hid (show allR (-8000) 8000 l = true from allR_mk (fun i hi => hno.out i (by omega)))
      by_cases he : (l.length : Int) = (len : Int)
      · have g1 : ((l.length : Int) == (len : Int)) = true := beq_iff_eq.2 he
        have HR := Lib.hid (show amtB l len (-8000) 8000 = true from by rw [amtB, HALL.out]; simp [he])
        clear he
        go_wp2
        go_ret
        exact ⟨by rw [HR.out]; rfl, (Below.refl _ _).alloc (Nat.le_refl _) _⟩
      · have g1 : ((l.length : Int) == (len : Int)) = false := beq_eq_false_iff_ne.2 he
        have HR := Lib.hid (show amtB l len (-8000) 8000 = false from by rw [amtB, HALL.out]; simp [he])
        clear he
        go_wp2
        go_ret
        exact ⟨by rw [HR.out]; rfl, (Below.refl _ _).alloc (Nat.le_refl _) _⟩
theorem sflo_v {n : Int} {len : Nat} {l : List Int} {v : Bool} (hv : amtB l len (-8000) 8000 = v) (A : Option Addr) (cap : Nat) (AU : Option Addr) (cc : Nat) (w : World) (h : IAt w AU l) (hl : l.length ≤ 1048576) :
    Calls Try.prog 121 #[nv n A len cap, .slice AU l.length cc] w fun e w' => e = .returned (.bool v) ∧ Below w.heap.size w w' := by
  rw [← hv]; exact sflo_any n A len cap AU cc l w h hl

/-! ### Sums -/
def sumK (f : Nat → Int) : Nat → Int
  | 0 => 0
  | k + 1 => sumK f k + f k
theorem sumK_le {f : Nat → Int} {B : Int} (hB : 0 ≤ B) : ∀ {k : Nat}, (∀ i, i < k → -B ≤ f i ∧ f i ≤ B) → -(B * k) ≤ sumK f k ∧ sumK f k ≤ B * k
  | 0, _ => by simp [sumK]
  | k + 1, h => by
    have h1 := sumK_le hB (k := k) (fun i hi => h i (by omega))
    have h2 := h k (by omega)
    have e : B * ((k + 1 : Nat) : Int) = B * k + B := by rw [Int.natCast_add, Int.mul_add]; simp
    rw [e]
    show -(B * k + B) ≤ sumK f k + f k ∧ sumK f k + f k ≤ B * k + B
    omega
def lA (l : List Int) (i : Nat) : Int := l.getD i 0
def sumL (l : List Int) : Int := sumK (lA l) l.length
theorem sum_in {l : List Int} {a b : Int} (h : allR a b l = true) (ha : -8000 ≤ a) (hb : b ≤ 8000) {k : Nat} (hk : k ≤ l.length) (hk10 : k ≤ 10) : -80000 ≤ sumK (lA l) k ∧ sumK (lA l) k ≤ 80000 := by
  have h1 := sumK_le (f := lA l) (B := 8000) (by omega) (k := k) (fun i hi => by
    have := allR_at h (i := i) (by omega)
    unfold lA
    omega)
  have : (k : Int) ≤ 10 := by omega
  have : (8000 : Int) * k ≤ 8000 * 10 := Int.mul_le_mul_of_nonneg_left this (by omega)
  omega

set_option maxHeartbeats 1000000 in
theorem ssum_any (AU : Option Addr) (cc : Nat) (l : List Int) (a b : Int) (w : World) (h : IAt w AU l) (hl : l.length ≤ 10) (hr : allR a b l = true) (ha : -8000 ≤ a) (hb : b ≤ 8000) :
    Calls Try.prog 128 #[.slice AU l.length cc] w fun e w' => e = .returned (.int .i64 (sumL l)) ∧ w' = w := by
  have HA := Lib.hid h
  have HB := Lib.hid (fun k (hk : k ≤ l.length) => sum_in hr ha hb hk (by omega))
  have HE := Lib.hid (fun k (hk : k < l.length) => allR_at hr hk)
  have HS := Lib.hid (show sumL l = sumK (lA l) l.length from rfl)
  clear h hr
  go_enter Try.func128, Try.ntmps128
  go_wp2
  go_loop [3, 4] (fun s i => ∃ k : Nat, k ≤ l.length ∧ i = .int .i64 (k : Int) ∧ s = .int .i64 (sumK (lA l) k)) (fun _ i => l.length - (intOf i).toNat)
  case atStart => exact ⟨0, Nat.zero_le _, rfl, rfl⟩
  case round =>
    obtain ⟨k, hk, rfl, rfl⟩ := hrel
    have hb1 := HB.out k hk
    by_cases hlt : k < l.length
    · obtain ⟨bb, off, hA, hbl, h0⟩ := HA.out.at_ hlt
      subst hA
      have hk0 : (0 : Int) ≤ (k : Int) := by omega
      have hkn : (k : Int) < (l.length : Int) := by omega
      have hy0 : -8000 ≤ l.getD k 0 := by have := HE.out k hlt; omega
      have hy1 : l.getD k 0 ≤ 8000 := by have := HE.out k hlt; omega
      obtain ⟨hs0, hs1⟩ := hb1
      have hsn := Lib.hid (show sumK (lA l) (k + 1) = sumK (lA l) k + l.getD k 0 from rfl)
      generalize l.getD k 0 = y at *
      generalize sumK (lA l) k = s at *
      go_wp2
      go_round
      case rel => exact ⟨k + 1, by omega, by go_num, by rw [hsn.out]⟩
      case measure => simp [intOf]; omega
    · have hkk : k = l.length := by omega
      have hf := Lib.hid (show sumK (lA l) k = sumL l by rw [hkk]; rfl)
      clear hkk
      go_wp2
      go_ret
      exact ⟨by rw [hf.out]; rfl, rfl⟩
end Go.Proofs.Ytgjogjmfpbinfaa.S2

namespace Go.Proofs.Ytgjogjmfpbinfaa.S2
open Go.RowKit P2

noncomputable def treeB (N : Nat) (ps : List Pp) : Bool := decide (ps.length + 1 = N) && decide ((conL N ps 1).length = N)

set_option maxHeartbeats 1000000 in
theorem istree_any (N : Nat) (A : Option Addr) (cap : Nat) (ps : List Pp) (w : World) (h : PAt w A ps) (hg : P2.Good N ps) :
    Calls Try.prog 158 #[nv N A ps.length cap] w fun e w' => e = .returned (.bool (treeB N ps)) ∧ Below w.heap.size w w' := by
  have hN1 : 1 ≤ N := by have := hg.1; omega
  have hN : N ≤ 8 := by have := hg.2.1; omega
  have hl10 := hg.2.2.1
  have HC := Lib.hid (fun w' (hb : Below w.heap.size w w') => (show Calls Try.prog 199 #[nv N A ps.length cap, .int .i64 1] w' (GivesL w' (conL N ps 1)) from con_any N 1 A cap ps w' (h.kept hb (Nat.le_refl _)) hg (by omega) (by omega)))
  have hcl : (conL N ps 1).length ≤ N + 1 := conL_len N ps 1
  unfold treeB
  clear h hg
  have hw1 : IntKind.i64.wrap ((N : Int) - 1) = (N : Int) - 1 := IntWalk.i64_in _ (by omega)
  by_cases he : ps.length + 1 = N
  · have g1 : ((ps.length : Int) == (N : Int) - 1) = true := beq_iff_eq.2 (by omega)
    rw [show decide (ps.length + 1 = N) = true by simp [he], Bool.true_and]
    generalize (conL N ps 1) = C at *
    obtain ⟨u, hu⟩ : ∃ u, decide (C.length = N) = u := ⟨_, rfl⟩
    have g2 : ((C.length : Int) == (N : Int)) = u := by rw [← hu, Bool.eq_iff_iff]; simp; omega
    rw [hu]
    clear hu he
    go_enter Try.func158, Try.ntmps158
    go_wp2
    go_region_held3 (fun w' => w'.cell? ⟨w.heap.size, 0, none⟩ = some (.int .i64 N) ∧ w'.cell? ⟨w.heap.size, 1, none⟩ = some (.slice A ps.length cap))
      (first
        | go_keep
        | (go_split_ands
           exact ⟨(hbx.cell (p := ⟨w.heap.size, 0, none⟩) (by simp)).trans (by assumption), (hbx.cell (p := ⟨w.heap.size, 1, none⟩) (by simp)).trans (by assumption)⟩))
      ((go_at_call 199; refine (HC.out _ (((Below.refl _ _).alloc (Nat.le_refl _) _).drew)).mono ?_; rintro e w4 ⟨g, capg, rfl, hgg, ho, hbx⟩))
    go_wp2
    go_ret
    exact ⟨rfl, (((Below.refl w.heap.size w).alloc (Nat.le_refl _) _).drew).trans (hbx.mono (by simp))⟩
  · have g1 : ((ps.length : Int) == (N : Int) - 1) = false := beq_eq_false_iff_ne.2 (by omega)
    rw [show decide (ps.length + 1 = N) = false by simp [he], Bool.false_and]
    clear he
    go_enter Try.func158, Try.ntmps158
    go_wp2
    go_quiet (fail)
    go_wp2
    go_ret
    exact ⟨rfl, below_drewN ((Below.refl _ _).alloc (Nat.le_refl _) _) _⟩
end Go.Proofs.Ytgjogjmfpbinfaa.S2

namespace Go.Proofs.Ytgjogjmfpbinfaa.S2
open Go.RowKit P2

open Classical in
/-- The pipes among the first k that join what those before them do not connect. -/
noncomputable def spT (ps : List Pp) : Nat → List Pp
  | 0 => []
  | k + 1 => if Conn (spT ps k) (pAt ps k).fr (pAt ps k).to then spT ps k else spT ps k ++ [pAt ps k]
theorem spT_same {ps : List Pp} {k : Nat} (h : Conn (spT ps k) (pAt ps k).fr (pAt ps k).to) : spT ps (k + 1) = spT ps k := by rw [spT, if_pos h]
theorem spT_more {ps : List Pp} {k : Nat} (h : ¬ Conn (spT ps k) (pAt ps k).fr (pAt ps k).to) : spT ps (k + 1) = spT ps k ++ [pAt ps k] := by rw [spT, if_neg h]
theorem take_snoc' {ps : List Pp} {k : Nat} (hk : k < ps.length) : ps.take (k + 1) = ps.take k ++ [pAt ps k] := by
  rw [List.take_succ_eq_append_getElem hk]
  simp [pAt, List.getD, hk]
theorem spT_sub (ps : List Pp) : ∀ k, k ≤ ps.length → (spT ps k).Sublist (ps.take k)
  | 0, _ => by simp [spT]
  | k + 1, h => by
    have ih := spT_sub ps k (by omega)
    rw [take_snoc' (show k < ps.length by omega)]
    by_cases hc : Conn (spT ps k) (pAt ps k).fr (pAt ps k).to
    · rw [spT_same hc]
      exact ih.trans (List.sublist_append_left _ _)
    · rw [spT_more hc]
      exact ih.append (List.Sublist.refl _)
theorem spT_len (ps : List Pp) (k : Nat) (h : k ≤ ps.length) : (spT ps k).length ≤ k := by
  have := (spT_sub ps k h).length_le
  simp at this; omega
theorem spT_good {N : Int} {ps : List Pp} (hg : P2.Good N ps) (k : Nat) (h : k ≤ ps.length) : P2.Good N (spT ps k) := good_sub hg ((spT_sub ps k h).trans (List.take_sublist _ _))
theorem conn_sub {ps qs : List Pp} (h : ps.Sublist qs) {a b : Int} (hc : Conn ps a b) : Conn qs a b := conn_mono (fun _ he => h.subset he) hc
theorem spT_conn {ps : List Pp} : ∀ k, k ≤ ps.length → ∀ a b, Conn (spT ps k) a b ↔ Conn (ps.take k) a b
  | 0, _, a, b => by simp [spT]
  | k + 1, h, a, b => by
    have ih := spT_conn (ps := ps) k (by omega)
    refine ⟨conn_sub (spT_sub ps (k + 1) h), fun hc => ?_⟩
    have hmono : ∀ x y, Conn (spT ps k) x y → Conn (spT ps (k + 1)) x y := fun x y hxy => by
      by_cases hj : Conn (spT ps k) (pAt ps k).fr (pAt ps k).to
      · rw [spT_same hj]; exact hxy
      · rw [spT_more hj]; exact conn_mono (fun e he => List.mem_append.2 (.inl he)) hxy
    have hnew : Conn (spT ps (k + 1)) (pAt ps k).fr (pAt ps k).to := by
      by_cases hj : Conn (spT ps k) (pAt ps k).fr (pAt ps k).to
      · exact hmono _ _ hj
      · rw [spT_more hj]; exact Conn.adj ⟨pAt ps k, by simp, .inl ⟨rfl, rfl⟩⟩
    refine conn_ind (ps := ps.take (k + 1)) (P := fun v => Conn (spT ps (k + 1)) a v) (Conn.rf _ _) ?_ b hc
    rintro u v _ hu ⟨e, he, hj⟩
    rw [take_snoc' (show k < ps.length by omega)] at he
    rcases List.mem_append.1 he with he | he
    · exact hu.tr (hmono _ _ ((ih u v).2 (Conn.adj ⟨e, he, hj⟩)))
    · have e1 : e = pAt ps k := by simpa using he
      subst e1
      rcases hj with ⟨h1, h2⟩ | ⟨h1, h2⟩
      · rw [← h2]; rw [← h1] at hu; exact hu.tr hnew
      · rw [← h2]; rw [← h1] at hu; exact hu.tr hnew.sy
noncomputable def spL (ps : List Pp) : List Pp := spT ps ps.length
theorem spL_conn {ps : List Pp} (a b : Int) : Conn (spL ps) a b ↔ Conn ps a b := by
  have := spT_conn (ps := ps) ps.length (Nat.le_refl _) a b
  rwa [List.take_length] at this

/-- What is connected decides what is gathered. -/
theorem conL_of {N : Nat} {ps qs : List Pp} {t : Int} (h : ∀ a b, Conn ps a b ↔ Conn qs a b) : conL N ps t = conL N qs t := by
  unfold conL conTo
  congr 1
  refine List.filter_congr fun v hv => ?_
  have hv2 := List.mem_range.1 hv
  by_cases h0 : v = 0
  · subst h0; rw [distL_zero, distL_zero]
  · rw [distL_at N ps t v (by omega) h0, distL_at N qs t v (by omega) h0, Bool.eq_iff_iff, bne_iff_ne, bne_iff_ne, dist_conn, dist_conn, h]

/-- Labels that tell the parts of a forest apart. -/
theorem labels_up {N : Nat} {ps : List Pp} (hg : P2.Good N ps) : ∀ k, k ≤ ps.length → ∃ (f : Int → Int) (L : List Int), (∀ a b, f a = f b → Conn (spT ps k) a b) ∧ (∀ v : Nat, 1 ≤ v → v ≤ N → f v ∈ L) ∧ L.length + (spT ps k).length ≤ N := by
  intro k
  induction k with
  | zero =>
    intro _
    refine ⟨id, (List.range N).map (fun v => ((v + 1 : Nat) : Int)), fun a b h => ?_, fun v h1 h2 => ?_, by simp [spT]⟩
    · have e : a = b := h
      rw [e]; exact Conn.rf _ _
    · exact List.mem_map.2 ⟨v - 1, List.mem_range.2 (by omega), by simp; omega⟩
  | succ k ih =>
    intro hk
    obtain ⟨f, L, h1, h2, h3⟩ := ih (by omega)
    by_cases hj : Conn (spT ps k) (pAt ps k).fr (pAt ps k).to
    · rw [spT_same hj]; exact ⟨f, L, h1, h2, h3⟩
    · rw [spT_more hj]
      have hmem : pAt ps k ∈ ps := by
        have e : pAt ps k = ps[k] := by simp [pAt, List.getD, show k < ps.length by omega]
        rw [e]; exact List.getElem_mem _
      have hok := good_pp hg hmem
      generalize pAt ps k = p at *
      have hne : f p.fr ≠ f p.to := fun e => hj (h1 _ _ e)
      unfold PpOk at hok
      have hin : ∀ x : Int, 1 ≤ x → x ≤ N → f x ∈ L := fun x h1 h4 => by
        have := h2 x.toNat (by omega) (by omega)
        rwa [Int.toNat_of_nonneg (by omega)] at this
      have hto := hin p.to (by omega) (by omega)
      have hfr := hin p.fr (by omega) (by omega)
      have hold : ∀ x y, Conn (spT ps k) x y → Conn (spT ps k ++ [p]) x y := fun x y h => conn_mono (fun e he => List.mem_append.2 (.inl he)) h
      have hnew : Conn (spT ps k ++ [p]) p.fr p.to := Conn.adj ⟨p, by simp, .inl ⟨rfl, rfl⟩⟩
      refine ⟨fun v => if f v = f p.to then f p.fr else f v, L.erase (f p.to), fun a b hab => ?_, fun v hv1 hv2 => ?_, ?_⟩
      · simp only at hab
        by_cases ha : f a = f p.to
        · rw [if_pos ha] at hab
          by_cases hb : f b = f p.to
          · exact hold _ _ (h1 _ _ (ha.trans hb.symm))
          · rw [if_neg hb] at hab
            exact ((hold _ _ (h1 _ _ ha)).tr hnew.sy).tr (hold _ _ (h1 _ _ hab))
        · rw [if_neg ha] at hab
          by_cases hb : f b = f p.to
          · rw [if_pos hb] at hab
            exact ((hold _ _ (h1 _ _ hab)).tr hnew).tr (hold _ _ (h1 _ _ hb).sy)
          · rw [if_neg hb] at hab
            exact hold _ _ (h1 _ _ hab)
      · show (if f v = f p.to then f p.fr else f v) ∈ _
        by_cases hv : f v = f p.to
        · rw [if_pos hv]; exact (List.mem_erase_of_ne hne).2 hfr
        · rw [if_neg hv]; exact (List.mem_erase_of_ne hv).2 (h2 v hv1 hv2)
      · have hp := List.length_pos_of_mem hto
        rw [List.length_erase, if_pos hto, List.length_append]
        simp; omega
theorem con_full {N : Nat} {ps : List Pp} (_hN : 1 ≤ N) (h : (conL N ps 1).length = N) : ∀ v : Nat, 1 ≤ v → v ≤ N → Conn ps 1 v := by
  intro v h1 h2
  refine Classical.byContradiction fun hn => ?_
  have hd0 : dA (distL N ps 1) 0 = -1 := distL_zero N ps 1
  have hdv : dA (distL N ps 1) v = -1 := by
    rw [distL_at N ps 1 v h2 (by omega)]
    exact Classical.byContradiction fun hd => hn (dist_conn.1 hd).sy
  have hl : (conL N ps 1).length < ((List.range (N + 1)).filter fun u => decide (u ≠ 0)).length := by
    unfold conL conTo
    rw [List.length_map]
    refine filter_less _ _ _ (fun u hu => ?_) v (List.mem_range.2 (by omega)) (by simp; omega) (by simp [hdv])
    simp only [decide_eq_true_eq]
    rintro rfl
    simp [hd0] at hu
  have h3 : ((List.range (N + 1)).filter fun u => decide (u ≠ 0)).length ≤ N := by
    rw [List.range_succ_eq_map, List.filter_cons]
    simp
    exact Nat.le_trans (List.length_filter_le _ _) (by simp)
  omega
theorem tree_sp {N : Nat} {ps : List Pp} (hg : P2.Good N ps) : treeB N (spL ps) = decide ((conL N ps 1).length = N) := by
  have hN : 1 ≤ N := by have := hg.1; omega
  have e := conL_of (N := N) (t := 1) (spL_conn (ps := ps))
  unfold treeB
  rw [e]
  by_cases hc : (conL N ps 1).length = N
  · have hl : (spL ps).length + 1 = N := by
      have h1 := con_full hN (by rw [e]; exact hc : (conL N (spL ps) 1).length = N)
      have h2 := conn_need hN h1
      obtain ⟨f, L, _, h4, h5⟩ := labels_up hg ps.length (Nat.le_refl _)
      have h6 := List.length_pos_of_mem (h4 1 (Nat.le_refl _) hN)
      unfold spL at h2 ⊢
      omega
    simp [hl, hc]
  · simp [hc]
end Go.Proofs.Ytgjogjmfpbinfaa.S2

namespace Go.Proofs.Ytgjogjmfpbinfaa.S2
open Go.RowKit P2

section
variable {P : Program} (w : World)
theorem step_append_own {ops : Array Oper} {o : Oper} {a : Act} {K : Act → World → Prop} {Q : Exit → Act → World → Prop} {E : Prop} (hgd : o.guard = none) (s x : Operand) (t : TypeId)
    (ho : o.op = .call { callee := .builtin .append, args := #[s, x], argTypes := #[t, t] })
    (base : Nat) (e : TypeId) (i : TypeInfo) (z : Value) (size bytes : Nat) (ht : P.underlying t = some (.slice e)) (hi : P.info? e = some i) (hz : i.zero = some z)
    (hsize : i.size = size) (hby : i.bytes = bytes) (hzs : z.cells.size = size) (hsz : 0 < size)
    (v : Value) (n : Nat) (xs : List Value) (hs : a.eval s = v) (hown : w.ownsRow base e size v n xs)
    (ad : Addr) (m c : Nat) (news : List Value) (hx : a.eval x = .slice (some ad) m c) (hl : news.length = m * size) (hnews : ∀ j u, news[j]? = some u → w.cell? (ad.add j) = some u) (h1 : ∀ u ∈ news, u.oneCell' = true)
    (h63 : n + m ≤ maxLen) (hbytes : (n + m) * bytes ≤ 140737488355328) (hbase : base ≤ w.heap.size)
    (h : ∀ v' w', w'.ownsRow base e size v' (n + m) (xs ++ news) → w.grownBy w' v.ownBlock → (v' = .slice none 0 0 ↔ v = .slice none 0 0 ∧ m = 0) → K (a.put o.dst v') w') :
    if Region.wanted o (yielded ops a.tmps) = true then Oper.wp P o a w K Q else E := by
  have hw : Region.wanted o (yielded ops a.tmps) = true := by simp [Region.wanted, hgd]
  rw [if_pos hw]
  exact wp_append_own w s x t ho base e i z size bytes ht hi hz hsize hby hzs hsz v n xs hs hown ad m c news hx hl hnews h1 h63 hbytes hbase h
end
theorem own_emptyP (w : World) (B : Nat) (hB : B ≤ w.heap.size) : (w.alloc (.cells #[] 75)).ownsRow B 75 4 (.slice (some ⟨w.heap.size, 0, none⟩) 0 0) 0 [] :=
  ⟨rfl, .inr ⟨w.heap.size, 0, #[], rfl, hB, by simpa using (MapKept.heap_alloc w (.cells #[] 75)).1, Nat.le_refl _, Nat.zero_le _, rfl, rfl⟩⟩
theorem pcs_one (ps : List Pp) : ∀ u ∈ pcs ps, u.oneCell' = true := by
  intro u hu
  obtain ⟨p, _, hp⟩ := List.mem_flatMap.1 hu
  simp [pcs4] at hp
  rcases hp with rfl | rfl | rfl | rfl <;> rfl
theorem pat_part {w w' : World} {b off : Nat} {ps qs : List Pp} (k : Nat) (h : PAt w (some ⟨b, off, none⟩) ps) (hbl : b < w.heap.size) (hb : Below w.heap.size w w') (hq : ∀ q, q < qs.length → k + q < ps.length ∧ pAt qs q = pAt ps (k + q)) :
    ∀ j u, (pcs qs)[j]? = some u → w'.cell? ((⟨b, off + k * 4, none⟩ : Addr).add j) = some u := by
  intro j u hu
  have hadd : (⟨b, off + k * 4, none⟩ : Addr).add j = ⟨b, off + k * 4 + j, none⟩ := by unfold Addr.add; split <;> simp_all
  rw [hadd, hb.cell (p := ⟨b, off + k * 4 + j, none⟩) hbl]
  have hjl : j < (pcs qs).length := (List.getElem?_eq_some_iff.1 hu).1
  rw [pcs_len] at hjl
  obtain ⟨q, r, hr, rfl⟩ : ∃ q r, r < 4 ∧ j = q * 4 + r := ⟨j / 4, j % 4, Nat.mod_lt _ (by omega), by omega⟩
  obtain ⟨h1, h2⟩ := hq q (by omega)
  rw [pcs_get qs q (by omega) r hr, h2] at hu
  rcases h with h | ⟨b', off', hA, _, h⟩
  · subst h; simp at h1
  · injection hA with hA
    injection hA with e1 e2 _
    subst e1; subst e2
    obtain ⟨c0, c1, c2, c3⟩ := h (k + q) h1
    have e : off + k * 4 + (q * 4 + r) = off + (k + q) * 4 + r := by omega
    rw [e]
    match r, hr, hu with
    | 0, _, hu => rw [← (Option.some.inj hu)]; exact c0
    | 1, _, hu => rw [← (Option.some.inj hu)]; exact c1
    | 2, _, hu => rw [← (Option.some.inj hu)]; exact c2
    | 3, _, hu => rw [← (Option.some.inj hu)]; exact c3
theorem pat_take {w w' : World} {b off i : Nat} {ps : List Pp} (h : PAt w (some ⟨b, off, none⟩) ps) (hbl : b < w.heap.size) (hb : Below w.heap.size w w') (hi : i ≤ ps.length) :
    ∀ j u, (pcs (ps.take i))[j]? = some u → w'.cell? ((⟨b, off, none⟩ : Addr).add j) = some u := by
  have := pat_part (qs := ps.take i) 0 h hbl hb (fun q hq => by
    rw [List.length_take] at hq
    refine ⟨by omega, ?_⟩
    have hqi : q < i := by omega
    simp [pAt, List.getD, hqi])
  simpa using this
theorem pat_drop {w w' : World} {b off i : Nat} {ps : List Pp} (h : PAt w (some ⟨b, off, none⟩) ps) (hbl : b < w.heap.size) (hb : Below w.heap.size w w') :
    ∀ j u, (pcs (ps.drop i))[j]? = some u → w'.cell? ((⟨b, off + i * 4, none⟩ : Addr).add j) = some u :=
  pat_part (qs := ps.drop i) i h hbl hb (fun q hq => by
    rw [List.length_drop] at hq
    refine ⟨by omega, ?_⟩
    simp [pAt, List.getD, List.getElem?_drop])

set_option maxHeartbeats 4000000 in
set_option maxRecDepth 100000 in
theorem swo_any (N i b off n cap : Nat) (ps : List Pp) (w : World) (h : PAt w (some ⟨b, off, none⟩) ps) (hn : ps.length = n) (hi : i < n) (hc : n ≤ cap) (hl : n ≤ 10) :
    Calls Try.prog 130 #[nv N (some ⟨b, off, none⟩) n cap, .int .i64 (i : Int)] w fun e w' => ∃ g c, e = .returned (nv N (some ⟨g, 0, none⟩) (n - 1) c) ∧ w.heap.size ≤ g ∧ n - 1 ≤ c ∧ PAt w' (some ⟨g, 0, none⟩) (ps.take i ++ ps.drop (i + 1)) ∧ Below w.heap.size w w' := by
  have HA := Lib.hid h
  obtain ⟨i0, hi0, hz0, hz1, hz2⟩ := info_parts infoP
  have hi1 : (0 : Int) ≤ (i : Int) := by omega
  have hi2 : (i : Int) < (n : Int) := by omega
  have hi3 : (i : Int) ≤ (cap : Int) := by omega
  have hi4 : (i : Int) + 1 ≤ (n : Int) := by omega
  have hi5 : (n : Int) ≤ (cap : Int) := by omega
  have hi6 : (0 : Int) ≤ (i : Int) + 1 := by omega
  obtain ⟨a2, ha2, ha3⟩ : ∃ a2 : Addr, (if cap = i + 1 then some (⟨b, off, none⟩ : Addr) else some ⟨b, off + (i + 1) * 4, none⟩) = some a2 ∧ (cap ≠ i + 1 → a2 = ⟨b, off + (i + 1) * 4, none⟩) := by
    by_cases e : cap = i + 1
    · exact ⟨_, by rw [if_pos e], fun h => absurd e h⟩
    · exact ⟨_, by rw [if_neg e], fun _ => rfl⟩
  have hw1 : IntKind.i64.wrap ((i : Int) + 1) = (i : Int) + 1 := IntWalk.i64_in _ (by omega)
  have hbl : b < w.heap.size := by
    rcases h with h | ⟨b', off', hA, hlt, _⟩
    · rw [h] at hn; simp at hn; omega
    · injection hA with hA; injection hA with hb' _ _; rw [hb']; exact hlt
  clear h
  go_enter Try.func130, Try.ntmps130
  go_wp2
  refine wp_region_held_drew (S := fun w' => w'.cell? ⟨w.heap.size, 0, none⟩ = some (.int .i64 N) ∧ w'.cell? ⟨w.heap.size, 1, none⟩ = some (.slice (some ⟨b, off, none⟩) n cap)) (by kernel_rfl) (by go_keep) (fun hHeld => ?_)
  refine wpAnyH_take (i := 0) (v := .pointer (some ⟨w.heap.size, 0, none⟩)) rfl (by kernel_rfl) (by kernel_rfl) (by kernel_rfl) (fun _ _ _ h => h) (Or.inl ⟨by rfl, ?_⟩) (by assumption) ?_
  · (intro w hSw; (try dsimp only at hSw); go_simp)
  simp only [Act.put, List.setIfInBounds_toArray]
  refine wpAnyH_take (i := 1) (v := .int .i64 (N : Int)) rfl (by kernel_rfl) (by kernel_rfl) (by kernel_rfl) (fun _ _ _ h => h) (Or.inl ⟨by rfl, ?_⟩) (by assumption) ?_
  · (intro w hSw; (try dsimp only at hSw); go_simp)
  simp only [Act.put]
  refine wpAnyH_take (i := 3) (v := .pointer (some ⟨w.heap.size, 1, none⟩)) rfl (by kernel_rfl) (by kernel_rfl) (by kernel_rfl) (fun _ _ _ h => h) (Or.inl ⟨by rfl, ?_⟩) (by assumption) ?_
  · (intro w hSw; (try dsimp only at hSw); go_simp)
  simp only [Act.put]
  refine wpAnyH_take (i := 4) (v := .slice (some ⟨b, off, none⟩) n cap) rfl (by kernel_rfl) (by kernel_rfl) (by kernel_rfl) (fun _ _ _ h => h) (Or.inl ⟨by rfl, ?_⟩) (by assumption) ?_
  · (intro w hSw; (try dsimp only at hSw); go_simp)
  simp only [Act.put]
  refine wpAnyH_take (i := 5) (v := .int .i64 (i : Int)) rfl (by kernel_rfl) (by kernel_rfl) (by kernel_rfl) (fun _ _ _ h => h) (Or.inl ⟨by rfl, ?_⟩) (by assumption) ?_
  · (intro w hSw; (try dsimp only at hSw); go_simp)
  simp only [Act.put]
  refine wpAnyH_take (i := 6) (v := .slice (some ⟨b, off, none⟩) i cap) rfl (by kernel_rfl) (by kernel_rfl) (by kernel_rfl) (fun _ _ _ h => h) (Or.inl ⟨by rfl, ?_⟩) (by assumption) ?_
  · (intro w hSw; (try dsimp only at hSw); go_simp)
  simp only [Act.put]
  refine wpAnyH_take (i := 8) (v := .pointer (some ⟨w.heap.size, 1, none⟩)) rfl (by kernel_rfl) (by kernel_rfl) (by kernel_rfl) (fun _ _ _ h => h) (Or.inl ⟨by rfl, ?_⟩) (by assumption) ?_
  · (intro w hSw; (try dsimp only at hSw); go_simp)
  simp only [Act.put]
  refine wpAnyH_take (i := 9) (v := .slice (some ⟨b, off, none⟩) n cap) rfl (by kernel_rfl) (by kernel_rfl) (by kernel_rfl) (fun _ _ _ h => h) (Or.inl ⟨by rfl, ?_⟩) (by assumption) ?_
  · (intro w hSw; (try dsimp only at hSw); go_simp)
  simp only [Act.put]
  refine wpAnyH_take (i := 10) (v := .int .i64 (i : Int)) rfl (by kernel_rfl) (by kernel_rfl) (by kernel_rfl) (fun _ _ _ h => h) (Or.inl ⟨by rfl, ?_⟩) (by assumption) ?_
  · (intro w hSw; (try dsimp only at hSw); go_simp)
  simp only [Act.put]
  refine wpAnyH_take (i := 11) (v := .int .i64 ((i : Int) + 1)) rfl (by kernel_rfl) (by kernel_rfl) (by kernel_rfl) (fun _ _ _ h => h) (Or.inl ⟨by rfl, ?_⟩) (by assumption) ?_
  · (intro w hSw; (try dsimp only at hSw); go_simp)
  simp only [Act.put]
  refine wpAnyH_take (i := 12) (v := .slice (some a2) (n - (i + 1)) (cap - (i + 1))) rfl (by kernel_rfl) (by kernel_rfl) (by kernel_rfl) (fun _ _ _ h => h) (Or.inl ⟨by rfl, ?_⟩) (by assumption) ?_
  · (intro w hSw; (try dsimp only at hSw); go_simp)
  simp only [Act.put]
  refine wpAnyH_ready (rs := [2]) (by kernel_rfl) (by simp) ?_
  refine AllReadyH.cons rfl (fun K hK => ?_) AllReadyH.nil
  go_simp
  refine hK.out _ _ (by first | assumption | go_keep) (fun hHeld => ?_)
  clear hK K
  have hB2 : Below w.heap.size w (((w.alloc (.cells #[.int .i64 N, .slice (some ⟨b, off, none⟩) n cap] 30)).alloc (.cells #[.int .i64 0, .slice none 0 0] 30)).alloc (.cells #[] 75)).drew := ((((Below.refl _ _).alloc (Nat.le_refl _) _).alloc (by simp) _).alloc (by simp; omega) _).drew
  have hE := own_emptyP ((w.alloc (.cells #[.int .i64 N, .slice (some ⟨b, off, none⟩) n cap] 30)).alloc (.cells #[.int .i64 0, .slice none 0 0] 30)) (w.heap.size + 2) (by simp)
  have hE2 : (((w.alloc (.cells #[.int .i64 N, .slice (some ⟨b, off, none⟩) n cap] 30)).alloc (.cells #[.int .i64 0, .slice none 0 0] 30)).alloc (.cells #[] 75)).drew.ownsRow (w.heap.size + 2) 75 4 (.slice (some ⟨w.heap.size + 2, 0, none⟩) 0 0) 0 [] := by
    have h2 : (((w.alloc (.cells #[.int .i64 N, .slice (some ⟨b, off, none⟩) n cap] 30)).alloc (.cells #[.int .i64 0, .slice none 0 0] 30)).alloc (.cells #[] 75)).ownsRow (w.heap.size + 2) 75 4 (.slice (some ⟨w.heap.size + 2, 0, none⟩) 0 0) 0 [] := by simpa using hE
    exact h2
  clear hE
  refine wpAnyH_ready (rs := [7]) (by kernel_rfl) (by simp) ?_
  refine AllReadyH.cons rfl (fun K hK => ?_) AllReadyH.nil
  refine step_append_own _ (by rfl) _ _ _ (by rfl) (w.heap.size + 2) 75 i0 _ 4 32 Try.underlying28 hi0 hz0 hz1 hz2 rfl (by omega) (.slice (some ⟨w.heap.size + 2, 0, none⟩) 0 0) 0 ([]) (by simp [go_sem]) (hE2)
    ⟨b, off, none⟩ i (cap) (pcs (ps.take i)) (by simp [go_sem]) (by rw [pcs_len, List.length_take]; omega) (pat_take HA.out hbl hB2 (by omega)) (pcs_one _) (by simp only [maxLen]; omega) (by omega) (by simp) ?_
  intro v1 w1 hownw1 hgroww1 hnilw1
  have hHeld2 := hHeld
  refine hK.out _ _ (by rcases hHeld2 with ⟨q0, q1⟩; exact ⟨(hgroww1.cell_far _ (by simp; omega) (by simp [Value.ownBlock])).trans q0, (hgroww1.cell_far _ (by simp; omega) (by simp [Value.ownBlock])).trans q1⟩) (fun hHeld => ?_)
  clear hK K hHeld2
  have hB3 := hB2.grown hgroww1 (by simp; omega) (fun g hg => by simp [Value.ownBlock] at hg; omega)
  have hv1 : v1 ≠ .slice none 0 0 := fun e => by simp [e] at hnilw1
  have hz3 := hgroww1.size
  simp at hz3
  have hcells : ∀ j u, (pcs (ps.drop (i + 1)))[j]? = some u → w1.cell? (a2.add j) = some u := by
    intro j u hu
    by_cases e : cap = i + 1
    · rw [List.drop_eq_nil_of_le (by omega)] at hu; simp [pcs] at hu
    · rw [ha3 e]; exact pat_drop HA.out hbl hB3 j u hu
  refine wpAnyH_ready (rs := [13]) (by kernel_rfl) (by simp) ?_
  refine AllReadyH.cons rfl (fun K hK => ?_) AllReadyH.nil
  refine step_append_own _ (by rfl) _ _ _ (by rfl) (w.heap.size + 2) 75 i0 _ 4 32 Try.underlying28 hi0 hz0 hz1 hz2 rfl (by omega) (v1) (0 + i) ([] ++ pcs (ps.take i)) (by simp [go_sem]) (hownw1)
    a2 (n - (i + 1)) (cap - (i + 1)) (pcs (ps.drop (i + 1))) (by simp [go_sem]) (by rw [pcs_len, List.length_drop]; omega) (hcells) (pcs_one _) (by simp only [maxLen]; omega) (by omega) (by omega) ?_
  intro v2 w2 hownw2 hgroww2 hnilw2
  have hHeld2 := hHeld
  refine hK.out _ _ (by rcases hHeld2 with ⟨q0, q1⟩; exact ⟨(hgroww2.cell_far _ (by dsimp only; omega) (fun e => by have := (hownw1.lt _ e.symm).1; dsimp only at this; omega)).trans q0, (hgroww2.cell_far _ (by dsimp only; omega) (fun e => by have := (hownw1.lt _ e.symm).1; dsimp only at this; omega)).trans q1⟩) (fun hHeld => ?_)
  clear hK K hHeld2
  have hB4 := hB3.grown hgroww2 (by omega) (fun g hg => by have := (hownw1.lt _ hg).1; omega)
  have hv2 : v2 ≠ .slice none 0 0 := fun e => by simp [e, hv1] at hnilw2
  have hf1 : some (w.heap.size + 1) ≠ v1.ownBlock := fun e => by have := (hownw1.lt _ e.symm).1; omega
  have hf0 : some (w.heap.size + 1) ≠ (Value.slice (some ⟨w.heap.size + 2, 0, none⟩) 0 0).ownBlock := by simp [Value.ownBlock]
  have c0 : w2.cell? ⟨w.heap.size + 1, 0, none⟩ = some (.int .i64 0) := (hgroww2.cell_far _ (by dsimp only; omega) hf1).trans ((hgroww1.cell_far _ (by simp) hf0).trans (by go_simp))
  have fz0 : w2.frozen? ⟨w.heap.size + 1, 0, none⟩ = false := (hgroww2.frozen_far _ (by dsimp only; omega) hf1).trans ((hgroww1.frozen_far _ (by simp) hf0).trans (by go_simp))
  have c1 : w2.cell? ⟨w.heap.size + 1, 1, none⟩ = some (.slice none 0 0) := (hgroww2.cell_far _ (by dsimp only; omega) hf1).trans ((hgroww1.cell_far _ (by simp) hf0).trans (by go_simp))
  have fz1 : w2.frozen? ⟨w.heap.size + 1, 1, none⟩ = false := (hgroww2.frozen_far _ (by dsimp only; omega) hf1).trans ((hgroww1.frozen_far _ (by simp) hf0).trans (by go_simp))
  obtain ⟨g2, cp2, hv2e, hg2, hcp2⟩ : ∃ g cap, v2 = .slice (some ⟨g, 0, none⟩) (n - 1) cap ∧ w.heap.size + 2 ≤ g ∧ n - 1 ≤ cap := by
    rcases hownw2.2 with ⟨h, _⟩ | ⟨g, cap, cur, hv, hb, _, hcap, _⟩
    · exact absurd h hv2
    · exact ⟨g, cap, by rw [hv]; congr 1; omega, hb, by omega⟩
  subst hv2e
  have hlen : (ps.take i ++ ps.drop (i + 1)).length = n - 1 := by rw [List.length_append, List.length_take, List.length_drop]; omega
  have hown3 := Lib.hid (show w2.ownsRow (w.heap.size + 2) 75 4 (.slice (some ⟨g2, 0, none⟩) (n - 1) cp2) (n - 1) (pcs (ps.take i ++ ps.drop (i + 1))) by
    have e : 0 + i + (n - (i + 1)) = n - 1 := by omega
    rw [e] at hownw2
    have e2 : pcs (ps.take i ++ ps.drop (i + 1)) = [] ++ pcs (ps.take i) ++ pcs (ps.drop (i + 1)) := by simp [pcs, List.flatMap_append]
    rw [e2]; exact hownw2)
  have HB4 := Lib.hid hB4
  clear hownw2 hownw1 hcells hE2 hB2 hB3 hB4
  refine wpAnyH_ready (rs := [14]) (by kernel_rfl) (by simp) ?_
  refine AllReadyH.cons rfl (fun K hK => ?_) AllReadyH.nil
  go_simp
  refine hK.out _ _ (by first | assumption | go_keep) (fun hHeld => ?_)
  clear hK K
  refine wpAnyH_ready (rs := [15]) (by kernel_rfl) (by simp) ?_
  refine AllReadyH.cons rfl (fun K hK => ?_) AllReadyH.nil
  go_simp
  refine hK.out _ _ (by first | assumption | go_keep) (fun hHeld => ?_)
  clear hK K
  refine wpAnyH_done (by kernel_rfl) ?_ _
  go_wp2
  refine bodyPost_ret (v := nv N (some ⟨g2, 0, none⟩) (n - 1) cp2) (by simp [results, Try.results130, go_sem, c0, c1]) rfl ⟨g2, cp2, rfl, by omega, hcp2, ?_, ?_⟩
  · have h5 := ownsRow_setCell_below (ownsRow_setCell_below hown3.out (a := ⟨w.heap.size + 1, 0, none⟩) (by show w.heap.size + 1 < w.heap.size + 2; omega) (.int .i64 N)) (a := ⟨w.heap.size + 1, 1, none⟩) (by show w.heap.size + 1 < w.heap.size + 2; omega) (.slice (some ⟨g2, 0, none⟩) (n - 1) cp2)
    refine own_pat (B := w.heap.size + 2) (cap := cp2) ?_
    rw [hlen]
    exact h5
  · exact (HB4.out.setCell (p := ⟨w.heap.size + 1, 0, none⟩) (by show w.heap.size ≤ w.heap.size + 1; omega) _).setCell (p := ⟨w.heap.size + 1, 1, none⟩) (by show w.heap.size ≤ w.heap.size + 1; omega) _
theorem sw_all (N i cap : Nat) (A : Option Addr) (ps : List Pp) (w : World) (h : PAt w A ps) (hi : i < ps.length) (hc : ps.length ≤ cap) (hl : ps.length ≤ 10) :
    Calls Try.prog 130 #[nv N A ps.length cap, .int .i64 (i : Int)] w fun e w' => ∃ A2 c, e = .returned (nv N A2 (wo ps i).length c) ∧ PAt w' A2 (wo ps i) ∧ Below w.heap.size w w' := by
  obtain ⟨b, off, hA, _⟩ := h.at_ hi
  subst hA
  refine (swo_any N i b off ps.length cap ps w h rfl hi (by omega) hl).mono ?_
  rintro e w' ⟨g, c, rfl, _, _, hp, hb⟩
  exact ⟨_, c, by rw [wo_len ps i hi], hp, hb⟩
theorem sw_cap (N i cap : Nat) (A : Option Addr) (ps : List Pp) (w : World) (h : PAt w A ps) (hi : i < ps.length) (hc : ps.length ≤ cap) (hl : ps.length ≤ 10) :
    Calls Try.prog 130 #[nv N A ps.length cap, .int .i64 (i : Int)] w fun e w' => ∃ A2 c, e = .returned (nv N A2 (wo ps i).length c) ∧ PAt w' A2 (wo ps i) ∧ (wo ps i).length ≤ c ∧ Below w.heap.size w w' := by
  obtain ⟨b, off, hA, _⟩ := h.at_ hi
  subst hA
  refine (swo_any N i b off ps.length cap ps w h rfl hi (by omega) hl).mono ?_
  rintro e w' ⟨g, c, rfl, _, hcc, hp, hb⟩
  exact ⟨_, c, by rw [wo_len ps i hi], hp, by rw [wo_len ps i hi]; exact hcc, hb⟩
end Go.Proofs.Ytgjogjmfpbinfaa.S2

namespace Go.Proofs.Ytgjogjmfpbinfaa.S2
open Go.RowKit P2

set_option maxHeartbeats 1000000 in
theorem stree_any (N : Nat) (A : Option Addr) (cap : Nat) (ps : List Pp) (w : World) (h : PAt w A ps) (hg : P2.Good N ps) :
    Calls Try.prog 183 #[nv N A ps.length cap] w fun e w' => e = .returned (.bool (treeB N ps)) ∧ Below w.heap.size w w' := by
  have hN1 : 1 ≤ N := by have := hg.1; omega
  have hN : N ≤ 8 := by have := hg.2.1; omega
  have hl10 := hg.2.2.1
  have HC := Lib.hid (fun w' (hb : Below w.heap.size w w') => (show Calls Try.prog 177 #[nv N A ps.length cap, .int .i64 1] w' _ from sreach_any N 1 A cap ps w' (h.kept hb (Nat.le_refl _)) hg (by omega) (by omega)))
  have hcl : (conL N ps 1).length ≤ N + 1 := conL_len N ps 1
  unfold treeB
  clear h hg
  have hw1 : IntKind.i64.wrap ((N : Int) - 1) = (N : Int) - 1 := IntWalk.i64_in _ (by omega)
  obtain ⟨C, hC⟩ : ∃ C, conL N ps 1 = C := ⟨_, rfl⟩
  simp only [Int.natCast_one] at HC
  rw [hC] at HC hcl ⊢
  clear hC
  obtain ⟨u, hu⟩ : ∃ u, decide (ps.length + 1 = N) = u := ⟨_, rfl⟩
  have g1 : ((ps.length : Int) == (N : Int) - 1) = u := by rw [← hu, Bool.eq_iff_iff]; simp; omega
  rw [hu]
  clear hu
  by_cases he : C.length = N
  · have g2 : ((C.length : Int) == (N : Int)) = true := beq_iff_eq.2 (by omega)
    rw [show decide (C.length = N) = true by simp [he], Bool.and_true]
    clear he
    go_enter Try.func183, Try.ntmps183
    go_wp2
    go_region_held3 (fun w' => w'.cell? ⟨w.heap.size, 0, none⟩ = some (.int .i64 N) ∧ w'.cell? ⟨w.heap.size, 1, none⟩ = some (.slice A ps.length cap))
      (first
        | go_keep
        | (go_split_ands
           exact ⟨(hbx.cell (p := ⟨w.heap.size, 0, none⟩) (by simp)).trans (by assumption), (hbx.cell (p := ⟨w.heap.size, 1, none⟩) (by simp)).trans (by assumption)⟩))
      ((go_at_call 177; refine (HC.out _ (((Below.refl _ _).alloc (Nat.le_refl _) _).drew)).mono ?_; rintro e w4 ⟨g, o, capg, rfl, hgg, ho, hbx⟩))
    go_wp2
    go_ret
    exact ⟨rfl, (((Below.refl w.heap.size w).alloc (Nat.le_refl _) _).drew).trans (hbx.mono (by simp))⟩
  · have g2 : ((C.length : Int) == (N : Int)) = false := beq_eq_false_iff_ne.2 (by omega)
    rw [show decide (C.length = N) = false by simp [he], Bool.and_false]
    clear he
    go_enter Try.func183, Try.ntmps183
    go_wp2
    refine wp_region_held_drew (S := fun w' => w'.cell? ⟨w.heap.size, 0, none⟩ = some (.int .i64 N) ∧ w'.cell? ⟨w.heap.size, 1, none⟩ = some (.slice A ps.length cap)) (by kernel_rfl) (by go_keep) (fun hHeld => ?_)
    refine wpAnyH_take (i := 0) (v := .agg #[.int .i64 N, .slice A ps.length cap]) rfl (by kernel_rfl) (by kernel_rfl) (by kernel_rfl) (fun _ _ _ h => h) (Or.inl ⟨by rfl, ?_⟩) (by assumption) ?_
    · (intro w hSw; (try dsimp only at hSw); go_simp)
    simp only [Act.put, List.setIfInBounds_toArray]
    refine wpAnyH_take (i := 3) (v := .pointer (some ⟨w.heap.size, 0, none⟩)) rfl (by kernel_rfl) (by kernel_rfl) (by kernel_rfl) (fun _ _ _ h => h) (Or.inl ⟨by rfl, ?_⟩) (by assumption) ?_
    · (intro w hSw; (try dsimp only at hSw); go_simp)
    simp only [Act.put]
    refine wpAnyH_take (i := 4) (v := .int .i64 (N : Int)) rfl (by kernel_rfl) (by kernel_rfl) (by kernel_rfl) (fun _ _ _ h => h) (Or.inl ⟨by rfl, ?_⟩) (by assumption) ?_
    · (intro w hSw; (try dsimp only at hSw); go_simp)
    simp only [Act.put]
    refine wpAnyH_ready (rs := [1]) (by kernel_rfl) (by simp) ?_
    refine AllReadyH.cons rfl (fun K hK => ?_) AllReadyH.nil
    go_simp
    go_at_call 177
    refine (HC.out _ (((Below.refl _ _).alloc (Nat.le_refl _) _).drew)).mono ?_
    rintro e w4 ⟨g, o, capg, rfl, hgg, ho, hbx⟩
    refine hK.out _ _ (by (rcases hHeld with ⟨q0, q1⟩; exact ⟨(hbx.cell (p := ⟨w.heap.size, 0, none⟩) (by simp)).trans q0, (hbx.cell (p := ⟨w.heap.size, 1, none⟩) (by simp)).trans q1⟩)) (fun hHeld => ?_)
    clear hK K
    refine wpAnyH_ready (rs := [2]) (by kernel_rfl) (by simp) ?_
    refine AllReadyH.cons rfl (fun K hK => ?_) AllReadyH.nil
    go_simp
    refine hK.out _ _ (by first | assumption | go_keep) (fun hHeld => ?_)
    clear hK K
    refine wpAnyH_ready (rs := [5]) (by kernel_rfl) (by simp) ?_
    refine AllReadyH.cons rfl (fun K hK => ?_) AllReadyH.nil
    go_simp
    refine hK.out _ _ (by first | assumption | go_keep) (fun hHeld => ?_)
    clear hK K
    refine wpAnyH_ready (rs := [6]) (by kernel_rfl) (by simp) ?_
    refine AllReadyH.cons rfl (fun K hK => ?_) AllReadyH.nil
    go_simp
    refine hK.out _ _ (by first | assumption | go_keep) (fun hHeld => ?_)
    clear hK K
    refine wpAnyH_take (i := 7) (v := undef) rfl (by kernel_rfl) (by kernel_rfl) (by kernel_rfl) (fun _ _ _ h => h) (Or.inr ⟨by rfl, rfl⟩) (by assumption) ?_
    simp only [Act.put]
    refine wpAnyH_take (i := 8) (v := undef) rfl (by kernel_rfl) (by kernel_rfl) (by kernel_rfl) (fun _ _ _ h => h) (Or.inr ⟨by rfl, rfl⟩) (by assumption) ?_
    simp only [Act.put]
    refine wpAnyH_take (i := 9) (v := undef) rfl (by kernel_rfl) (by kernel_rfl) (by kernel_rfl) (fun _ _ _ h => h) (Or.inr ⟨by rfl, rfl⟩) (by assumption) ?_
    simp only [Act.put]
    refine wpAnyH_take (i := 10) (v := undef) rfl (by kernel_rfl) (by kernel_rfl) (by kernel_rfl) (fun _ _ _ h => h) (Or.inr ⟨by rfl, rfl⟩) (by assumption) ?_
    simp only [Act.put]
    refine wpAnyH_take (i := 11) (v := undef) rfl (by kernel_rfl) (by kernel_rfl) (by kernel_rfl) (fun _ _ _ h => h) (Or.inr ⟨by rfl, rfl⟩) (by assumption) ?_
    simp only [Act.put]
    refine wpAnyH_take (i := 12) (v := undef) rfl (by kernel_rfl) (by kernel_rfl) (by kernel_rfl) (fun _ _ _ h => h) (Or.inr ⟨by rfl, rfl⟩) (by assumption) ?_
    simp only [Act.put]
    refine wpAnyH_take (i := 13) (v := undef) rfl (by kernel_rfl) (by kernel_rfl) (by kernel_rfl) (fun _ _ _ h => h) (Or.inr ⟨by rfl, rfl⟩) (by assumption) ?_
    simp only [Act.put]
    refine wpAnyH_ready (rs := [14]) (by kernel_rfl) (by simp) ?_
    refine AllReadyH.cons rfl (fun K hK => ?_) AllReadyH.nil
    go_simp
    refine hK.out _ _ (by first | assumption | go_keep) (fun hHeld => ?_)
    clear hK K
    refine wpAnyH_ready (rs := [15]) (by kernel_rfl) (by simp) ?_
    refine AllReadyH.cons rfl (fun K hK => ?_) AllReadyH.nil
    go_simp
    refine hK.out _ _ (by first | assumption | go_keep) (fun hHeld => ?_)
    clear hK K
    refine wpAnyH_done (by kernel_rfl) ?_ _
    go_wp2
    go_ret
    exact ⟨rfl, (((Below.refl w.heap.size w).alloc (Nat.le_refl _) _).drew).trans (hbx.mono (by simp))⟩

theorem istree_v {N : Nat} {ps : List Pp} {v : Bool} (hv : treeB N ps = v) (A : Option Addr) (cap : Nat) (w : World) (h : PAt w A ps) (hg : P2.Good N ps) :
    Calls Try.prog 158 #[nv N A ps.length cap] w fun e w' => e = .returned (.bool v) ∧ Below w.heap.size w w' := by
  rw [← hv]; exact istree_any N A cap ps w h hg
theorem stree_v {N : Nat} {ps : List Pp} {v : Bool} (hv : treeB N ps = v) (A : Option Addr) (cap : Nat) (w : World) (h : PAt w A ps) (hg : P2.Good N ps) :
    Calls Try.prog 183 #[nv N A ps.length cap] w fun e w' => e = .returned (.bool v) ∧ Below w.heap.size w w' := by
  rw [← hv]; exact stree_any N A cap ps w h hg

/-- Its number of nodes is a small number. -/
theorem good_nat {n : Int} {ps : List Pp} (hg : P2.Good n ps) : ∃ N : Nat, n = N := ⟨n.toNat, by have := hg.1; omega⟩

/-- IsTreeNetwork's answer. -/
noncomputable def isTA (n : Int) (ps : List Pp) : Bool × Bool := (goodB n ps && treeB n.toNat ps, goodB n ps)

set_option maxHeartbeats 1000000 in
theorem itn_any (n : Int) (A : Option Addr) (cap : Nat) (ps : List Pp) (w : World) (h : PAt w A ps) (hm : ps.length ≤ maxLen) :
    Calls Try.prog 56 #[nv n A ps.length cap] w fun e w' => e = .returned (.tuple #[.bool (isTA n ps).1, .bool (isTA n ps).2]) ∧ Below w.heap.size w w' := by
  unfold isTA
  cases hv : goodB n ps with
  | false =>
    have H := Lib.hid (fun w' (hb : Below w.heap.size w w') => valid_v hv A cap w' (h.kept hb (Nat.le_refl _)) hm)
    clear h hv
    go_enter Try.func56, Try.ntmps56
    go_wp2_with (go_at_call 115; refine (H.out _ ((Below.refl _ _).alloc (Nat.le_refl _) _)).mono ?_; rintro e w1 ⟨rfl, hb1⟩)
    go_ret2
    exact ⟨rfl, below_alloc_call hb1⟩
  | true =>
    have hg := good_of hv
    obtain ⟨N, rfl⟩ := good_nat hg
    obtain ⟨v, hvv⟩ : ∃ v, treeB N ps = v := ⟨_, rfl⟩
    have H := Lib.hid (fun w' (hb : Below w.heap.size w w') => valid_v hv A cap w' (h.kept hb (Nat.le_refl _)) hm)
    have HT := Lib.hid (fun w' (hb : Below w.heap.size w w') => istree_v hvv A cap w' (h.kept hb (Nat.le_refl _)) hg)
    simp only [Int.toNat_natCast, Bool.true_and]
    rw [hvv]
    clear h hv hg hvv
    go_enter Try.func56, Try.ntmps56
    go_wp2_with (first
      | (go_at_call 115; refine (H.out _ ((Below.refl _ _).alloc (Nat.le_refl _) _)).mono ?_; rintro e w1 ⟨rfl, hb1⟩; obtain ⟨hc1, hf1⟩ := bcell hb1; have hz1 := hb1.size; simp at hz1; have hb2 := Lib.hid (below_alloc_call hb1))
      | (go_at_call 158; refine (HT.out _ hb2.out).mono ?_; rintro e w2 ⟨rfl, hb3⟩))
    go_ret2
    exact ⟨rfl, hb2.out.trans (hb3.mono hb2.out.size)⟩

end Go.Proofs.Ytgjogjmfpbinfaa.S2

namespace Go.Proofs.Ytgjogjmfpbinfaa.S2
open Go.RowKit P2

/-- A small list: as many numbers as there are nodes, or pipes. -/
theorem amt_len {l : List Int} {n a b : Int} (h : amtB l n a b = true) : (l.length : Int) = n ∧ allR a b l = true := by
  unfold amtB at h
  rw [Bool.and_eq_true, decide_eq_true_eq] at h
  exact h
theorem demB_of {n : Int} {ps : List Pp} {dm : List Int} (h : demB n ps dm = true) : P2.Good n ps ∧ (dm.length : Int) = n ∧ allR 0 1000 dm = true := by
  unfold demB at h
  rw [Bool.and_eq_true] at h
  exact ⟨good_of h.1, amt_len h.2⟩
theorem floB_of {n : Int} {ps : List Pp} {fl : List Int} (h : floB n ps fl = true) : P2.Good n ps ∧ fl.length = ps.length ∧ allR (-8000) 8000 fl = true := by
  unfold floB at h
  rw [Bool.and_eq_true] at h
  have := amt_len h.2
  exact ⟨good_of h.1, by omega, this.2⟩

abbrev nb (n : Int) (A : Option Addr) (len cap : Nat) : Obj := .cells #[.int .i64 n, .slice A len cap] 30
theorem below3 (w : World) (o1 o2 o3 : Obj) : Below (w.heap.size + 1) (w.alloc o1) (((w.alloc o1).alloc o2).alloc o3) := (((Below.refl _ _).alloc (by simp) _).alloc (by simp) _)
theorem lift1 {w w1 w2 : World} (h : Below (w.heap.size + 1) w w1) (hb : Below w1.heap.size w1 w2) (hz : w.heap.size + 1 ≤ w1.heap.size) : Below (w.heap.size + 1) w w2 := h.trans (hb.mono hz)
end Go.Proofs.Ytgjogjmfpbinfaa.S2

namespace Go.Proofs.Ytgjogjmfpbinfaa.S2
open Go.RowKit P2

/-- Two fresh slices of numbers beside a bool. -/
def GivesII (w : World) (I J : List Int) (ok : Bool) (e : Ending) (w' : World) : Prop :=
  ∃ g c g2 c2, e = .returned (.tuple #[.slice (some ⟨g, 0, none⟩) I.length c, .slice (some ⟨g2, 0, none⟩) J.length c2, .bool ok]) ∧ w.heap.size ≤ g ∧ w.heap.size ≤ g2 ∧ g ≠ g2 ∧ IOwn w' w.heap.size (.slice (some ⟨g, 0, none⟩) I.length c) I ∧ IOwn w' w.heap.size (.slice (some ⟨g2, 0, none⟩) J.length c2) J ∧ Below w.heap.size w w'
/-- Two slices of numbers beside a bool, made by the call, wherever they start. -/
def GivesAA (w : World) (I J : List Int) (ok : Bool) (e : Ending) (w' : World) : Prop :=
  ∃ g o c g2 o2 c2, e = .returned (.tuple #[.slice (some ⟨g, o, none⟩) I.length c, .slice (some ⟨g2, o2, none⟩) J.length c2, .bool ok]) ∧ w.heap.size ≤ g ∧ w.heap.size ≤ g2 ∧ IAt w' (some ⟨g, o, none⟩) I ∧ IAt w' (some ⟨g2, o2, none⟩) J ∧ Below w.heap.size w w' ∧ g < w'.heap.size ∧ g2 < w'.heap.size
theorem GivesII.any {w : World} {I J : List Int} {ok : Bool} {e : Ending} {w' : World} (h : GivesII w I J ok e w') : GivesAA w I J ok e w' := by
  obtain ⟨g, c, g2, c2, he, hg, hg2, _, hI, hJ, hb⟩ := h
  exact ⟨g, 0, c, g2, 0, c2, he, hg, hg2, hI.iat, hJ.iat, hb, (World.ownsRow.lt hI g rfl).2, (World.ownsRow.lt hJ g2 rfl).2⟩
theorem made_row (l : List Int) (w : World) (hn : l.length ≤ 1048576) : Hid ((w.alloc (.cells (madeCells #[.int .i64 0] l.length) 3)).ownsRow w.heap.size 3 1 (.slice (some ⟨w.heap.size, 0, none⟩) l.length l.length) l.length (fiI l 0)) := Lib.hid (made_own l w hn)
end Go.Proofs.Ytgjogjmfpbinfaa.S2

namespace Go.Proofs.Ytgjogjmfpbinfaa.S2
open Go.RowKit P2

theorem cells_new4 (w : World) (a b c d : Value) : ∀ j u, [a, b, c, d][j]? = some u → (w.alloc (.cells #[a, b, c, d] 75)).cell? ((⟨w.heap.size, 0, none⟩ : Addr).add j) = some u := by
  intro j u hu
  match j, hu with
  | 0, hu => rw [add_plus, World.cell?_alloc_at _ _ _ _ rfl]; simpa using hu
  | 1, hu => rw [add_plus, World.cell?_alloc_at _ _ _ _ rfl]; simpa using hu
  | 2, hu => rw [add_plus, World.cell?_alloc_at _ _ _ _ rfl]; simpa using hu
  | 3, hu => rw [add_plus, World.cell?_alloc_at _ _ _ _ rfl]; simpa using hu
  | j + 4, hu => simp at hu
/-- A network in a box of its own. -/
def TB (w : World) (T : Nat) (x v : Value) : Prop := w.heap[T]? = some (.cells #[x, v] 30 (0, 0))
theorem TB.lt {w : World} {T : Nat} {x v : Value} (h : TB w T x v) : T < w.heap.size := (Array.getElem?_eq_some_iff.1 h).1
theorem TB.cell {w : World} {T : Nat} {x v : Value} (h : TB w T x v) : w.cell? ⟨T, 0, none⟩ = some x ∧ w.cell? ⟨T, 1, none⟩ = some v := by
  rw [cell_of_row w T 0 _ 30 (0, 0) h, cell_of_row w T 1 _ 30 (0, 0) h]
  exact ⟨rfl, rfl⟩
theorem TB.frozen {w : World} {T : Nat} {x v : Value} (h : TB w T x v) (o : Nat) : w.frozen? ⟨T, o, none⟩ = false := by
  unfold TB at h
  simp [World.frozen?, h]
theorem TB.set1 {w : World} {T : Nat} {x v : Value} (h : TB w T x v) (u : Value) : TB (w.setCell ⟨T, 1, none⟩ u) T x u := by
  unfold TB at h ⊢
  simp [World.setCell, Array.getElem?_modify, h]
theorem TB.kept {w w' : World} {T : Nat} {x v : Value} (h : TB w T x v) (hb : w'.heap[T]? = w.heap[T]?) : TB w' T x v := hb.trans h
theorem TB.below {w w' : World} {T : Nat} {x v : Value} (h : TB w T x v) (hb : Below w.heap.size w w') : TB w' T x v := h.kept (hb.block T h.lt)
theorem TB.other {w : World} {T : Nat} {x v : Value} (h : TB w T x v) {p : Addr} (u : Value) (hp : T ≠ p.block) : TB (w.setCell p u) T x v := h.kept (Below.heap_setCell _ _ _ _ (by intro e; exact hp (by rw [e])))
theorem TB.grown {w w' : World} {T g : Nat} {x v : Value} (h : TB w T x v) (hg : w.grownBy w' (some g)) (hne : T ≠ g) : TB w' T x v := h.kept (hg.block T h.lt (by simp; exact hne))
theorem TB.made (w : World) (x v : Value) : TB (w.alloc (.cells #[x, v] 30)) w.heap.size x v := by
  unfold TB
  simpa using (MapKept.heap_alloc w (.cells #[x, v] 30)).1

set_option maxHeartbeats 1000000 in
theorem isp_bad (n : Int) (A : Option Addr) (cap : Nat) (ps : List Pp) (w : World) (h : PAt w A ps) (hm : ps.length ≤ maxLen) (hv : goodB n ps = false) :
    Calls Try.prog 91 #[nv n A ps.length cap] w (GivesN0 w 0 false) := by
  have HW0 := Lib.hid (show Below w.heap.size w ((w.alloc (nb n A ps.length cap)).alloc (nb 0 none 0 0)) from ((Below.refl _ _).alloc (Nat.le_refl _) _).alloc (by simp) _)
  have H := Lib.hid (fun w' (hb : Below w.heap.size w w') => valid_v hv A cap w' (h.kept hb (Nat.le_refl _)) hm)
  clear h hv
  go_enter Try.func91, Try.ntmps91
  go_wp2_with (first | (go_at_call 115; refine (H.out _ HW0.out).mono ?_; rintro e w1 ⟨rfl, hb1⟩; obtain ⟨hc1, hf1⟩ := bcell hb1; have hz1 := hb1.size; simp at hz1; have hq0 : w.heap.size < w1.heap.size := (by omega); have hq1 : w.heap.size + 1 < w1.heap.size := (by omega)) | fail)
  have hB := HW0.out.trans (hb1.mono HW0.out.size)
  exact bodyPost_ret (v := .tuple #[nv 0 none 0 0, .bool false]) (by simp [results, Try.results91, go_sem, hc1]) rfl ⟨rfl, (hB.setCell (p := ⟨w.heap.size + 1, 0, none⟩) (by show w.heap.size ≤ w.heap.size + 1; omega) _).setCell (p := ⟨w.heap.size + 1, 1, none⟩) (by show w.heap.size ≤ w.heap.size + 1; omega) _⟩

/-- What the loop keeps behind k pipes. -/
def SpR (ps : List Pp) (w wr : World) (N T k : Nat) (A2 : Option Addr) (c : Nat) : Prop :=
  TB wr (w.heap.size + 1) (.int .i64 0) (.slice none 0 0) ∧ TB wr T (.int .i64 N) (.slice A2 (spT ps k).length c) ∧ wr.ownsRow (T + 1) 75 4 (.slice A2 (spT ps k).length c) (spT ps k).length (pcs (spT ps k)) ∧ (spT ps k = [] → A2 = none ∧ c = 0)

set_option maxHeartbeats 4000000 in
set_option maxRecDepth 100000 in
theorem isp_yes (N : Nat) (A : Option Addr) (cap : Nat) (ps : List Pp) (w : World) (h : PAt w A ps) (hm : ps.length ≤ maxLen) (hv : goodB N ps = true) :
    Calls Try.prog 91 #[nv N A ps.length cap] w fun e w' =>
      (treeB N (spL ps) = true ∧ (∃ A2 c B, e = .returned (.tuple #[nv N A2 (spL ps).length c, .bool true]) ∧ w'.ownsRow B 75 4 (.slice A2 (spL ps).length c) (spL ps).length (pcs (spL ps)) ∧ w.heap.size ≤ B ∧ (spL ps = [] → A2 = none ∧ c = 0)) ∧ Below w.heap.size w w') ∨
      (treeB N (spL ps) = false ∧ GivesN0 w 0 false e w') := by
  have hg := good_of hv
  have hN : N ≤ 8 := by have := hg.2.1; omega
  have hl10 := hg.2.2.1
  have HW0 := Lib.hid (show Below w.heap.size w ((w.alloc (nb N A ps.length cap)).alloc (nb 0 none 0 0)) from ((Below.refl _ _).alloc (Nat.le_refl _) _).alloc (by simp) _)
  have HR0 := Lib.hid (show TB ((w.alloc (nb N A ps.length cap)).alloc (nb 0 none 0 0)) (w.heap.size + 1) (.int .i64 0) (.slice none 0 0) from by
    have := TB.made (w.alloc (nb N A ps.length cap)) (.int .i64 0) (.slice none 0 0)
    simpa using this)
  have HB3 := Lib.hid (fun w1 (hb : Below ((w.alloc (nb N A ps.length cap)).alloc (nb 0 none 0 0)).heap.size ((w.alloc (nb N A ps.length cap)).alloc (nb 0 none 0 0)) w1) => (show Below (w.heap.size + 1) (w.alloc (nb N A ps.length cap)) w1 from ((Below.refl _ _).alloc (by simp) _).trans (hb.mono (by simp))))
  have H := Lib.hid (fun w' (hb : Below w.heap.size w w') => valid_v hv A cap w' (h.kept hb (Nat.le_refl _)) hm)
  have HA := Lib.hid h
  have HG := Lib.hid hg
  have HDI := Lib.hid (fun (k t : Nat) (hk : k ≤ ps.length) A2 c2 w' (h2 : PAt w' A2 (spT ps k)) h3 h4 => dist_any N t A2 c2 (spT ps k) w' h2 (spT_good hg k hk) h3 h4)
  have HTR := Lib.hid (fun v (hv : treeB N (spL ps) = v) A2 c2 w' (h2 : PAt w' A2 (spL ps)) => istree_v hv A2 c2 w' h2 (spT_good hg ps.length (Nat.le_refl _)))
  obtain ⟨i0, hi0, hz0, hz1, hz2⟩ := info_parts infoP
  clear h hv hg hm
  go_enter Try.func91, Try.ntmps91
  go_wp2_with (first | (go_at_call 115; refine (H.out _ HW0.out).mono ?_; rintro e w1 ⟨rfl, hb1⟩; have HB1 := Lib.hid (HB3.out _ hb1); have hR0 := Lib.hid (HR0.out.below hb1); clear HR0 hb1; obtain ⟨b0, b1⟩ := box2 HB1.out; have hz3 := box_lt HB1.out; have hlt1 := hR0.out.lt) | fail)
  have HB4 := Lib.hid (HB1.out.alloc (by omega) (nb N none 0 0))
  have HS0 := Lib.hid (show SpR ps w (w1.alloc (nb N none 0 0)) N w1.heap.size 0 none 0 from ⟨hR0.out.below ((Below.refl _ _).alloc (Nat.le_refl _) _), TB.made w1 _ _, World.ownsRow_nil _ _ _ _, fun _ => ⟨rfl, rfl⟩⟩)
  have hTw : w.heap.size + 1 < w1.heap.size := hlt1
  clear H HW0 HB3 hR0 HB1 b0 b1 hz3 hlt1
  generalize w1.heap.size = T at *
  go_loopw [17] (fun i wr => ∃ (k : Nat) (A2 : Option Addr) (c : Nat), k ≤ ps.length ∧ i = .int .i64 (k : Int) ∧ Hid (SpR ps w wr N T k A2 c) ∧ Hid (Below (w.heap.size + 1) (w.alloc (nb N A ps.length cap)) wr)) (fun i _ => ps.length - (intOf i).toNat)
  case atStart => exact ⟨0, none, 0, Nat.zero_le _, rfl, HS0, HB4⟩
  case round =>
    clear HS0 HB4
    obtain ⟨k, A2, c, hk, rfl, HS, HB⟩ := hrel
    obtain ⟨b0, b1⟩ := box2 HB.out
    have hz := box_lt HB.out
    obtain ⟨t0, t1⟩ := HS.out.2.1.cell
    have htl := HS.out.2.1.lt
    have hsl := spT_len ps k hk
    by_cases hlt : k < ps.length
    · obtain ⟨b, off, hA, hbl, h0, h1, h2, h3⟩ := HA.out.at_ hlt
      subst hA
      have hbc : ∀ o, wr.cell? ⟨b, o, none⟩ = w.cell? ⟨b, o, none⟩ := fun o => (below_box HB.out).cell (p := ⟨b, o, none⟩) hbl
      have p0 := (hbc _).trans h0
      have p1 := (hbc _).trans h1
      have p2 := (hbc _).trans h2
      have p3 := (hbc _).trans h3
      have hmem : pAt ps k ∈ ps := by
        have e : pAt ps k = ps[k] := by simp [pAt, List.getD, hlt]
        rw [e]; exact List.getElem_mem hlt
      have hok := good_pp HG.out hmem
      have HY := Lib.hid (spT_same (ps := ps) (k := k))
      have HNo := Lib.hid (spT_more (ps := ps) (k := k))
      have hk0i : (0 : Int) ≤ (k : Int) := by omega
      have hk1i : (k : Int) < (ps.length : Int) := by omega
      unfold PpOk at hok
      clear hbc h0 h1 h2 h3 hmem
      generalize pAt ps k = p at *
      obtain ⟨pid, pfr, pto, psz⟩ := p
      simp only at hok p0 p1 p2 p3
      obtain ⟨fr, rfl⟩ : ∃ f : Nat, pfr = f := ⟨pfr.toNat, by omega⟩
      obtain ⟨tt, rfl⟩ : ∃ f : Nat, pto = f := ⟨pto.toNat, by omega⟩
      have hf1 : 1 ≤ fr := by omega
      have hf2 : fr ≤ N := by omega
      have ht0 : (0 : Int) ≤ (tt : Int) := by omega
      have htN : (tt : Int) < (N : Int) + 1 := by omega
      obtain ⟨x, hx⟩ : ∃ x, dist (spT ps k) (fr : Int) (tt : Int) = x := ⟨_, rfl⟩
      have HX := Lib.hid (show dA (distL N (spT ps k) fr) tt = x by rw [distL_at N _ fr tt (by omega) (by omega)]; exact hx)
      have HXC := Lib.hid (show x ≠ -1 ↔ Conn (spT ps k) (fr : Int) (tt : Int) from by rw [← hx, dist_conn]; exact ⟨Conn.sy, Conn.sy⟩)
      have HLL := Lib.hid (distL_len N (spT ps k) fr)
      clear hok hx
      have hqa := (Below.refl wr.heap.size wr).alloc (Nat.le_refl _) (.cells #[.int .i64 pid, .int .i64 (fr : Int), .int .i64 (tt : Int), .int .i64 psz] 75)
      have HBq := Lib.hid (on_call HB.out hqa)
      have HSq := Lib.hid (show SpR ps w _ N T k A2 c from ⟨HS.out.1.below hqa, HS.out.2.1.below hqa, own_onP HS.out.2.2.1 hqa, HS.out.2.2.2⟩)
      have u0 := (hqa.cell (p := ⟨T, 0, none⟩) htl).trans t0
      have u1 := (hqa.cell (p := ⟨T, 1, none⟩) htl).trans t1
      have r0 : (wr.alloc (.cells #[.int .i64 pid, .int .i64 (fr : Int), .int .i64 (tt : Int), .int .i64 psz] 75)).cell? ⟨wr.heap.size, 0, none⟩ = some (.int .i64 pid) := by rw [World.cell?_alloc_at _ _ _ _ rfl]; rfl
      have r1 : (wr.alloc (.cells #[.int .i64 pid, .int .i64 (fr : Int), .int .i64 (tt : Int), .int .i64 psz] 75)).cell? ⟨wr.heap.size, 1, none⟩ = some (.int .i64 (fr : Int)) := by rw [World.cell?_alloc_at _ _ _ _ rfl]; rfl
      have r2 : (wr.alloc (.cells #[.int .i64 pid, .int .i64 (fr : Int), .int .i64 (tt : Int), .int .i64 psz] 75)).cell? ⟨wr.heap.size, 2, none⟩ = some (.int .i64 (tt : Int)) := by rw [World.cell?_alloc_at _ _ _ _ rfl]; rfl
      have r3 : (wr.alloc (.cells #[.int .i64 pid, .int .i64 (fr : Int), .int .i64 (tt : Int), .int .i64 psz] 75)).cell? ⟨wr.heap.size, 3, none⟩ = some (.int .i64 psz) := by rw [World.cell?_alloc_at _ _ _ _ rfl]; rfl
      have hzq : wr.heap.size < (wr.alloc (.cells #[.int .i64 pid, .int .i64 (fr : Int), .int .i64 (tt : Int), .int .i64 psz] 75)).heap.size := by simp
      go_wp2
      generalize wr.alloc (.cells #[.int .i64 pid, .int .i64 (fr : Int), .int .i64 (tt : Int), .int .i64 psz] 75) = wq at *
      obtain ⟨Q, hQ⟩ : ∃ Q, wr.heap.size = Q := ⟨_, rfl⟩
      have hTq : T < wq.heap.size := by omega
      have hQT : T ≠ Q := by omega
      rw [hQ] at r0 r1 r2 r3 hzq
      simp only [hQ]
      clear HB HS hqa t0 t1 p0 p1 p2 p3 b0 b1 hbl hQ htl hz
      refine wp_region_held_drew (S := fun w' => w'.cell? ⟨T, 0, none⟩ = some (.int .i64 N) ∧ w'.cell? ⟨T, 1, none⟩ = some (.slice A2 (spT ps k).length c) ∧ w'.cell? ⟨Q, 0, none⟩ = some (.int .i64 pid) ∧ w'.cell? ⟨Q, 1, none⟩ = some (.int .i64 (fr : Int)) ∧ w'.cell? ⟨Q, 2, none⟩ = some (.int .i64 (tt : Int)) ∧ w'.cell? ⟨Q, 3, none⟩ = some (.int .i64 psz)) (by kernel_rfl) (by go_keep) (fun hHeld => ?_)
      refine wpAnyH_take (i := 0) (v := .agg #[.int .i64 N, .slice A2 (spT ps k).length c]) rfl (by kernel_rfl) (by kernel_rfl) (by kernel_rfl) (fun _ _ _ h => h) (Or.inl ⟨by rfl, ?_⟩) (by assumption) ?_
      · (intro w hSw; (try dsimp only at hSw); go_simp)
      simp only [Act.put, List.setIfInBounds_toArray]
      refine wpAnyH_take (i := 1) (v := .pointer (some ⟨Q, 1, none⟩)) rfl (by kernel_rfl) (by kernel_rfl) (by kernel_rfl) (fun _ _ _ h => h) (Or.inl ⟨by rfl, ?_⟩) (by assumption) ?_
      · (intro w hSw; (try dsimp only at hSw); go_simp)
      simp only [Act.put]
      refine wpAnyH_take (i := 2) (v := .int .i64 (fr : Int)) rfl (by kernel_rfl) (by kernel_rfl) (by kernel_rfl) (fun _ _ _ h => h) (Or.inl ⟨by rfl, ?_⟩) (by assumption) ?_
      · (intro w hSw; (try dsimp only at hSw); go_simp)
      simp only [Act.put]
      refine wpAnyH_take (i := 4) (v := .pointer (some ⟨Q, 2, none⟩)) rfl (by kernel_rfl) (by kernel_rfl) (by kernel_rfl) (fun _ _ _ h => h) (Or.inl ⟨by rfl, ?_⟩) (by assumption) ?_
      · (intro w hSw; (try dsimp only at hSw); go_simp)
      simp only [Act.put]
      refine wpAnyH_take (i := 5) (v := .int .i64 (tt : Int)) rfl (by kernel_rfl) (by kernel_rfl) (by kernel_rfl) (fun _ _ _ h => h) (Or.inl ⟨by rfl, ?_⟩) (by assumption) ?_
      · (intro w hSw; (try dsimp only at hSw); go_simp)
      simp only [Act.put]
      refine wpAnyH_ready (rs := [3]) (by kernel_rfl) (by simp) ?_
      refine AllReadyH.cons rfl (fun K hK => ?_) AllReadyH.nil
      go_simp
      go_at_call 157
      refine (HDI.out k fr hk _ _ _ (own_patP (own_onP HSq.out.2.2.1 (Below.refl _ _).drew)) hf1 hf2).mono ?_
      rintro e w5 ⟨⟨gD, D, rfl, hgD, hdr, hDe⟩, hbx⟩
      have cx := hdr.cell (v := tt) (by rw [hDe, HLL.out]; omega)
      rw [hDe, HX.out] at cx
      refine hK.out _ _ (by (rcases hHeld with ⟨q0, q1, q2, q3, q4, q5⟩; exact ⟨(hbx.cell (p := ⟨T, 0, none⟩) hTq).trans q0, (hbx.cell (p := ⟨T, 1, none⟩) hTq).trans q1, (hbx.cell (p := ⟨Q, 0, none⟩) hzq).trans q2, (hbx.cell (p := ⟨Q, 1, none⟩) hzq).trans q3, (hbx.cell (p := ⟨Q, 2, none⟩) hzq).trans q4, (hbx.cell (p := ⟨Q, 3, none⟩) hzq).trans q5⟩)) (fun hHeld => ?_)
      clear hK K
      refine wpAnyH_ready (rs := [6]) (by kernel_rfl) (by simp) ?_
      refine AllReadyH.cons rfl (fun K hK => ?_) AllReadyH.nil
      go_simp
      refine hK.out _ _ (by first | assumption | go_keep) (fun hHeld => ?_)
      clear hK K
      refine wpAnyH_ready (rs := [7]) (by kernel_rfl) (by simp) ?_
      refine AllReadyH.cons rfl (fun K hK => ?_) AllReadyH.nil
      go_simp
      refine hK.out _ _ (by first | assumption | go_keep) (fun hHeld => ?_)
      clear hK K
      refine wpAnyH_ready (rs := [8]) (by kernel_rfl) (by simp) ?_
      refine AllReadyH.cons rfl (fun K hK => ?_) AllReadyH.nil
      go_simp
      refine hK.out _ _ (by first | assumption | go_keep) (fun hHeld => ?_)
      clear hK K
      refine wpAnyH_done (by kernel_rfl) ?_ _
      obtain ⟨q0, q1, q2, q3, q4, q5⟩ := hHeld
      have HB5 := Lib.hid (HBq.out.drew.trans (hbx.mono (by have := (below_box HBq.out).size; show w.heap.size + 1 ≤ wq.heap.size; omega)))
      have hby : Below wq.heap.size wq w5 := ((Below.refl wq.heap.size wq).drew).trans (show Below wq.heap.size wq.drew w5 from hbx)
      have HS5 := Lib.hid (show SpR ps w w5 N T k A2 c from ⟨HSq.out.1.below hby, HSq.out.2.1.below hby, own_onP HSq.out.2.2.1 hby, HSq.out.2.2.2⟩)
      have hs5 : wq.heap.size ≤ w5.heap.size := hbx.size
      clear HBq HSq hbx hby hdr cx hDe hgD
      by_cases hx1 : x = -1
      · have hE : (x == -1) = true := by simpa using hx1
        have hs := Lib.hid (HNo.out (fun hc => HXC.out.2 hc hx1))
        have ho := HS5.out.2.2.1
        have f1 := HS5.out.2.1.frozen 1
        have hTl := HS5.out.2.1.lt
        clear hx1
        go_wp2_with (at_builtin; go_must (refine wpList_append_own _ rfl _ _ 28 rfl (T + 1) 75 i0 _ 4 32 Try.underlying28 hi0 hz0 hz1 hz2 rfl (by omega) _ _ _ rfl (ho.alloc _) ⟨w5.heap.size, 0, none⟩ 1 1 (pcs4 ⟨pid, fr, tt, psz⟩) rfl rfl (cells_new4 _ _ _ _ _) (by intro u hu; simp [pcs4] at hu; rcases hu with rfl | rfl | rfl | rfl <;> rfl) (by unfold maxLen; omega) (by omega) (by simp; omega) ?_))
        intro v' w7 hown' hgrow hnil
        have hbl5 := (Below.refl w5.heap.size w5).alloc (Nat.le_refl _) (.cells #[.int .i64 pid, .int .i64 (fr : Int), .int .i64 (tt : Int), .int .i64 psz] 75)
        have HR1 := Lib.hid (HS5.out.1.below hbl5)
        have HR2 := Lib.hid (HS5.out.2.1.below hbl5)
        have hne : ∀ g, (Value.slice A2 (spT ps k).length c).ownBlock = some g → T + 1 ≤ g := fun g hg => (ho.lt g hg).1
        have HT1 := Lib.hid (TB.kept HR1.out (hgrow.block _ HR1.out.lt (fun e => by have := hne _ e.symm; omega)))
        have HT2 := Lib.hid (TB.kept HR2.out (hgrow.block _ HR2.out.lt (fun e => by have := hne _ e.symm; omega)))
        have HB7 := Lib.hid ((HB5.out.alloc (by have := (below_box HB5.out).size; have := box_lt HB5.out; omega) (.cells #[.int .i64 pid, .int .i64 (fr : Int), .int .i64 (tt : Int), .int .i64 psz] 75)).grown hgrow (by have := box_lt HB5.out; simp; omega) (fun g hg => by have := hne g hg; omega))
        have hown2 : w7.ownsRow (T + 1) 75 4 v' (spT ps (k + 1)).length (pcs (spT ps (k + 1))) := by
          rw [hs.out, pcs_snoc, List.length_append]
          exact hown'
        obtain ⟨g3, c3, rfl⟩ : ∃ g3 c3, v' = .slice (some ⟨g3, 0, none⟩) (spT ps (k + 1)).length c3 := by
          rcases hown2.2 with ⟨hv, h0⟩ | ⟨g, cap', cur, hv, _⟩
          · exact (hnil hv).elim
          · exact ⟨g, cap', hv⟩
        have f7 := HT2.out.frozen 1
        have c7 := HT2.out.cell.2
        have hT7 := HT2.out.lt
        have hne7 : T ≠ g3 := by have := (hown2.lt g3 rfl).1; omega
        have HS7 := Lib.hid (show SpR ps w (w7.setCell ⟨T, 1, none⟩ (.slice (some ⟨g3, 0, none⟩) (spT ps (k + 1)).length c3)) N T (k + 1) (some ⟨g3, 0, none⟩) c3 from
          ⟨HT1.out.other _ (by show w.heap.size + 1 ≠ T; omega), HT2.out.set1 _, ownsRow_setCell_below hown2 (by show T < T + 1; omega) _, fun h => by rw [hs.out] at h; simp at h⟩)
        have HB8 := Lib.hid (HB7.out.setCell (p := ⟨T, 1, none⟩) (by show w.heap.size + 1 ≤ T; omega) (.slice (some ⟨g3, 0, none⟩) (spT ps (k + 1)).length c3))
        clear hown' hgrow hnil ho HR1 HR2 HT1 HT2 hown2 hne
        go_wp2
        go_roundw
        case rel => exact ⟨k + 1, some ⟨g3, 0, none⟩, c3, by omega, by go_num, HS7, HB8⟩
        case measure => simp [intOf]; omega
      · have hE : (x == -1) = false := by simpa using hx1
        have hs := Lib.hid (HY.out (HXC.out.1 hx1))
        have HS6 := Lib.hid (show SpR ps w w5 N T (k + 1) A2 c from by unfold SpR; rw [hs.out]; exact HS5.out)
        clear hx1
        go_wp2
        go_roundw
        case rel => exact ⟨k + 1, A2, c, by omega, by go_num, HS6, HB5⟩
        case measure => simp [intOf]; omega
    · have hkk : k = ps.length := by omega
      subst hkk
      have HP := Lib.hid (own_patP HS.out.2.2.1)
      obtain ⟨s0, s1⟩ := HS.out.1.cell
      have hsl1 := HS.out.1.lt
      have g0 := HS.out.1.frozen 0
      have g1 := HS.out.1.frozen 1
      cases hv : treeB N (spL ps) with
      | true =>
        have HC := Lib.hid (HTR.out true hv A2 c wr HP.out)
        have HV := Lib.hid hv
        clear hv
        go_wp2_with (first | (go_at_call 158; refine HC.out.mono ?_; rintro e w2 ⟨rfl, hb2⟩; have s0' := (hb2.cell (p := ⟨w.heap.size + 1, 0, none⟩) hsl1).trans s0; have s1' := (hb2.cell (p := ⟨w.heap.size + 1, 1, none⟩) hsl1).trans s1; have g0' := (hb2.frozen (p := ⟨w.heap.size + 1, 0, none⟩) hsl1).trans g0; have g1' := (hb2.frozen (p := ⟨w.heap.size + 1, 1, none⟩) hsl1).trans g1; have t0' := (hb2.cell (p := ⟨T, 0, none⟩) htl).trans t0; have t1' := (hb2.cell (p := ⟨T, 1, none⟩) htl).trans t1; have hsl2 : w.heap.size + 1 < w2.heap.size := Nat.lt_of_lt_of_le hsl1 hb2.size; have hB2 := Lib.hid (on_call HB.out hb2); have hO2 := Lib.hid (own_onP HS.out.2.2.1 hb2)) | fail)
        refine bodyPost_ret (v := .tuple #[nv N A2 (spL ps).length c, .bool true]) (by simp [results, Try.results91, go_sem, s0', s1']; rfl) rfl (.inl ⟨HV.out, ⟨A2, c, T + 1, rfl, ?_, by omega, HS.out.2.2.2⟩, ?_⟩)
        · exact ownsRow_setCell_below (ownsRow_setCell_below hO2.out (by show w.heap.size + 1 < T + 1; omega) _) (by show w.heap.size + 1 < T + 1; omega) _
        · exact ((below_box hB2.out).setCell (p := ⟨w.heap.size + 1, 0, none⟩) (by show w.heap.size ≤ w.heap.size + 1; omega) _).setCell (p := ⟨w.heap.size + 1, 1, none⟩) (by show w.heap.size ≤ w.heap.size + 1; omega) _
      | false =>
        have HC := Lib.hid (HTR.out false hv A2 c wr HP.out)
        have HV := Lib.hid hv
        clear hv
        go_wp2_with (first | (go_at_call 158; refine HC.out.mono ?_; rintro e w2 ⟨rfl, hb2⟩; have s0' := (hb2.cell (p := ⟨w.heap.size + 1, 0, none⟩) hsl1).trans s0; have s1' := (hb2.cell (p := ⟨w.heap.size + 1, 1, none⟩) hsl1).trans s1; have g0' := (hb2.frozen (p := ⟨w.heap.size + 1, 0, none⟩) hsl1).trans g0; have g1' := (hb2.frozen (p := ⟨w.heap.size + 1, 1, none⟩) hsl1).trans g1; have t0' := (hb2.cell (p := ⟨T, 0, none⟩) htl).trans t0; have t1' := (hb2.cell (p := ⟨T, 1, none⟩) htl).trans t1; have hsl2 : w.heap.size + 1 < w2.heap.size := Nat.lt_of_lt_of_le hsl1 hb2.size; have hB2 := Lib.hid (on_call HB.out hb2)) | fail)
        refine bodyPost_ret (v := .tuple #[nv 0 none 0 0, .bool false]) (by simp [results, Try.results91, go_sem, s0', s1']) rfl (.inr ⟨HV.out, rfl, ?_⟩)
        exact ((below_box hB2.out).setCell (p := ⟨w.heap.size + 1, 0, none⟩) (by show w.heap.size ≤ w.heap.size + 1; omega) _).setCell (p := ⟨w.heap.size + 1, 1, none⟩) (by show w.heap.size ≤ w.heap.size + 1; omega) _
end Go.Proofs.Ytgjogjmfpbinfaa.S2
