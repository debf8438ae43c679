/- What the model's and the program's SplitString return, in one form: contracts. Conditions: each theorem's own premises. -/
import Derived.Test.YtcheogmnhooffaaCallOne
import Derived.Test.YtcheogmnhooffaaMarkTwo
import Derived.Test.YtcheogmnhooffaaStrsOne
namespace Go.Proofs.Ytcheogmnhooffaa.S1
open Go.RowKit P1

/-- The strings ss lie in a slice of the call's own. -/
def Gives (w : World) (ss : List ByteArray) (ok : Bool) (e : Ending) (w' : World) : Prop :=
  ∃ g cap, e = .returned (.tuple #[.slice (some ⟨g, 0, none⟩) ss.length cap, .bool ok]) ∧ w'.ownsRow w.heap.size 9 1 (.slice (some ⟨g, 0, none⟩) ss.length cap) ss.length (ss.map Value.string) ∧ Below w.heap.size w w'

def pieces (b : UInt8) (s : ByteArray) : List ByteArray := (splitL b s.data.toList).map fun l => ⟨l.toArray⟩
theorem pieces_len (b : UInt8) (s : ByteArray) : (pieces b s).length = (splitL b s.data.toList).length := by simp [pieces]
theorem pieces_vals (b : UInt8) (s : ByteArray) : (pieces b s).map Value.string = (splitL b s.data.toList).map strV := by simp [pieces, strV]
theorem pieces_few (b : UInt8) (s : ByteArray) (h : s.size ≤ 4000) : (pieces b s).length ≤ 4001 := by
  have := splitL_len b s.data.toList
  rw [pieces_len]
  simp at this
  omega

theorem gives_own {w w' : World} {b : UInt8} {s : ByteArray} {v : Value} (h : OwnStrs w.heap.size v (splitL b s.data.toList) w') (hb : Below w.heap.size w w') : Gives w (pieces b s) true (.returned (.tuple #[v, .bool true])) w' := by
  unfold OwnStrs at h
  rw [← pieces_len, ← pieces_vals] at h
  obtain ⟨g, cap, rfl, _⟩ := World.ownsRow.form h (by rw [pieces_len]; exact List.length_pos_iff.2 (splitL_ne _ _))
  exact ⟨g, cap, rfl, h, hb⟩

theorem ssplit_yes (s : ByteArray) (b : UInt8) (w : World) (hs : s.size ≤ 4000) :
    Calls Try.prog 17 #[.string s, .string ⟨#[b]⟩] w fun e w' => Gives w (pieces b s) true e w' := by
  have H := Lib.hid (fun w => split_any s b _ rfl w (by omega))
  have h1 : (ByteArray.mk #[b]).size = 1 := rfl
  go_enter Try.func17, Try.ntmps17
  go_wp2_with (go_at_call 36; refine (H.out _).mono ?_; rintro e w1 ⟨v, rfl, ho, hb⟩)
  go_ret2
  exact gives_own ho hb

theorem gives_none (w : World) : Gives w [] false (.returned (.tuple #[.slice (some ⟨w.heap.size, 0, none⟩) 0 0, .bool false])) (w.alloc (.cells #[] 9)) :=
  ⟨_, _, rfl, own_empty w w.heap.size (Nat.le_refl _), (Below.refl _ _).alloc (Nat.le_refl _) _⟩

theorem ssplit_no (s sep : ByteArray) (w : World) (h : 4000 < s.size ∨ sep.size ≠ 1) :
    Calls Try.prog 17 #[.string s, .string sep] w fun e w' => Gives w [] false e w' := by
  by_cases h1 : sep.size = 1
  · have h4 : 4000 < s.size := by rcases h with h | h; exact h; exact absurd h1 h
    have hd : decide ((4000 : Int) < (s.size : Int)) = true := by simp; omega
    go_enter Try.func17, Try.ntmps17
    go_wp2
    go_ret2
    exact gives_none w
  · have hd : ((sep.size : Int) == 1) = false := by rw [beq_eq_false_iff_ne]; omega
    go_enter Try.func17, Try.ntmps17
    go_wp2
    go_ret2
    exact gives_none w

theorem split_yes (s : ByteArray) (b : UInt8) (w : World) (hs : s.size ≤ 4000) :
    Calls Try.prog 10 #[.string s, .string ⟨#[b]⟩] w (Gives w (pieces b s) true) :=
  (callsIn_wide.1 (split_in s ⟨#[b]⟩ rfl hs b rfl w)).mono fun _ _ ⟨_, he, ho, hb⟩ => by rw [he]; exact gives_own ho hb

theorem split_no_impl (s sep : ByteArray) (w : World) (h : 4000 < s.size ∨ sep.size ≠ 1) :
    Calls Try.prog 10 #[.string s, .string sep] w fun e w' => Gives w [] false e w' := by
  by_cases h4 : s.size ≤ 4000
  · have h1 : sep.size ≠ 1 := by rcases h with h | h; exact absurd h (by omega); exact h
    have hd0 : decide ((4000 : Int) < (s.size : Int)) = false := by simp; omega
    have hd : ((sep.size : Int) == 1) = false := by rw [beq_eq_false_iff_ne]; omega
    go_enter Try.func10, Try.ntmps10
    go_wp2
    go_ret2
    exact gives_none w
  · have hd : decide ((4000 : Int) < (s.size : Int)) = true := by simp; omega
    go_enter Try.func10, Try.ntmps10
    go_wp2
    go_ret2
    exact gives_none w

theorem at_own {w : World} {B g cap : Nat} {ss : List ByteArray} (h : w.ownsRow B 9 1 (.slice (some ⟨g, 0, none⟩) ss.length cap) ss.length (ss.map Value.string)) : At w g 0 ss := by
  refine ⟨(h.lt g rfl).2, fun j hj => ?_⟩
  rw [Nat.zero_add, h.cellAt j (by omega)]
  simp [List.getD, hj]
theorem at_kept {w w' : World} {b off B : Nat} {ss : List ByteArray} (h : At w b off ss) (hb : Below B w w') (hB : b < B) : At w' b off ss :=
  ⟨Nat.lt_of_lt_of_le h.1 hb.size, fun j hj => (hb.cell (p := ⟨b, off + j, none⟩) hB).trans (h.2 j hj)⟩
theorem eq_at (b off cap b2 off2 cap2 : Nat) (ss : List ByteArray) (w : World) (h : At w b off ss) (h2 : At w b2 off2 ss) (hn : ss.length ≤ 1048576) :
    Calls Try.prog 18 #[.slice (some ⟨b, off, none⟩) ss.length cap, .slice (some ⟨b2, off2, none⟩) ss.length cap2] w fun e w' => e = .returned (.bool true) ∧ Below w.heap.size w w' :=
  (eq_same b off cap b2 off2 cap2 ss w h h2 hn).mono fun _ _ ⟨he, d, hw⟩ => ⟨he, by rw [hw]; exact below_drewN (Below.refl _ _) d⟩
end Go.Proofs.Ytcheogmnhooffaa.S1
