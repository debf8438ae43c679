/- Whether a node is one of a valid network: contracts. Conditions: each theorem's own premises. -/
import Derived.Test.YtlkomipjamelkabGoodTwo
import Derived.Test.YtlkomipjamelkabBoxOne
namespace Go.Proofs.Ytlkomipjamelkab.S2
open Go.RowKit P2

/-- Is the network valid, and the node one of it? -/
def NodeIn (n : Int) (ps : List Pp) (x : Int) : Prop := P2.Good n ps ∧ 1 ≤ x ∧ x ≤ n
open Classical in
noncomputable def nodeB (n : Int) (ps : List Pp) (x : Int) : Bool := decide (NodeIn n ps x)
theorem nodeB_of {n : Int} {ps : List Pp} {x : Int} (h : nodeB n ps x = true) : NodeIn n ps x := by simpa [nodeB] using h
theorem nodeB_eq (n : Int) (ps : List Pp) (x : Int) : nodeB n ps x = (goodB n ps && decide (1 ≤ x) && decide (x ≤ n)) := by
  unfold nodeB goodB NodeIn
  rw [Bool.eq_iff_iff]
  simp [and_assoc]

theorem below_alloc_call {w w1 : World} {o : Obj} (h : Below (w.alloc o).heap.size (w.alloc o) w1) : Below w.heap.size w w1 :=
  ((Below.refl _ _).alloc (Nat.le_refl _) o).trans (h.mono (by simp))

set_option maxHeartbeats 1000000 in
theorem node_any (n : Int) (A : Option Addr) (cap : Nat) (ps : List Pp) (x : Int) (w : World) (h : PAt w A ps) (hm : ps.length ≤ maxLen) :
    Calls Try.prog 73 #[nv n A ps.length cap, .int .i64 x] w fun e w' => e = .returned (.bool (nodeB n ps x)) ∧ Below w.heap.size w w' := by
  rw [nodeB_eq]
  obtain ⟨v, hv⟩ : ∃ v, goodB n ps = v := ⟨_, rfl⟩
  have H := Lib.hid (fun w' (hb : Below w.heap.size w w') => valid_v hv A cap w' (h.kept hb (Nat.le_refl _)) hm)
  rw [hv]
  clear hv h
  cases v
  · rw [show (false && decide (1 ≤ x) && decide (x ≤ n)) = false from rfl]
    go_enter Try.func73, Try.ntmps73
    go_wp2_with (go_at_call 66; refine (H.out _ ((Below.refl _ _).alloc (Nat.le_refl _) _)).mono ?_; rintro e w1 ⟨rfl, hb1⟩)
    go_ret
    exact ⟨rfl, below_alloc_call hb1⟩
  · by_cases h1 : 1 ≤ x
    · rw [show (true && decide (1 ≤ x) && decide (x ≤ n)) = decide (x ≤ n) by simp [h1]]
      go_enter Try.func73, Try.ntmps73
      go_wp2_with (go_at_call 66; refine (H.out _ ((Below.refl _ _).alloc (Nat.le_refl _) _)).mono ?_; rintro e w1 ⟨rfl, hb1⟩; obtain ⟨hc1, hf1⟩ := bcell hb1)
      go_ret
      exact ⟨rfl, below_alloc_call hb1⟩
    · rw [show (true && decide (1 ≤ x) && decide (x ≤ n)) = false by simp [h1]]
      go_enter Try.func73, Try.ntmps73
      go_wp2_with (go_at_call 66; refine (H.out _ ((Below.refl _ _).alloc (Nat.le_refl _) _)).mono ?_; rintro e w1 ⟨rfl, hb1⟩)
      go_ret
      exact ⟨rfl, below_alloc_call hb1⟩

theorem sgood_v {n : Int} {ps : List Pp} {v : Bool} (hv : goodB n ps = v) (A : Option Addr) (cap : Nat) (w : World) (h : PAt w A ps) (hm : ps.length ≤ maxLen) :
    Calls Try.prog 104 #[nv n A ps.length cap] w fun e w' => e = .returned (.bool v) ∧ Below w.heap.size w w' := by
  rw [← hv]; exact sgood_any n A cap ps w h hm

set_option maxHeartbeats 1000000 in
theorem snode_any (n : Int) (A : Option Addr) (cap : Nat) (ps : List Pp) (x : Int) (w : World) (h : PAt w A ps) (hm : ps.length ≤ maxLen) :
    Calls Try.prog 61 #[nv n A ps.length cap, .int .i64 x] w fun e w' => e = .returned (.bool (nodeB n ps x)) ∧ Below w.heap.size w w' := by
  rw [nodeB_eq]
  obtain ⟨v, hv⟩ : ∃ v, goodB n ps = v := ⟨_, rfl⟩
  have H := Lib.hid (fun w' (hb : Below w.heap.size w w') => sgood_v hv A cap w' (h.kept hb (Nat.le_refl _)) hm)
  rw [hv]
  clear hv h
  cases v
  · rw [show (false && decide (1 ≤ x) && decide (x ≤ n)) = false from rfl]
    go_enter Try.func61, Try.ntmps61
    go_wp2_with (go_at_call 104; refine (H.out _ ((Below.refl _ _).alloc (Nat.le_refl _) _)).mono ?_; rintro e w1 ⟨rfl, hb1⟩)
    go_ret
    exact ⟨rfl, below_alloc_call hb1⟩
  · obtain ⟨u, hu⟩ : ∃ u, decide (1 ≤ x ∧ x ≤ n) = u := ⟨_, rfl⟩
    rw [show (true && decide (1 ≤ x) && decide (x ≤ n)) = u by rw [← hu]; simp]
    have HI := Lib.hid (in_eq x 1 n u hu)
    clear hu
    go_enter Try.func61, Try.ntmps61
    go_wp2_with (first | (go_at_call 104; refine (H.out _ ((Below.refl _ _).alloc (Nat.le_refl _) _)).mono ?_; rintro e w1 ⟨rfl, hb1⟩; obtain ⟨hc1, hf1⟩ := bcell hb1) | (go_at_call 116; refine (HI.out _).mono ?_; rintro e w' ⟨rfl, rfl⟩))
    go_ret
    exact ⟨rfl, below_alloc_call hb1⟩

theorem node_v {n : Int} {ps : List Pp} {x : Int} {v : Bool} (hv : nodeB n ps x = v) (A : Option Addr) (cap : Nat) (w : World) (h : PAt w A ps) (hm : ps.length ≤ maxLen) :
    Calls Try.prog 73 #[nv n A ps.length cap, .int .i64 x] w fun e w' => e = .returned (.bool v) ∧ Below w.heap.size w w' := by
  rw [← hv]; exact node_any n A cap ps x w h hm
theorem snode_v {n : Int} {ps : List Pp} {x : Int} {v : Bool} (hv : nodeB n ps x = v) (A : Option Addr) (cap : Nat) (w : World) (h : PAt w A ps) (hm : ps.length ≤ maxLen) :
    Calls Try.prog 61 #[nv n A ps.length cap, .int .i64 x] w fun e w' => e = .returned (.bool v) ∧ Below w.heap.size w w' := by
  rw [← hv]; exact snode_any n A cap ps x w h hm
end Go.Proofs.Ytlkomipjamelkab.S2
