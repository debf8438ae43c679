/- ReachedFrom of the model, and the law's two sides: contracts. Conditions: each theorem's own premises. -/
import Derived.Test.YtgjogjmfpbinfaaReachTwo
import Derived.Test.YtgjogjmfpbinfaaNodeOne
namespace Go.Proofs.Ytgjogjmfpbinfaa.S2
open Go.RowKit P2

set_option maxHeartbeats 2000000 in
theorem sreached_no (n : Int) (A : Option Addr) (cap : Nat) (ps : List Pp) (x : Int) (w : World) (h : PAt w A ps) (hm : ps.length ≤ maxLen) (hv : nodeB n ps x = false) :
    Calls Try.prog 110 #[nv n A ps.length cap, .int .i64 x] w (GivesA w [] false) := by
  have H := Lib.hid (fun w' (hb : Below w.heap.size w w') => snode_v hv A cap w' (h.kept hb (Nat.le_refl _)) hm)
  clear h hv
  go_enter Try.func110, Try.ntmps110
  go_wp2_with (go_at_call 126; refine (H.out _ ((Below.refl _ _).alloc (Nat.le_refl _) _)).mono ?_; rintro e w1 ⟨rfl, hb1⟩)
  go_ret2
  have hB := below_alloc_call hb1
  exact ⟨_, 0, 0, rfl, hB.size, .inl rfl, hB.alloc hB.size _, by simp⟩

set_option maxHeartbeats 2000000 in
theorem sreached_yes (N X : Nat) (A : Option Addr) (cap : Nat) (ps : List Pp) (w : World) (h : PAt w A ps) (hv : nodeB N ps X = true) :
    Calls Try.prog 110 #[nv N A ps.length cap, .int .i64 X] w (GivesA w (conL N ps X) true) := by
  obtain ⟨hg, hx1, hx2⟩ := nodeB_of hv
  have hl10 := hg.2.2.1
  have hm : ps.length ≤ maxLen := by unfold maxLen; omega
  have H := Lib.hid (fun w' (hb : Below w.heap.size w w') => snode_v hv A cap w' (h.kept hb (Nat.le_refl _)) hm)
  have HC := Lib.hid (fun w' (hb : Below w.heap.size w w') => sreach_any N X A cap ps w' (h.kept hb (Nat.le_refl _)) hg (by omega) (by omega))
  clear h hv hg hx1 hx2 hm
  go_enter Try.func110, Try.ntmps110
  go_wp2_with (first
    | (go_at_call 126; refine (H.out _ ((Below.refl _ _).alloc (Nat.le_refl _) _)).mono ?_; rintro e w1 ⟨rfl, hb1⟩; obtain ⟨hc1, hf1⟩ := bcell hb1; have hB1 := Lib.hid (below_alloc_call hb1))
    | (go_at_call 177; refine (HC.out _ hB1.out).mono ?_; rintro e w2 ⟨g, o, c, rfl, hg, hla, hb2⟩))
  go_ret2
  have hz := hB1.out.size
  exact ⟨g, o, c, rfl, by omega, hla.iat, hB1.out.trans (hb2.mono hz), hla.1⟩

theorem conL_len (n : Nat) (ps : List Pp) (t : Int) : (conL n ps t).length ≤ n + 1 := conTo_len _ _
end Go.Proofs.Ytgjogjmfpbinfaa.S2
