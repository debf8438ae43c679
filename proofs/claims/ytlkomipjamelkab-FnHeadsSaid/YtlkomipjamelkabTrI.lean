/- Whether a network is a tree, for the program and the model: contracts. Conditions: each theorem's own premises. -/
import Derived.Test.YtlkomipjamelkabReachThree
import Derived.Test.YtlkomipjamelkabWoPl
import Derived.Test.YtlkomipjamelkabTrOne
import Derived.Test.YtlkomipjamelkabAmN
namespace Go.Proofs.Ytlkomipjamelkab.S2
open Go.RowKit P2

noncomputable def treeB (N : Nat) (ps : List Pp) : Bool := decide (ps.length + 1 = N) && decide ((conL N ps 1).length = N)

set_option maxHeartbeats 1000000 in
theorem istree_any (N : Nat) (A : Option Addr) (cap : Nat) (ps : List Pp) (w : World) (h : PAt w A ps) (hg : P2.Good N ps) :
    Calls Try.prog 67 #[nv N A ps.length cap] w fun e w' => e = .returned (.bool (treeB N ps)) ∧ Below w.heap.size w w' := by
  have hN1 : 1 ≤ N := by have := hg.1; omega
  have hN : N ≤ 8 := by have := hg.2.1; omega
  have hl10 := hg.2.2.1
  have HC := Lib.hid (fun w' (hb : Below w.heap.size w w') => (show Calls Try.prog 130 #[nv N A ps.length cap, .int .i64 1] w' (GivesL w' (conL N ps 1)) from con_any N 1 A cap ps w' (h.kept hb (Nat.le_refl _)) hg (by omega) (by omega)))
  have hcl : (conL N ps 1).length ≤ N + 1 := conL_len N ps 1
  unfold treeB
  clear h hg
  have hw1 : IntKind.i64.wrap ((N : Int) - 1) = (N : Int) - 1 := IntWalk.i64_in _ (by omega)
  by_cases he : ps.length + 1 = N
  · have g1 : ((ps.length : Int) == (N : Int) - 1) = true := beq_iff_eq.2 (by omega)
    rw [show decide (ps.length + 1 = N) = true by simp [he], Bool.true_and]
    generalize (conL N ps 1) = C at *
    obtain ⟨u, hu⟩ : ∃ u, decide (C.length = N) = u := ⟨_, rfl⟩
    have g2 : ((C.length : Int) == (N : Int)) = u := by rw [← hu, Bool.eq_iff_iff]; simp; omega
    rw [hu]
    clear hu he
    go_enter Try.func67, Try.ntmps67
    go_wp2
    go_region_held3 (fun w' => w'.cell? ⟨w.heap.size, 0, none⟩ = some (.int .i64 N) ∧ w'.cell? ⟨w.heap.size, 1, none⟩ = some (.slice A ps.length cap))
      (first
        | go_keep
        | (go_split_ands
           exact ⟨(hbx.cell (p := ⟨w.heap.size, 0, none⟩) (by simp)).trans (by assumption), (hbx.cell (p := ⟨w.heap.size, 1, none⟩) (by simp)).trans (by assumption)⟩))
      ((go_at_call 130; refine (HC.out _ (((Below.refl _ _).alloc (Nat.le_refl _) _).drew)).mono ?_; rintro e w4 ⟨g, capg, rfl, hgg, ho, hbx⟩))
    go_wp2
    go_ret
    exact ⟨rfl, (((Below.refl w.heap.size w).alloc (Nat.le_refl _) _).drew).trans (hbx.mono (by simp))⟩
  · have g1 : ((ps.length : Int) == (N : Int) - 1) = false := beq_eq_false_iff_ne.2 (by omega)
    rw [show decide (ps.length + 1 = N) = false by simp [he], Bool.false_and]
    clear he
    go_enter Try.func67, Try.ntmps67
    go_wp2
    go_quiet (fail)
    go_wp2
    go_ret
    exact ⟨rfl, below_drewN ((Below.refl _ _).alloc (Nat.le_refl _) _) _⟩
end Go.Proofs.Ytlkomipjamelkab.S2
