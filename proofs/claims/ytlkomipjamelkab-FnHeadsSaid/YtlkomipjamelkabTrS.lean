/- Whether a network is a tree, for the model; IsTreeNetwork of both: contracts. Conditions: each theorem's own premises. -/
import Derived.Test.YtlkomipjamelkabTrI
namespace Go.Proofs.Ytlkomipjamelkab.S2
open Go.RowKit P2

set_option maxHeartbeats 1000000 in
theorem stree_any (N : Nat) (A : Option Addr) (cap : Nat) (ps : List Pp) (w : World) (h : PAt w A ps) (hg : P2.Good N ps) :
    Calls Try.prog 63 #[nv N A ps.length cap] w fun e w' => e = .returned (.bool (treeB N ps)) ∧ Below w.heap.size w w' := by
  have hN1 : 1 ≤ N := by have := hg.1; omega
  have hN : N ≤ 8 := by have := hg.2.1; omega
  have hl10 := hg.2.2.1
  have HC := Lib.hid (fun w' (hb : Below w.heap.size w w') => (show Calls Try.prog 123 #[nv N A ps.length cap, .int .i64 1] w' _ from sreach_any N 1 A cap ps w' (h.kept hb (Nat.le_refl _)) hg (by omega) (by omega)))
  have hcl : (conL N ps 1).length ≤ N + 1 := conL_len N ps 1
  unfold treeB
  clear h hg
  have hw1 : IntKind.i64.wrap ((N : Int) - 1) = (N : Int) - 1 := IntWalk.i64_in _ (by omega)
  obtain ⟨C, hC⟩ : ∃ C, conL N ps 1 = C := ⟨_, rfl⟩
  simp only [Int.natCast_one] at HC
  rw [hC] at HC hcl ⊢
  clear hC
  obtain ⟨u, hu⟩ : ∃ u, decide (ps.length + 1 = N) = u := ⟨_, rfl⟩
  have g1 : ((ps.length : Int) == (N : Int) - 1) = u := by rw [← hu, Bool.eq_iff_iff]; simp; omega
  rw [hu]
  clear hu
  by_cases he : C.length = N
  · have g2 : ((C.length : Int) == (N : Int)) = true := beq_iff_eq.2 (by omega)
    rw [show decide (C.length = N) = true by simp [he], Bool.and_true]
    clear he
    go_enter Try.func63, Try.ntmps63
    go_wp2
    go_region_held3 (fun w' => w'.cell? ⟨w.heap.size, 0, none⟩ = some (.int .i64 N) ∧ w'.cell? ⟨w.heap.size, 1, none⟩ = some (.slice A ps.length cap))
      (first
        | go_keep
        | (go_split_ands
           exact ⟨(hbx.cell (p := ⟨w.heap.size, 0, none⟩) (by simp)).trans (by assumption), (hbx.cell (p := ⟨w.heap.size, 1, none⟩) (by simp)).trans (by assumption)⟩))
      ((go_at_call 123; refine (HC.out _ (((Below.refl _ _).alloc (Nat.le_refl _) _).drew)).mono ?_; rintro e w4 ⟨g, o, capg, rfl, hgg, ho, hbx⟩))
    go_wp2
    go_ret
    exact ⟨rfl, (((Below.refl w.heap.size w).alloc (Nat.le_refl _) _).drew).trans (hbx.mono (by simp))⟩
  · have g2 : ((C.length : Int) == (N : Int)) = false := beq_eq_false_iff_ne.2 (by omega)
    rw [show decide (C.length = N) = false by simp [he], Bool.and_false]
    clear he
    go_enter Try.func63, Try.ntmps63
    go_wp2
    refine wp_region_held_drew (S := fun w' => w'.cell? ⟨w.heap.size, 0, none⟩ = some (.int .i64 N) ∧ w'.cell? ⟨w.heap.size, 1, none⟩ = some (.slice A ps.length cap)) (by kernel_rfl) (by go_keep) (fun hHeld => ?_)
    refine wpAnyH_take (i := 0) (v := .agg #[.int .i64 N, .slice A ps.length cap]) rfl (by kernel_rfl) (by kernel_rfl) (by kernel_rfl) (fun _ _ _ h => h) (Or.inl ⟨by rfl, ?_⟩) (by assumption) ?_
    · (intro w hSw; (try dsimp only at hSw); go_simp)
    simp only [Act.put, List.setIfInBounds_toArray]
    refine wpAnyH_take (i := 3) (v := .pointer (some ⟨w.heap.size, 0, none⟩)) rfl (by kernel_rfl) (by kernel_rfl) (by kernel_rfl) (fun _ _ _ h => h) (Or.inl ⟨by rfl, ?_⟩) (by assumption) ?_
    · (intro w hSw; (try dsimp only at hSw); go_simp)
    simp only [Act.put]
    refine wpAnyH_take (i := 4) (v := .int .i64 (N : Int)) rfl (by kernel_rfl) (by kernel_rfl) (by kernel_rfl) (fun _ _ _ h => h) (Or.inl ⟨by rfl, ?_⟩) (by assumption) ?_
    · (intro w hSw; (try dsimp only at hSw); go_simp)
    simp only [Act.put]
    refine wpAnyH_ready (rs := [1]) (by kernel_rfl) (by simp) ?_
    refine AllReadyH.cons rfl (fun K hK => ?_) AllReadyH.nil
    go_simp
    go_at_call 123
    refine (HC.out _ (((Below.refl _ _).alloc (Nat.le_refl _) _).drew)).mono ?_
    rintro e w4 ⟨g, o, capg, rfl, hgg, ho, hbx⟩
    refine hK.out _ _ (by (rcases hHeld with ⟨q0, q1⟩; exact ⟨(hbx.cell (p := ⟨w.heap.size, 0, none⟩) (by simp)).trans q0, (hbx.cell (p := ⟨w.heap.size, 1, none⟩) (by simp)).trans q1⟩)) (fun hHeld => ?_)
    clear hK K
    refine wpAnyH_ready (rs := [2]) (by kernel_rfl) (by simp) ?_
    refine AllReadyH.cons rfl (fun K hK => ?_) AllReadyH.nil
    go_simp
    refine hK.out _ _ (by first | assumption | go_keep) (fun hHeld => ?_)
    clear hK K
    refine wpAnyH_ready (rs := [5]) (by kernel_rfl) (by simp) ?_
    refine AllReadyH.cons rfl (fun K hK => ?_) AllReadyH.nil
    go_simp
    refine hK.out _ _ (by first | assumption | go_keep) (fun hHeld => ?_)
    clear hK K
    refine wpAnyH_ready (rs := [6]) (by kernel_rfl) (by simp) ?_
    refine AllReadyH.cons rfl (fun K hK => ?_) AllReadyH.nil
    go_simp
    refine hK.out _ _ (by first | assumption | go_keep) (fun hHeld => ?_)
    clear hK K
    refine wpAnyH_take (i := 7) (v := undef) rfl (by kernel_rfl) (by kernel_rfl) (by kernel_rfl) (fun _ _ _ h => h) (Or.inr ⟨by rfl, rfl⟩) (by assumption) ?_
    simp only [Act.put]
    refine wpAnyH_take (i := 8) (v := undef) rfl (by kernel_rfl) (by kernel_rfl) (by kernel_rfl) (fun _ _ _ h => h) (Or.inr ⟨by rfl, rfl⟩) (by assumption) ?_
    simp only [Act.put]
    refine wpAnyH_take (i := 9) (v := undef) rfl (by kernel_rfl) (by kernel_rfl) (by kernel_rfl) (fun _ _ _ h => h) (Or.inr ⟨by rfl, rfl⟩) (by assumption) ?_
    simp only [Act.put]
    refine wpAnyH_take (i := 10) (v := undef) rfl (by kernel_rfl) (by kernel_rfl) (by kernel_rfl) (fun _ _ _ h => h) (Or.inr ⟨by rfl, rfl⟩) (by assumption) ?_
    simp only [Act.put]
    refine wpAnyH_take (i := 11) (v := undef) rfl (by kernel_rfl) (by kernel_rfl) (by kernel_rfl) (fun _ _ _ h => h) (Or.inr ⟨by rfl, rfl⟩) (by assumption) ?_
    simp only [Act.put]
    refine wpAnyH_take (i := 12) (v := undef) rfl (by kernel_rfl) (by kernel_rfl) (by kernel_rfl) (fun _ _ _ h => h) (Or.inr ⟨by rfl, rfl⟩) (by assumption) ?_
    simp only [Act.put]
    refine wpAnyH_take (i := 13) (v := undef) rfl (by kernel_rfl) (by kernel_rfl) (by kernel_rfl) (fun _ _ _ h => h) (Or.inr ⟨by rfl, rfl⟩) (by assumption) ?_
    simp only [Act.put]
    refine wpAnyH_ready (rs := [14]) (by kernel_rfl) (by simp) ?_
    refine AllReadyH.cons rfl (fun K hK => ?_) AllReadyH.nil
    go_simp
    refine hK.out _ _ (by first | assumption | go_keep) (fun hHeld => ?_)
    clear hK K
    refine wpAnyH_ready (rs := [15]) (by kernel_rfl) (by simp) ?_
    refine AllReadyH.cons rfl (fun K hK => ?_) AllReadyH.nil
    go_simp
    refine hK.out _ _ (by first | assumption | go_keep) (fun hHeld => ?_)
    clear hK K
    refine wpAnyH_done (by kernel_rfl) ?_ _
    go_wp2
    go_ret
    exact ⟨rfl, (((Below.refl w.heap.size w).alloc (Nat.le_refl _) _).drew).trans (hbx.mono (by simp))⟩

theorem istree_v {N : Nat} {ps : List Pp} {v : Bool} (hv : treeB N ps = v) (A : Option Addr) (cap : Nat) (w : World) (h : PAt w A ps) (hg : P2.Good N ps) :
    Calls Try.prog 67 #[nv N A ps.length cap] w fun e w' => e = .returned (.bool v) ∧ Below w.heap.size w w' := by
  rw [← hv]; exact istree_any N A cap ps w h hg
theorem stree_v {N : Nat} {ps : List Pp} {v : Bool} (hv : treeB N ps = v) (A : Option Addr) (cap : Nat) (w : World) (h : PAt w A ps) (hg : P2.Good N ps) :
    Calls Try.prog 63 #[nv N A ps.length cap] w fun e w' => e = .returned (.bool v) ∧ Below w.heap.size w w' := by
  rw [← hv]; exact stree_any N A cap ps w h hg

/-- Its number of nodes is a small number. -/
theorem good_nat {n : Int} {ps : List Pp} (hg : P2.Good n ps) : ∃ N : Nat, n = N := ⟨n.toNat, by have := hg.1; omega⟩

/-- IsTreeNetwork's answer. -/
noncomputable def isTA (n : Int) (ps : List Pp) : Bool × Bool := (goodB n ps && treeB n.toNat ps, goodB n ps)

set_option maxHeartbeats 1000000 in
theorem itn_any (n : Int) (A : Option Addr) (cap : Nat) (ps : List Pp) (w : World) (h : PAt w A ps) (hm : ps.length ≤ maxLen) :
    Calls Try.prog 14 #[nv n A ps.length cap] w fun e w' => e = .returned (.tuple #[.bool (isTA n ps).1, .bool (isTA n ps).2]) ∧ Below w.heap.size w w' := by
  unfold isTA
  cases hv : goodB n ps with
  | false =>
    have H := Lib.hid (fun w' (hb : Below w.heap.size w w') => valid_v hv A cap w' (h.kept hb (Nat.le_refl _)) hm)
    clear h hv
    go_enter Try.func14, Try.ntmps14
    go_wp2_with (go_at_call 66; refine (H.out _ ((Below.refl _ _).alloc (Nat.le_refl _) _)).mono ?_; rintro e w1 ⟨rfl, hb1⟩)
    go_ret2
    exact ⟨rfl, below_alloc_call hb1⟩
  | true =>
    have hg := good_of hv
    obtain ⟨N, rfl⟩ := good_nat hg
    obtain ⟨v, hvv⟩ : ∃ v, treeB N ps = v := ⟨_, rfl⟩
    have H := Lib.hid (fun w' (hb : Below w.heap.size w w') => valid_v hv A cap w' (h.kept hb (Nat.le_refl _)) hm)
    have HT := Lib.hid (fun w' (hb : Below w.heap.size w w') => istree_v hvv A cap w' (h.kept hb (Nat.le_refl _)) hg)
    simp only [Int.toNat_natCast, Bool.true_and]
    rw [hvv]
    clear h hv hg hvv
    go_enter Try.func14, Try.ntmps14
    go_wp2_with (first
      | (go_at_call 66; refine (H.out _ ((Below.refl _ _).alloc (Nat.le_refl _) _)).mono ?_; rintro e w1 ⟨rfl, hb1⟩; obtain ⟨hc1, hf1⟩ := bcell hb1; have hz1 := hb1.size; simp at hz1; have hb2 := Lib.hid (below_alloc_call hb1))
      | (go_at_call 67; refine (HT.out _ hb2.out).mono ?_; rintro e w2 ⟨rfl, hb3⟩))
    go_ret2
    exact ⟨rfl, hb2.out.trans (hb3.mono hb2.out.size)⟩

end Go.Proofs.Ytlkomipjamelkab.S2
