/- slices.Repeat of one number: contracts. Conditions: each theorem's own premises. -/
import Derived.Test.YtlkomipjamelkabShelf
import Derived.Test.YtlkomipjamelkabIntsOne
import Derived.Laws.CopyOwn
import Derived.Deep.RegionLaw
import Derived.Deep.RegionHeld3
import Derived.IntWalk
namespace Go.Proofs.Ytlkomipjamelkab.S2
open Go.RowKit P2

def rp (x : Int) (M k : Nat) : List Value := List.replicate k (iv x) ++ List.replicate (M - k) (iv 0)
theorem rp_len (x : Int) (M k : Nat) (h : k ≤ M) : (rp x M k).length = M := by simp [rp]; omega
theorem made_rp (x : Int) (M : Nat) (w : World) : (w.alloc (.cells (madeCells #[.int .i64 0] M) 3)).heap[w.heap.size]? = some (.cells (rp x M 0).toArray 3 (0, 0)) := by
  rw [heap_alloc_new w _]
  congr 2
  apply Array.ext'
  rw [toList_madeCells_one]
  simp [rp]
theorem rp_splice (x : Int) (M k m : Nat) : splice (rp x M k) k (List.replicate m (iv x)) = rp x M (k + m) := by
  unfold splice rp
  have e1 : (List.replicate k (iv x) ++ List.replicate (M - k) (iv 0)).take k = List.replicate k (iv x) := by
    rw [List.take_left']; simp
  have e2 : (List.replicate k (iv x) ++ List.replicate (M - k) (iv 0)).drop (k + m) = List.replicate (M - (k + m)) (iv 0) := by
    rw [List.drop_append]
    simp
    omega
  rw [e1, List.length_replicate, e2, ← List.append_assoc, List.replicate_append_replicate]
theorem rp_full (x : Int) (M : Nat) : rp x M M = List.replicate M (iv x) := by simp [rp]
theorem rp_get (x : Int) (M k j : Nat) (h : j < k) : (rp x M k)[j]? = some (iv x) := by
  unfold rp; rw [List.getElem?_append_left (by simpa using h)]; simp [h]

theorem rp_cell {w : World} {g : Nat} {x : Int} {M k : Nat} {t : TypeId} (h : w.heap[g]? = some (.cells (rp x M k).toArray t (0, 0))) (j : Nat) (hj : j < k) : w.drew.cell? ((⟨g, 0, none⟩ : Addr).add j) = some (iv x) := by
  have e : (⟨g, 0, none⟩ : Addr).add j = ⟨g, j, none⟩ := by unfold Addr.add; split <;> simp_all
  rw [e]
  show w.cell? ⟨g, j, none⟩ = _
  rw [cell_of_row w g j _ t (0, 0) h]
  simpa using rp_get x M k j hj

theorem mul_small (M : Nat) (h : M ≤ 1000) (w : World) :
    Calls Try.prog 171 #[.int .u64 1, .int .u64 (M : Int)] w fun e w' => e = .returned (.tuple #[.int .u64 0, .int .u64 (M : Int)]) ∧ w' = w := by
  have h1 := Try.bits_Mul 1 M (by omega) (by omega) w
  have e1 : 1 * M / 18446744073709551616 = 0 := by rw [Nat.one_mul]; exact Nat.div_eq_of_lt (by omega)
  have e2 : 1 * M % 18446744073709551616 = M := by rw [Nat.one_mul]; exact Nat.mod_eq_of_lt (by omega)
  rw [e1, e2] at h1
  exact h1

set_option maxHeartbeats 2000000 in
set_option maxRecDepth 100000 in
theorem repeat_any (x : Int) (b off c M : Nat) (w : World) (hb : b < w.heap.size) (hx : w.cell? ⟨b, off, none⟩ = some (iv x)) (h1 : 1 ≤ M) (h9 : M ≤ 9) :
    Calls Try.prog 152 #[.slice (some ⟨b, off, none⟩) 1 c, .int .i64 (M : Int)] w fun e w' => (∃ g, e = .returned (.slice (some ⟨g, 0, none⟩) M M) ∧ w.heap.size ≤ g ∧ w'.heap[g]? = some (.cells (List.replicate M (iv x)).toArray 3 (0, 0))) ∧ Below w.heap.size w w' := by
  have hmk := run_make_row' (P := Try.prog) 27 3 (.int .i64 0) 8 Try.underlying27 infoI rfl .i64 .i64 M (by omega) (by omega)
  have HM := Lib.hid (fun w => mul_small M (by omega) w)
  have hsz1 : (Try.prog.info? 3).map (·.size) = some 1 := by kernel_rfl
  have HSZ := Lib.hid hsz1
  have hM0 : (0 : Int) ≤ (M : Int) := by omega
  have hM9 : (M : Int) ≤ 9 := by omega
  have hM1 : (1 : Int) ≤ (M : Int) := by omega
  clear hsz1
  go_enter Try.func152, Try.ntmps152
  go_wp2_with (first
    | (go_at_call 171; refine (HM.out _).mono ?_; rintro e w' ⟨rfl, hw⟩; replace hw := hw.symm; subst hw)
    | (with_reducible refine wpList_copy_splice rfl (.tmp 31) (.tmp 32) 27 27 rfl 3 Try.underlying27 HSZ.out _ _ _ _ _ _ rfl rfl w.heap.size 0 (rp x M 0) 3 (made_rp x M w) [iv x] ?n1 ?n2 ?n3 ?n4 w.heap.size w ?n5 (Nat.le_refl _) ?n6))
  case n1 => simp [Nat.min_def]; omega
  case n2 =>
    intro j v hj
    have e : j = 0 := by
      have := (List.getElem?_eq_some_iff.1 hj).1
      simpa using this
    subst e
    have hv : v = iv x := by simpa using hj.symm
    rw [hv, Nat.add_zero]
    exact hx
  case n3 => rw [rp_len x M 0 (by omega)]; simp; omega
  case n4 => intro v hv; simp at hv; subst hv; rfl
  case n5 => exact (Below.refl _ _).alloc (Nat.le_refl _) _
  case n6 =>
    intro w1 hg1 hb1
    have hg1' : Hid (w1.heap[w.heap.size]? = some (.cells (rp x M 1).toArray 3 (0, 0))) := by
      have := rp_splice x M 0 1
      rw [show List.replicate 1 (iv x) = [iv x] from rfl, Nat.zero_add] at this
      rw [← this]
      exact hg1
    clear hg1 hmk
    go_wp2
    go_loopw [8] (fun n wr => ∃ k : Nat, 1 ≤ k ∧ k ≤ M ∧ n = .int .i64 k ∧ Hid (wr.heap[w.heap.size]? = some (.cells (rp x M k).toArray 3 (0, 0))) ∧ Below w.heap.size w wr) (fun n _ => M - (intOf n).toNat)
    case atStart => exact ⟨1, Nat.le_refl _, h1, rfl, hg1', hb1⟩
    case round =>
      obtain ⟨k, hk1, hkM, rfl, hg, hb⟩ := hrel
      by_cases hlt : k < M
      · have hk0 : (0 : Int) ≤ (k : Int) := by omega
        have hkM' : (k : Int) < (M : Int) := by omega
        obtain ⟨m, hm⟩ : ∃ m, m = Nat.min k (M - k) := ⟨_, rfl⟩
        have hm1 : 1 ≤ m := by rw [hm]; simp [Nat.min_def]; split <;> omega
        have hm2 : k + m ≤ M := by rw [hm]; simp [Nat.min_def]; split <;> omega
        have hmk' : m ≤ k := by rw [hm]; simp [Nat.min_def]; split <;> omega
        have HMM := Lib.hid hm
        clear hm
        have hne1 : ¬ M = k := by omega
        have hne2 : ¬ k = M := by omega
        have hkM3 : k ≤ M := by omega
        go_wp2
        refine wp_region_held_drew (S := fun _ => True) (by kernel_rfl) trivial (fun hHeld => ?_)
        refine wpAnyH_take (i := 0) (v := .int .i64 (k : Int)) rfl (by kernel_rfl) (by kernel_rfl) (by kernel_rfl) (fun _ _ _ h => h) (Or.inl ⟨by rfl, ?_⟩) (by assumption) ?_
        · (intro w hSw; go_simp)
        simp only [Act.put, List.setIfInBounds_toArray]
        refine wpAnyH_take (i := 1) (v := .slice (some ⟨w.heap.size, 0, none⟩) M M) rfl (by kernel_rfl) (by kernel_rfl) (by kernel_rfl) (fun _ _ _ h => h) (Or.inl ⟨by rfl, ?_⟩) (by assumption) ?_
        · (intro w hSw; go_simp)
        simp only [Act.put]
        refine wpAnyH_take (i := 2) (v := .int .i64 (k : Int)) rfl (by kernel_rfl) (by kernel_rfl) (by kernel_rfl) (fun _ _ _ h => h) (Or.inl ⟨by rfl, ?_⟩) (by assumption) ?_
        · (intro w hSw; go_simp)
        simp only [Act.put]
        refine wpAnyH_take (i := 3) (v := .slice (some ⟨w.heap.size, k, none⟩) (M - k) (M - k)) rfl (by kernel_rfl) (by kernel_rfl) (by kernel_rfl) (fun _ _ _ h => h) (Or.inl ⟨by rfl, ?_⟩) (by assumption) ?_
        · (intro w hSw; go_simp)
        simp only [Act.put]
        refine wpAnyH_take (i := 4) (v := .slice (some ⟨w.heap.size, 0, none⟩) M M) rfl (by kernel_rfl) (by kernel_rfl) (by kernel_rfl) (fun _ _ _ h => h) (Or.inl ⟨by rfl, ?_⟩) (by assumption) ?_
        · (intro w hSw; go_simp)
        simp only [Act.put]
        refine wpAnyH_take (i := 5) (v := .int .i64 (k : Int)) rfl (by kernel_rfl) (by kernel_rfl) (by kernel_rfl) (fun _ _ _ h => h) (Or.inl ⟨by rfl, ?_⟩) (by assumption) ?_
        · (intro w hSw; go_simp)
        simp only [Act.put]
        refine wpAnyH_take (i := 6) (v := .slice (some ⟨w.heap.size, 0, none⟩) k M) rfl (by kernel_rfl) (by kernel_rfl) (by kernel_rfl) (fun _ _ _ h => h) (Or.inl ⟨by rfl, ?_⟩) (by assumption) ?_
        · (intro w hSw; go_simp)
        simp only [Act.put]
        refine wpAnyH_ready (rs := [7]) (by kernel_rfl) (by simp) ?_
        refine AllReadyH.cons rfl (fun K hK => ?_) AllReadyH.nil
        refine step_copy_splice (by rfl) (.tmp 41) (.tmp 44) 27 27 (by rfl) 3 Try.underlying27 HSZ.out (some ⟨w.heap.size, k, none⟩) (some ⟨w.heap.size, 0, none⟩) (M - k) (M - k) k M (by simp [go_sem]) (by simp [go_sem]) w.heap.size k (rp x M k) 3 (by exact hg.out) (List.replicate m (iv x)) (by rw [List.length_replicate]; exact HMM.out) (fun _ => ⟨rfl, _, rfl, fun j v hj => ?_⟩) (by rw [rp_len x M k hkM, List.length_replicate]; omega) (by intro v hv; rw [List.eq_of_mem_replicate hv]; rfl) w.heap.size w (hb.drew) (Nat.le_refl _) ?_
        · have hjm : j < m := by
            have := (List.getElem?_eq_some_iff.1 hj).1
            simpa using this
          have hv : v = iv x := by
            have h2 := (List.getElem?_eq_some_iff.1 hj).2
            simpa using h2.symm
          rw [hv]
          exact rp_cell hg.out j (by omega)
        intro w4 hg4 hb4
        refine hK.out _ _ trivial (fun hHeld => ?_)
        clear hK K
        have hg5 := Lib.hid (show w4.heap[w.heap.size]? = some (.cells (rp x M (k + m)).toArray 3 (0, 0)) by rw [← rp_splice x M k m]; exact hg4.out)
        have hmi : (m : Int) ≤ 9 := by omega
        have hwr : IntKind.i64.wrap ((k : Int) + (m : Int)) = (k : Int) + (m : Int) := IntWalk.i64_in _ (by omega)
        refine wpAnyH_ready (rs := [8]) (by kernel_rfl) (by simp) ?_
        refine AllReadyH.cons rfl (fun K hK => ?_) AllReadyH.nil
        go_simp
        refine hK.out _ _ trivial (fun hHeld => ?_)
        clear hK K
        refine wpAnyH_ready (rs := [9]) (by kernel_rfl) (by simp) ?_
        refine AllReadyH.cons rfl (fun K hK => ?_) AllReadyH.nil
        go_simp
        refine hK.out _ _ trivial (fun hHeld => ?_)
        clear hK K
        refine wpAnyH_done (by kernel_rfl) ?_ _
        go_wp2
        go_roundw
        case rel => exact ⟨k + m, by omega, hm2, by go_num, hg5, hb4⟩
        case measure => simp [intOf]; omega
      · have hkM2 : k = M := by omega
        subst hkM2
        go_wp2
        go_ret
        have hfin := hg.out
        rw [rp_full] at hfin
        exact ⟨⟨_, rfl, Nat.le_refl _, hfin⟩, hb⟩
end Go.Proofs.Ytlkomipjamelkab.S2
