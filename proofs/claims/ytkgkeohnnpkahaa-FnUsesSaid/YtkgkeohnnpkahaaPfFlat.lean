/- The flat profile, the program's and the model's: contracts. Conditions: each theorem's own premises. -/
import Derived.Test.YtkgkeohnnpkahaaPfBox
import Derived.Test.YtkgkeohnnpkahaaPfRep
namespace Go.Proofs.Ytkgkeohnnpkahaa.S6
open Go.RowKit P6

def flatL : List Int := List.replicate 24 100
theorem own_rep {w : World} {g M : Nat} {x : Int} (B : Nat) (hB : B ≤ g) (hM : M ≤ 1000) (h : w.heap[g]? = some (.cells (List.replicate M (iv x)).toArray 3 (0, 0))) : IOwn w B (.slice (some ⟨g, 0, none⟩) M M) (List.replicate M x) := by
  unfold IOwn
  rw [List.length_replicate]
  refine ⟨by simp, .inr ⟨g, M, _, rfl, hB, h, Nat.le_refl _, by unfold maxLen; omega, by simp, by simp⟩⟩
set_option maxHeartbeats 2000000 in
theorem flat_any (w : World) : Calls Try.prog 30 #[] w (GivesP1I w flatL) := by
  have HR := Lib.hid (fun (b : Nat) (w : World) (hb : b < w.heap.size) (hx : w.cell? ⟨b, 0, none⟩ = some (iv 100)) => repeat_any 100 b 0 1 24 w hb hx (by omega) (by omega))
  go_enter Try.func30, Try.ntmps30
  go_wp2_with (go_at_call 71; refine (HR.out (w.heap.size + 1) _ (by simp) ?_).mono ?_)
  · simp
  · rintro e w1 ⟨⟨g, rfl, hg, hrow⟩, hb1⟩
    have hb2 : Below (w.heap.size + 2) ((w.alloc (.cells #[.slice none 0 0] 26)).alloc (.cells #[.int .i64 100] 3)) w1 := by simpa using hb1
    have hc : w1.cell? ⟨w.heap.size, 0, none⟩ = some (.slice none 0 0) := by
      rw [hb2.cell (p := ⟨w.heap.size, 0, none⟩) (by show w.heap.size < w.heap.size + 2; omega), World.cell?_alloc_past (w := w.alloc _) _ _ _ (by simp)]
      exact box_at
    have hf : w1.frozen? ⟨w.heap.size, 0, none⟩ = false := by
      rw [hb2.frozen (p := ⟨w.heap.size, 0, none⟩) (by show w.heap.size < w.heap.size + 2; omega)]
      rw [World.frozen?_alloc_past (w := w.alloc _) _ _ _ (by simp)]; simp
    have hg' : w.heap.size + 2 ≤ g := by simpa using hg
    have HRW := Lib.hid (own_rep (w.heap.size + 1) (by omega) (by omega) hrow)
    clear hrow hg hb1
    go_wp2_with fail
    refine bodyPost_ret (v := dv (some ⟨g, 0, none⟩) 24 24) (by simp [results, Try.results30, go_sem, hc]) rfl ⟨g, 24, rfl, by omega, ?_, ?_⟩
    · exact own_lower (B := w.heap.size + 1) (ownsRow_setCell_below HRW.out (show w.heap.size < w.heap.size + 1 by omega) _) (by omega)
    · exact (((Below.refl _ _).alloc (Nat.le_refl _) _).alloc (by simp) _ |>.trans (hb2.mono (by omega))).setCell (p := ⟨w.heap.size, 0, none⟩) (Nat.le_refl _) _
set_option maxHeartbeats 2000000 in
theorem sflat_own (w : World) : Calls Try.prog 48 #[] w (GivesP1I w flatL) := by
  obtain ⟨i0, hi, hz0, hz1, hz2⟩ := info_parts infoI
  go_enter Try.func48, Try.ntmps48
  go_wp2
  have HO := Lib.hid (OB.start (w.alloc (.cells #[.slice none 0 0] 26)) 26)
  rw [alloc_size] at HO
  go_loopw [2] (fun i wr => ∃ (k : Nat) (v : Value), k ≤ 24 ∧ i = .int .i64 k ∧ Hid (OB wr (w.heap.size + 1) v (List.replicate k 100)) ∧ Hid (Below (w.heap.size + 1) (w.alloc (.cells #[.slice none 0 0] 26)) wr)) (fun i _ => 24 - (intOf i).toNat)
  case atStart => exact ⟨0, _, by omega, rfl, HO, Lib.hid ((Below.refl _ _).alloc (by simp) _)⟩
  case round =>
    clear HO
    obtain ⟨k, v, hk, rfl, hO, hb⟩ := hrel
    have hc := hO.out.cell
    have hf := hO.out.froz
    have hlt0 := hO.out.lt
    by_cases hlt : k < 24
    · have ho := hO.out.own
      unfold IOwn at ho
      rw [List.length_replicate] at ho
      go_wp2_with (at_builtin; go_must (refine wpList_append_lies _ rfl _ _ 24 rfl (w.heap.size + 1 + 1) 3 i0 (.int .i64 0) 1 8 Try.underlying24 hi hz0 hz1 hz2 rfl (by decide) _ _ _ rfl (ho.alloc _) ⟨wr.heap.size, 0, none⟩ 1 1 [iv 100] rfl rfl (cell_one_new _ _ _) ?d2 (by omega) ?d3 ?d4 ?d5 (wr.heap.size + 1) (by simp) ?_))
      case d2 => intro u hu; simp at hu; subst hu; rfl
      case d3 => unfold maxLen; omega
      case d4 => omega
      case d5 => simp; omega
      intro g cap w3 hown' hgrow _ _
      obtain ⟨v', hv'⟩ : ∃ v', v' = Value.slice (some ⟨g, 0, none⟩) (k + 1) cap := ⟨_, rfl⟩
      rw [← hv'] at hown'
      have hba := Lib.hid (alloc_below wr (.cells #[.int .i64 100] 3))
      have hN := Lib.hid (hO.out.push hba.out (x := 100) (by rw [List.length_replicate, List.map_replicate]; exact hown') hgrow)
      have hB3 := Lib.hid (hO.out.below (v' := v') hb.out hba.out hgrow (Nat.le_refl _))
      have hc3 := hgrow.cell_far ⟨w.heap.size + 1, 0, none⟩ (by show w.heap.size + 1 < _; simp; omega) (fun e => by have := (World.ownsRow.lt hO.out.own (w.heap.size + 1) e.symm).1; omega)
      have hc3' : w3.cell? ⟨w.heap.size + 1, 0, none⟩ = some v := hc3.trans ((hba.out.cell (p := ⟨w.heap.size + 1, 0, none⟩) hlt0).trans hc)
      have hf3 : w3.frozen? ⟨w.heap.size + 1, 0, none⟩ = false := (World.frozen?_of_block (hgrow.block (w.heap.size + 1) (by simp; omega) (fun e => by have := (World.ownsRow.lt hO.out.own (w.heap.size + 1) e.symm).1; omega))).trans ((hba.out.frozen (p := ⟨w.heap.size + 1, 0, none⟩) hlt0).trans hf)
      have hE := Lib.hid (show List.replicate k (100 : Int) ++ [100] = List.replicate (k + 1) 100 by rw [← List.replicate_succ'])
      rw [hE.out, hv'] at hN
      rw [hv'] at hB3
      clear hown' hgrow ho hc3 hO hb hv' v'
      go_wp2_with fail
      go_roundw
      case rel => exact ⟨k + 1, _, by omega, by go_num, hN, hB3⟩
      case measure => simp [intOf]; omega
    · have e : k = 24 := by omega
      subst e
      obtain ⟨g, cap, rfl, hg⟩ := own_forms hO.out.own (by simp)
      have hr := box1 hb.out
      have hfr : wr.frozen? ⟨w.heap.size, 0, none⟩ = false := by
        rw [hb.out.frozen (p := ⟨w.heap.size, 0, none⟩) (by show w.heap.size < w.heap.size + 1; omega)]
        simp
      go_wp2_with fail
      refine bodyPost_ret (v := dv (some ⟨g, 0, none⟩) (List.replicate 24 (100 : Int)).length cap) (by simp [results, Try.results48, go_sem, hr]) rfl ⟨g, cap, rfl, by omega, ?_, ?_⟩
      · exact own_lower (B := w.heap.size + 1 + 1) (ownsRow_setCell_below hO.out.own (show w.heap.size < w.heap.size + 1 + 1 by omega) _) (by omega)
      · exact (below_box hb.out).setCell (p := ⟨w.heap.size, 0, none⟩) (Nat.le_refl _) _
theorem sflat_any (w : World) : Calls Try.prog 48 #[] w (GivesP1A w flatL) := (sflat_own w).mono (fun _ _ h => GivesP1I.any h)
end Go.Proofs.Ytkgkeohnnpkahaa.S6
