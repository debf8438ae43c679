/- The pipes at a node, for the model: contracts. Conditions: each theorem's own premises. -/
import Derived.Test.YtoinbpfocfohcaaAtOne
namespace Go.Proofs.Ytoinbpfocfohcaa.S2
open Go.RowKit P2

def satL (ps : List Pp) (k : Nat) (x : Int) : List Int := ((ps.take k).filter fun p => decide (p.fr = x ∨ p.to = x)).map (·.id)
theorem satL_len (ps : List Pp) (k : Nat) (x : Int) : (satL ps k x).length ≤ k := by
  unfold satL; rw [List.length_map]; exact Nat.le_trans (List.length_filter_le _ _) (List.length_take_le _ _)
theorem satL_zero (ps : List Pp) (x : Int) : satL ps 0 x = [] := by simp [satL]
theorem satL_yes (ps : List Pp) (k : Nat) (x : Int) (h : k < ps.length) (ht : (pAt ps k).fr = x ∨ (pAt ps k).to = x) : satL ps (k + 1) x = satL ps k x ++ [(pAt ps k).id] := by
  unfold satL
  have h1 : ps.take (k + 1) = ps.take k ++ [pAt ps k] := by rw [List.take_succ_eq_append_getElem h]; simp [pAt, List.getD, h]
  rw [h1, List.filter_append, List.map_append]
  simp [ht]
theorem satL_no (ps : List Pp) (k : Nat) (x : Int) (h : k < ps.length) (ht : ¬ ((pAt ps k).fr = x ∨ (pAt ps k).to = x)) : satL ps (k + 1) x = satL ps k x := by
  unfold satL
  have h1 : ps.take (k + 1) = ps.take k ++ [pAt ps k] := by rw [List.take_succ_eq_append_getElem h]; simp [pAt, List.getD, h]
  rw [h1, List.filter_append, List.map_append]
  simp [ht]
theorem satL_all (ps : List Pp) (k : Nat) (x : Int) (h : ps.length ≤ k) : satL ps k x = atL ps x := by unfold satL atL; rw [List.take_of_length_le h]

set_option maxHeartbeats 2000000 in
theorem sat_no (n : Int) (A : Option Addr) (cap : Nat) (ps : List Pp) (x : Int) (w : World) (h : PAt w A ps) (hm : ps.length ≤ maxLen) (hv : nodeB n ps x = false) :
    Calls Try.prog 30 #[nv n A ps.length cap, .int .i64 x] w (GivesI w [] false) := by
  have H := Lib.hid (fun w' (hb : Below w.heap.size w w') => snode_v hv A cap w' (h.kept hb (Nat.le_refl _)) hm)
  clear h hv
  go_enter Try.func30, Try.ntmps30
  go_wp2_with (go_at_call 55; refine (H.out _ (((Below.refl _ _).alloc (Nat.le_refl _) _).alloc (by simp) _)).mono ?_; rintro e w1 ⟨rfl, hb1⟩)
  go_ret2
  have hb0 : Below w.heap.size w (w.alloc (.cells #[.int .i64 n, .slice A ps.length cap] 26)) := (Below.refl _ _).alloc (Nat.le_refl _) _
  have ho : IOwn w1 w.heap.size (.slice (some ⟨w.heap.size + 1, 0, none⟩) 0 0) [] := by
    have := (own_empty (w.alloc (.cells #[.int .i64 n, .slice A ps.length cap] 26)) w.heap.size (by simp)).on hb1
    simpa using this
  exact ⟨_, _, rfl, by simp, ho, (hb0.alloc (by simp) _).trans (hb1.mono (by simp; omega))⟩

set_option maxHeartbeats 4000000 in
set_option maxRecDepth 100000 in
theorem sat_yes (N : Int) (x : Int) (A : Option Addr) (cap : Nat) (ps : List Pp) (w : World) (h : PAt w A ps) (hv : nodeB N ps x = true) :
    Calls Try.prog 30 #[nv N A ps.length cap, .int .i64 x] w (GivesI w (atL ps x) true) := by
  obtain ⟨hg, hx1, hx2⟩ := nodeB_of hv
  have hl10 := hg.2.2.1
  have hm : ps.length ≤ maxLen := by unfold maxLen; omega
  have H := Lib.hid (fun w' (hb : Below w.heap.size w w') => snode_v hv A cap w' (h.kept hb (Nat.le_refl _)) hm)
  have HA := Lib.hid h
  obtain ⟨i0, hi, hz0, hz1, hz2⟩ := info_parts infoI
  clear h hv hg hx1 hx2 hm
  go_enter Try.func30, Try.ntmps30
  go_wp2_with (go_at_call 55; refine (H.out _ (((Below.refl _ _).alloc (Nat.le_refl _) _).alloc (by simp) _)).mono ?_; rintro e w1 ⟨rfl, hb1⟩; obtain ⟨hc1, hf1⟩ := bcell hb1)
  have hb0 : Below (w.heap.size + 1) (w.alloc (.cells #[.int .i64 N, .slice A ps.length cap] 26)) w1 := (((Below.refl _ _).alloc (by simp) _)).trans (hb1.mono (by simp))
  have hO1 : IOwn w1 (w.heap.size + 1) (.slice (some ⟨w.heap.size + 1, 0, none⟩) 0 0) [] := by
    have := (own_empty (w.alloc (.cells #[.int .i64 N, .slice A ps.length cap] 26)) (w.heap.size + 1) (by simp)).on hb1
    simpa using this
  clear hc1 hf1 hb1
  go_loopw [6, 7] (fun v i wr => ∃ k : Nat, k ≤ ps.length ∧ i = .int .i64 k ∧ Hid (IOwn wr (w.heap.size + 1) v (satL ps k x)) ∧ Hid (v ≠ .slice none 0 0) ∧ Below (w.heap.size + 1) (w.alloc (.cells #[.int .i64 N, .slice A ps.length cap] 26)) wr) (fun _ i _ => ps.length - (intOf i).toNat)
  case atStart => exact ⟨0, Nat.zero_le _, rfl, Lib.hid (by rw [satL_zero]; exact hO1), Lib.hid (by simp), hb0⟩
  case round =>
    obtain ⟨k, hk, rfl, hown, hvn, hb⟩ := hrel
    by_cases hlt : k < ps.length
    · obtain ⟨b, off, hA, hbl, h0, h1, h2, h3⟩ := HA.out.at_ hlt
      subst hA
      obtain ⟨hc, hf⟩ := bcell (W := w.alloc (.cells #[.int .i64 N, .slice (some ⟨b, off, none⟩) ps.length cap] 26)) (by simpa using hb)
      have hsy := Lib.hid (satL_yes ps k x hlt)
      have hsn := Lib.hid (satL_no ps k x hlt)
      have hil := satL_len ps k x
      have hzl := box_lt hb
      generalize pAt ps k = p at *
      by_cases hy : p.fr = x ∨ p.to = x
      · have hs1 := Lib.hid (hsy.out hy)
        have ho := hown.out
        unfold IOwn at ho
        by_cases hf1 : p.fr = x
        · have hE : (p.fr == x) = true := by simpa using hf1
          clear hf1 hy
          go_wp2_with (at_builtin; refine wpList_append_own _ rfl _ _ 29 rfl (w.heap.size + 1) 3 i0 (.int .i64 0) 1 8 Try.underlying29 hi hz0 hz1 hz2 rfl (by decide) _ _ _ rfl (ho.alloc _) ⟨wr.heap.size, 0, none⟩ 1 1 [iv p.id] rfl rfl (cell_one_new _ _ _) (by intro u hu; simp at hu; subst hu; rfl) (by unfold maxLen; omega) (by omega) (by have := hb.size; simp at this ⊢; omega) ?_)
          intro v' w3 hown' hgrow hnil
          have hown3 := Lib.hid (IOwn.push hown')
          have hB3 := Lib.hid ((hb.alloc hzl _).grown hgrow (by simp; omega) (fun g hg => (ho.lt g hg).1))
          rw [← hs1.out] at hown3
          have hnil3 := Lib.hid (show v' ≠ .slice none 0 0 from fun e => by simp [e] at hnil)
          clear hown' hgrow hnil ho
          go_wp2
          go_roundw
          case rel => exact ⟨k + 1, by omega, by go_num, hown3, hnil3, hB3.out⟩
          case measure => simp [intOf]; omega
        · have hE : (p.fr == x) = false := by simpa using hf1
          have hE2 : (p.to == x) = true := by simpa [hf1] using hy
          clear hf1 hy
          go_wp2_with (at_builtin; refine wpList_append_own _ rfl _ _ 29 rfl (w.heap.size + 1) 3 i0 (.int .i64 0) 1 8 Try.underlying29 hi hz0 hz1 hz2 rfl (by decide) _ _ _ rfl (ho.alloc _) ⟨wr.heap.size, 0, none⟩ 1 1 [iv p.id] rfl rfl (cell_one_new _ _ _) (by intro u hu; simp at hu; subst hu; rfl) (by unfold maxLen; omega) (by omega) (by have := hb.size; simp at this ⊢; omega) ?_)
          intro v' w3 hown' hgrow hnil
          have hown3 := Lib.hid (IOwn.push hown')
          have hB3 := Lib.hid ((hb.alloc hzl _).grown hgrow (by simp; omega) (fun g hg => (ho.lt g hg).1))
          rw [← hs1.out] at hown3
          have hnil3 := Lib.hid (show v' ≠ .slice none 0 0 from fun e => by simp [e] at hnil)
          clear hown' hgrow hnil ho
          go_wp2
          go_roundw
          case rel => exact ⟨k + 1, by omega, by go_num, hown3, hnil3, hB3.out⟩
          case measure => simp [intOf]; omega
      · have hs1 := Lib.hid (hsn.out hy)
        have hE : (p.fr == x) = false := by simp; omega
        have hE2 : (p.to == x) = false := by simp; omega
        rw [← hs1.out] at hown
        clear hy
        go_wp2
        go_roundw
        case rel => exact ⟨k + 1, by omega, by go_num, hown, hvn, hb⟩
        case measure => simp [intOf]; omega
    · obtain ⟨hc, hf⟩ := bcell (W := w.alloc (.cells #[.int .i64 N, .slice A ps.length cap] 26)) (by simpa using hb)
      have hfin := Lib.hid (satL_all ps k x (by omega))
      rw [hfin.out] at hown
      obtain ⟨g, capg, rfl, hg⟩ := own_slice hown.out hvn.out
      go_wp2
      go_ret2
      have hlow : IOwn wr w.heap.size (.slice (some ⟨g, 0, none⟩) (atL ps x).length capg) (atL ps x) := own_lower hown.out
      exact ⟨g, capg, rfl, by omega, hlow, below_box hb⟩
end Go.Proofs.Ytoinbpfocfohcaa.S2
