/- The nodes connected with a node: what the program returns: contracts. Conditions: each theorem's own premises. -/
import Derived.Test.YtlkomipjamelkabDistOne
namespace Go.Proofs.Ytlkomipjamelkab.S2
open Go.RowKit P2

def conTo (D : List Int) (k : Nat) : List Int := ((List.range k).filter fun v => dA D v != -1).map fun v : Nat => (v : Int)
theorem conTo_len (D : List Int) (k : Nat) : (conTo D k).length ≤ k := by
  unfold conTo; rw [List.length_map]; exact Nat.le_trans (List.length_filter_le _ _) (by simp)
theorem conTo_yes (D : List Int) (k : Nat) (h : dA D k ≠ -1) : conTo D (k + 1) = conTo D k ++ [(k : Int)] := by
  unfold conTo
  rw [List.range_succ, List.filter_append, List.map_append]
  simp [h]
theorem conTo_no (D : List Int) (k : Nat) (h : dA D k = -1) : conTo D (k + 1) = conTo D k := by
  unfold conTo
  rw [List.range_succ, List.filter_append, List.map_append]
  simp [h]
/-- The nodes connected with t, in ascending order. -/
noncomputable def conL (n : Nat) (ps : List Pp) (t : Int) : List Int := conTo (distL n ps t) (n + 1)
theorem distL_len (n : Nat) (ps : List Pp) (t : Int) : (distL n ps t).length = n + 1 := by simp [distL]
theorem distL_at (n : Nat) (ps : List Pp) (t : Int) (v : Nat) (hv : v ≤ n) (h0 : v ≠ 0) : dA (distL n ps t) v = dist ps t v := by
  have : v < n + 1 := by omega
  simp [dA, distL, List.getD, this, h0]
theorem distL_zero (n : Nat) (ps : List Pp) (t : Int) : dA (distL n ps t) 0 = -1 := by simp [dA, distL, List.getD]

/-- A fresh slice of numbers. -/
def GivesL (w : World) (l : List Int) (e : Ending) (w' : World) : Prop :=
  ∃ g cap, e = .returned (.slice (some ⟨g, 0, none⟩) l.length cap) ∧ w.heap.size ≤ g ∧ IOwn w' w.heap.size (.slice (some ⟨g, 0, none⟩) l.length cap) l ∧ Below w.heap.size w w'

theorem DRow.grown {w w' : World} {g : Nat} {D : List Int} {row : Option Nat} (h : DRow w g D) (hg : w.grownBy w' row) (hne : row ≠ some g) : DRow w' g D :=
  h.kept (hg.block g h.lt (fun e => hne e.symm))

set_option maxHeartbeats 4000000 in
set_option maxRecDepth 100000 in
theorem con_any (N t : Nat) (A : Option Addr) (cap : Nat) (ps : List Pp) (w : World) (h : PAt w A ps) (hg : P2.Good N ps) (ht1 : 1 ≤ t) (ht2 : t ≤ N) :
    Calls Try.prog 130 #[nv N A ps.length cap, .int .i64 (t : Int)] w (GivesL w (conL N ps t)) := by
  have HD := Lib.hid (fun w' (hb : Below w.heap.size w w') => dist_any N t A cap ps w' (h.kept hb (Nat.le_refl _)) hg ht1 ht2)
  have hN : N ≤ 8 := by have := hg.2.1; omega
  have HL := Lib.hid (distL_len N ps t)
  have HC := Lib.hid (show conL N ps t = conTo (distL N ps t) (N + 1) from rfl)
  obtain ⟨i0, hi, hz0, hz1, hz2⟩ := info_parts infoI
  clear h hg
  go_enter Try.func130, Try.ntmps130
  go_wp2_with (first
    | (go_at_call 105; refine (HD.out _ (((Below.refl _ _).alloc (Nat.le_refl _) _).alloc (by simp) _)).mono ?_; rintro e w1 ⟨⟨gD, D, rfl, hgD, hd, hDe⟩, hb1⟩)
    | fail)
  rw [← hDe] at HL HC
  have hB0 : Below w.heap.size w ((w.alloc (.cells #[.int .i64 N, .slice A ps.length cap] 26)).alloc (.cells #[] 3)) := ((Below.refl _ _).alloc (Nat.le_refl _) _).alloc (by simp) _
  have hB1 := hB0.trans (hb1.mono (by simp; omega))
  have hO0 := (own_empty (w.alloc (.cells #[.int .i64 N, .slice A ps.length cap] 26)) w.heap.size (by simp)).on hb1
  have hO1 : Hid (IOwn w1 w.heap.size (.slice (some ⟨w.heap.size + 1, 0, none⟩) 0 0) []) := Lib.hid (by simpa using hO0)
  have hgD1 : w.heap.size + 2 ≤ gD := by simp at hgD; omega
  have hF1 : Hid ((Value.slice (some ⟨w.heap.size + 1, 0, none⟩) 0 0).ownBlock ≠ some gD) := Lib.hid (by simp [Value.ownBlock]; omega)
  have HD1 := Lib.hid hd
  clear hd hb1 hO0 hB0 hDe hgD
  go_loopw [5, 13] (fun v i wr => ∃ k : Nat, k ≤ N + 1 ∧ i = .int .i64 k ∧ Hid (IOwn wr w.heap.size v (conTo D k)) ∧ Hid (v ≠ .slice none 0 0) ∧ Hid (v.ownBlock ≠ some gD) ∧ Hid (DRow wr gD D) ∧ Below w.heap.size w wr) (fun _ i _ => N + 1 - (intOf i).toNat)
  case atStart => exact ⟨0, Nat.zero_le _, rfl, Lib.hid (by have : conTo D 0 = [] := rfl; rw [this]; exact hO1.out), Lib.hid (by simp), hF1, HD1, hB1⟩
  case round =>
    clear hO1 hF1 HD1 hB1
    obtain ⟨k, hk, rfl, hown, hvn, hfar, hd, hb⟩ := hrel
    by_cases hlt : k < N + 1
    · have ck := hd.out.cell (v := k) (by rw [HL.out]; omega)
      have hk0 : (0 : Int) ≤ (k : Int) := by omega
      have hkN : (k : Int) < (N : Int) + 1 := by omega
      have hil := conTo_len D k
      by_cases hne : dA D k = -1
      · have hs := Lib.hid (conTo_no D k hne)
        rw [hne] at ck
        rw [← hs.out] at hown
        go_wp2
        go_roundw
        case rel => exact ⟨k + 1, by omega, by go_num, hown, hvn, hfar, hd, hb⟩
        case measure => simp [intOf]; omega
      · have hs := Lib.hid (conTo_yes D k hne)
        have hnb : (dA D k != -1) = true := by simpa using hne
        have ho := hown.out
        unfold IOwn at ho
        have hzd := hd.out.lt
        clear hne
        go_wp2_with (at_builtin; go_must (refine wpList_append_lies _ rfl _ _ 27 rfl w.heap.size 3 i0 (.int .i64 0) 1 8 Try.underlying27 hi hz0 hz1 hz2 rfl (by decide) _ _ _ rfl (ho.alloc _) ⟨wr.heap.size, 0, none⟩ 1 1 [iv (k : Int)] rfl rfl (cell_one_new _ _ _) (by intro u hu; simp at hu; subst hu; rfl) (by omega) (by unfold maxLen; omega) (by omega) (by have := hb.size; simp; omega) (wr.heap.size + 1) (by simp) ?_); intro gg cap' w3 hown' hgrow hat hlt1)
        have hown3 := Lib.hid (IOwn.push hown')
        rw [← hs.out] at hown3
        have hB3 := Lib.hid ((hb.alloc hb.size _).grown hgrow (by have := hb.size; simp; omega) (fun g hg => (ho.lt g hg).1))
        have hD3 := Lib.hid (((hd.out.kept (Below.heap_alloc wr (.cells #[iv (k : Int)] 3) gD hzd))).grown hgrow hfar.out)
        have hF3 : Hid ((Value.slice (some ⟨gg, 0, none⟩) ((conTo D k).length + 1) cap').ownBlock ≠ some gD) := Lib.hid (by
          intro e
          have hgb : gg = gD := by simpa [Value.ownBlock] using e
          subst hgb
          rcases hat with hat | hat
          · exact hfar.out hat
          · omega)
        clear hown' hgrow ho hat
        go_wp2
        go_roundw
        case rel => exact ⟨k + 1, by omega, by go_num, hown3, Lib.hid (by simp), hF3, hD3, hB3.out⟩
        case measure => simp [intOf]; omega
    · have hkN : k = N + 1 := by omega
      have hown2 := hown.out
      rw [hkN, ← HC.out] at hown2
      obtain ⟨g, capg, rfl, hg⟩ := own_slice hown2 hvn.out
      clear hkN
      go_wp2
      go_ret
      exact ⟨g, capg, rfl, hg, hown2, hb⟩


end Go.Proofs.Ytlkomipjamelkab.S2
