/- The program's withoutPipe: contracts. Conditions: each theorem's own premises. -/
import Derived.Test.YtgjogjmfpbinfaaWoTwo
namespace Go.Proofs.Ytgjogjmfpbinfaa.S2
open Go.RowKit P2

set_option maxHeartbeats 8000000 in
set_option maxRecDepth 100000 in
theorem wo_own (N i b off n cap : Nat) (ps : List Pp) (w : World) (h : PAt w (some ⟨b, off, none⟩) ps) (hn : ps.length = n) (hi : i < n) (h2 : 2 ≤ n) (hc : n ≤ cap) (hl : n ≤ 10) :
    Calls Try.prog 133 #[nv N (some ⟨b, off, none⟩) n cap, .int .i64 (i : Int)] w fun e w' => ∃ g c, e = .returned (nv N (some ⟨g, 0, none⟩) (n - 1) c) ∧ w.heap.size ≤ g ∧ w'.ownsRow (w.heap.size + 3) 75 4 (.slice (some ⟨g, 0, none⟩) (n - 1) c) (n - 1) (pcs (ps.take i ++ ps.drop (i + 1))) ∧ Below w.heap.size w w' := by
  have HA := Lib.hid h
  have hi1 : (0 : Int) ≤ (i : Int) := by omega
  have hi2 : (i : Int) < (n : Int) := by omega
  have hi3 : (i : Int) ≤ (cap : Int) := by omega
  have hi4 : (i : Int) + 1 ≤ (n : Int) := by omega
  have hi5 : (n : Int) ≤ (cap : Int) := by omega
  have hi6 : (0 : Int) ≤ (i : Int) + 1 := by omega
  obtain ⟨a2, ha2, ha3⟩ : ∃ a2 : Addr, (if cap = i + 1 then some (⟨b, off, none⟩ : Addr) else some ⟨b, off + (i + 1) * 4, none⟩) = some a2 ∧ (cap ≠ i + 1 → a2 = ⟨b, off + (i + 1) * 4, none⟩) := by
    by_cases e : cap = i + 1
    · exact ⟨_, by rw [if_pos e], fun h => absurd e h⟩
    · exact ⟨_, by rw [if_neg e], fun _ => rfl⟩
  have HA3 := Lib.hid ha3
  have hw1 : IntKind.i64.wrap ((i : Int) + 1) = (i : Int) + 1 := IntWalk.i64_in _ (by omega)
  have hbl : b < w.heap.size := by
    rcases h with h | ⟨b', off', hA, hlt, _⟩
    · rw [h] at hn; simp at hn; omega
    · injection hA with hA; injection hA with hb' _ _; rw [hb']; exact hlt
  have hlen : (ps.take i ++ ps.drop (i + 1)).length = n - 1 := by rw [List.length_append, List.length_take, List.length_drop]; omega
  have HLEN := Lib.hid hlen
  clear h ha3 hlen
  go_enter Try.func133, Try.ntmps133
  go_wp2
  go_region_held3 (fun w' => w'.cell? ⟨w.heap.size, 0, none⟩ = some (.int .i64 N) ∧ w'.cell? ⟨w.heap.size, 1, none⟩ = some (.slice (some ⟨b, off, none⟩) n cap))
    (first
      | go_keep
      | (go_split_ands
         exact ⟨(hbx.cell (p := ⟨w.heap.size, 0, none⟩) (by simp; omega)).trans (by assumption), (hbx.cell (p := ⟨w.heap.size, 1, none⟩) (by simp; omega)).trans (by assumption)⟩))
    (first
      | (go_at_call 206; refine (concat_any (w.heap.size + 2) i (n - (i + 1)) cap (cap - (i + 1)) ⟨b, off, none⟩ a2 (pcs (ps.take i)) (pcs (ps.drop (i + 1))) _ (by simp) (by go_simp) (by go_simp) (by rw [pcs_len, List.length_take]; omega) (by rw [pcs_len, List.length_drop]; omega) (pcs_one _) (pcs_one _) (fun w' hb' => pat_take HA.out hbl (Below.trans (((((Below.refl _ _).alloc (Nat.le_refl _) _).alloc (by simp) _).alloc (by simp; omega) _).drew) (hb'.mono (by simp; omega))) (by omega)) (fun w' hb' => by
          intro j u hu
          by_cases e : cap = i + 1
          · rw [List.drop_eq_nil_of_le (by omega)] at hu; simp [pcs] at hu
          · rw [HA3.out e]; exact pat_drop HA.out hbl (Below.trans (((((Below.refl _ _).alloc (Nat.le_refl _) _).alloc (by simp) _).alloc (by simp; omega) _).drew) (hb'.mono (by simp; omega))) j u hu) (by omega) (by omega)).mono ?_; rintro e w4 ⟨g, c, rfl, hown, hbx⟩; have hsz := hbx.size; have c0 : w4.cell? ⟨w.heap.size + 1, 0, none⟩ = some (.int .i64 0) := (hbx.cell (p := ⟨w.heap.size + 1, 0, none⟩) (by simp)).trans (by go_simp); have fz0 : w4.frozen? ⟨w.heap.size + 1, 0, none⟩ = false := (hbx.frozen (p := ⟨w.heap.size + 1, 0, none⟩) (by simp)).trans (by go_simp); have c1 : w4.cell? ⟨w.heap.size + 1, 1, none⟩ = some (.slice none 0 0) := (hbx.cell (p := ⟨w.heap.size + 1, 1, none⟩) (by simp)).trans (by go_simp); have fz1 : w4.frozen? ⟨w.heap.size + 1, 1, none⟩ = false := (hbx.frozen (p := ⟨w.heap.size + 1, 1, none⟩) (by simp)).trans (by go_simp)))
  have e : i + (n - (i + 1)) = n - 1 := by omega
  have hbs : w.heap.size + 3 ≤ g ∧ w.heap.size ≤ w4.heap.size := by
    have h3 := (World.ownsRow.lt hown g rfl).1
    simp at h3 hsz
    omega
  have h6 : w4.ownsRow (w.heap.size + 3) 75 4 (.slice (some ⟨g, 0, none⟩) (n - 1) c) (n - 1) (pcs (ps.take i ++ ps.drop (i + 1))) := by
    have e2 : pcs (ps.take i ++ ps.drop (i + 1)) = pcs (ps.take i) ++ pcs (ps.drop (i + 1)) := by simp [pcs, List.flatMap_append]
    rw [e2, ← e]
    simpa using hown
  have HO6 := Lib.hid h6
  have HB6 := Lib.hid (Below.trans (((((Below.refl w.heap.size w).alloc (Nat.le_refl _) _).alloc (by simp) _).alloc (by simp; omega) _).drew) (hbx.mono (by simp; omega)))
  clear hown hbx h6 hsz
  go_wp2
  refine bodyPost_ret (v := nv N (some ⟨g, 0, none⟩) (n - 1) c) (by simp [results, Try.results133, go_sem, c0, c1, e]) rfl ⟨g, c, rfl, by omega, ?_, ?_⟩
  · have h5 := ownsRow_setCell_below (ownsRow_setCell_below HO6.out (a := ⟨w.heap.size + 1, 0, none⟩) (by show w.heap.size + 1 < w.heap.size + 3; omega) (.int .i64 N)) (a := ⟨w.heap.size + 1, 1, none⟩) (by show w.heap.size + 1 < w.heap.size + 3; omega) (.slice (some ⟨g, 0, none⟩) (i + (n - (i + 1))) c)
    simpa only [e] using h5
  · exact (HB6.out.setCell (p := ⟨w.heap.size + 1, 0, none⟩) (by show w.heap.size ≤ w.heap.size + 1; omega) _).setCell (p := ⟨w.heap.size + 1, 1, none⟩) (by show w.heap.size ≤ w.heap.size + 1; omega) _
theorem wo_any (N i b off n cap : Nat) (ps : List Pp) (w : World) (h : PAt w (some ⟨b, off, none⟩) ps) (hn : ps.length = n) (hi : i < n) (h2 : 2 ≤ n) (hc : n ≤ cap) (hl : n ≤ 10) :
    Calls Try.prog 133 #[nv N (some ⟨b, off, none⟩) n cap, .int .i64 (i : Int)] w fun e w' => ∃ g c, e = .returned (nv N (some ⟨g, 0, none⟩) (n - 1) c) ∧ w.heap.size ≤ g ∧ PAt w' (some ⟨g, 0, none⟩) (ps.take i ++ ps.drop (i + 1)) ∧ Below w.heap.size w w' := by
  have hlen : (ps.take i ++ ps.drop (i + 1)).length = n - 1 := by rw [List.length_append, List.length_take, List.length_drop]; omega
  refine (wo_own N i b off n cap ps w h hn hi h2 hc hl).mono ?_
  rintro e w' ⟨g, c, rfl, hg, ho, hb⟩
  refine ⟨g, c, rfl, hg, own_pat (B := w.heap.size + 3) (cap := c) ?_, hb⟩
  rw [hlen]
  exact ho
end Go.Proofs.Ytgjogjmfpbinfaa.S2
