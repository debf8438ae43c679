/- withoutPipe where one pipe stands: contracts. Conditions: each theorem's own premises. -/
import Derived.Test.YtgjogjmfpbinfaaWoThree
namespace Go.Proofs.Ytgjogjmfpbinfaa.S2
open Go.RowKit P2

theorem grow_zero (w : World) :
    Calls Try.prog 224 #[.slice none 0 0, .int .i64 0] w fun e w' => e = .returned (.slice none 0 0) ∧ w' = w := by
  go_enter Try.func224, Try.ntmps224
  go_wp2
  go_ret
  exact ⟨rfl, rfl⟩

set_option maxHeartbeats 4000000 in
set_option maxRecDepth 100000 in
theorem concat_zero (S c1 c2 i m : Nat) (a1 a2 : Addr) (w : World) (hS : S < w.heap.size)
    (h0 : w.cell? ⟨S, 0, none⟩ = some (.slice (some a1) i c1)) (h1 : w.cell? ⟨S, 1, none⟩ = some (.slice (some a2) m c2)) (hi : i = 0) (hm : m = 0) :
    Calls Try.prog 206 #[.slice (some ⟨S, 0, none⟩) 2 2] w fun e w' => e = .returned (.slice none 0 0) ∧ Below w.heap.size w w' := by
  obtain ⟨i0, hi0, hz0, hz1, hz2⟩ := info_parts infoP
  have HG := Lib.hid (fun w => grow_zero w)
  subst hi
  subst hm
  go_enter Try.func206, Try.ntmps206
  go_wp2
  go_loopw [3, 11] (fun s k wr => ∃ j : Nat, j ≤ 2 ∧ k = .int .i64 (j : Int) ∧ s = .int .i64 0 ∧ w = wr) (fun _ k _ => 2 - (intOf k).toNat)
  case atStart => exact ⟨0, by omega, rfl, rfl, rfl⟩
  case round =>
    obtain ⟨j, hj, rfl, rfl, rfl⟩ := hrel
    match j, hj with
    | 0, _ =>
      go_wp2
      go_roundw
      case rel => exact ⟨1, by omega, rfl, rfl, trivial⟩
      case measure => simp [intOf]
    | 1, _ =>
      go_wp2
      go_roundw
      case rel => exact ⟨2, by omega, rfl, rfl, trivial⟩
      case measure => simp [intOf]
    | 2, _ =>
      go_wp2_with (first
        | (go_at_call 224; refine (HG.out _).mono ?_; rintro e w1 ⟨rfl, rfl⟩)
        | fail)
      go_loopw [6, 27] (fun v k wr => ∃ j : Nat, j ≤ 2 ∧ k = .int .i64 (j : Int) ∧ v = .slice none 0 0 ∧ Below w1.heap.size w1 wr) (fun _ k _ => 2 - (intOf k).toNat)
      case atStart => exact ⟨0, by omega, rfl, rfl, Below.refl _ _⟩
      case round =>
        obtain ⟨j, hj, rfl, rfl, hb⟩ := hrel
        have h0w := (hb.cell (p := ⟨S, 0, none⟩) hS).trans h0
        have h1w := (hb.cell (p := ⟨S, 1, none⟩) hS).trans h1
        have hz := hb.size
        have ho2 : wr.ownsRow w1.heap.size 75 4 (.slice none 0 0) 0 [] := ⟨rfl, .inl ⟨rfl, rfl⟩⟩
        match j, hj with
        | 0, _ =>
          go_wp2_with (at_builtin; go_must (refine wpList_append_own _ rfl _ _ 28 rfl w1.heap.size 75 i0 _ 4 32 Try.underlying28 hi0 hz0 hz1 hz2 rfl (by omega) _ _ _ rfl ho2 a1 0 c1 [] rfl rfl (by simp) (by simp) (by simp [maxLen]) (by omega) hz ?_))
          intro v' w3 hown' hgrow hnil
          have hv : v' = .slice none 0 0 := hnil
          subst hv
          have hB3 := Lib.hid (hb.grown hgrow hz (fun g hg => by simp [Value.ownBlock] at hg))
          clear hown' hgrow hnil ho2
          go_wp2
          go_roundw
          case rel => exact ⟨1, by omega, rfl, rfl, hB3.out⟩
          case measure => simp [intOf]
        | 1, _ =>
          go_wp2_with (at_builtin; go_must (refine wpList_append_own _ rfl _ _ 28 rfl w1.heap.size 75 i0 _ 4 32 Try.underlying28 hi0 hz0 hz1 hz2 rfl (by omega) _ _ _ rfl ho2 a2 0 c2 [] rfl rfl (by simp) (by simp) (by simp [maxLen]) (by omega) hz ?_))
          intro v' w3 hown' hgrow hnil
          have hv : v' = .slice none 0 0 := hnil
          subst hv
          have hB3 := Lib.hid (hb.grown hgrow hz (fun g hg => by simp [Value.ownBlock] at hg))
          clear hown' hgrow hnil ho2
          go_wp2
          go_roundw
          case rel => exact ⟨2, by omega, rfl, rfl, hB3.out⟩
          case measure => simp [intOf]
        | 2, _ =>
          go_wp2
          go_ret
          exact ⟨rfl, hb⟩
set_option maxHeartbeats 8000000 in
set_option maxRecDepth 100000 in
theorem wo_one (N i b off n cap : Nat) (ps : List Pp) (w : World) (h : PAt w (some ⟨b, off, none⟩) ps) (hn : ps.length = n) (hi : i < n) (h2 : n = 1) (hc : n ≤ cap) (_hl : n ≤ 10) :
    Calls Try.prog 133 #[nv N (some ⟨b, off, none⟩) n cap, .int .i64 (i : Int)] w fun e w' => e = .returned (nv N none 0 0) ∧ Below w.heap.size w w' := by
  have hi1 : (0 : Int) ≤ (i : Int) := by omega
  have hi2 : (i : Int) < (n : Int) := by omega
  have hi3 : (i : Int) ≤ (cap : Int) := by omega
  have hi4 : (i : Int) + 1 ≤ (n : Int) := by omega
  have hi5 : (n : Int) ≤ (cap : Int) := by omega
  have hi6 : (0 : Int) ≤ (i : Int) + 1 := by omega
  obtain ⟨a2, ha2, ha3⟩ : ∃ a2 : Addr, (if cap = i + 1 then some (⟨b, off, none⟩ : Addr) else some ⟨b, off + (i + 1) * 4, none⟩) = some a2 ∧ (cap ≠ i + 1 → a2 = ⟨b, off + (i + 1) * 4, none⟩) := by
    by_cases e : cap = i + 1
    · exact ⟨_, by rw [if_pos e], fun h => absurd e h⟩
    · exact ⟨_, by rw [if_neg e], fun _ => rfl⟩
  have hw1 : IntKind.i64.wrap ((i : Int) + 1) = (i : Int) + 1 := IntWalk.i64_in _ (by omega)
  have hbl : b < w.heap.size := by
    rcases h with h | ⟨b', off', hA, hlt, _⟩
    · rw [h] at hn; simp at hn; omega
    · injection hA with hA; injection hA with hb' _ _; rw [hb']; exact hlt
  have HN1 := Lib.hid h2
  clear h ha3 h2
  go_enter Try.func133, Try.ntmps133
  go_wp2
  go_region_held3 (fun w' => w'.cell? ⟨w.heap.size, 0, none⟩ = some (.int .i64 N) ∧ w'.cell? ⟨w.heap.size, 1, none⟩ = some (.slice (some ⟨b, off, none⟩) n cap))
    (first
      | go_keep
      | (go_split_ands
         exact ⟨(hbx.cell (p := ⟨w.heap.size, 0, none⟩) (by simp; omega)).trans (by assumption), (hbx.cell (p := ⟨w.heap.size, 1, none⟩) (by simp; omega)).trans (by assumption)⟩))
    (first
      | (go_at_call 206; refine (concat_zero (w.heap.size + 2) cap (cap - (i + 1)) i (n - (i + 1)) ⟨b, off, none⟩ a2 _ (by simp) (by go_simp) (by go_simp) (by have := HN1.out; omega) (by have := HN1.out; omega)).mono ?_; rintro e w4 ⟨rfl, hbx⟩; have hsz := hbx.size; have c0 : w4.cell? ⟨w.heap.size + 1, 0, none⟩ = some (.int .i64 0) := (hbx.cell (p := ⟨w.heap.size + 1, 0, none⟩) (by simp)).trans (by go_simp); have fz0 : w4.frozen? ⟨w.heap.size + 1, 0, none⟩ = false := (hbx.frozen (p := ⟨w.heap.size + 1, 0, none⟩) (by simp)).trans (by go_simp); have c1 : w4.cell? ⟨w.heap.size + 1, 1, none⟩ = some (.slice none 0 0) := (hbx.cell (p := ⟨w.heap.size + 1, 1, none⟩) (by simp)).trans (by go_simp); have fz1 : w4.frozen? ⟨w.heap.size + 1, 1, none⟩ = false := (hbx.frozen (p := ⟨w.heap.size + 1, 1, none⟩) (by simp)).trans (by go_simp)))
  have HB6 := Lib.hid (Below.trans (((((Below.refl w.heap.size w).alloc (Nat.le_refl _) _).alloc (by simp) _).alloc (by simp; omega) _).drew) (hbx.mono (by simp; omega)))
  clear hbx hsz
  go_wp2
  refine bodyPost_ret (v := nv N none 0 0) (by simp [results, Try.results133, go_sem, c0, c1]) rfl ⟨rfl, ?_⟩
  exact (HB6.out.setCell (p := ⟨w.heap.size + 1, 0, none⟩) (by show w.heap.size ≤ w.heap.size + 1; omega) _).setCell (p := ⟨w.heap.size + 1, 1, none⟩) (by show w.heap.size ≤ w.heap.size + 1; omega) _

/-- withoutPipe, whatever the number of pipes. -/
theorem wo_all (N i cap : Nat) (A : Option Addr) (ps : List Pp) (w : World) (h : PAt w A ps) (hi : i < ps.length) (hc : ps.length ≤ cap) (hl : ps.length ≤ 10) :
    Calls Try.prog 133 #[nv N A ps.length cap, .int .i64 (i : Int)] w fun e w' => ∃ A2 c, e = .returned (nv N A2 (wo ps i).length c) ∧ PAt w' A2 (wo ps i) ∧ Below w.heap.size w w' := by
  obtain ⟨b, off, hA, _⟩ := h.at_ hi
  subst hA
  by_cases h2 : 2 ≤ ps.length
  · refine (wo_any N i b off ps.length cap ps w h rfl hi h2 (by omega) hl).mono ?_
    rintro e w' ⟨g, c, rfl, _, hp, hb⟩
    exact ⟨_, c, by rw [wo_len ps i hi], hp, hb⟩
  · have e1 : ps.length = 1 := by omega
    have e2 : i = 0 := by omega
    subst e2
    refine (wo_one N 0 b off ps.length cap ps w h rfl hi e1 (by omega) hl).mono ?_
    rintro e w' ⟨rfl, hb⟩
    have e4 : wo ps 0 = [] := List.length_eq_zero_iff.1 (by rw [wo_len ps 0 hi]; omega)
    exact ⟨none, 0, by rw [e4]; rfl, .inl e4, hb⟩
end Go.Proofs.Ytgjogjmfpbinfaa.S2
