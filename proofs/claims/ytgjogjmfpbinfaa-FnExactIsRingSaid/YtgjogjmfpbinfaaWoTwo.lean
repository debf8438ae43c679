/- slices.Grow and slices.Concat on pipes: contracts. Conditions: each theorem's own premises. -/
import Derived.Test.YtgjogjmfpbinfaaWoA
import Derived.Lib.AppendZeros
namespace Go.Proofs.Ytgjogjmfpbinfaa.S2
open Go.RowKit P2

theorem size_zeroCells (z : Array Value) (n : Nat) : (Builtin.zeroCells z n).size = n * z.size := by
  first
    | simp [Builtin.zeroCells]
    | (unfold Builtin.zeroCells; simp)

set_option maxHeartbeats 2000000 in
set_option maxRecDepth 100000 in
theorem grow_any (M : Nat) (w : World) (h1 : 1 ≤ M) (h9 : M ≤ 10) :
    Calls Try.prog 224 #[.slice none 0 0, .int .i64 (M : Int)] w fun e w' => ∃ g c, e = .returned (.slice (some ⟨g, 0, none⟩) 0 c) ∧ M ≤ c ∧ w'.ownsRow w.heap.size 75 4 (.slice (some ⟨g, 0, none⟩) 0 c) 0 [] ∧ Below w.heap.size w w' := by
  obtain ⟨i0, hi0, hz0, hz1, hz2⟩ := info_parts infoP
  have HR := Lib.hid (Lib.run_append_nil_zeros (P := Try.prog) w 28 3 28 75 i0 _ .i64 .i64 Try.underlying28 Try.underlying3 hi0 hz0 M (by omega) (by omega) (by omega) (by rw [hz2]; omega))
  have hge := grownCap_ge w M 0 75
  have hle := grownCap_le_maxLen w M 0 75 (by simp only [maxLen]; omega)
  have hM0 : (0 : Int) ≤ (M : Int) := by omega
  have hM1 : (0 : Int) < (M : Int) := by omega
  have hM2 : 0 < M := by omega
  have hM9 : (M : Int) ≤ 10 := by omega
  generalize grownCap w M 0 75 = c at *
  go_enter Try.func224, Try.ntmps224
  go_wp2_with (at_builtin; go_must (refine Lib.wpList_append_run _ rfl _ _ _ _ rfl _ _ (by simp [go_sem]) (by simp [go_sem]) _ _ HR.out ?_))
  go_ret
  refine ⟨w.heap.size, c, rfl, hge, ⟨rfl, .inr ⟨w.heap.size, c, _, rfl, Nat.le_refl _, (MapKept.heap_alloc w.drew _).1, Nat.zero_le _, hle, ?_, rfl⟩⟩, (Below.refl _ _).drew.alloc (Nat.le_refl _) _⟩
  rw [Array.size_append, size_zeroCells, size_zeroCells]
  simp
  omega

/-- What has been gathered after j of two slices. -/
def two {α : Type} (z a b : α) (j : Nat) : α := if j = 0 then z else if j = 1 then a else b
set_option maxHeartbeats 4000000 in
set_option maxRecDepth 100000 in
theorem concat_any (S i m c1 c2 : Nat) (a1 a2 : Addr) (xs ys : List Value) (w : World) (hS : S < w.heap.size)
    (h0 : w.cell? ⟨S, 0, none⟩ = some (.slice (some a1) i c1)) (h1 : w.cell? ⟨S, 1, none⟩ = some (.slice (some a2) m c2))
    (hx : xs.length = i * 4) (hy : ys.length = m * 4) (hx1 : ∀ u ∈ xs, u.oneCell' = true) (hy1 : ∀ u ∈ ys, u.oneCell' = true)
    (hxs : ∀ w', Below w.heap.size w w' → ∀ j u, xs[j]? = some u → w'.cell? (a1.add j) = some u) (hys : ∀ w', Below w.heap.size w w' → ∀ j u, ys[j]? = some u → w'.cell? (a2.add j) = some u)
    (hp : 1 ≤ i + m) (h9 : i + m ≤ 10) :
    Calls Try.prog 206 #[.slice (some ⟨S, 0, none⟩) 2 2] w fun e w' => ∃ g c, e = .returned (.slice (some ⟨g, 0, none⟩) (i + m) c) ∧ w'.ownsRow w.heap.size 75 4 (.slice (some ⟨g, 0, none⟩) (i + m) c) (i + m) (xs ++ ys) ∧ Below w.heap.size w w' := by
  obtain ⟨i0, hi0, hz0, hz1, hz2⟩ := info_parts infoP
  have HG := Lib.hid (fun w => grow_any (i + m) w hp h9)
  have HXS := Lib.hid hxs
  have HYS := Lib.hid hys
  have hT : ((i + m : Nat) : Int) = (i : Int) + (m : Int) := by omega
  clear hxs hys
  go_enter Try.func206, Try.ntmps206
  go_wp2
  go_loopw [3, 11] (fun s k wr => ∃ j : Nat, j ≤ 2 ∧ k = .int .i64 (j : Int) ∧ s = .int .i64 ((two 0 i (i + m) j : Nat) : Int) ∧ w = wr) (fun _ k _ => 2 - (intOf k).toNat)
  case atStart => exact ⟨0, by omega, rfl, rfl, rfl⟩
  case round =>
    obtain ⟨j, hj, rfl, rfl, rfl⟩ := hrel
    match j, hj with
    | 0, _ =>
      have e : two 0 i (i + m) 0 = 0 := rfl
      rw [e]
      have hii : (0 : Int) ≤ (i : Int) := by omega
      have hi9 : (i : Int) ≤ 10 := by omega
      go_wp2
      go_roundw
      case rel => exact ⟨1, by omega, rfl, by simp [two], trivial⟩
      case measure => simp [intOf]
    | 1, _ =>
      have e : two 0 i (i + m) 1 = i := rfl
      rw [e]
      have hii : (0 : Int) ≤ (i : Int) := by omega
      have hmm : (0 : Int) ≤ (m : Int) := by omega
      have him : (i : Int) + (m : Int) ≤ 10 := by omega
      have him0 : (0 : Int) ≤ (i : Int) + (m : Int) := by omega
      go_wp2
      go_roundw
      case rel => exact ⟨2, by omega, rfl, by simp [two], trivial⟩
      case measure => simp [intOf]
    | 2, _ =>
      have e : two 0 i (i + m) 2 = i + m := rfl
      rw [e]
      go_wp2_with (first
        | (go_at_call 224; refine (HG.out _).mono ?_; rintro e w1 ⟨g, c, rfl, hgc, hown, hb1⟩; refine Hid.out ?_)
        | fail)
      refine Lib.hid ?_
      go_wp2
      have hB1 : Below w.heap.size w w1 := hb1
      have HO1 := Lib.hid hown
      clear hown hb1 hgc e
      go_loopw [6, 27] (fun v k wr => ∃ j : Nat, j ≤ 2 ∧ k = .int .i64 (j : Int) ∧ Hid (wr.ownsRow w.heap.size 75 4 v (two 0 i (i + m) j) (two [] xs (xs ++ ys) j)) ∧ Hid (v ≠ .slice none 0 0) ∧ Below w.heap.size w wr) (fun _ k _ => 2 - (intOf k).toNat)
      case atStart => exact ⟨0, by omega, rfl, HO1, Lib.hid (by simp), hB1⟩
      case round =>
        clear HO1 hB1
        obtain ⟨j, hj, rfl, hown, hvn, hb⟩ := hrel
        have h0w := (hb.cell (p := ⟨S, 0, none⟩) hS).trans h0
        have h1w := (hb.cell (p := ⟨S, 1, none⟩) hS).trans h1
        have hz := hb.size
        match j, hj with
        | 0, _ =>
          have ho := hown.out
          have ho2 : wr.ownsRow w.heap.size 75 4 _ 0 [] := ho
          go_wp2_with (at_builtin; go_must (refine wpList_append_own _ rfl _ _ 28 rfl w.heap.size 75 i0 _ 4 32 Try.underlying28 hi0 hz0 hz1 hz2 rfl (by omega) _ _ _ rfl ho2 a1 i c1 xs rfl hx (HXS.out _ hb) hx1 (by simp only [maxLen]; omega) (by omega) hz ?_))
          intro v' w3 hown' hgrow hnil
          have hB3 := Lib.hid (hb.grown hgrow hz (fun g hg => (ho2.lt g hg).1))
          have hn3 := Lib.hid (show v' ≠ .slice none 0 0 from fun e => hvn.out (hnil.1 e).1)
          have ho3 := Lib.hid (show w3.ownsRow w.heap.size 75 4 v' (two 0 i (i + m) 1) (two [] xs (xs ++ ys) 1) from hown')
          clear hown' hgrow hnil ho ho2
          go_wp2
          go_roundw
          case rel => exact ⟨1, by omega, rfl, ho3, hn3, hB3.out⟩
          case measure => simp [intOf]
        | 1, _ =>
          have ho2 : wr.ownsRow w.heap.size 75 4 _ i xs := hown.out
          go_wp2_with (at_builtin; go_must (refine wpList_append_own _ rfl _ _ 28 rfl w.heap.size 75 i0 _ 4 32 Try.underlying28 hi0 hz0 hz1 hz2 rfl (by omega) _ _ _ rfl ho2 a2 m c2 ys rfl hy (HYS.out _ hb) hy1 (by simp only [maxLen]; omega) (by omega) hz ?_))
          intro v' w3 hown' hgrow hnil
          have hB3 := Lib.hid (hb.grown hgrow hz (fun g hg => (ho2.lt g hg).1))
          have hn3 := Lib.hid (show v' ≠ .slice none 0 0 from fun e => hvn.out (hnil.1 e).1)
          have ho3 := Lib.hid (show w3.ownsRow w.heap.size 75 4 v' (two 0 i (i + m) 2) (two [] xs (xs ++ ys) 2) from hown')
          clear hown' hgrow hnil ho2
          go_wp2
          go_roundw
          case rel => exact ⟨2, by omega, rfl, ho3, hn3, hB3.out⟩
          case measure => simp [intOf]
        | 2, _ =>
          have ho2 : wr.ownsRow w.heap.size 75 4 _ (i + m) (xs ++ ys) := hown.out
          obtain ⟨g, cp, rfl, _, _⟩ := ho2.form (by omega)
          go_wp2
          go_ret
          exact ⟨g, cp, rfl, ho2, hb⟩
end Go.Proofs.Ytgjogjmfpbinfaa.S2
