/- Points of curves that the call owns; marks in them, written and found again; a clone: contracts. Conditions: each theorem's own premises. -/
import Derived.Test.YtpldbakllegheabCvSs
namespace Go.Proofs.Ytpldbakllegheab.S7
open Go.RowKit Go.Sort P7

/-- The cells of points, in a list. -/
def ccs2 (c : Cp) : List Value := [.int .i64 c.fl, .int .i64 c.hd]
def ccs (cs : List Cp) : List Value := cs.flatMap ccs2
theorem ccs_snoc (ps : List Cp) (p : Cp) : ccs (ps ++ [p]) = ccs ps ++ ccs2 p := by simp [ccs, List.flatMap_append]
theorem ccs_len (ps : List Cp) : (ccs ps).length = ps.length * 2 := by
  induction ps with
  | nil => rfl
  | cons p ps ih =>
    have e : ccs (p :: ps) = ccs2 p ++ ccs ps := rfl
    rw [e, List.length_append, ih]; simp [ccs2]; omega
theorem ccs_get (ps : List Cp) : ∀ i, i < ps.length → ∀ j, j < 2 → (ccs ps)[i * 2 + j]? = (ccs2 (cAt ps i))[j]? := by
  induction ps with
  | nil => intro i h; simp at h
  | cons p ps ih =>
    intro i hi j hj
    have e : ccs (p :: ps) = ccs2 p ++ ccs ps := rfl
    have l4 : (ccs2 p).length = 2 := rfl
    match i with
    | 0 =>
      have e2 : cAt (p :: ps) 0 = p := by simp [cAt, List.getD]
      rw [e, e2, Nat.zero_mul, Nat.zero_add, List.getElem?_append_left (by omega)]
    | i + 1 =>
      have e2 : cAt (p :: ps) (i + 1) = cAt ps i := by simp [cAt, List.getD]
      rw [e, e2, List.getElem?_append_right (by omega), ← ih i (by simpa using hi) j hj, l4]
      congr 1; omega
theorem ccs_one (vs : List Cp) : ∀ u ∈ ccs vs, u.oneCell' = true := by
  intro u hu
  obtain ⟨p, _, hp⟩ := List.mem_flatMap.1 hu
  simp [ccs2] at hp
  rcases hp with rfl | rfl <;> rfl
theorem ccs_at {w : World} {b off : Nat} {vs : List Cp} (h : CAt w (some ⟨b, off, none⟩) vs) : ∀ j u, (ccs vs)[j]? = some u → w.cell? ((⟨b, off, none⟩ : Addr).add j) = some u := by
  intro j u hu
  have hj : j < vs.length * 2 := by
    have := (List.getElem?_eq_some_iff.1 hu).1
    rwa [ccs_len] at this
  have hadd : (⟨b, off, none⟩ : Addr).add j = ⟨b, off + j, none⟩ := add_plus _ _ _
  rw [hadd]
  obtain ⟨b', off', hA, _, h0, h1⟩ := h.at_ (i := j / 2) (by omega)
  simp only [Option.some.injEq, Addr.mk.injEq, and_true] at hA
  obtain ⟨rfl, rfl⟩ := hA
  have hr : j % 2 = 0 ∨ j % 2 = 1 := by omega
  have hd : j = j / 2 * 2 + j % 2 := by omega
  have hg := ccs_get vs (j / 2) (by omega) (j % 2) (by omega)
  rw [← hd, hu] at hg
  generalize hq : j / 2 = q at *
  rcases hr with hr | hr
  · rw [hr] at hg hd
    rw [show j = q * 2 by omega, h0]
    simpa [ccs2] using hg.symm
  · rw [hr] at hg hd
    rw [show off + j = off + q * 2 + 1 by omega, h1]
    simpa [ccs2] using hg.symm
theorem own_cat {w : World} {B cap : Nat} {A : Option Addr} {ps : List Cp} (h : w.ownsRow B 38 2 (.slice A ps.length cap) ps.length (ccs ps)) : CAt w A ps := by
  rcases Nat.eq_zero_or_pos ps.length with h0 | h0
  · exact .inl (List.length_eq_zero_iff.1 h0)
  · obtain ⟨g, cap', hv, _, hlt⟩ := h.form h0
    injection hv with hA
    subst hA
    refine .inr ⟨g, 0, rfl, hlt, fun i hi => ?_⟩
    simp only [Nat.zero_add]
    have hc := fun j (hj : j < 2) => (h.cellAt (i * 2 + j) (by omega)).trans (ccs_get ps i hi j hj)
    exact ⟨hc 0 (by omega), hc 1 (by omega)⟩
theorem own_emptyC (w : World) (B : Nat) (hB : B ≤ w.heap.size) : (w.alloc (.cells #[] 38)).ownsRow B 38 2 (.slice (some ⟨w.heap.size, 0, none⟩) 0 0) 0 [] :=
  ⟨rfl, .inr ⟨w.heap.size, 0, #[], rfl, hB, by simpa using (MapKept.heap_alloc w (.cells #[] 38)).1, Nat.le_refl _, Nat.zero_le _, rfl, rfl⟩⟩
theorem own_slC {w : World} {B n : Nat} {v : Value} {xs : List Value} (h : w.ownsRow B 38 2 v n xs) (hne : v ≠ .slice none 0 0) : ∃ g cap, v = .slice (some ⟨g, 0, none⟩) n cap ∧ B ≤ g := by
  rcases h.2 with ⟨hv, _⟩ | ⟨g, cap, cur, hv, hb, _⟩
  · exact absurd hv hne
  · exact ⟨g, cap, hv, hb⟩
theorem crow_own {w : World} {g : Nat} {cs : List Cp} (h : CRow w g cs) (hn : cs.length ≤ 1048576) : ∃ xs : List Value, xs.length = cs.length * 2 ∧ w.ownsRow g 38 2 (.slice (some ⟨g, 0, none⟩) cs.length cs.length) cs.length xs := by
  obtain ⟨c, hb, hs, _⟩ := h
  refine ⟨c.toList, by simpa using hs, by simpa using hs, .inr ⟨g, cs.length, c, rfl, Nat.le_refl _, hb, Nat.le_refl _, by simp only [maxLen]; omega, hs, ?_⟩⟩
  rw [List.take_of_length_le (by simp; omega)]

/-! ### Marks -/
def marksC (m n : Nat) : List Value := (List.range n).map fun j => iv ((m + j : Nat) : Int)
theorem marksC_len (m n : Nat) : (marksC m n).length = n := by simp [marksC]
def mkC (m : Nat) (xs : List Value) (j : Nat) : List Value := marksC m j ++ xs.drop j
theorem mkC_zero (m : Nat) (xs : List Value) : mkC m xs 0 = xs := by simp [mkC, marksC]
theorem mkC_set (m : Nat) (xs : List Value) (j : Nat) (h : j < xs.length) : (mkC m xs j).set j (iv ((m + j : Nat) : Int)) = mkC m xs (j + 1) := by
  unfold mkC marksC
  rw [List.set_append_right _ _ (by simp), List.range_succ, List.map_append, List.append_assoc]
  congr 1
  simp only [List.length_map, List.length_range, Nat.sub_self]
  rw [List.drop_eq_getElem_cons h]
  rfl
theorem mkC_full (m : Nat) (xs : List Value) : mkC m xs xs.length = marksC m xs.length := by simp [mkC]
theorem mkC_len (m : Nat) (xs : List Value) (j : Nat) (h : j ≤ xs.length) : (mkC m xs j).length = xs.length := by simp [mkC, marksC]; omega
theorem mkC_two (m j : Nat) (xs : List Value) (h : j * 2 + 1 < xs.length) :
    ((mkC m xs (j * 2)).set (j * 2) (iv ((m : Int) + (j : Int) * 2))).set (j * 2 + 1) (iv ((m : Int) + (j : Int) * 2 + 1)) = mkC m xs ((j + 1) * 2) := by
  have e0 : (m : Int) + (j : Int) * 2 = ((m + j * 2 : Nat) : Int) := by omega
  have e1 : (m : Int) + (j : Int) * 2 + 1 = ((m + (j * 2 + 1) : Nat) : Int) := by omega
  rw [e1, e0, mkC_set m xs (j * 2) (by omega), mkC_set m xs (j * 2 + 1) (by omega), show (j + 1) * 2 = j * 2 + 1 + 1 by omega]
set_option maxHeartbeats 2000000 in
theorem markc_any (B g cap m n : Nat) (xs : List Value) (hx : xs.length = n * 2) (w : World) (h : w.ownsRow B 38 2 (.slice (some ⟨g, 0, none⟩) n cap) n xs) (hn : n ≤ 1048576) (hm : m ≤ 104857600) :
    Calls Try.prog 37 #[.slice (some ⟨g, 0, none⟩) n cap, .int .i64 (m : Int)] w fun e w' => e = .returned (.int .i64 ((m : Int) + (n : Int) * 2)) ∧ w'.ownsRow B 38 2 (.slice (some ⟨g, 0, none⟩) n cap) n (marksC m (n * 2)) ∧ w.grownBy w' (some g) := by
  have HF := Lib.hid (show mkC m xs (n * 2) = marksC m (n * 2) by have := mkC_full m xs; rwa [hx] at this)
  have HX := Lib.hid hx
  clear hx
  go_enter Try.func37, Try.ntmps37
  go_wp2
  go_loopw [1, 5] (fun k i wr => ∃ j : Nat, j ≤ n ∧ k = .int .i64 ((m : Int) + (j : Int) * 2) ∧ i = .int .i64 j ∧ Hid (wr.ownsRow B 38 2 (.slice (some ⟨g, 0, none⟩) n cap) n (mkC m xs (j * 2))) ∧ w.grownBy wr (some g)) (fun _ i _ => n - (intOf i).toNat)
  case atStart => exact ⟨0, Nat.zero_le _, by simp, rfl, Lib.hid (by rw [Nat.zero_mul, mkC_zero]; exact h), World.grownBy.refl _ _⟩
  case round =>
    obtain ⟨j, hj, rfl, rfl, hown, hb⟩ := hrel
    clear h
    by_cases hlt : j < n
    · have hset := Lib.hid (mkC_two m j xs (by rw [HX.out]; omega))
      have hL : (mkC m xs (j * 2)).length = n * 2 := (mkC_len m xs (j * 2) (by rw [HX.out]; omega)).trans HX.out
      have c0 := (hown.out.cellAt (j * 2) (by omega)).trans (List.getElem?_eq_getElem (by omega))
      have c1 := (hown.out.cellAt (j * 2 + 1) (by omega)).trans (List.getElem?_eq_getElem (by omega))
      generalize (mkC m xs (j * 2))[j * 2]'(by omega) = u0 at c0
      generalize (mkC m xs (j * 2))[j * 2 + 1]'(by omega) = u1 at c1
      have hfz := fun o => hown.out.frozenAt o
      clear hL
      go_wp2
      have s3 := ((hown.out.stored (j * 2) (iv ((m : Int) + (j : Int) * 2))).1.stored (j * 2 + 1) (iv ((m : Int) + (j : Int) * 2 + 1))).1
      rw [hset.out] at s3
      go_roundw
      case rel => exact ⟨j + 1, by omega, by congr 1; omega, by go_num, Lib.hid s3, grown_set (grown_set hb _ _) _ _⟩
      case measure => simp [intOf]; omega
    · have hjn : j = n := by omega
      subst hjn
      go_wp2
      go_ret
      exact ⟨rfl, by rw [← HF.out]; exact hown.out, hb⟩
/-- Marks lie there. -/
def MAt (w : World) (g m n : Nat) : Prop := g < w.heap.size ∧ ∀ j, j < n * 2 → w.cell? ⟨g, j, none⟩ = some (iv ((m + j : Nat) : Int))
theorem own_marks {w : World} {B g cap m n : Nat} (h : w.ownsRow B 38 2 (.slice (some ⟨g, 0, none⟩) n cap) n (marksC m (n * 2))) : MAt w g m n :=
  ⟨(h.lt g rfl).2, fun j hj => by
    rw [h.cellAt j (by omega)]
    simp [marksC, hj]⟩
theorem MAt.kept {w w' : World} {g m n : Nat} (h : MAt w g m n) (hb : Below w.heap.size w w') : MAt w' g m n :=
  ⟨Nat.lt_of_lt_of_le h.1 hb.size, fun j hj => (hb.cell (p := ⟨g, j, none⟩) h.1).trans (h.2 j hj)⟩
set_option maxHeartbeats 2000000 in
theorem heldc_any (g cap m n : Nat) (w : World) (h : MAt w g m n) (hn : n ≤ 1048576) (hm : m ≤ 104857600) :
    Calls Try.prog 38 #[.slice (some ⟨g, 0, none⟩) n cap, .int .i64 (m : Int)] w fun e w' => e = .returned (.int .i64 ((m : Int) + (n : Int) * 2)) ∧ Below w.heap.size w w' := by
  have HA := Lib.hid h.2
  clear h
  go_enter Try.func38, Try.ntmps38
  go_wp2
  go_loop [1, 5] (fun k i => ∃ j : Nat, j ≤ n ∧ k = .int .i64 ((m : Int) + (j : Int) * 2) ∧ i = .int .i64 j) (fun _ i => n - (intOf i).toNat)
  case atStart => exact ⟨0, Nat.zero_le _, by simp, rfl⟩
  case round =>
    obtain ⟨j, hj, rfl, rfl⟩ := hrel
    by_cases hlt : j < n
    · have c0 := HA.out (j * 2) (by omega)
      have c1 := HA.out (j * 2 + 1) (by omega)
      have e0 : ((m + j * 2 : Nat) : Int) = (m : Int) + (j : Int) * 2 := by omega
      have e1 : ((m + (j * 2 + 1) : Nat) : Int) = (m : Int) + (j : Int) * 2 + 1 := by omega
      rw [e0] at c0
      rw [e1] at c1
      clear e0 e1
      go_wp2
      go_round
      case rel => exact ⟨j + 1, by omega, by congr 1; omega, by go_num⟩
      case measure => simp [intOf]; omega
    · have hjn : j = n := by omega
      subst hjn
      go_wp2
      go_ret
      exact ⟨rfl, Below.refl _ _⟩

set_option maxHeartbeats 4000000 in
set_option maxRecDepth 100000 in
/-- A clone of points, one or more: a row of its own. -/
theorem cclone_some (b off capv : Nat) (vs : List Cp) (w : World) (hv : CAt w (some ⟨b, off, none⟩) vs) (hm : vs.length ≤ 100) (hn : 0 < vs.length) :
    Calls Try.prog 60 #[.slice (some ⟨b, off, none⟩) vs.length capv] w fun e w' => ∃ g cap, e = .returned (.slice (some ⟨g, 0, none⟩) vs.length cap) ∧ w.heap.size ≤ g ∧ w'.ownsRow w.heap.size 38 2 (.slice (some ⟨g, 0, none⟩) vs.length cap) vs.length (ccs vs) ∧ Below w.heap.size w w' := by
  obtain ⟨i0, hi0, hz0, hz1, hz2⟩ := info_parts infoC
  have HV := Lib.hid (fun w' (hb' : Below w.heap.size w w') => hv.kept hb' (Nat.le_refl _))
  have HO0 := Lib.hid (own_emptyC w w.heap.size (Nat.le_refl _))
  have q22 : ∀ (w : World) (a : Option Addr) (n c n' c' : Nat), (binOp .eql 24 (.slice a n c) (.slice none n' c')).run Try.prog w = .ok (.bool a.isNone) w := fun w a n c n' c' => Lib.run_eql_slice_nil w _ _ a n c n' c' Try.underlying24
  clear hv
  go_enter Try.func60, Try.ntmps60
  go_wp2_with (at_builtin; go_must (refine wpList_append_own _ rfl _ _ 24 rfl w.heap.size 38 i0 _ 2 16 Try.underlying24 hi0 hz0 hz1 hz2 rfl (by omega) _ _ _ rfl HO0.out ⟨b, off, none⟩ vs.length capv (ccs vs) rfl (ccs_len vs) (ccs_at (HV.out _ ((Below.refl _ _).alloc (Nat.le_refl _) _))) (ccs_one vs) ?c3 ?c4 ?c5 ?_))
  case c3 => unfold maxLen; omega
  case c4 => omega
  case c5 => simp
  intro v' w3 hown' hgrow hnil
  obtain ⟨g, cg, rfl, hgg⟩ := own_slC hown' (fun e => hnil e)
  have hB3 := Lib.hid (((Below.refl w.heap.size w).alloc (Nat.le_refl _) (.cells #[] 38)).grown hgrow (by simp) (fun g hg => (HO0.out.lt g hg).1))
  have HO3 := Lib.hid hown'
  clear hown' hgrow hnil HO0
  go_wp2_with fail
  go_ret
  exact ⟨g, cg, by simp, hgg, by simpa using HO3.out, hB3.out⟩
end Go.Proofs.Ytpldbakllegheab.S7
