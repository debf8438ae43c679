/- The number of ones of a choice: contracts. Conditions: each theorem's own premises. -/
import Derived.Test.YtbljmibaemgfeaaKPc
import Derived.Deep.DeepCutAuto
import Derived.Test.YtbljmibaemgfeaaKPb
import Derived.Test.YtbljmibaemgfeaaSegOne
import Derived.Test.YtbljmibaemgfeaaKPa
import Derived.Test.YtbljmibaemgfeaaFindOne
import Derived.Laws.Bits64b
namespace Go.Proofs.Ytbljmibaemgfeaa.S2
open Go.RowKit Go.Sort P2 P4

theorem clos_any (x : Int) (w : World) : Calls Try.prog 151 #[.int .i64 x] w fun e w' => e = .returned (.bool (!(inB x 0 1000))) ∧ w' = w := by
  by_cases h1 : x < 0
  · have e : inB x 0 1000 = false := by simp [inB]; omega
    rw [e]; clear e
    go_enter Try.func151, Try.ntmps151
    go_wp2
    go_ret
    exact ⟨rfl, rfl⟩
  · by_cases h2 : 1000 < x
    · have e : inB x 0 1000 = false := by simp [inB]; omega
      rw [e]; clear e
      have h0 : 0 ≤ x := by omega
      clear h1
      go_enter Try.func151, Try.ntmps151
      go_wp2
      go_ret
      exact ⟨rfl, rfl⟩
    · have e : inB x 0 1000 = true := by simp [inB]; omega
      rw [e]; clear e
      have d1 : decide (x < 0) = false := by simp; omega
      have d2 : decide (1000 < x) = false := by simp; omega
      clear h1 h2
      go_enter Try.func151, Try.ntmps151
      go_wp2
      go_ret
      exact ⟨rfl, rfl⟩
theorem clos_v {x : Int} {v : Bool} (h : inB x 0 1000 = v) (w : World) : Calls Try.prog 151 #[.int .i64 x] w fun e w' => e = .returned (.bool (!v)) ∧ w' = w := by rw [← h]; exact clos_any x w
/-- The first number that is none of customers, or -1. -/
def FirstC (l : List Int) (r : Int) : Prop := (r = -1 ∧ ∀ j, j < l.length → inB (l.getD j 0) 0 1000 = true) ∨ (∃ i : Nat, i < l.length ∧ r = (i : Int) ∧ inB (l.getD i 0) 0 1000 = false)
theorem all_snoc {l : List Int} {k : Nat} (h : ∀ j, j < k → inB (l.getD j 0) 0 1000 = true) (hx : inB (l.getD k 0) 0 1000 = true) : ∀ j, j < k + 1 → inB (l.getD j 0) 0 1000 = true := by
  intro j hj
  by_cases e : j = k
  · subst e; exact hx
  · exact h j (by omega)

set_option maxHeartbeats 1000000 in
theorem cidx_any (A : Option Addr) (cap : Nat) (l : List Int) (w : World) (h : IAt w A l) (hl : l.length ≤ 1048576) :
    Calls Try.prog 153 #[.slice A l.length cap, .func (.func 151) #[] #[]] w fun e w' => (∃ r, e = .returned (.int .i64 r) ∧ FirstC l r) ∧ w' = w := by
  have HA := Lib.hid h
  clear h
  go_enter Try.func153, Try.ntmps153
  go_wp2
  go_loop [8] (fun i => ∃ k : Nat, k ≤ l.length ∧ i = .int .i64 (k : Int) ∧ Hid (∀ j, j < k → inB (l.getD j 0) 0 1000 = true)) (fun i => l.length - (intOf i).toNat)
  case atStart => exact ⟨0, Nat.zero_le _, rfl, Lib.hid (fun j hj => absurd hj (by omega))⟩
  case round =>
    obtain ⟨k, hk, rfl, hno⟩ := hrel
    by_cases hlt : k < l.length
    · obtain ⟨b, off, hA, hbl, h0⟩ := HA.out.at_ hlt
      subst hA
      have hk0 : (0 : Int) ≤ (k : Int) := by omega
      have hkn : (k : Int) < (l.length : Int) := by omega
      obtain ⟨v, hv⟩ : ∃ v, inB (l.getD k 0) 0 1000 = v := ⟨_, rfl⟩
      have HC := Lib.hid (clos_v hv w)
      cases v with
      | false =>
        have HFI := Lib.hid (show FirstC l (k : Int) from .inr ⟨k, hlt, rfl, hv⟩)
        clear hv hno
        generalize l.getD k 0 = y at *
        go_wp2_with (go_at_call 151; refine HC.out.mono ?_; rintro e w1 ⟨rfl, hw⟩; replace hw := hw.symm; subst hw)
        go_ret
        exact ⟨⟨_, rfl, HFI.out⟩, rfl⟩
      | true =>
        have hno2 := Lib.hid (all_snoc hno.out hv)
        clear hv hno
        generalize l.getD k 0 = y at *
        go_wp2_with (go_at_call 151; refine HC.out.mono ?_; rintro e w1 ⟨rfl, hw⟩; replace hw := hw.symm; subst hw)
        go_round
        case rel => exact ⟨k + 1, by omega, by go_num, hno2⟩
        case measure => simp [intOf]; omega
    · have HFI := Lib.hid (show FirstC l (-1) from .inl ⟨rfl, fun i hi => hno.out i (by omega)⟩)
      go_wp2
      go_ret
      exact ⟨⟨_, rfl, HFI.out⟩, rfl⟩
def allC2 (l : List Int) : Bool := l.all fun x => inB x 0 1000
theorem first_all {l : List Int} {r : Int} (h : FirstC l r) : (allC2 l = true ∧ r = -1) ∨ (allC2 l = false ∧ 0 ≤ r) := by
  rcases h with ⟨rfl, h⟩ | ⟨i, hi, rfl, h⟩
  · left
    refine ⟨?_, rfl⟩
    unfold allC2
    rw [List.all_eq_true]
    intro x hx
    obtain ⟨j, hj⟩ := List.getElem?_of_mem hx
    have hl := (List.getElem?_eq_some_iff.1 hj).1
    have := h j hl
    have e : l.getD j 0 = x := by simp [List.getD, hj]
    rwa [e] at this
  · right
    refine ⟨?_, by omega⟩
    unfold allC2
    rw [List.all_eq_false]
    exact ⟨l.getD i 0, by simp [List.getD, hi], by rw [h]; simp⟩
theorem first_yes {l : List Int} {r : Int} (h : FirstC l r) (ha : allC2 l = true) : r = -1 := by
  rcases first_all h with ⟨_, h2⟩ | ⟨h2, _⟩
  · exact h2
  · rw [ha] at h2; cases h2
theorem first_not {l : List Int} {r : Int} (h : FirstC l r) (ha : allC2 l = false) : 0 ≤ r := by
  rcases first_all h with ⟨h2, _⟩ | ⟨_, h2⟩
  · rw [ha] at h2; cases h2
  · exact h2
theorem ccon_any (A : Option Addr) (cap : Nat) (l : List Int) (w : World) (h : IAt w A l) (hl : l.length ≤ 1048576) :
    Calls Try.prog 150 #[.slice A l.length cap, .func (.func 151) #[] #[]] w fun e w' => e = .returned (.bool (!(allC2 l))) ∧ w' = w := by
  have H := Lib.hid (cidx_any A cap l w h hl)
  clear h
  cases ha : allC2 l with
  | true =>
    have H2 := Lib.hid (H.out.mono (R' := fun e w' => e = .returned (.int .i64 (-1)) ∧ w' = w) fun _ _ ⟨⟨r, he, hr⟩, hw⟩ => ⟨by rw [he, first_yes hr ha], hw⟩)
    clear ha H
    go_enter Try.func150, Try.ntmps150
    go_wp2_with (go_at_call 153; refine H2.out.mono ?_; rintro e w1 ⟨rfl, hw⟩; replace hw := hw.symm; subst hw)
    go_ret
    exact ⟨rfl, rfl⟩
  | false =>
    have H2 := Lib.hid (H.out.mono (R' := fun e w' => (∃ r : Int, e = .returned (.int .i64 r) ∧ 0 ≤ r) ∧ w' = w) fun _ _ ⟨⟨r, he, hr⟩, hw⟩ => ⟨⟨r, he, first_not hr ha⟩, hw⟩)
    clear ha H
    go_enter Try.func150, Try.ntmps150
    go_wp2_with (go_at_call 153; refine H2.out.mono ?_; rintro e w1 ⟨⟨r, rfl, hr⟩, hw⟩; replace hw := hw.symm; subst hw)
    go_ret
    exact ⟨rfl, rfl⟩
theorem custB_eq (n : Int) (cu : List Int) : custB n cu = (decide ((cu.length : Int) = n) && allC2 cu) := by
  rw [Bool.eq_iff_iff, Bool.and_eq_true, decide_eq_true_eq]
  constructor
  · intro h
    obtain ⟨h1, h2⟩ := custB_of h
    refine ⟨h1, ?_⟩
    unfold allC2
    rw [List.all_eq_true]
    intro x hx
    simpa [inB] using h2 x hx
  · rintro ⟨h1, h2⟩
    refine custB_mk ⟨h1, fun x hx => ?_⟩
    unfold allC2 at h2
    rw [List.all_eq_true] at h2
    simpa [inB] using h2 x hx

set_option maxHeartbeats 1000000 in
theorem arecust_any (n : Int) (A : Option Addr) (len cap : Nat) (AU : Option Addr) (cc : Nat) (cu : List Int) (w : World) (h : IAt w AU cu) (hl : cu.length ≤ 1048576) :
    Calls Try.prog 93 #[nv n A len cap, .slice AU cu.length cc] w fun e w' => e = .returned (.bool (custB n cu)) ∧ Below w.heap.size w w' := by
  rw [custB_eq]
  have HB0 := Lib.hid (show Below w.heap.size w (w.alloc (.cells #[.int .i64 n, .slice A len cap] 32)) from (Below.refl _ _).alloc (Nat.le_refl _) _)
  have H := Lib.hid (fun w' (hb : Below w.heap.size w w') => ccon_any AU cc cu w' (h.kept hb (Nat.le_refl _)) hl)
  clear h
  by_cases he : (cu.length : Int) = n
  · have g1 : ((cu.length : Int) == n) = true := beq_iff_eq.2 he
    have e : decide ((cu.length : Int) = n) = true := by simp [he]
    rw [e, Bool.true_and]
    clear e he
    obtain ⟨v, hv⟩ : ∃ v, allC2 cu = v := ⟨_, rfl⟩
    rw [hv] at H ⊢
    clear hv
    cases v
    all_goals
      go_enter Try.func93, Try.ntmps93
      go_wp2_with (go_at_call 150; refine (H.out _ HB0.out).mono ?_; rintro e w1 ⟨rfl, hw⟩; replace hw := hw.symm; subst hw)
      go_ret
      exact ⟨rfl, HB0.out⟩
  · have g1 : ((cu.length : Int) == n) = false := beq_eq_false_iff_ne.2 he
    have e : decide ((cu.length : Int) = n) = false := by simp [he]
    rw [e, Bool.false_and]
    clear e he
    go_enter Try.func93, Try.ntmps93
    go_wp2
    go_ret
    exact ⟨rfl, HB0.out⟩
theorem arecust_v {n : Int} {cu : List Int} {v : Bool} (hq : custB n cu = v) (A : Option Addr) (len cap : Nat) (AU : Option Addr) (cc : Nat) (w : World) (h : IAt w AU cu) (hl : cu.length ≤ 1048576) :
    Calls Try.prog 93 #[nv n A len cap, .slice AU cu.length cc] w fun e w' => e = .returned (.bool v) ∧ Below w.heap.size w w' := by
  rw [← hq]; exact arecust_any n A len cap AU cc cu w h hl

set_option maxHeartbeats 1000000 in
theorem scust_any (n : Int) (A : Option Addr) (len cap : Nat) (AU : Option Addr) (cc : Nat) (cu : List Int) (w : World) (h : IAt w AU cu) (hl : cu.length ≤ 1048576) :
    Calls Try.prog 91 #[nv n A len cap, .slice AU cu.length cc] w fun e w' => e = .returned (.bool (custB n cu)) ∧ Below w.heap.size w w' := by
  have HA := Lib.hid (h.kept (show Below w.heap.size w (w.alloc (.cells #[.int .i64 n, .slice A len cap] 32)) from (Below.refl _ _).alloc (Nat.le_refl _) _) (Nat.le_refl _))
  clear h
  go_enter Try.func91, Try.ntmps91
  go_wp2
  go_loop [5] (fun i => ∃ k : Nat, k ≤ cu.length ∧ i = .int .i64 (k : Int) ∧ Hid (∀ j, j < k → inB (cu.getD j 0) 0 1000 = true)) (fun i => cu.length - (intOf i).toNat)
  case atStart => exact ⟨0, Nat.zero_le _, rfl, Lib.hid (fun j hj => absurd hj (by omega))⟩
  case round =>
    obtain ⟨k, hk, rfl, hno⟩ := hrel
    by_cases hlt : k < cu.length
    · obtain ⟨b, off, hA, hbl, h0⟩ := HA.out.at_ hlt
      subst hA
      have hk0 : (0 : Int) ≤ (k : Int) := by omega
      have hkn : (k : Int) < (cu.length : Int) := by omega
      obtain ⟨v, hv⟩ : ∃ v, inB (cu.getD k 0) 0 1000 = v := ⟨_, rfl⟩
      have HC := Lib.hid (fun w' => sinr_any (cu.getD k 0) 0 1000 w')
      rw [hv] at HC
      cases v with
      | false =>
        have HR := Lib.hid (show custB n cu = false from by
          rcases first_all (.inr ⟨k, hlt, rfl, hv⟩) with ⟨_, h2⟩ | ⟨h2, _⟩
          · omega
          · rw [custB_eq, h2, Bool.and_false])
        clear hv hno
        generalize cu.getD k 0 = y at *
        go_wp2_with (go_at_call 148; refine (HC.out _).mono ?_; rintro e w1 ⟨rfl, hw⟩; replace hw := hw.symm; subst hw)
        go_ret
        exact ⟨by rw [HR.out]; rfl, (Below.refl _ _).alloc (Nat.le_refl _) _⟩
      | true =>
        have hno2 := Lib.hid (all_snoc hno.out hv)
        clear hv hno
        generalize cu.getD k 0 = y at *
        go_wp2_with (go_at_call 148; refine (HC.out _).mono ?_; rintro e w1 ⟨rfl, hw⟩; replace hw := hw.symm; subst hw)
        go_round
        case rel => exact ⟨k + 1, by omega, by go_num, hno2⟩
        case measure => simp [intOf]; omega
    · have HALL := Lib.hid (show allC2 cu = true from by
        rcases first_all (l := cu) (.inl ⟨rfl, fun i hi => hno.out i (by omega)⟩) with ⟨h2, _⟩ | ⟨_, h2⟩
        · exact h2
        · omega)
      by_cases he : (cu.length : Int) = n
      · have g1 : ((cu.length : Int) == n) = true := beq_iff_eq.2 he
        have HR := Lib.hid (show custB n cu = true from by rw [custB_eq, HALL.out]; simp [he])
        clear he
        go_wp2
        go_ret
        exact ⟨by rw [HR.out]; rfl, (Below.refl _ _).alloc (Nat.le_refl _) _⟩
      · have g1 : ((cu.length : Int) == n) = false := beq_eq_false_iff_ne.2 he
        have HR := Lib.hid (show custB n cu = false from by rw [custB_eq, HALL.out]; simp [he])
        clear he
        go_wp2
        go_ret
        exact ⟨by rw [HR.out]; rfl, (Below.refl _ _).alloc (Nat.le_refl _) _⟩
theorem scust_v {n : Int} {cu : List Int} {v : Bool} (hq : custB n cu = v) (A : Option Addr) (len cap : Nat) (AU : Option Addr) (cc : Nat) (w : World) (h : IAt w AU cu) (hl : cu.length ≤ 1048576) :
    Calls Try.prog 91 #[nv n A len cap, .slice AU cu.length cc] w fun e w' => e = .returned (.bool v) ∧ Below w.heap.size w w' := by
  rw [← hq]; exact scust_any n A len cap AU cc cu w h hl
end Go.Proofs.Ytbljmibaemgfeaa.S2

namespace Go.Proofs.Ytbljmibaemgfeaa.S2
open Go.RowKit Go.Sort P2 P4

/-- The boxes of the harm's closure. -/
structure HX (w : World) (M U : Nat) (N : Nat) (A : Option Addr) (cap : Nat) (ps : List Pp) (AU : Option Addr) (cc : Nat) (cu : List Int) : Prop where
  m0 : w.cell? ⟨M, 0, none⟩ = some (.int .i64 (N : Int))
  m1 : w.cell? ⟨M, 1, none⟩ = some (.slice A ps.length cap)
  u : w.cell? ⟨U, 0, none⟩ = some (.slice AU cu.length cc)
  ml : M < w.heap.size
  ul : U < w.heap.size
theorem HX.kept {w w' : World} {B M U N cap cc : Nat} {A AU : Option Addr} {ps : List Pp} {cu : List Int} (h : HX w M U N A cap ps AU cc cu) (hb : Below B w w') (hB : w.heap.size ≤ B) : HX w' M U N A cap ps AU cc cu :=
  have hz := hb.size
  ⟨(hb.cell (p := ⟨M, 0, none⟩) (Nat.lt_of_lt_of_le h.ml hB)).trans h.m0, (hb.cell (p := ⟨M, 1, none⟩) (Nat.lt_of_lt_of_le h.ml hB)).trans h.m1, (hb.cell (p := ⟨U, 0, none⟩) (Nat.lt_of_lt_of_le h.ul hB)).trans h.u, by have := h.ml; omega, by have := h.ul; omega⟩

set_option maxHeartbeats 1000000 in
theorem harmto_any (N : Nat) (A : Option Addr) (cap : Nat) (ps : List Pp) (AU : Option Addr) (cc : Nat) (cu : List Int) (w : World) :
    Calls Try.prog 94 #[nv N A ps.length cap, .slice AU cu.length cc] w fun e w' => (∃ M U, e = .returned (.func (.func 152) #[] #[.pointer (some ⟨M, 0, none⟩), .pointer (some ⟨U, 0, none⟩)]) ∧ HX w' M U N A cap ps AU cc cu) ∧ Below w.heap.size w w' := by
  have HB := Lib.hid (show Below w.heap.size w ((w.alloc (.cells #[.int .i64 (N : Int), .slice A ps.length cap] 32)).alloc (.cells #[.slice AU cu.length cc] 26)) from ((Below.refl _ _).alloc (Nat.le_refl _) _).alloc (by simp) _)
  have HW := Lib.hid (show HX ((w.alloc (.cells #[.int .i64 (N : Int), .slice A ps.length cap] 32)).alloc (.cells #[.slice AU cu.length cc] 26)) w.heap.size (w.heap.size + 1) N A cap ps AU cc cu from
    ⟨by go_simp, by go_simp, by go_simp, by first | (simp; done) | (simp; omega), by first | (simp; done) | (simp; omega)⟩)
  go_enter Try.func94, Try.ntmps94
  go_wp2
  go_ret
  exact ⟨⟨_, _, rfl, HW.out⟩, HB.out⟩

set_option maxHeartbeats 4000000 in
set_option maxRecDepth 100000 in
theorem harmclos_any (N : Nat) (A : Option Addr) (cap : Nat) (ps : List Pp) (AU : Option Addr) (cc : Nat) (cu : List Int) (s : Nat → Bool) (M U : Nat) (w : World) (h : PAt w A ps) (hg : P2.Good N ps) (hu : IAt w AU cu) (hcu : Cust N cu) (hx : HX w M U N A cap ps AU cc cu) :
    Calls Try.prog 152 #[ev s, .pointer (some ⟨M, 0, none⟩), .pointer (some ⟨U, 0, none⟩)] w fun e w' => e = .returned (.int .i64 (sumL cu (nodesL N s false))) ∧ Below w.heap.size w w' := by
  have HNO := Lib.hid (fun w' (hb : Below w.heap.size w w') => nodes_any N A cap ps s false w' (h.kept hb (Nat.le_refl _)) hg)
  have HU := Lib.hid hu
  have HCU := Lib.hid hcu.2
  have hcul : cu.length = N := by have := hcu.1; omega
  have hnl := nodesL_len N s false
  have hN8 : N ≤ 8 := by have := hg.2.1; omega
  have HMEM := Lib.hid (fun (k : Nat) (hk : k < (nodesL N s false).length) => (nodesL_mem (n := N) (s := s) (b := false) (y := (nodesL N s false).getD k 0)).1 (by simp [List.getD, hk]))
  obtain ⟨W1, hW1⟩ : ∃ W1, W1 = w.alloc (.cells (ecells s) 96) := ⟨_, rfl⟩
  have HE := Lib.hid (show ERow W1 w.heap.size s from by rw [hW1]; exact ERow.new w s)
  have HBW := Lib.hid (show Below w.heap.size w W1 from by rw [hW1]; exact (Below.refl _ _).alloc (Nat.le_refl _) _)
  have HX1 := Lib.hid (hx.kept HBW.out (Nat.le_refl _))
  have m0 := HX1.out.m0
  have m1 := HX1.out.m1
  have u0 := HX1.out.u
  have HW1 := Lib.hid hW1
  clear h hg hu hcu hW1 hx
  generalize nodesL N s false = nl at *
  go_enter Try.func152, Try.ntmps152
  go_upto_region 1 with (fail)
  rw [← HW1.out]
  clear HW1
  go_wp2_with (first
    | (with_reducible refine wpE_load rfl _ rfl w.heap.size rfl s HE.out ?_)
    | (go_at_call 122; refine (HNO.out _ HBW.out).mono ?_; rintro e w3 ⟨g3, c3, rfl, hg3, hO3, hb3⟩; have HO3 := Lib.hid hO3.iat; have HB3 := Lib.hid (HBW.out.trans (hb3.mono HBW.out.size)); have u1 := (hb3.cell (p := ⟨U, 0, none⟩) HX1.out.ul).trans u0; clear hO3 hb3 hg3; refine Hid.out ?_))
  clear m0 m1 u0
  refine Lib.hid ?_
  go_wp2_with fail
  go_loopw [5, 12] (fun s i wr => ∃ k : Nat, k ≤ nl.length ∧ i = .int .i64 (k : Int) ∧ s = .int .i64 (sumTo cu nl k) ∧ wr = w3) (fun _ i _ => nl.length - (intOf i).toNat)
  case atStart => exact ⟨0, Nat.zero_le _, rfl, rfl, rfl⟩
  case round =>
    obtain ⟨k, hk, rfl, rfl, rfl⟩ := hrel
    by_cases hlt : k < nl.length
    · obtain ⟨b', off', hA', hbl', hcell⟩ := HO3.out.at_ hlt
      simp only [Option.some.injEq, Addr.mk.injEq, and_true] at hA'
      obtain ⟨rfl, rfl⟩ := hA'
      simp only [Nat.zero_add] at hcell
      obtain ⟨v, hvv, hv1, hvN, _⟩ := HMEM.out k hlt
      have HST := Lib.hid (sumTo_succ cu nl k hlt)
      have hbd := sumTo_bd HCU.out k (l := nl) (by omega)
      rw [hvv] at hcell HST
      obtain ⟨u, rfl⟩ : ∃ u : Nat, v = u + 1 := ⟨v - 1, by omega⟩
      obtain ⟨b, off, hA, hbl, hc0⟩ := (HU.out.kept HB3.out (Nat.le_refl _)).at_ (i := u) (by omega)
      subst hA
      have hgb := getD_bd HCU.out u
      have hu0 : (0 : Int) ≤ (u : Int) := by omega
      have hun : (u : Int) < (cu.length : Int) := by omega
      have hk0 : (0 : Int) ≤ (k : Int) := by omega
      have hkn : (k : Int) < (nl.length : Int) := by omega
      have e1 : (((u + 1 : Nat) : Int) - 1).toNat = u := by omega
      rw [e1] at HST
      have hcast : iv ((u + 1 : Nat) : Int) = .int .i64 ((u : Int) + 1) := by rw [Int.natCast_add]; rfl
      rw [hcast] at hcell
      generalize cu.getD u 0 = q at *
      generalize sumTo cu nl k = sk at *
      clear hvv e1 hcast
      go_wp2_with fail
      go_roundw
      case rel => exact ⟨k + 1, by omega, by go_num, by rw [HST.out], by first | trivial | rfl⟩
      case measure => simp [intOf]; omega
    · have hfin := Lib.hid (sumTo_all cu nl k (by omega))
      go_wp2_with fail
      go_ret
      exact ⟨by rw [hfin.out]; rfl, HB3.out⟩

set_option maxHeartbeats 4000000 in
set_option maxRecDepth 100000 in
theorem harmof_no1 (s : Nat → Bool) (n : Int) (A : Option Addr) (cap : Nat) (ps : List Pp) (AV : Option Addr) (capv : Nat) (vs : List Vv) (X x : Int) (AC : Option Addr) (cc : Nat) (l : List Int) (AU : Option Addr) (cq : Nat) (cu : List Int) (w : World) (hs : ∀ w', Below w.heap.size w w' → Calls Try.prog 82 #[nv n A ps.length cap, .slice AV vs.length capv, .int .i64 X, .int .i64 x, .slice AC l.length cc] w' (GivesE w' s false)) :
    Calls Try.prog 32 #[nv n A ps.length cap, .slice AV vs.length capv, .int .i64 X, .int .i64 x, .slice AC l.length cc, .slice AU cu.length cq] w fun e w' => e = .returned (.tuple #[.int .i64 0, .bool false]) ∧ Below w.heap.size w w' := by
  have HS := Lib.hid hs
  have HB0 := Lib.hid (show Below w.heap.size w (w.alloc (.cells #[.int .i64 n, .slice A ps.length cap] 32)) from (Below.refl _ _).alloc (Nat.le_refl _) _)
  clear hs
  go_enter Try.func32, Try.ntmps32
  go_wp2_with (go_at_call 82; refine (HS.out _ HB0.out).mono ?_; rintro e w1 ⟨rfl, hb1⟩; have HB1 := Lib.hid (HB0.out.trans (hb1.mono (by simp))); have hb1' : Below (w.heap.size + 1) (w.alloc (.cells #[.int .i64 n, .slice A ps.length cap] 32)) w1 := (by simpa using hb1); have HX1 := Lib.hid hb1'; clear hb1 hb1'; refine Hid.out ?_)
  obtain ⟨b0, b1⟩ := box2 HX1.out
  have hw1 : w.heap.size < w1.heap.size := box_lt HX1.out
  refine Lib.hid ?_
  go_wp2_with (first
    | ((with_reducible refine wpE_alloc rfl rfl ?_); intro w2 he2 hb2 hz2; have E2 := Lib.hid he2; have HX2 := Lib.hid hb2; clear he2 hb2 hz2)
    | ((with_reducible refine wpE_store rfl _ _ rfl rfl w1.heap.size rfl s rfl es0 E2.out ?_); intro w3 he3 hg3 hz3; have E3 := Lib.hid he3; have HX3 := Lib.hid hg3; clear he3 hg3 hz3; refine Hid.out ?_))
  have HX23 := Lib.hid (show Below w1.heap.size w1 w3 from HX2.out.grown HX3.out HX2.out.size (fun g hg => by simp at hg; omega))
  have HB3 := Lib.hid (HB1.out.trans (HX23.out.mono HB1.out.size))
  have c0 := (HX23.out.cell (p := ⟨w.heap.size, 0, none⟩) hw1).trans b0
  have c1 := (HX23.out.cell (p := ⟨w.heap.size, 1, none⟩) hw1).trans b1
  clear b0 b1
  refine Lib.hid ?_
  go_wp2_with fail
  go_ret2
  exact ⟨rfl, HB3.out⟩
set_option maxHeartbeats 4000000 in
set_option maxRecDepth 100000 in
theorem harmof_no2 (s : Nat → Bool) (n : Int) (A : Option Addr) (cap : Nat) (ps : List Pp) (AV : Option Addr) (capv : Nat) (vs : List Vv) (X x : Int) (AC : Option Addr) (cc : Nat) (l : List Int) (AU : Option Addr) (cq : Nat) (cu : List Int) (w : World) (hs : ∀ w', Below w.heap.size w w' → Calls Try.prog 82 #[nv n A ps.length cap, .slice AV vs.length capv, .int .i64 X, .int .i64 x, .slice AC l.length cc] w' (GivesE w' s true)) (hu : IAt w AU cu) (hul : cu.length ≤ 1048576) (hq : custB n cu = false) :
    Calls Try.prog 32 #[nv n A ps.length cap, .slice AV vs.length capv, .int .i64 X, .int .i64 x, .slice AC l.length cc, .slice AU cu.length cq] w fun e w' => e = .returned (.tuple #[.int .i64 0, .bool false]) ∧ Below w.heap.size w w' := by
  have HS := Lib.hid hs
  have HC := Lib.hid (fun w' (hb : Below w.heap.size w w') => arecust_v hq A ps.length cap AU cq w' (hu.kept hb (Nat.le_refl _)) hul)
  have HB0 := Lib.hid (show Below w.heap.size w (w.alloc (.cells #[.int .i64 n, .slice A ps.length cap] 32)) from (Below.refl _ _).alloc (Nat.le_refl _) _)
  clear hs hu hul hq
  go_enter Try.func32, Try.ntmps32
  go_wp2_with (go_at_call 82; refine (HS.out _ HB0.out).mono ?_; rintro e w1 ⟨rfl, hb1⟩; have HB1 := Lib.hid (HB0.out.trans (hb1.mono (by simp))); have hb1' : Below (w.heap.size + 1) (w.alloc (.cells #[.int .i64 n, .slice A ps.length cap] 32)) w1 := (by simpa using hb1); have HX1 := Lib.hid hb1'; clear hb1 hb1'; refine Hid.out ?_)
  obtain ⟨b0, b1⟩ := box2 HX1.out
  have hw1 : w.heap.size < w1.heap.size := box_lt HX1.out
  refine Lib.hid ?_
  go_wp2_with (first
    | ((with_reducible refine wpE_alloc rfl rfl ?_); intro w2 he2 hb2 hz2; have E2 := Lib.hid he2; have HX2 := Lib.hid hb2; clear he2 hb2 hz2)
    | ((with_reducible refine wpE_store rfl _ _ rfl rfl w1.heap.size rfl s rfl es0 E2.out ?_); intro w3 he3 hg3 hz3; have E3 := Lib.hid he3; have HX3 := Lib.hid hg3; clear he3 hg3 hz3; refine Hid.out ?_))
  have HX23 := Lib.hid (show Below w1.heap.size w1 w3 from HX2.out.grown HX3.out HX2.out.size (fun g hg => by simp at hg; omega))
  have HB3 := Lib.hid (HB1.out.trans (HX23.out.mono HB1.out.size))
  have c0 := (HX23.out.cell (p := ⟨w.heap.size, 0, none⟩) hw1).trans b0
  have c1 := (HX23.out.cell (p := ⟨w.heap.size, 1, none⟩) hw1).trans b1
  clear b0 b1
  refine Lib.hid ?_
  go_wp2_with (go_at_call 93; refine (HC.out _ HB3.out).mono ?_; rintro e w4 ⟨rfl, hb4⟩; have HB4 := Lib.hid (HB3.out.trans (hb4.mono HB3.out.size)); clear hb4)
  go_ret2
  exact ⟨rfl, HB4.out⟩

set_option maxHeartbeats 8000000 in
set_option maxRecDepth 100000 in
theorem harmof_yes (s : Nat → Bool) (N : Nat) (A : Option Addr) (cap : Nat) (ps : List Pp) (AV : Option Addr) (capv : Nat) (vs : List Vv) (X x : Int) (AC : Option Addr) (cc : Nat) (l : List Int) (AU : Option Addr) (cq : Nat) (cu : List Int) (w : World) (hs : ∀ w', Below w.heap.size w w' → Calls Try.prog 82 #[nv N A ps.length cap, .slice AV vs.length capv, .int .i64 X, .int .i64 x, .slice AC l.length cc] w' (GivesE w' s true)) (h : PAt w A ps) (hg : P2.Good N ps) (hu : IAt w AU cu) (hul : cu.length ≤ 1048576) (hq : custB N cu = true) :
    Calls Try.prog 32 #[nv N A ps.length cap, .slice AV vs.length capv, .int .i64 X, .int .i64 x, .slice AC l.length cc, .slice AU cu.length cq] w fun e w' => e = .returned (.tuple #[.int .i64 (sumL cu (nodesL N s false)), .bool true]) ∧ Below w.heap.size w w' := by
  have HS := Lib.hid hs
  have HC := Lib.hid (fun w' (hb : Below w.heap.size w w') => arecust_v hq A ps.length cap AU cq w' (hu.kept hb (Nat.le_refl _)) hul)
  have HHT := Lib.hid (fun w' => harmto_any N A cap ps AU cq cu w')
  have HHC := Lib.hid (fun M U w' (hb : Below w.heap.size w w') (hx : HX w' M U N A cap ps AU cq cu) => harmclos_any N A cap ps AU cq cu s M U w' (h.kept hb (Nat.le_refl _)) hg (hu.kept hb (Nat.le_refl _)) (custB_of hq) hx)
  have HB0 := Lib.hid (show Below w.heap.size w (w.alloc (.cells #[.int .i64 (N : Int), .slice A ps.length cap] 32)) from (Below.refl _ _).alloc (Nat.le_refl _) _)
  clear hs hu hul hq h hg
  go_enter Try.func32, Try.ntmps32
  go_wp2_with (go_at_call 82; refine (HS.out _ HB0.out).mono ?_; rintro e w1 ⟨rfl, hb1⟩; have HB1 := Lib.hid (HB0.out.trans (hb1.mono (by simp))); have hb1' : Below (w.heap.size + 1) (w.alloc (.cells #[.int .i64 (N : Int), .slice A ps.length cap] 32)) w1 := (by simpa using hb1); have HX1 := Lib.hid hb1'; clear hb1 hb1'; refine Hid.out ?_)
  obtain ⟨b0, b1⟩ := box2 HX1.out
  have hw1 : w.heap.size < w1.heap.size := box_lt HX1.out
  refine Lib.hid ?_
  go_wp2_with (first
    | ((with_reducible refine wpE_alloc rfl rfl ?_); intro w2 he2 hb2 hz2; have E2 := Lib.hid he2; have HX2 := Lib.hid hb2; clear he2 hb2 hz2)
    | ((with_reducible refine wpE_store rfl _ _ rfl rfl w1.heap.size rfl s rfl es0 E2.out ?_); intro w3 he3 hg3 hz3; have E3 := Lib.hid he3; have HX3 := Lib.hid hg3; clear he3 hg3 hz3; refine Hid.out ?_))
  have HX23 := Lib.hid (show Below w1.heap.size w1 w3 from HX2.out.grown HX3.out HX2.out.size (fun g hg => by simp at hg; omega))
  have HB3 := Lib.hid (HB1.out.trans (HX23.out.mono HB1.out.size))
  have c0 := (HX23.out.cell (p := ⟨w.heap.size, 0, none⟩) hw1).trans b0
  have c1 := (HX23.out.cell (p := ⟨w.heap.size, 1, none⟩) hw1).trans b1
  clear b0 b1
  refine Lib.hid ?_
  go_wp2_with (go_at_call 93; refine (HC.out _ HB3.out).mono ?_; rintro e w4 ⟨rfl, hb4⟩; have HB4 := Lib.hid (HB3.out.trans (hb4.mono HB3.out.size)); have E4 := Lib.hid (E3.out.kept hb4 E3.out.lt); have hw3 : w.heap.size < w3.heap.size := (by have := HX23.out.size; omega); have d0 := (hb4.cell (p := ⟨w.heap.size, 0, none⟩) hw3).trans c0; have d1 := (hb4.cell (p := ⟨w.heap.size, 1, none⟩) hw3).trans c1; have hz4 := hb4.size; clear hb4; refine Hid.out ?_)
  clear c0 c1
  refine Lib.hid ?_
  go_upto_region 4 with (fail)
  refine wp_region_held_drew (S := fun w' => w'.cell? ⟨w.heap.size, 0, none⟩ = some (.int .i64 (N : Int)) ∧ w'.cell? ⟨w.heap.size, 1, none⟩ = some (.slice A ps.length cap) ∧ ERow w' w1.heap.size s) (by kernel_rfl) (by exact ⟨d0, d1, E4.out⟩) (fun hHeld => ?_)
  refine wpAnyH_take (i := 0) (v := .agg #[.int .i64 (N : Int), .slice A ps.length cap]) rfl (by kernel_rfl) (by kernel_rfl) (by kernel_rfl) (fun _ _ _ h => h) (Or.inl ⟨by rfl, ?_⟩) (by assumption) ?_
  · (intro w hSw; (try dsimp only at hSw); go_simp)
  simp only [Act.put, List.setIfInBounds_toArray]
  refine wpAnyH_take (i := 1) (v := .slice AU cu.length cq) rfl (by kernel_rfl) (by kernel_rfl) (by kernel_rfl) (fun _ _ _ h => h) (Or.inl ⟨by rfl, ?_⟩) (by assumption) ?_
  · (intro w hSw; (try dsimp only at hSw); go_simp)
  simp only [Act.put]
  refine wpAnyH_take (i := 3) (v := ev s) rfl (by kernel_rfl) (by kernel_rfl) (by kernel_rfl) (fun _ _ _ h => h) (Or.inl ⟨by rfl, fun w hSw => run_loadE rfl w1.heap.size rfl s hSw.2.2⟩) (by assumption) ?_
  simp only [Act.put]
  have HBD := Lib.hid HB4.out.drew
  refine wpAnyH_ready (rs := [2]) (by kernel_rfl) (by simp) ?_
  refine AllReadyH.cons rfl (fun K hK => ?_) AllReadyH.nil
  go_simp
  go_at_call 94
  refine (HHT.out _).mono ?_
  rintro e w5 ⟨⟨MM, UU, rfl, hx5⟩, hb5⟩
  have HX5 := Lib.hid hx5
  have HB5 := Lib.hid (HBD.out.trans (hb5.mono HBD.out.size))
  have hz5 := hb5.size
  simp at hz5
  clear hx5
  refine hK.out _ _ (by rcases hHeld with ⟨q0, q1, q2⟩; exact ⟨(hb5.cell (p := ⟨w.heap.size, 0, none⟩) (by show w.heap.size < w4.heap.size; omega)).trans q0, (hb5.cell (p := ⟨w.heap.size, 1, none⟩) (by show w.heap.size < w4.heap.size; omega)).trans q1, q2.kept hb5 q2.lt⟩) (fun hHeld => ?_)
  clear hK K
  clear hb5
  refine wpAnyH_ready (rs := [4]) (by kernel_rfl) (by simp) ?_
  refine AllReadyH.cons rfl (fun K hK => ?_) AllReadyH.nil
  go_simp
  go_at_call 152
  refine (HHC.out _ _ _ HB5.out HX5.out).mono ?_
  rintro e w6 ⟨rfl, hb6⟩
  have HB6 := Lib.hid (HB5.out.trans (hb6.mono HB5.out.size))
  refine hK.out _ _ (by rcases hHeld with ⟨q0, q1, q2⟩; exact ⟨(hb6.cell (p := ⟨w.heap.size, 0, none⟩) (by dsimp only; omega)).trans q0, (hb6.cell (p := ⟨w.heap.size, 1, none⟩) (by dsimp only; omega)).trans q1, q2.kept hb6 q2.lt⟩) (fun hHeld => ?_)
  clear hK K
  clear hb6
  refine wpAnyH_ready (rs := [5]) (by kernel_rfl) (by simp) ?_
  refine AllReadyH.cons rfl (fun K hK => ?_) AllReadyH.nil
  go_simp
  refine hK.out _ _ (by first | assumption | go_keep) (fun hHeld => ?_)
  clear hK K
  refine wpAnyH_ready (rs := [6]) (by kernel_rfl) (by simp) ?_
  refine AllReadyH.cons rfl (fun K hK => ?_) AllReadyH.nil
  go_simp
  refine hK.out _ _ (by first | assumption | go_keep) (fun hHeld => ?_)
  clear hK K
  refine wpAnyH_done (by kernel_rfl) ?_ _
  go_wp2_with fail
  go_ret2
  exact ⟨rfl, HB6.out⟩
end Go.Proofs.Ytbljmibaemgfeaa.S2

namespace Go.Proofs.Ytbljmibaemgfeaa.S2
open Go.RowKit P2 P4
def o1 (x : Int) : Int := IntKind.u64.wrap (bits .and .u64 (x / 2) 6148914691236517205 + bits .and .u64 x 6148914691236517205)
def o2 (x : Int) : Int := IntKind.u64.wrap (bits .and .u64 (x / 4) 3689348814741910323 + bits .and .u64 x 3689348814741910323)
def o3 (x : Int) : Int := bits .and .u64 (IntKind.u64.wrap (x / 16 + x)) 1085102592571150095
def o4 (x : Int) : Int := IntKind.u64.wrap (x + x / 256)
def o5 (x : Int) : Int := IntKind.u64.wrap (x + x / 65536)
def o6 (x : Int) : Int := IntKind.u64.wrap (x + x / 4294967296)
def o7 (x : Int) : Int := bits .and .i64 (wrap64 x) 127
theorem ones_all : ∀ c : Fin 1024, o7 (o6 (o5 (o4 (o3 (o2 (o1 (c.val : Int))))))) = (pcT c.val 10 : Int) := by decide +kernel
set_option maxRecDepth 100000 in
theorem ones64 (C : Nat) (hC : C < 1024) (w : World) : Calls Try.prog 175 #[.int .u64 (C : Int)] w fun e w' => e = .returned (.int .i64 (pcT C 10 : Int)) ∧ w' = w := by
  have h := ones_all ⟨C, hC⟩
  dsimp only at h
  rw [← h]
  clear h
  unfold o7 o6 o5 o4 o3 o2 o1
  go_enter Try.func175, Try.ntmps175
  go_wp2
  go_ret
  exact ⟨rfl, rfl⟩
theorem ones_any (C : Nat) (hC : C < 1024) (w : World) : Calls Try.prog 146 #[.int .u64 (C : Int)] w fun e w' => e = .returned (.int .i64 (pcT C 10 : Int)) ∧ w' = w := by
  have H := Lib.hid (fun w => ones64 C hC w)
  go_enter Try.func146, Try.ntmps146
  go_wp2_with (go_at_call 175; refine (H.out _).mono ?_; rintro e w1 ⟨rfl, hw⟩; replace hw := hw.symm; subst hw)
  go_ret
  exact ⟨rfl, rfl⟩
end Go.Proofs.Ytbljmibaemgfeaa.S2
