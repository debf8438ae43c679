/- Good schedules and their costs: what the model returns: contracts. Conditions: each theorem's own premises. -/
import Derived.Test.YtlkomipjamelkaaPuSchS
import Derived.Deep.DeepCutAuto
namespace Go.Proofs.Ytlkomipjamelkaa.S13
open Go.RowKit Go.Sort Go.ChangeShapes Go.WideShapes Go.Deep Go.Joins P11 S11 P13

theorem gs_all {p : Pg} {vs : List Int} (h : gsB p vs = true) : P13.Good p ∧ vs.length = p.xs.length ∧ (∀ j, j < vs.length → hrB p vs j = true) ∧ p.L ≤ lvS p vs vs.length := by
  unfold gsB at h
  simp only [Bool.and_eq_true, decide_eq_true_eq, List.all_eq_true] at h
  exact ⟨pgB_iff.1 h.1, h.2.1, fun j hj => h.2.2.1 j (by simpa using hj), h.2.2.2⟩
theorem gs_iff {p : Pg} {vs : List Int} : gsB p vs = true ↔ P13.Good p ∧ vs.length = p.xs.length ∧ (∀ j, j < vs.length → hrB p vs j = true) ∧ p.L ≤ lvS p vs vs.length := by
  refine ⟨gs_all, fun ⟨h1, h2, h3, h4⟩ => ?_⟩
  unfold gsB
  rw [pgB_iff.2 h1, gs_mk h3]
  simp [h2]
  rw [← h2]; exact h4
/-- Prices and volumes in their bounds. -/
structure Bd (p : Pg) (vs : List Int) : Prop where
  len : vs.length = p.xs.length
  n : p.xs.length ≤ 12
  x : ∀ j, j < p.xs.length → 0 ≤ p.xs.getD j 0 ∧ p.xs.getD j 0 ≤ 100
  v : ∀ j, j < p.xs.length → 0 ≤ vs.getD j 0 ∧ vs.getD j 0 ≤ 10
theorem gs_bd {p : Pg} {vs : List Int} (h : gsB p vs = true) : Bd p vs := by
  obtain ⟨h1, h2, h3, _⟩ := gs_all h
  have h10 := h1.m1
  exact ⟨h2, h1.day.n1, fun j hj => h1.price hj, fun j hj => by have := (hr_in (h3 j (by omega))).1; omega⟩
theorem Bd.mul {p : Pg} {vs : List Int} (h : Bd p vs) {k : Nat} (hk : k < p.xs.length) : 0 ≤ p.xs.getD k 0 * vs.getD k 0 ∧ p.xs.getD k 0 * vs.getD k 0 ≤ 1000 := mul_bd (h.x k hk) (h.v k hk)
theorem Bd.sum {p : Pg} {vs : List Int} (h : Bd p vs) : ∀ {k : Nat}, k ≤ p.xs.length → 0 ≤ costF p.xs vs k ∧ costF p.xs vs k ≤ 1000 * k := fun {k} hk =>
  sumF_le (by omega) (fun i hi => h.mul (by omega))
theorem costF_succ (xs vs : List Int) (k : Nat) : costF xs vs (k + 1) = costF xs vs k + xs.getD k 0 * vs.getD k 0 := rfl
theorem sigs_any (p : Pg) (A : Option Addr) (c : Nat) (A2 : Option Addr) (c2 : Nat) (AS : Option Addr) (cs : Nat) (vs : List Int) (w : World) (h : PAt w p A A2) (hv : IAt w AS vs) (hvl : vs.length ≤ 1048576) :
    Calls Try.prog 16 #[pv p A c A2 c2, .slice AS vs.length cs] w fun e w' => e = .returned (.bool (gsB p vs)) ∧ Below w.heap.size w w' := by
  have H := Lib.hid (fun w' hb => lsch_any p A c A2 c2 AS cs vs w' (h.kept hb) (hv.kept hb (Nat.le_refl _)) hvl)
  have HB := Lib.hid (boxB w 31 p A c A2 c2)
  clear h hv
  generalize gsB p vs = v at *
  go_enter Try.func16, Try.ntmps16
  go_wp2_with (first | (go_at_call 41; refine (H.out _ HB.out).mono ?_; rintro e w1 ⟨rfl, hb1⟩; refine Hid.out ?_) | fail)
  refine Lib.hid ?_
  go_wp2_with fail
  go_ret
  exact ⟨rfl, HB.out.trans (hb1.mono HB.out.size)⟩
set_option maxHeartbeats 4000000 in
theorem lcost_any (p : Pg) (A : Option Addr) (c : Nat) (A2 : Option Addr) (c2 : Nat) (AS : Option Addr) (cs : Nat) (vs : List Int) (w : World) (h : PAt w p A A2) (hv : IAt w AS vs) (hb : Bd p vs) :
    Calls Try.prog 43 #[pv p A c A2 c2, .slice AS vs.length cs] w fun e w' => e = .returned (.int .i64 (costF p.xs vs vs.length)) ∧ Below w.heap.size w w' := by
  have HB0 := Lib.hid (boxB w 31 p A c A2 c2)
  have H60 := Lib.hid (B6.new w 31 p A c A2 c2)
  have HP := Lib.hid (fun w' hb => h.kept (w' := w') hb)
  have HV := Lib.hid (fun w' (hb : Below w.heap.size w w') => hv.kept hb (Nat.le_refl _))
  have HBD := Lib.hid hb
  have hn := hb.n
  have hvn : vs.length ≤ 12 := by rw [hb.len]; exact hn
  clear h hv hb
  go_enter Try.func43, Try.ntmps43
  go_wp2_with fail
  go_loopw [6, 5] (fun i l wr => ∃ k : Nat, k ≤ vs.length ∧ i = .int .i64 (k : Int) ∧ l = .int .i64 (costF p.xs vs k) ∧ Hid (Below w.heap.size w wr) ∧ Hid (B6 wr w.heap.size 0 p A c A2 c2)) (fun i _ _ => vs.length - (intOf i).toNat)
  case atStart => exact ⟨0, Nat.zero_le _, rfl, rfl, HB0, H60⟩
  case round =>
    obtain ⟨k, hk, rfl, rfl, hBr, h6r⟩ := hrel
    clear HB0 H60
    obtain ⟨a0, a1, a2, a3, a4, a5⟩ := h6r.out.out
    have hwl : w.heap.size < wr.heap.size := h6r.out.lt
    by_cases hlt : k < vs.length
    · have hkx : k < p.xs.length := by rw [← HBD.out.len]; exact hlt
      obtain ⟨bb, off, hA, hbl, h0⟩ := (HV.out _ hBr.out).at_ hlt
      obtain ⟨bx, ox, hAx, hbx, hcx⟩ := (HP.out _ hBr.out).x.at_ hkx
      subst hA hAx
      have hk0 : (0 : Int) ≤ (k : Int) := by omega
      have hkn : (k : Int) < (vs.length : Int) := by omega
      have hkxi : (k : Int) < (p.xs.length : Int) := by omega
      obtain ⟨m0, m1⟩ := HBD.out.mul hkx
      obtain ⟨s0, s1⟩ := HBD.out.sum (Nat.le_of_lt hkx)
      have HS := Lib.hid (costF_succ p.xs vs k)
      generalize costF p.xs vs k = s at *
      generalize hx : p.xs.getD k 0 = x at *
      generalize hv : vs.getD k 0 = v at *
      clear hx hv
      generalize hm : x * v = m at *
      have HM := Lib.hid hm
      clear hm
      have HW := Lib.hid (show wrap64 (s + wrap64 (x * v)) = costF p.xs vs (k + 1) by rw [HM.out, HS.out]; unfold wrap64; omega)
      go_wp2_with fail
      have hG := @cell_g
      refine region_below (by kernel_rfl) (by kernel_rfl) ?_
      repeat (first | go_big_quiet_step (fail))
      refine wpQuiet_nil ?_
      intro w2 hb2
      have HB2 := Lib.hid (hBr.out.trans (hb2.mono hBr.out.size))
      have H62 := Lib.hid (h6r.out.kept hb2)
      clear hb2 hG
      go_wp2_with fail
      go_roundw
      case rel => exact ⟨k + 1, by omega, by go_num, by rw [HW.out], HB2, H62⟩
      case measure => simp [intOf]; omega
    · have e : k = vs.length := by omega
      subst e
      go_wp2
      go_ret
      exact ⟨rfl, hBr.out⟩
/-- A number beside a bool. -/
def OneN (w : World) (x : Int) (ok : Bool) (e : Ending) (w' : World) : Prop := e = .returned (.tuple #[.int .i64 x, .bool ok]) ∧ Below w.heap.size w w'
/-- What a schedule costs, or nothing. -/
def scC (p : Pg) (vs : List Int) : Int := if gsB p vs then costF p.xs vs vs.length else 0
theorem sscost_any (p : Pg) (A : Option Addr) (c : Nat) (A2 : Option Addr) (c2 : Nat) (AS : Option Addr) (cs : Nat) (vs : List Int) (w : World) (h : PAt w p A A2) (hv : IAt w AS vs) (hvl : vs.length ≤ 1048576) :
    Calls Try.prog 20 #[pv p A c A2 c2, .slice AS vs.length cs] w (OneN w (scC p vs) (gsB p vs)) := by
  have H := Lib.hid (fun w' (hb : Below w.heap.size w w') => lsch_any p A c A2 c2 AS cs vs w' (h.kept hb) (hv.kept hb (Nat.le_refl _)) hvl)
  have HC := Lib.hid (fun w' (hb : Below w.heap.size w w') hbd => lcost_any p A c A2 c2 AS cs vs w' (h.kept hb) (hv.kept hb (Nat.le_refl _)) hbd)
  have HB := Lib.hid (boxB w 31 p A c A2 c2)
  have H60 := Lib.hid (B6.new w 31 p A c A2 c2)
  have HBD := Lib.hid (gs_bd (p := p) (vs := vs))
  clear h hv
  unfold OneN scC
  generalize gsB p vs = v at *
  cases v with
  | false =>
    go_enter Try.func20, Try.ntmps20
    go_wp2_with (first | (go_at_call 41; refine (H.out _ HB.out).mono ?_; rintro e w1 ⟨rfl, hb1⟩; refine Hid.out ?_) | fail)
    refine Lib.hid ?_
    go_wp2_with fail
    go_ret2
    exact ⟨rfl, HB.out.trans (hb1.mono HB.out.size)⟩
  | true =>
    rw [if_pos rfl]
    generalize costF p.xs vs vs.length = z at *
    go_enter Try.func20, Try.ntmps20
    go_wp2_with (first | (go_at_call 41; refine (H.out _ HB.out).mono ?_; rintro e w1 ⟨rfl, hb1⟩; refine Hid.out ?_) | fail)
    have HB1 := Lib.hid (HB.out.trans (hb1.mono HB.out.size))
    obtain ⟨a0, a1, a2, a3, a4, a5⟩ := (H60.out.kept hb1).out
    have HC2 := Lib.hid (HC.out _ HB1.out (HBD.out (by simp)))
    clear HC HBD H
    refine Lib.hid ?_
    go_wp2_with (first | (go_at_call 43; refine HC2.out.mono ?_; rintro e w2 ⟨rfl, hb2⟩; refine Hid.out ?_) | fail)
    refine Lib.hid ?_
    go_wp2_with fail
    go_ret2
    exact ⟨rfl, HB1.out.trans (hb2.mono HB1.out.size)⟩
end Go.Proofs.Ytlkomipjamelkaa.S13
