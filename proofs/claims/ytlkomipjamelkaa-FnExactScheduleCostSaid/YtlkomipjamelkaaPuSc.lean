/- What a schedule costs: what the program returns: contract. Conditions: its own premises. -/
import Derived.Test.YtlkomipjamelkaaPuIg
import Derived.Deep.DeepCutAuto
namespace Go.Proofs.Ytlkomipjamelkaa.S13
open Go.RowKit Go.Sort Go.ChangeShapes Go.WideShapes Go.Deep Go.Joins P11 S11 P13

set_option maxHeartbeats 4000000 in
theorem scost_any (p : Pg) (A : Option Addr) (c : Nat) (A2 : Option Addr) (c2 : Nat) (AS : Option Addr) (cs : Nat) (vs : List Int) (w : World) (h : PAt w p A A2) (hv : IAt w AS vs) (hvl : vs.length ≤ 1048576) :
    Calls Try.prog 21 #[pv p A c A2 c2, .slice AS vs.length cs] w (OneN w (scC p vs) (gsB p vs)) := by
  have H := Lib.hid (fun w' (hb : Below w.heap.size w w') => igs_any p A c A2 c2 AS cs vs w' (h.kept hb) (hv.kept hb (Nat.le_refl _)) hvl)
  have HB := Lib.hid (boxB w 31 p A c A2 c2)
  have H60 := Lib.hid (B6.new w 31 p A c A2 c2)
  have HP := Lib.hid (fun w' hb => h.kept (w' := w') hb)
  have HV := Lib.hid (fun w' (hb : Below w.heap.size w w') => hv.kept hb (Nat.le_refl _))
  clear h hv
  unfold OneN scC
  cases hgs : gsB p vs with
  | false =>
    rw [hgs] at H
    go_enter Try.func21, Try.ntmps21
    go_wp2_with (first | (go_at_call 18; refine (H.out _ HB.out).mono ?_; rintro e w1 ⟨rfl, hb1⟩; refine Hid.out ?_) | fail)
    refine Lib.hid ?_
    go_wp2_with fail
    go_ret2
    exact ⟨rfl, HB.out.trans (hb1.mono HB.out.size)⟩
  | true =>
    rw [if_pos rfl]
    rw [hgs] at H
    have HBD := Lib.hid (gs_bd hgs)
    have hvn : vs.length ≤ 12 := by rw [HBD.out.len]; exact HBD.out.n
    have hxl : p.xs.length ≤ 12 := HBD.out.n
    clear hgs
    go_enter Try.func21, Try.ntmps21
    go_wp2_with (first | (go_at_call 18; refine (H.out _ HB.out).mono ?_; rintro e w1 ⟨rfl, hb1⟩; refine Hid.out ?_) | fail)
    have HB1 := Lib.hid (HB.out.trans (hb1.mono HB.out.size))
    have H61 := Lib.hid (H60.out.kept hb1)
    obtain ⟨a0, a1, a2, a3, a4, a5⟩ := H61.out.out
    have hwl := H61.out.lt
    have HV1 := Lib.hid (HV.out _ HB1.out)
    have HX1 := Lib.hid (HP.out _ HB1.out).x
    clear hb1 H HB H60 HP HV
    refine Lib.hid ?_
    go_wp2_with fail
    go_loop [15, 6] (fun i l => ∃ k : Nat, k ≤ vs.length ∧ i = .int .i64 (k : Int) ∧ l = .int .i64 (costF p.xs vs k)) (fun i _ => vs.length - (intOf i).toNat)
    case atStart => exact ⟨0, Nat.zero_le _, rfl, rfl⟩
    case round =>
      obtain ⟨k, hk, rfl, rfl⟩ := hrel
      by_cases hlt : k < vs.length
      · have hkx : k < p.xs.length := by rw [← HBD.out.len]; exact hlt
        obtain ⟨bb, off, hA, hbl, h0⟩ := HV1.out.at_ hlt
        obtain ⟨bx, ox, hAx, hbx, hcx⟩ := HX1.out.at_ hkx
        subst hA hAx
        have hk0 : (0 : Int) ≤ (k : Int) := by omega
        have hkn : (k : Int) < (vs.length : Int) := by omega
        have hkxi : (k : Int) < (p.xs.length : Int) := by omega
        obtain ⟨m0, m1⟩ := HBD.out.mul hkx
        obtain ⟨s0, s1⟩ := HBD.out.sum (Nat.le_of_lt hkx)
        have HS := Lib.hid (costF_succ p.xs vs k)
        generalize costF p.xs vs k = s at *
        generalize hx : p.xs.getD k 0 = x at *
        generalize hv : vs.getD k 0 = v at *
        clear hx hv
        generalize hm : x * v = m at *
        have HM := Lib.hid hm
        clear hm
        have HW := Lib.hid (show wrap64 (s + wrap64 (x * v)) = costF p.xs vs (k + 1) by rw [HM.out, HS.out]; unfold wrap64; omega)
        go_wp2_with fail
        go_round
        case rel => exact ⟨k + 1, by omega, by go_num, by rw [HW.out]⟩
        case measure => simp [intOf]; omega
      · have e : k = vs.length := by omega
        subst e
        go_wp2
        go_ret2
        exact ⟨rfl, HB1.out⟩
end Go.Proofs.Ytlkomipjamelkaa.S13
