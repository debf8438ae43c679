/- The greatest and the smallest number and their places: the program's and the model's: contracts. Conditions: each theorem's own premises. -/
import Derived.Test.YtkgkeohnnpkahaaPfUse
namespace Go.Proofs.Ytkgkeohnnpkahaa.S6
open Go.RowKit P6

set_option maxHeartbeats 1000000 in
theorem max_any (A : Option Addr) (cap : Nat) (l : List Int) (w : World) (h : IAt w A l) (hl : l.length = 24) :
    Calls Try.prog 59 #[.slice A 24 cap] w fun e w' => e = .returned (.int .i64 (at0 l (pk l 24))) ∧ w' = w := by
  have HA := Lib.hid h
  have HL := Lib.hid hl
  obtain ⟨b, off, hA, hbl, h0⟩ := h.at_ (i := 0) (by omega)
  subst hA
  rw [Nat.add_zero] at h0
  have hat : l.getD 0 0 = at0 l 0 := rfl
  rw [hat] at h0
  have HX := Lib.hid (show at0 l (pk l 1) = at0 l 0 by rw [pk_one])
  generalize at0 l 0 = x0 at *
  clear h hl hat
  go_enter Try.func59, Try.ntmps59
  go_wp2
  go_loopw [3, 4] (fun m i wr => ∃ k : Nat, 1 ≤ k ∧ k ≤ 24 ∧ m = .int .i64 (at0 l (pk l k)) ∧ i = .int .i64 k ∧ wr = w) (fun _ i _ => 24 - (intOf i).toNat)
  case atStart => exact ⟨1, Nat.le_refl _, by omega, by rw [HX.out], rfl, rfl⟩
  case round =>
    obtain ⟨k, hk1, hk, rfl, rfl, hw⟩ := hrel
    replace hw := hw.symm
    subst hw
    by_cases hlt : k < 24
    · obtain ⟨b', off', hA', hbl', h1⟩ := HA.out.at_ (i := k) (by rw [HL.out]; omega)
      simp only [Option.some.injEq, Addr.mk.injEq, and_true] at hA'
      obtain ⟨rfl, rfl⟩ := hA'
      have hat : l.getD k 0 = at0 l k := rfl
      rw [hat] at h1
      have HN := Lib.hid (pk_val l k)
      generalize at0 l k = x at *
      generalize hM : at0 l (pk l k) = M at *
      clear hM h0
      go_wp2
      go_roundw
      case rel => exact ⟨k + 1, by omega, by omega, by rw [HN.out], by go_num, trivial⟩
      case measure => simp [intOf]; omega
    · have e : k = 24 := by omega
      subst e
      clear h0
      go_wp2
      go_ret
      exact ⟨rfl, rfl⟩
set_option maxHeartbeats 1000000 in
theorem min_any (A : Option Addr) (cap : Nat) (l : List Int) (w : World) (h : IAt w A l) (hl : l.length = 24) :
    Calls Try.prog 64 #[.slice A 24 cap] w fun e w' => e = .returned (.int .i64 (at0 l (lo l 24))) ∧ w' = w := by
  have HA := Lib.hid h
  have HL := Lib.hid hl
  obtain ⟨b, off, hA, hbl, h0⟩ := h.at_ (i := 0) (by omega)
  subst hA
  rw [Nat.add_zero] at h0
  have hat : l.getD 0 0 = at0 l 0 := rfl
  rw [hat] at h0
  have HX := Lib.hid (show at0 l (lo l 1) = at0 l 0 by rw [lo_one])
  generalize at0 l 0 = x0 at *
  clear h hl hat
  go_enter Try.func64, Try.ntmps64
  go_wp2
  go_loopw [3, 4] (fun m i wr => ∃ k : Nat, 1 ≤ k ∧ k ≤ 24 ∧ m = .int .i64 (at0 l (lo l k)) ∧ i = .int .i64 k ∧ wr = w) (fun _ i _ => 24 - (intOf i).toNat)
  case atStart => exact ⟨1, Nat.le_refl _, by omega, by rw [HX.out], rfl, rfl⟩
  case round =>
    obtain ⟨k, hk1, hk, rfl, rfl, hw⟩ := hrel
    replace hw := hw.symm
    subst hw
    by_cases hlt : k < 24
    · obtain ⟨b', off', hA', hbl', h1⟩ := HA.out.at_ (i := k) (by rw [HL.out]; omega)
      simp only [Option.some.injEq, Addr.mk.injEq, and_true] at hA'
      obtain ⟨rfl, rfl⟩ := hA'
      have hat : l.getD k 0 = at0 l k := rfl
      rw [hat] at h1
      have HN := Lib.hid (lo_val l k)
      generalize at0 l k = x at *
      generalize hM : at0 l (lo l k) = M at *
      clear hM h0
      go_wp2
      go_roundw
      case rel => exact ⟨k + 1, by omega, by omega, by rw [HN.out], by go_num, trivial⟩
      case measure => simp [intOf]; omega
    · have e : k = 24 := by omega
      subst e
      clear h0
      go_wp2
      go_ret
      exact ⟨rfl, rfl⟩
set_option maxHeartbeats 1000000 in
theorem index_any (A : Option Addr) (cap : Nat) (l : List Int) (v : Int) (i0 : Nat) (w : World) (h : IAt w A l) (hl : l.length = 24) (hi : i0 < 24) (hv : at0 l i0 = v) (hn : ∀ j, j < i0 → at0 l j ≠ v) :
    Calls Try.prog 60 #[.slice A 24 cap, .int .i64 v] w fun e w' => e = .returned (.int .i64 (i0 : Int)) ∧ w' = w := by
  have HA := Lib.hid h
  have HL := Lib.hid hl
  have HN := Lib.hid hn
  have HV := Lib.hid hv
  clear h hl hn hv
  go_enter Try.func60, Try.ntmps60
  go_wp2
  go_loopw [8] (fun i wr => ∃ k : Nat, k ≤ i0 ∧ i = .int .i64 k ∧ wr = w) (fun i _ => 24 - (intOf i).toNat)
  case atStart => exact ⟨0, by omega, rfl, rfl⟩
  case round =>
    obtain ⟨k, hk, rfl, hw⟩ := hrel
    replace hw := hw.symm
    subst hw
    have hlt : k < 24 := by omega
    obtain ⟨b, off, hA, hbl, h1⟩ := HA.out.at_ (i := k) (by rw [HL.out]; omega)
    subst hA
    have hat : l.getD k 0 = at0 l k := rfl
    rw [hat] at h1
    by_cases he : k = i0
    · subst he
      rw [HV.out] at h1
      go_wp2
      go_ret
      exact ⟨rfl, rfl⟩
    · have hne : ¬ v = at0 l k := fun e => HN.out k (by omega) e.symm
      generalize at0 l k = x at *
      go_wp2
      go_roundw
      case rel => exact ⟨k + 1, by omega, by go_num, trivial⟩
      case measure => simp [intOf]; omega

set_option maxHeartbeats 1000000 in
theorem speak_any (A : Option Addr) (cap : Nat) (l : List Int) (w : World) (h : IAt w A l) (hl : l.length = 24) :
    Calls Try.prog 67 #[.slice A 24 cap] w fun e w' => e = .returned (.int .i64 (pk l 24 : Int)) ∧ Below w.heap.size w w' := by
  have HA := Lib.hid h
  have HL := Lib.hid hl
  have HX := Lib.hid (pk_one l)
  clear h hl
  go_enter Try.func67, Try.ntmps67
  go_wp2
  go_loopw [3, 4] (fun m i wr => ∃ (k m0 : Nat), 1 ≤ k ∧ k ≤ 24 ∧ Hid (m0 = pk l k) ∧ m = .int .i64 (m0 : Int) ∧ i = .int .i64 k ∧ Below w.heap.size w wr) (fun _ i _ => 24 - (intOf i).toNat)
  case atStart => exact ⟨1, 0, Nat.le_refl _, by omega, Lib.hid HX.out.symm, rfl, rfl, Below.refl _ _⟩
  case round =>
    obtain ⟨k, m0, hk1, hk, hm0, rfl, rfl, hb⟩ := hrel
    have hm1 : m0 < 24 := by rw [hm0.out]; have := pk_lt l k (by omega); omega
    by_cases hlt : k < 24
    · obtain ⟨b, off, hA, hbl, h1⟩ := HA.out.at_ (i := k) (by rw [HL.out]; omega)
      subst hA
      obtain ⟨b', off', hA', hbl', h2⟩ := HA.out.at_ (i := m0) (by rw [HL.out]; omega)
      simp only [Option.some.injEq, Addr.mk.injEq, and_true] at hA'
      obtain ⟨rfl, rfl⟩ := hA'
      obtain ⟨hc, hf⟩ := bcell hb
      have hG := @cell_g
      have hz := hb.size
      have hbw : b < wr.heap.size := by omega
      have e1 : l.getD k 0 = at0 l k := rfl
      have e2 : l.getD m0 0 = at0 l m0 := rfl
      rw [e1] at h1
      rw [e2] at h2
      have hcl := Lib.hid (fun (w1 : World) (h1 : Below wr.heap.size wr w1) => hb.trans (h1.mono hz))
      have hs : pk l (k + 1) = if at0 l (pk l k) < at0 l k then k else pk l k := rfl
      rw [← hm0.out] at hs
      have HS := Lib.hid hs
      have hk0i : (0 : Int) ≤ (k : Int) := by omega
      have hm0i : (0 : Int) ≤ (m0 : Int) := by omega
      clear hs e1 e2
      by_cases hx : at0 l m0 < at0 l k
      · have HR := Lib.hid (show k = pk l (k + 1) by rw [HS.out, if_pos hx])
        generalize at0 l k = x at *
        generalize at0 l m0 = y at *
        go_wp2
        refine region_below (by kernel_rfl) (by kernel_rfl) ?_
        repeat (first | go_big_quiet_step (fail))
        refine wpQuiet_nil ?_
        intro w1 hb1
        go_wp2
        go_roundw
        case rel => exact ⟨k + 1, k, by omega, by omega, Lib.hid HR.out, rfl, by go_num, hcl.out _ hb1⟩
        case measure => simp [intOf]; omega
      · have HR := Lib.hid (show m0 = pk l (k + 1) by rw [HS.out, if_neg hx])
        generalize at0 l k = x at *
        generalize at0 l m0 = y at *
        go_wp2
        refine region_below (by kernel_rfl) (by kernel_rfl) ?_
        repeat (first | go_big_quiet_step (fail))
        refine wpQuiet_nil ?_
        intro w1 hb1
        go_wp2
        go_roundw
        case rel => exact ⟨k + 1, m0, by omega, by omega, Lib.hid HR.out, rfl, by go_num, hcl.out _ hb1⟩
        case measure => simp [intOf]; omega
    · have e : k = 24 := by omega
      subst e
      have HR := Lib.hid (congrArg (fun z : Nat => Ending.returned (.int .i64 (z : Int))) hm0.out)
      go_wp2
      go_ret
      exact ⟨HR.out, hb⟩
end Go.Proofs.Ytkgkeohnnpkahaa.S6
