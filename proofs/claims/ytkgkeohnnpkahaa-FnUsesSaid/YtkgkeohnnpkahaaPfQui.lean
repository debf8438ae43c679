/- The quietest hours, the program's and the model's: contracts. Conditions: each theorem's own premises. -/
import Derived.Test.YtkgkeohnnpkahaaPfUse
namespace Go.Proofs.Ytkgkeohnnpkahaa.S6
open Go.RowKit Go.Sort P6

theorem met_at {P : Program} {f : FuncId} {args : Array Value} {w : World} {d : Nat} {os : Array Obj} {v : Value}
    (h : ∀ w', Below w.heap.size w w' → Calls P f args w' fun e w'' => e = .returned v ∧ Below w'.heap.size w' w'') : Calls P f args (grow (redrawn w d) os) fun e w'' => e = .returned v ∧ ∃ p : Regrown, w'' = grow (redrawn w p.d) p.os :=
  Calls.regrown_of (h _ (below_regrown w d os))
def h1B (x : Int) : Bool := decide (1 ≤ x ∧ x ≤ 24)
set_option maxHeartbeats 2000000 in
theorem qui_no (A : Option Addr) (cap : Nat) (l : List Int) (y : Int) (w : World) (h : IAt w A l) (hm : l.length ≤ 1048576) (hn : (gdB l && h1B y) = false) :
    Calls Try.prog 26 #[dv A l.length cap, .int .i64 y] w (Gives3 0 0 false w) := by
  obtain ⟨v, hv⟩ : ∃ v, gdB l = v := ⟨_, rfl⟩
  have HV := Lib.hid (fun w' (hb : Below w.heap.size w w') => valid_v hv A cap w' (h.kept hb (Nat.le_refl _)) hm)
  rw [hv] at hn
  clear h hv
  have hy : v = false ∨ ¬ (1 ≤ y ∧ y ≤ 24) := by revert hn; unfold h1B; cases v <;> simp
  clear hn
  go_enter Try.func26, Try.ntmps26
  cases v
  case false =>
    clear hy
    go_wp2_with (go_at_call 21; refine (HV.out _ ((Below.refl _ _).alloc (Nat.le_refl _) _)).mono ?_; rintro e w1 ⟨rfl, hb1⟩)
    go_ret3
    exact ⟨rfl, ((Below.refl _ _).alloc (Nat.le_refl _) _).trans (hb1.mono (by simp))⟩
  case true =>
    have hy2 : ¬ (1 ≤ y ∧ y ≤ 24) := by simpa using hy
    clear hy
    by_cases hy0 : y < 1
    · clear hy2
      go_wp2_with (go_at_call 21; refine (HV.out _ ((Below.refl _ _).alloc (Nat.le_refl _) _)).mono ?_; rintro e w1 ⟨rfl, hb1⟩)
      go_ret3
      exact ⟨rfl, ((Below.refl _ _).alloc (Nat.le_refl _) _).trans (hb1.mono (by simp))⟩
    · have hy9 : 24 < y := by omega
      clear hy2
      go_wp2_with (go_at_call 21; refine (HV.out _ ((Below.refl _ _).alloc (Nat.le_refl _) _)).mono ?_; rintro e w1 ⟨rfl, hb1⟩)
      go_ret3
      exact ⟨rfl, ((Below.refl _ _).alloc (Nat.le_refl _) _).trans (hb1.mono (by simp))⟩
set_option maxHeartbeats 2000000 in
theorem squi_no (A : Option Addr) (cap : Nat) (l : List Int) (y : Int) (w : World) (h : IAt w A l) (hm : l.length ≤ 1048576) (hn : (gdB l && h1B y) = false) :
    Calls Try.prog 27 #[dv A l.length cap, .int .i64 y] w (Gives3 0 0 false w) := by
  obtain ⟨v, hv⟩ : ∃ v, gdB l = v := ⟨_, rfl⟩
  have HV := Lib.hid (fun w' (hb : Below w.heap.size w w') => sgood_v hv A cap w' (h.kept hb (Nat.le_refl _)) hm)
  have HI := Lib.hid (fun w => in_any y 1 24 w)
  rw [hv] at hn
  clear h hv
  unfold h1B at hn
  generalize decide (1 ≤ y ∧ y ≤ 24) = vy at *
  go_enter Try.func27, Try.ntmps27
  cases v <;> cases vy <;> first | (exact absurd hn (by decide)) | skip
  all_goals
    clear hn
    go_wp2_with (first
      | (go_at_call 57; refine (HV.out _ ((Below.refl _ _).alloc (Nat.le_refl _) _)).mono ?_; rintro e w1 ⟨rfl, hb1⟩)
      | (go_at_call 65; refine (HI.out _).mono ?_; rintro e w1z ⟨rfl, hw⟩; replace hw := hw.symm; subst hw))
    go_ret3
    exact ⟨rfl, ((Below.refl _ _).alloc (Nat.le_refl _) _).trans (hb1.mono (by simp))⟩

abbrev qB (w : World) (A : Option Addr) (cap : Nat) (wr : World) : Prop := Below (w.heap.size + 1) (w.alloc (.cells #[.slice A 24 cap] 26)) wr
set_option maxHeartbeats 4000000 in
theorem qui_yes (A : Option Addr) (cap : Nat) (l : List Int) (y : Nat) (w : World) (h : IAt w A l) (g : Gd l) (hy1 : 1 ≤ y) (hy : y ≤ 24) :
    Calls Try.prog 26 #[dv A l.length cap, .int .i64 (y : Int)] w (Gives3 (qh l y 24 : Int) (pf l (qh l y 24) y) true w) := by
  have hl := g.1
  have HV := Lib.hid (fun w' (hb : Below w.heap.size w w') => valid_v (gd_mk g) A cap w' (h.kept hb (Nat.le_refl _)) (by omega))
  rw [hl] at HV ⊢
  have HP := Lib.hid (fun (f : Nat) (hf : f < 24) w' (hb : Below w.heap.size w w') => pf_any A cap l w' (h.kept hb (Nat.le_refl _)) g f y hf hy)
  have HX := Lib.hid (qh_one l y)
  have HP0 := Lib.hid (fun w' (hb : Below w.heap.size w w') => HP.out 0 (by omega) w' hb)
  clear h g hl
  go_enter Try.func26, Try.ntmps26
  go_wp2_with (first
    | (go_at_call 21; refine (HV.out _ ((Below.refl _ _).alloc (Nat.le_refl _) _)).mono ?_; rintro e w1 ⟨rfl, hb1⟩; have hB := (show qB w A cap w1 by simpa using hb1); have hbx := box1 hB)
    | (go_at_call 68; refine (HP0.out _ (below_box hB)).mono ?_; rintro e w2 ⟨rfl, hb2⟩; have hB2 := on_call hB hb2))
  have HB2 := Lib.hid hB2
  clear hB hb1 hbx hB2 hb2
  go_loopw [7, 8, 9] (fun q s i wr => ∃ (k m0 : Nat), 1 ≤ k ∧ k ≤ 24 ∧ Hid (m0 = qh l y k) ∧ q = .int .i64 (m0 : Int) ∧ s = .int .i64 (pf l m0 y) ∧ i = .int .i64 k ∧ qB w A cap wr) (fun _ _ i _ => 24 - (intOf i).toNat)
  case atStart => exact ⟨1, 0, Nat.le_refl _, by omega, Lib.hid HX.out.symm, rfl, rfl, rfl, HB2.out⟩
  case round =>
    obtain ⟨k, m0, hk1, hk, hm0, rfl, rfl, rfl, hb⟩ := hrel
    have hbx := box1 hb
    by_cases hlt : k < 24
    · have H1 := Lib.hid (fun w' (hb : Below w.heap.size w w') => HP.out k hlt w' hb)
      have hs : qh l y (k + 1) = if pf l k y < pf l (qh l y k) y then k else qh l y k := rfl
      rw [← hm0.out] at hs
      have HS := Lib.hid hs
      clear hs
      by_cases hx : pf l k y < pf l m0 y
      · have HR := Lib.hid (show k = qh l y (k + 1) by rw [HS.out, if_pos hx])
        have HK := Lib.hid (show pf l k y = pf l k y from rfl)
        generalize hF : pf l k y = x at *
        generalize pf l m0 y = z at *
        go_wp2_with (go_at_call 68; refine (H1.out _ (below_box hb)).mono ?_; rintro e w3 ⟨rfl, hb3⟩; have hB3 := on_call hb hb3)
        go_roundw
        case rel => exact ⟨k + 1, k, by omega, by omega, Lib.hid HR.out, rfl, by rw [hF], by go_num, hB3⟩
        case measure => simp [intOf]; omega
      · have HR := Lib.hid (show m0 = qh l y (k + 1) by rw [HS.out, if_neg hx])
        generalize pf l k y = x at *
        generalize hZ : pf l m0 y = z at *
        go_wp2_with (go_at_call 68; refine (H1.out _ (below_box hb)).mono ?_; rintro e w3 ⟨rfl, hb3⟩; have hB3 := on_call hb hb3)
        go_roundw
        case rel => exact ⟨k + 1, m0, by omega, by omega, Lib.hid HR.out, rfl, by rw [hZ], by go_num, hB3⟩
        case measure => simp [intOf]; omega
    · have e : k = 24 := by omega
      subst e
      have HR := Lib.hid (congrArg (fun z : Nat => Ending.returned (ret3 (z : Int) (pf l z y) true)) hm0.out)
      go_wp2
      go_ret3
      exact ⟨HR.out, below_box hb⟩
set_option maxHeartbeats 4000000 in
theorem squi_yes (A : Option Addr) (cap : Nat) (l : List Int) (y : Nat) (w : World) (h : IAt w A l) (g : Gd l) (hy1 : 1 ≤ y) (hy : y ≤ 24) :
    Calls Try.prog 27 #[dv A l.length cap, .int .i64 (y : Int)] w (Gives3 (qh l y 24 : Int) (pf l (qh l y 24) y) true w) := by
  have hl := g.1
  have HV := Lib.hid (fun w' (hb : Below w.heap.size w w') => sgood_v (gd_mk g) A cap w' (h.kept hb (Nat.le_refl _)) (by omega))
  rw [hl] at HV ⊢
  have HI := Lib.hid (fun w => in_eq (y : Int) 1 24 true (by simp; omega) w)
  have HP := Lib.hid (fun (f : Nat) (hf : f < 24) w' (hb : Below w.heap.size w w') => spf_any A cap l w' (h.kept hb (Nat.le_refl _)) g f y hf hy)
  have HX := Lib.hid (qh_one l y)
  have HLT := Lib.hid (qh_lt l y)
  clear h g hl
  go_enter Try.func27, Try.ntmps27
  go_wp2_with (first
    | (go_at_call 57; refine (HV.out _ ((Below.refl _ _).alloc (Nat.le_refl _) _)).mono ?_; rintro e w1 ⟨rfl, hb1⟩; have hB := (show qB w A cap w1 by simpa using hb1); have hbx := box1 hB)
    | (go_at_call 65; refine (HI.out _).mono ?_; rintro e w1z ⟨rfl, hw⟩; replace hw := hw.symm; subst hw))
  have HB2 := Lib.hid hB
  clear hB hb1 hbx
  go_loopw [7, 8] (fun q i wr => ∃ (k m0 : Nat), 1 ≤ k ∧ k ≤ 24 ∧ Hid (m0 = qh l y k) ∧ q = .int .i64 (m0 : Int) ∧ i = .int .i64 k ∧ qB w A cap wr) (fun _ i _ => 24 - (intOf i).toNat)
  case atStart => exact ⟨1, 0, Nat.le_refl _, by omega, Lib.hid HX.out.symm, rfl, rfl, HB2.out⟩
  case round =>
    obtain ⟨k, m0, hk1, hk, hm0, rfl, rfl, hb⟩ := hrel
    have hbx := box1 hb
    have hm1 : m0 < 24 := by rw [hm0.out]; have := HLT.out k (by omega); omega
    have H2 := Lib.hid (fun w' (hb : Below w.heap.size w w') => HP.out m0 hm1 w' hb)
    by_cases hlt : k < 24
    · have H1 := Lib.hid (fun w' (hb : Below w.heap.size w w') => HP.out k hlt w' hb)
      have hs : qh l y (k + 1) = if pf l k y < pf l (qh l y k) y then k else qh l y k := rfl
      rw [← hm0.out] at hs
      have HS := Lib.hid hs
      have hG := @cell_g
      have hz := box_lt hb
      have hcl := Lib.hid (fun (w1 : World) (h1 : Below wr.heap.size wr w1) => on_call hb h1)
      have hBB := Lib.hid (below_box hb)
      have hzz := Lib.hid hBB.out.size
      clear hs
      by_cases hx : pf l k y < pf l m0 y
      · have HR := Lib.hid (show k = qh l y (k + 1) by rw [HS.out, if_pos hx])
        generalize hF : pf l k y = x at *
        generalize pf l m0 y = z at *
        go_wp2
        refine region_below (by kernel_rfl) (by kernel_rfl) ?_
        repeat (first | go_big_quiet_step (first
          | (go_at_call_of 69 (Value.int IntKind.i64 (k : Int)); exact met_at (fun w' hb => H1.out w' (hBB.out.trans (hb.mono hzz.out))))
          | (go_at_call_of 69 (Value.int IntKind.i64 (m0 : Int)); exact met_at (fun w' hb => H2.out w' (hBB.out.trans (hb.mono hzz.out))))))
        refine wpQuiet_nil ?_
        intro w3 hb3
        go_wp2
        go_roundw
        case rel => exact ⟨k + 1, k, by omega, by omega, Lib.hid HR.out, rfl, by go_num, hcl.out _ hb3⟩
        case measure => simp [intOf]; omega
      · have HR := Lib.hid (show m0 = qh l y (k + 1) by rw [HS.out, if_neg hx])
        generalize pf l k y = x at *
        generalize hZ : pf l m0 y = z at *
        go_wp2
        refine region_below (by kernel_rfl) (by kernel_rfl) ?_
        repeat (first | go_big_quiet_step (first
          | (go_at_call_of 69 (Value.int IntKind.i64 (k : Int)); exact met_at (fun w' hb => H1.out w' (hBB.out.trans (hb.mono hzz.out))))
          | (go_at_call_of 69 (Value.int IntKind.i64 (m0 : Int)); exact met_at (fun w' hb => H2.out w' (hBB.out.trans (hb.mono hzz.out))))))
        refine wpQuiet_nil ?_
        intro w3 hb3
        go_wp2
        go_roundw
        case rel => exact ⟨k + 1, m0, by omega, by omega, Lib.hid HR.out, rfl, by go_num, hcl.out _ hb3⟩
        case measure => simp [intOf]; omega
    · have e : k = 24 := by omega
      subst e
      have HR := Lib.hid (congrArg (fun z : Nat => Ending.returned (ret3 (z : Int) (pf l z y) true)) hm0.out)
      go_wp2_with (go_at_call 69; refine (H2.out _ (below_box hb)).mono ?_; rintro e w3 ⟨rfl, hb3⟩; have hB3 := on_call hb hb3)
      go_ret3
      exact ⟨HR.out, below_box hB3⟩
end Go.Proofs.Ytkgkeohnnpkahaa.S6
