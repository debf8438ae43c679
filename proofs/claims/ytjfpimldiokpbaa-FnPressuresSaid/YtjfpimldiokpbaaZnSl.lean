/- SuitingLevels of the program and of the model, with the greatest and the smallest number of a list: contracts. Conditions: each theorem's own premises. -/
import Derived.Test.YtjfpimldiokpbaaZnSp
namespace Go.Proofs.Ytjfpimldiokpbaa.S12
open Go.RowKit Go.Sort P12

theorem met_at {P : Program} {f : FuncId} {args : Array Value} {w : World} {d : Nat} {os : Array Obj} {v : Value}
    (h : ∀ w', Below w.heap.size w w' → Calls P f args w' fun e w'' => e = .returned v ∧ Below w'.heap.size w' w'') : Calls P f args (grow (redrawn w d) os) fun e w'' => e = .returned v ∧ ∃ p : Regrown, w'' = grow (redrawn w p.d) p.os :=
  Calls.regrown_of (h _ (below_regrown w d os))
theorem same_below {P : Program} {f : FuncId} {args : Array Value} {w : World} {v : Value} (h : Calls P f args w fun e w' => e = .returned v ∧ w' = w) : Calls P f args w fun e w' => e = .returned v ∧ Below w.heap.size w w' :=
  h.mono fun _ _ ⟨he, hw⟩ => ⟨he, by rw [hw]; exact Below.refl _ _⟩
set_option maxHeartbeats 1000000 in
theorem max_any (A : Option Addr) (cap : Nat) (l : List Int) (w : World) (h : IAt w A l) (hl : 0 < l.length) (hl2 : l.length ≤ 1048576) :
    Calls Try.prog 55 #[.slice A l.length cap] w fun e w' => e = .returned (.int .i64 (mxK l l.length)) ∧ w' = w := by
  have HA := Lib.hid h
  obtain ⟨b, off, hA, hbl, h0⟩ := h.at_ (i := 0) hl
  subst hA
  rw [Nat.add_zero] at h0
  have HX := Lib.hid (show mxK l 1 = l.getD 0 0 by simp [mxK])
  have g0 : decide ((l.length : Int) < 1) = false := decide_eq_false (by omega)
  generalize l.getD 0 0 = x0 at *
  clear h
  go_enter Try.func55, Try.ntmps55
  go_wp2
  go_loopw [3, 4] (fun m i wr => ∃ k : Nat, 1 ≤ k ∧ k ≤ l.length ∧ m = .int .i64 (mxK l k) ∧ i = .int .i64 k ∧ wr = w) (fun _ i _ => l.length - (intOf i).toNat)
  case atStart => exact ⟨1, Nat.le_refl _, by omega, by rw [HX.out], rfl, rfl⟩
  case round =>
    obtain ⟨k, hk1, hk, rfl, rfl, hw⟩ := hrel
    replace hw := hw.symm
    subst hw
    by_cases hlt : k < l.length
    · obtain ⟨b', off', hA', hbl', h1⟩ := HA.out.at_ (i := k) hlt
      simp only [Option.some.injEq, Addr.mk.injEq, and_true] at hA'
      obtain ⟨rfl, rfl⟩ := hA'
      have hk0 : (0 : Int) ≤ (k : Int) := by omega
      have hkn : (k : Int) < (l.length : Int) := by omega
      have HN := Lib.hid (show mxK l (k + 1) = if mxK l k < l.getD k 0 then l.getD k 0 else mxK l k by show max _ _ = _; split <;> omega)
      generalize l.getD k 0 = x at *
      generalize hM : mxK l k = M at *
      clear hM h0
      go_wp2
      go_roundw
      case rel => exact ⟨k + 1, by omega, by omega, by rw [HN.out], by go_num, trivial⟩
      case measure => simp [intOf]; omega
    · have HF := Lib.hid (show mxK l k = mxK l l.length by rw [show k = l.length by omega])
      clear h0
      go_wp2
      go_ret
      exact ⟨by rw [← HF.out]; rfl, rfl⟩
set_option maxHeartbeats 1000000 in
theorem min_any (A : Option Addr) (cap : Nat) (l : List Int) (w : World) (h : IAt w A l) (hl : 0 < l.length) (hl2 : l.length ≤ 1048576) :
    Calls Try.prog 56 #[.slice A l.length cap] w fun e w' => e = .returned (.int .i64 (mnK l l.length)) ∧ w' = w := by
  have HA := Lib.hid h
  obtain ⟨b, off, hA, hbl, h0⟩ := h.at_ (i := 0) hl
  subst hA
  rw [Nat.add_zero] at h0
  have HX := Lib.hid (show mnK l 1 = l.getD 0 0 by simp [mnK])
  have g0 : decide ((l.length : Int) < 1) = false := decide_eq_false (by omega)
  generalize l.getD 0 0 = x0 at *
  clear h
  go_enter Try.func56, Try.ntmps56
  go_wp2
  go_loopw [3, 4] (fun m i wr => ∃ k : Nat, 1 ≤ k ∧ k ≤ l.length ∧ m = .int .i64 (mnK l k) ∧ i = .int .i64 k ∧ wr = w) (fun _ i _ => l.length - (intOf i).toNat)
  case atStart => exact ⟨1, Nat.le_refl _, by omega, by rw [HX.out], rfl, rfl⟩
  case round =>
    obtain ⟨k, hk1, hk, rfl, rfl, hw⟩ := hrel
    replace hw := hw.symm
    subst hw
    by_cases hlt : k < l.length
    · obtain ⟨b', off', hA', hbl', h1⟩ := HA.out.at_ (i := k) hlt
      simp only [Option.some.injEq, Addr.mk.injEq, and_true] at hA'
      obtain ⟨rfl, rfl⟩ := hA'
      have hk0 : (0 : Int) ≤ (k : Int) := by omega
      have hkn : (k : Int) < (l.length : Int) := by omega
      have HN := Lib.hid (show mnK l (k + 1) = if l.getD k 0 < mnK l k then l.getD k 0 else mnK l k by show min _ _ = _; split <;> omega)
      generalize l.getD k 0 = x at *
      generalize hM : mnK l k = M at *
      clear hM h0
      go_wp2
      go_roundw
      case rel => exact ⟨k + 1, by omega, by omega, by rw [HN.out], by go_num, trivial⟩
      case measure => simp [intOf]; omega
    · have HF := Lib.hid (show mnK l k = mnK l l.length by rw [show k = l.length by omega])
      clear h0
      go_wp2
      go_ret
      exact ⟨by rw [← HF.out]; rfl, rfl⟩
theorem smost_any (x y : Int) (w : World) : Calls Try.prog 52 #[.int .i64 x, .int .i64 y] w fun e w' => e = .returned (.int .i64 (max x y)) ∧ w' = w := by
  by_cases h : y < x
  · rw [show max x y = x by omega]
    go_enter Try.func52, Try.ntmps52
    go_wp2
    go_ret
    exact ⟨rfl, rfl⟩
  · rw [show max x y = y by omega]
    go_enter Try.func52, Try.ntmps52
    go_wp2
    go_ret
    exact ⟨rfl, rfl⟩
theorem sleast_any (x y : Int) (w : World) : Calls Try.prog 53 #[.int .i64 x, .int .i64 y] w fun e w' => e = .returned (.int .i64 (min x y)) ∧ w' = w := by
  by_cases h : x < y
  · rw [show min x y = x by omega]
    go_enter Try.func53, Try.ntmps53
    go_wp2
    go_ret
    exact ⟨rfl, rfl⟩
  · rw [show min x y = y by omega]
    go_enter Try.func53, Try.ntmps53
    go_wp2
    go_ret
    exact ⟨rfl, rfl⟩
theorem lev_lit (x a b : Int) (w : World) (hx : 0 ≤ x ∧ x ≤ 1000) (ha : 0 ≤ a ∧ a ≤ 200) (hb : 0 ≤ b ∧ b ≤ 200) :
    Calls Try.prog 54 #[.int .i64 x, .agg #[.int .i64 a, .int .i64 b]] w fun e w' => e = .returned (.agg #[.int .i64 (x + a), .int .i64 (x + b)]) ∧ Below w.heap.size w w' := lev_any x a b w hx ha hb
theorem lf0 (p q : Int) (w : World) : (Instr.field 59 (.agg #[.int .i64 p, .int .i64 q]) 0).run Try.prog w = .ok (.int .i64 p) w := by kernel_rfl
theorem lf1 (p q : Int) (w : World) : (Instr.field 59 (.agg #[.int .i64 p, .int .i64 q]) 1).run Try.prog w = .ok (.int .i64 q) w := by kernel_rfl
/-- Two numbers beside a bool. -/
def TwoN (w : World) (x y : Int) (ok : Bool) (e : Ending) (w' : World) : Prop := e = .returned (.tuple #[.int .i64 x, .int .i64 y, .bool ok]) ∧ Below w.heap.size w w'
set_option maxHeartbeats 1000000 in
theorem sg_no (A : Option Addr) (cap : Nat) (l : List Int) (a b : Int) (w : World) (hI : IAt w A l) (hl : l.length ≤ 1048576) (hv : askB l a b = false ∨ l.length = 0) :
    Calls Try.prog 24 #[.slice A l.length cap, rv a b] w (TwoN w 0 0 false) := by
  have HB0 := Lib.hid (alloc_below w (rb 25 a b))
  have HA := Lib.hid (fun w' (hb : Below w.heap.size w w') => ask_any A cap l a b w' (hI.kept hb (Nat.le_refl _)) hl)
  have HT0 := Lib.hid (BT.new w 25 a b)
  clear hI
  cases hav : askB l a b with
  | false =>
    rw [hav] at HA
    clear hav hv
    go_enter Try.func24, Try.ntmps24
    refine Hid.out ?_
    obtain ⟨_, q0, q1⟩ := HT0.out
    refine Lib.hid ?_
    go_wp2_with (go_at_call 49; refine (HA.out _ HB0.out).mono ?_; rintro e w1 ⟨rfl, hb1⟩; have HB1 := Lib.hid (HB0.out.trans (hb1.mono HB0.out.size)); clear hb1)
    go_ret3
    exact ⟨rfl, HB1.out⟩
  | true =>
    rw [hav] at HA
    have h0 : l.length = 0 := by
      rcases hv with h | h
      · rw [h] at hav; cases hav
      · exact h
    have g0 : ((l.length : Int) == 0) = true := by rw [h0]; rfl
    clear hav hv h0
    go_enter Try.func24, Try.ntmps24
    refine Hid.out ?_
    obtain ⟨_, q0, q1⟩ := HT0.out
    refine Lib.hid ?_
    go_wp2_with (go_at_call 49; refine (HA.out _ HB0.out).mono ?_; rintro e w1 ⟨rfl, hb1⟩; have HB1 := Lib.hid (HB0.out.trans (hb1.mono HB0.out.size)); clear hb1)
    go_ret3
    exact ⟨rfl, HB1.out⟩
set_option maxHeartbeats 1000000 in
theorem ssg_no (A : Option Addr) (cap : Nat) (l : List Int) (a b : Int) (w : World) (hI : IAt w A l) (hl : l.length ≤ 1048576) (hv : askB l a b = false ∨ l.length = 0) :
    Calls Try.prog 23 #[.slice A l.length cap, rv a b] w (TwoN w 0 0 false) := by
  have HB0 := Lib.hid (alloc_below w (rb 25 a b))
  have HA := Lib.hid (fun w' (hb : Below w.heap.size w w') => sask_any A cap l a b w' (hI.kept hb (Nat.le_refl _)) hl)
  have HT0 := Lib.hid (BT.new w 25 a b)
  clear hI
  cases hav : askB l a b with
  | false =>
    rw [hav] at HA
    clear hav hv
    go_enter Try.func23, Try.ntmps23
    refine Hid.out ?_
    obtain ⟨_, q0, q1⟩ := HT0.out
    refine Lib.hid ?_
    go_wp2_with (go_at_call 46; refine (HA.out _ HB0.out).mono ?_; rintro e w1 ⟨rfl, hb1⟩; have HB1 := Lib.hid (HB0.out.trans (hb1.mono HB0.out.size)); clear hb1)
    go_ret3
    exact ⟨rfl, HB1.out⟩
  | true =>
    rw [hav] at HA
    have h0 : l.length = 0 := by
      rcases hv with h | h
      · rw [h] at hav; cases hav
      · exact h
    have g0 : ((l.length : Int) == 0) = true := by rw [h0]; rfl
    clear hav hv h0
    go_enter Try.func23, Try.ntmps23
    refine Hid.out ?_
    obtain ⟨_, q0, q1⟩ := HT0.out
    refine Lib.hid ?_
    go_wp2_with (go_at_call 46; refine (HA.out _ HB0.out).mono ?_; rintro e w1 ⟨rfl, hb1⟩; have HB1 := Lib.hid (HB0.out.trans (hb1.mono HB0.out.size)); clear hb1)
    go_ret3
    exact ⟨rfl, HB1.out⟩
def sgLo (l : List Int) (a b : Int) : Int := if loL l a ≤ hiL l b then loL l a else 0
def sgHi (l : List Int) (a b : Int) : Int := if loL l a ≤ hiL l b then hiL l b else 0
set_option maxHeartbeats 2000000 in
theorem sg_yes (A : Option Addr) (cap : Nat) (l : List Int) (a b : Int) (w : World) (hI : IAt w A l) (hl : l.length ≤ 1048576) (hq : ZAsk l a b) (h0 : 0 < l.length) :
    Calls Try.prog 24 #[.slice A l.length cap, rv a b] w (TwoN w (sgLo l a b) (sgHi l a b) (decide (loL l a ≤ hiL l b))) := by
  have HB0 := Lib.hid (alloc_below w (rb 25 a b))
  have HA := Lib.hid (fun w' (hb : Below w.heap.size w w') => ask_v (askB_iff.2 hq) A cap w' (hI.kept hb (Nat.le_refl _)) hl)
  have HT0 := Lib.hid (BT.new w 25 a b)
  have HMX := Lib.hid (fun w' (hb : Below w.heap.size w w') => same_below (max_any A cap l w' (hI.kept hb (Nat.le_refl _)) h0 hl))
  have HMN := Lib.hid (fun w' (hb : Below w.heap.size w w') => same_below (min_any A cap l w' (hI.kept hb (Nat.le_refl _)) h0 hl))
  have hmx := hq.mx (Nat.le_refl _) h0
  have hmn := hq.mn (Nat.le_refl _) h0
  have ha1 := hq.a1
  have hab := hq.ab
  have hb1 := hq.b1
  have g0 : ((l.length : Int) == 0) = false := by rw [beq_eq_false_iff_ne]; omega
  unfold sgLo sgHi loL hiL
  have HLX := Lib.hid (fun w' => lev_lit (mxK l l.length) a b w' hmx (by omega) (by omega))
  have HLN := Lib.hid (fun w' => lev_lit (mnK l l.length) a b w' hmn (by omega) (by omega))
  generalize mxK l l.length = mx at *
  generalize mnK l l.length = mn at *
  clear hI hq hmx hmn
  have hG := @cell_g
  have hf0 := lf0
  have hf1 := lf1
  by_cases hle : mx + a ≤ mn + b
  · rw [if_pos hle, if_pos hle, show decide (mx + a ≤ mn + b) = true by simp [hle]]
    have g1 : decide (mn + b < mx + a) = false := by simp; omega
    clear hle
    go_enter Try.func24, Try.ntmps24
    refine Hid.out ?_
    obtain ⟨_, q0, q1⟩ := HT0.out
    refine Lib.hid ?_
    go_wp2_with (go_at_call 49; refine (HA.out _ HB0.out).mono ?_; rintro e w1 ⟨rfl, hb1⟩; have HB1 := Lib.hid (HB0.out.trans (hb1.mono HB0.out.size)); obtain ⟨r9, r0, r1⟩ := HT0.out.kept hb1; clear hb1)
    clear q0 q1
    refine region_below (by kernel_rfl) (by kernel_rfl) ?_
    repeat (first | go_big_quiet_step ((first
      | (go_at_call 55; exact met_at (fun w' hb => HMX.out w' (HB1.out.trans (hb.mono HB1.out.size))))
      | (go_at_call 56; exact met_at (fun w' hb => HMN.out w' (HB1.out.trans (hb.mono HB1.out.size))))
      | (go_at_call_of 54 (Value.int IntKind.i64 mx); exact met HLX.out)
      | (go_at_call_of 54 (Value.int IntKind.i64 mn); exact met HLN.out))))
    refine wpQuiet_nil ?_
    intro wy hby
    have HBY := Lib.hid (HB1.out.trans (hby.mono HB1.out.size))
    clear hby
    go_wp2
    go_ret3
    exact ⟨rfl, HBY.out⟩
  · rw [if_neg hle, if_neg hle, show decide (mx + a ≤ mn + b) = false by simp [hle]]
    have g1 : decide (mn + b < mx + a) = true := by simp; omega
    clear hle
    go_enter Try.func24, Try.ntmps24
    refine Hid.out ?_
    obtain ⟨_, q0, q1⟩ := HT0.out
    refine Lib.hid ?_
    go_wp2_with (go_at_call 49; refine (HA.out _ HB0.out).mono ?_; rintro e w1 ⟨rfl, hb1⟩; have HB1 := Lib.hid (HB0.out.trans (hb1.mono HB0.out.size)); obtain ⟨r9, r0, r1⟩ := HT0.out.kept hb1; clear hb1)
    clear q0 q1
    refine region_below (by kernel_rfl) (by kernel_rfl) ?_
    repeat (first | go_big_quiet_step ((first
      | (go_at_call 55; exact met_at (fun w' hb => HMX.out w' (HB1.out.trans (hb.mono HB1.out.size))))
      | (go_at_call 56; exact met_at (fun w' hb => HMN.out w' (HB1.out.trans (hb.mono HB1.out.size))))
      | (go_at_call_of 54 (Value.int IntKind.i64 mx); exact met HLX.out)
      | (go_at_call_of 54 (Value.int IntKind.i64 mn); exact met HLN.out))))
    refine wpQuiet_nil ?_
    intro wy hby
    have HBY := Lib.hid (HB1.out.trans (hby.mono HB1.out.size))
    clear hby
    go_wp2
    go_ret3
    exact ⟨rfl, HBY.out⟩
set_option maxHeartbeats 4000000 in
theorem ssg_yes (A : Option Addr) (cap : Nat) (l : List Int) (a b : Int) (w : World) (hI : IAt w A l) (hl : l.length ≤ 1048576) (hq : ZAsk l a b) (h0 : 0 < l.length) :
    Calls Try.prog 23 #[.slice A l.length cap, rv a b] w (TwoN w (sgLo l a b) (sgHi l a b) (decide (loL l a ≤ hiL l b))) := by
  have HB0 := Lib.hid (alloc_below w (rb 25 a b))
  have HA := Lib.hid (fun w' (hb : Below w.heap.size w w') => sask_v (askB_iff.2 hq) A cap w' (hI.kept hb (Nat.le_refl _)) hl)
  have HT0 := Lib.hid (BT.new w 25 a b)
  have HIK := Lib.hid (fun w' (hb : Below w.heap.size w w') => hI.kept hb (Nat.le_refl _))
  have HAT := Lib.hid (fun i (hi : i < l.length) => hq.toPl.at_ hi)
  have HLS := Lib.hid (fun k (hk : k < l.length) => loS_succ hq hk)
  have HHS := Lib.hid (fun k (hk : k < l.length) => hiS_succ hq hk)
  have HLI := Lib.hid (fun k (hk : k ≤ l.length) => loS_in hq hk)
  have HHI := Lib.hid (fun k (hk : k ≤ l.length) => hiS_in hq hk)
  have HLE := Lib.hid (loS_end (a := a) h0)
  have HHE := Lib.hid (hiS_end (b := b) h0)
  have ha1 := hq.a1
  have hab := hq.ab
  have hb1 := hq.b1
  have hn12 := hq.n
  have g0 : ((l.length : Int) == 0) = false := by rw [beq_eq_false_iff_ne]; omega
  clear hI hq
  go_enter Try.func23, Try.ntmps23
  refine Hid.out ?_
  obtain ⟨_, q0, q1⟩ := HT0.out
  refine Lib.hid ?_
  go_wp2_with (go_at_call 46; refine (HA.out _ HB0.out).mono ?_; rintro e w1 ⟨rfl, hb1⟩; have HB1 := Lib.hid (HB0.out.trans (hb1.mono HB0.out.size)); have HT1 := Lib.hid (HT0.out.kept hb1); clear hb1)
  clear q0 q1 g0
  go_loopw [7, 8, 9] (fun lo hi i wr => ∃ k : Nat, k ≤ l.length ∧ i = .int .i64 (k : Int) ∧ lo = .int .i64 (loS l a k) ∧ hi = .int .i64 (hiS l b k) ∧ Hid (Below w1.heap.size w1 wr)) (fun _ _ i _ => l.length - (intOf i).toNat)
  case atStart => exact ⟨0, Nat.zero_le _, rfl, rfl, rfl, Lib.hid (Below.refl _ _)⟩
  case round =>
    obtain ⟨k, hk, rfl, rfl, rfl, hB⟩ := hrel
    by_cases hlt : k < l.length
    · obtain ⟨bb, off, hA, hbl, p0⟩ := (HIK.out _ (HB1.out.trans (hB.out.mono HB1.out.size))).at_ hlt
      subst hA
      obtain ⟨q9, q0, q1⟩ := HT1.out.kept hB.out
      obtain ⟨x0, x1⟩ := HAT.out k hlt
      obtain ⟨y0, y1⟩ := HLI.out k hk
      obtain ⟨z0, z1⟩ := HHI.out k hk
      have hk0 : (0 : Int) ≤ (k : Int) := by omega
      have hkn : (k : Int) < (l.length : Int) := by omega
      have HS1 := Lib.hid (HLS.out k hlt)
      have HS2 := Lib.hid (HHS.out k hlt)
      generalize l.getD k 0 = y at *
      generalize loS l a k = lo at *
      generalize hiS l b k = hi at *
      have e1 : IntKind.i64.wrap (y + a) = y + a := IntWalk.i64_in _ (by omega)
      have e2 : IntKind.i64.wrap (y + b) = y + b := IntWalk.i64_in _ (by omega)
      have HC1 := Lib.hid (fun w' => same_below (smost_any lo (y + a) w'))
      have HC2 := Lib.hid (fun w' => same_below (sleast_any hi (y + b) w'))
      have hG := @cell_g
      go_wp2
      refine region_below (by kernel_rfl) (by kernel_rfl) ?_
      repeat (first | go_big_quiet_step ((go_at_call 52; exact met HC1.out)))
      refine wpQuiet_nil ?_
      intro wy hby
      have p0' := (hby.cell (p := ⟨bb, off + k, none⟩) hbl).trans p0
      have q0' := (hby.cell (p := ⟨w.heap.size, 0, none⟩) q9).trans q0
      have q1' := (hby.cell (p := ⟨w.heap.size, 1, none⟩) q9).trans q1
      have hbl' := Nat.lt_of_lt_of_le hbl hby.size
      have q9' := Nat.lt_of_lt_of_le q9 hby.size
      have HBY := Lib.hid (hB.out.trans (hby.mono hB.out.size))
      clear hby p0 q0 q1 q9 hbl hB
      go_wp2
      refine region_below (by kernel_rfl) (by kernel_rfl) ?_
      repeat (first | go_big_quiet_step ((go_at_call 53; exact met HC2.out)))
      refine wpQuiet_nil ?_
      intro wz hbz
      have HBZ := Lib.hid (HBY.out.trans (hbz.mono HBY.out.size))
      clear hbz HBY p0' q0' q1' q9' hbl' hG e1 e2
      go_wp2
      go_roundw
      case rel => exact ⟨k + 1, by omega, by go_num, by rw [HS1.out], by rw [HS2.out], HBZ⟩
      case measure => simp [intOf]; omega
    · have e : k = l.length := by omega
      subst e
      have HBF := Lib.hid (HB1.out.trans (hB.out.mono HB1.out.size))
      rw [HLE.out, HHE.out]
      have HD : Hid (sgLo l a b = (if loL l a ≤ hiL l b then loL l a else 0) ∧ sgHi l a b = (if loL l a ≤ hiL l b then hiL l b else 0)) := Lib.hid ⟨rfl, rfl⟩
      generalize sgLo l a b = rl at *
      generalize sgHi l a b = rh at *
      generalize loL l a = lo at *
      generalize hiL l b = hi at *
      clear HLE HHE HLS HHS HLI HHI
      by_cases hle : lo ≤ hi
      · obtain ⟨e1, e2⟩ := HD.out
        rw [if_pos hle] at e1 e2
        subst e1 e2
        go_wp2
        go_ret3
        exact ⟨by rw [show decide (rl ≤ rh) = true by simp [hle]]; rfl, HBF.out⟩
      · obtain ⟨e1, e2⟩ := HD.out
        rw [if_neg hle] at e1 e2
        subst e1 e2
        go_wp2
        go_ret3
        exact ⟨by rw [show decide (lo ≤ hi) = false by simp [hle]]; rfl, HBF.out⟩
end Go.Proofs.Ytjfpimldiokpbaa.S12
