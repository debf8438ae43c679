/- Losses of the program and of the model: contracts. Conditions: each theorem's own premises. -/
import Derived.Test.YtgjogjmfpbinfaaLosP
import Derived.Test.YtgjogjmfpbinfaaAmB
import Derived.Deep.DeepCutAuto
namespace Go.Proofs.Ytgjogjmfpbinfaa.S2
open Go.RowKit P2

theorem w64 (x : Int) (h : -9000000000000000000 ≤ x ∧ x ≤ 9000000000000000000) : IntKind.i64.wrap x = x := IntWalk.i64_in _ (by omega)
set_option maxHeartbeats 1000000 in
theorem loss_any {n : Int} {p : Pp} (hp : PpOk n p) {f : Int} (h0 : -8000 ≤ f) (h1 : f ≤ 8000) (w : World) :
    Calls Try.prog 137 #[pv p, .int .i64 f] w fun e w' => e = .returned (.int .i64 (lossI p f)) ∧ Below w.heap.size w w' := by
  obtain ⟨⟨a1, a2⟩, a3, a4⟩ := loss_in hp h0 h1
  have HL := Lib.hid (show lossI p f = p.sz * f * max f (-f) from rfl)
  rw [HL.out] at a3 a4
  have wP : IntKind.i64.wrap (p.sz * f) = p.sz * f := w64 _ (by omega)
  have wQ : IntKind.i64.wrap (p.sz * f * max f (-f)) = p.sz * f * max f (-f) := w64 _ (by omega)
  clear hp
  go_enter Try.func137, Try.ntmps137
  go_wp2
  go_ret
  exact ⟨by rw [HL.out]; rfl, (Below.refl _ _).alloc (Nat.le_refl _) _⟩
theorem smost_any (x y : Int) (w : World) : Calls Try.prog 175 #[.int .i64 x, .int .i64 y] w fun e w' => e = .returned (.int .i64 (max x y)) ∧ w' = w := by
  by_cases hgt : y < x
  · have e : max x y = x := by omega
    rw [e]
    clear e
    go_enter Try.func175, Try.ntmps175
    go_wp2
    go_ret
    exact ⟨rfl, rfl⟩
  · have e : max x y = y := by omega
    rw [e]
    clear e
    go_enter Try.func175, Try.ntmps175
    go_wp2
    go_ret
    exact ⟨rfl, rfl⟩
theorem sabs_any (x : Int) (w : World) (h0 : -1000000000000 ≤ x) (h1 : x ≤ 1000000000000) : Calls Try.prog 181 #[.int .i64 x] w fun e w' => e = .returned (.int .i64 (absI x)) ∧ w' = w := by
  have HM := Lib.hid (fun w => smost_any x (-x) w)
  have HA := Lib.hid (show absI x = max x (-x) from rfl)
  rw [HA.out]
  generalize max x (-x) = a at *
  go_enter Try.func181, Try.ntmps181
  go_wp2_with (go_at_call 175; refine (HM.out _).mono ?_; rintro e w' ⟨rfl, hw⟩; replace hw := hw.symm; subst hw)
  go_ret
  exact ⟨rfl, rfl⟩
set_option maxHeartbeats 1000000 in
theorem sloss_any {n : Int} {p : Pp} (hp : PpOk n p) {f : Int} (h0 : -8000 ≤ f) (h1 : f ≤ 8000) (w : World) :
    Calls Try.prog 135 #[pv p, .int .i64 f] w fun e w' => e = .returned (.int .i64 (lossI p f)) ∧ Below w.heap.size w w' := by
  obtain ⟨⟨a1, a2⟩, a3, a4⟩ := loss_in hp h0 h1
  have HL := Lib.hid (show lossI p f = p.sz * f * absI f from rfl)
  rw [HL.out] at a3 a4
  have wP : IntKind.i64.wrap (p.sz * f) = p.sz * f := w64 _ (by omega)
  have wQ : IntKind.i64.wrap (p.sz * f * absI f) = p.sz * f * absI f := w64 _ (by omega)
  have HC := Lib.hid (fun w' => sabs_any f w' (by omega) (by omega))
  clear hp
  generalize absI f = g at *
  go_enter Try.func135, Try.ntmps135
  go_wp2
  go_quiet ((go_at_call 181; exact Calls.quiet_of_same (HC.out _)))
  go_wp2
  go_ret
  exact ⟨by rw [HL.out]; rfl, below_drewN ((Below.refl _ _).alloc (Nat.le_refl _) _) _⟩

/-! ### LossOf -/
set_option maxHeartbeats 1000000 in
theorem los_bad (n : Int) (A : Option Addr) (cap : Nat) (ps : List Pp) (AD : Option Addr) (dc : Nat) (fl : List Int) (x : Int) (w : World) (h : PAt w A ps) (hm : ps.length ≤ maxLen) (hd : IAt w AD fl) (hdl : fl.length ≤ 1048576) (hv : floB n ps fl = false) :
    Calls Try.prog 62 #[nv n A ps.length cap, .slice AD fl.length dc, .int .i64 x] w fun e w' => e = .returned (.tuple #[.int .i64 0, .bool false]) ∧ Below w.heap.size w w' := by
  have H := Lib.hid (fun w' (hb : Below w.heap.size w w') => flo_v hv A cap AD dc w' (h.kept hb (Nat.le_refl _)) hm (hd.kept hb (Nat.le_refl _)) hdl)
  clear h hd hv
  go_enter Try.func62, Try.ntmps62
  go_wp2_with (go_at_call 124; refine (H.out _ ((Below.refl _ _).alloc (Nat.le_refl _) _)).mono ?_; rintro e w1 ⟨rfl, hb1⟩)
  go_ret2
  exact ⟨rfl, below_alloc_call hb1⟩
set_option maxHeartbeats 1000000 in
theorem los_none (N : Nat) (A : Option Addr) (cap : Nat) (ps : List Pp) (AD : Option Addr) (dc : Nat) (fl : List Int) (x : Int) (w : World) (h : PAt w A ps) (hm : ps.length ≤ maxLen) (hd : IAt w AD fl) (hdl : fl.length ≤ 1048576) (hv : floB N ps fl = true) (hf : FindIs ps x (-1)) :
    Calls Try.prog 62 #[nv N A ps.length cap, .slice AD fl.length dc, .int .i64 x] w fun e w' => e = .returned (.tuple #[.int .i64 0, .bool false]) ∧ Below w.heap.size w w' := by
  have hg := (floB_of hv).1
  have H := Lib.hid (fun w' (hb : Below w.heap.size w w') => flo_v hv A cap AD dc w' (h.kept hb (Nat.le_refl _)) hm (hd.kept hb (Nat.le_refl _)) hdl)
  have H2 := Lib.hid (fun w' (hb : Below w.heap.size w w') => place_any N A cap ps x w' (h.kept hb (Nat.le_refl _)) hg)
  have HP := Lib.hid (fun (i : Nat) (f : Bool) (hp : Place ps x i f) => (show f = false from by
    cases f with
    | false => rfl
    | true => have := ((place_find (good_ids hg) hp hf).1 rfl).1; omega))
  clear h hd hv hf hg
  go_enter Try.func62, Try.ntmps62
  go_wp2_with (first
    | (go_at_call 124; refine (H.out _ ((Below.refl _ _).alloc (Nat.le_refl _) _)).mono ?_; rintro e w1 ⟨rfl, hb1⟩; obtain ⟨hc1, hf1⟩ := bcell hb1; have hz1 := hb1.size; simp at hz1; have hB1 := Lib.hid (below_alloc_call hb1))
    | (go_at_call 169; refine (H2.out _ hB1.out).mono ?_; rintro e w2 ⟨⟨i, f, rfl, hp⟩, hb2⟩; obtain rfl := HP.out i f hp))
  go_ret2
  exact ⟨rfl, hB1.out.trans (hb2.mono hB1.out.size)⟩
set_option maxHeartbeats 2000000 in
set_option maxRecDepth 100000 in
theorem los_yes (N i : Nat) (A : Option Addr) (cap : Nat) (ps : List Pp) (AD : Option Addr) (dc : Nat) (fl : List Int) (x : Int) (w : World) (h : PAt w A ps) (hm : ps.length ≤ maxLen) (hd : IAt w AD fl) (hdl : fl.length ≤ 1048576) (hv : floB N ps fl = true) (hi : i < ps.length) (hf : FindIs ps x i) :
    Calls Try.prog 62 #[nv N A ps.length cap, .slice AD fl.length dc, .int .i64 x] w fun e w' => e = .returned (.tuple #[.int .i64 (lossI (pAt ps i) (lA fl i)), .bool true]) ∧ Below w.heap.size w w' := by
  obtain ⟨hg, hfn, hfr⟩ := floB_of hv
  have H := Lib.hid (fun w' (hb : Below w.heap.size w w') => flo_v hv A cap AD dc w' (h.kept hb (Nat.le_refl _)) hm (hd.kept hb (Nat.le_refl _)) hdl)
  have H2 := Lib.hid (fun w' (hb : Below w.heap.size w w') => place_any N A cap ps x w' (h.kept hb (Nat.le_refl _)) hg)
  have HP := Lib.hid (fun (j : Nat) (f : Bool) (hp : Place ps x j f) => (show f = true ∧ j = i from by
    cases f with
    | false => have := (place_find (good_ids hg) hp hf).2 rfl; omega
    | true => have := ((place_find (good_ids hg) hp hf).1 rfl).1; exact ⟨rfl, by omega⟩))
  have hif : i < fl.length := by omega
  have hfi := allR_at hfr hif
  have HLO := Lib.hid (fun w' => loss_any (good_pp hg (pAt_mem hi)) hfi.1 hfi.2 w')
  obtain ⟨b, off, hA, hbl, p0, p1, p2, p3⟩ := h.at_ hi
  subst hA
  obtain ⟨bb, of2, hA2, hbl2, q0⟩ := hd.at_ hif
  subst hA2
  have hi0 : (0 : Int) ≤ (i : Int) := by omega
  have hin : (i : Int) < (ps.length : Int) := by omega
  have hinf : (i : Int) < (fl.length : Int) := by omega
  have hlA : lA fl i = fl.getD i 0 := rfl
  rw [hlA]
  clear h hd hv hf hg hfr hfn hfi hlA
  generalize lossI (pAt ps i) (fl.getD i 0) = L at *
  generalize pAt ps i = p at *
  generalize fl.getD i 0 = f at *
  go_enter Try.func62, Try.ntmps62
  go_wp2_with (first
    | (go_at_call 124; refine (H.out _ ((Below.refl _ _).alloc (Nat.le_refl _) _)).mono ?_; rintro e w1 ⟨rfl, hb1⟩; obtain ⟨hc1, hf1⟩ := bcell hb1; have hz1 := hb1.size; simp at hz1; have hB1 := Lib.hid (below_alloc_call hb1))
    | (go_at_call 169; refine (H2.out _ hB1.out).mono ?_; rintro e w2 ⟨⟨j, fb, rfl, hp⟩, hb2⟩; obtain ⟨rfl, rfl⟩ := HP.out j fb hp))
  have hBX : Below (w.heap.size + 1) (w.alloc (.cells #[.int .i64 (N : Int), .slice (some ⟨b, off, none⟩) ps.length cap] 30)) w2 := by
    have hx : Below (w.heap.size + 1) (w.alloc (.cells #[.int .i64 (N : Int), .slice (some ⟨b, off, none⟩) ps.length cap] 30)) w1 := by simpa using hb1
    exact on_call hx hb2
  have HB2 := Lib.hid (below_box hBX)
  obtain ⟨z0, z1⟩ := box2 hBX
  have hzz := box_lt hBX
  have hbl' : b < w2.heap.size := by omega
  have hbl2' : bb < w2.heap.size := by omega
  have r0 := (HB2.out.cell (p := ⟨b, off + j * 4, none⟩) hbl).trans p0
  have r1 := (HB2.out.cell (p := ⟨b, off + j * 4 + 1, none⟩) hbl).trans p1
  have r2 := (HB2.out.cell (p := ⟨b, off + j * 4 + 2, none⟩) hbl).trans p2
  have r3 := (HB2.out.cell (p := ⟨b, off + j * 4 + 3, none⟩) hbl).trans p3
  have r4 := (HB2.out.cell (p := ⟨bb, of2 + j, none⟩) hbl2).trans q0
  clear hb1 hc1 hf1 hz1 hB1 H H2 HP hBX hp hb2 p0 p1 p2 p3 q0
  have hG := @cell_g
  refine region_below (by kernel_rfl) (by kernel_rfl) ?_
  repeat (first | go_big_quiet_step ((go_at_call 137; exact met HLO.out)))
  refine wpQuiet_nil ?_
  intro w3 hb3
  go_wp2
  go_ret2
  exact ⟨rfl, HB2.out.trans (hb3.mono HB2.out.size)⟩

/-! ### LossOf of the model -/
end Go.Proofs.Ytgjogjmfpbinfaa.S2
