/- EnergyOf of the program and of the model: contracts. Conditions: each theorem's own premises. -/
import Derived.Test.YtgjogjmfpbinfaaLosI
namespace Go.Proofs.Ytgjogjmfpbinfaa.S2
open Go.RowKit P2

theorem cells4 (w : World) (a b c d : Value) (t : TypeId) (k : Nat) (u : Value) (h : [a, b, c, d][k]? = some u) : (w.alloc (.cells #[a, b, c, d] t)).cell? ⟨w.heap.size, k, none⟩ = some u := by
  rw [World.cell?_alloc_at _ _ _ _ rfl]
  simpa using h
theorem alloc_belowE (w : World) (o : Obj) : Below w.heap.size w (w.alloc o) := (Below.refl _ _).alloc (Nat.le_refl _) o
def enT (ps : List Pp) (fl : List Int) (k : Nat) : Int := lossI (pAt ps k) (lA fl k) * lA fl k
def enA (ps : List Pp) (fl : List Int) : Int := sumK (enT ps fl) fl.length
theorem enT_in {n : Int} {ps : List Pp} (hg : P2.Good n ps) {fl : List Int} (hr : allR (-8000) 8000 fl = true) (hl : fl.length = ps.length) {k : Nat} (hk : k < fl.length) : -4608000000000 ≤ enT ps fl k ∧ enT ps fl k ≤ 4608000000000 := by
  have h2 := allR_at hr hk
  have h3 := (loss_in (good_pp hg (pAt_mem (show k < ps.length by omega))) h2.1 h2.2).2
  have h4 := mul_bd (x := lossI (pAt ps k) (lA fl k)) (y := lA fl k) (a := 576000000) (b := 8000) (by unfold lA; omega) (by unfold lA; omega) (by unfold lA; omega) (by unfold lA; omega)
  unfold enT
  omega
theorem enS_in {n : Int} {ps : List Pp} (hg : P2.Good n ps) {fl : List Int} (hr : allR (-8000) 8000 fl = true) (hl : fl.length = ps.length) {k : Nat} (hk : k ≤ fl.length) : -46080000000000 ≤ sumK (enT ps fl) k ∧ sumK (enT ps fl) k ≤ 46080000000000 := by
  have h1 := sumK_le (f := enT ps fl) (B := 4608000000000) (by omega) (k := k) (fun i hi => enT_in hg hr hl (by omega))
  have h2 : (k : Int) ≤ 10 := by have := hg.2.2.1; omega
  have h3 : (4608000000000 : Int) * k ≤ 4608000000000 * 10 := Int.mul_le_mul_of_nonneg_left h2 (by omega)
  omega
theorem amt_self {l : List Int} {a b : Int} : amtB l l.length a b = allR a b l := by simp [amtB]

set_option maxHeartbeats 1000000 in
theorem en_no (n : Int) (A : Option Addr) (cap : Nat) (ps : List Pp) (AD : Option Addr) (dc : Nat) (fl : List Int) (w : World) (h : PAt w A ps) (hm : ps.length ≤ maxLen) (hd : IAt w AD fl) (hdl : fl.length ≤ 1048576) (hv : floB n ps fl = false ∨ allR (-2000) 2000 fl = false) :
    Calls Try.prog 53 #[nv n A ps.length cap, .slice AD fl.length dc] w fun e w' => e = .returned (.tuple #[.int .i64 0, .bool false]) ∧ Below w.heap.size w w' := by
  obtain ⟨v1, hv1⟩ : ∃ v, floB n ps fl = v := ⟨_, rfl⟩
  have H := Lib.hid (fun w' (hb : Below w.heap.size w w') => flo_v hv1 A cap AD dc w' (h.kept hb (Nat.le_refl _)) hm (hd.kept hb (Nat.le_refl _)) hdl)
  cases v1 with
  | false =>
    clear h hd hv hv1
    go_enter Try.func53, Try.ntmps53
    go_wp2_with (go_at_call 124; refine (H.out _ ((Below.refl _ _).alloc (Nat.le_refl _) _)).mono ?_; rintro e w1 ⟨rfl, hb1⟩; have hB1 := Lib.hid (below_alloc_call hb1))
    go_ret2
    exact ⟨rfl, hB1.out⟩
  | true =>
    have hv2 : amtB fl fl.length (-2000) 2000 = false := by
      rw [amt_self]
      rcases hv with h | h
      · exact absurd (h.symm.trans hv1) (by simp)
      · exact h
    have H2 := Lib.hid (fun w' (hb : Below w.heap.size w w') => am_v hv2 AD dc w' (hd.kept hb (Nat.le_refl _)) hdl)
    clear h hd hv hv1 hv2
    go_enter Try.func53, Try.ntmps53
    go_wp2_with (first
      | (go_at_call 124; refine (H.out _ ((Below.refl _ _).alloc (Nat.le_refl _) _)).mono ?_; rintro e w1 ⟨rfl, hb1⟩; obtain ⟨hc1, hf1⟩ := bcell hb1; have hz1 := hb1.size; simp at hz1; have hB1 := Lib.hid (below_alloc_call hb1))
      | (go_at_call 145; refine (H2.out _ hB1.out).mono ?_; rintro e w2 ⟨rfl, hb2⟩; have hB2 := Lib.hid (hB1.out.trans (hb2.mono hB1.out.size))))
    go_ret2
    exact ⟨rfl, hB2.out⟩

set_option maxHeartbeats 2000000 in
set_option maxRecDepth 100000 in
theorem en_yes (n : Int) (A : Option Addr) (cap : Nat) (ps : List Pp) (AD : Option Addr) (dc : Nat) (fl : List Int) (w : World) (h : PAt w A ps) (hm : ps.length ≤ maxLen) (hd : IAt w AD fl) (hdl : fl.length ≤ 1048576) (hv : floB n ps fl = true) (hv2 : allR (-2000) 2000 fl = true) :
    Calls Try.prog 53 #[nv n A ps.length cap, .slice AD fl.length dc] w fun e w' => e = .returned (.tuple #[.int .i64 (enA ps fl), .bool true]) ∧ Below w.heap.size w w' := by
  obtain ⟨hg, hfl, hr⟩ := floB_of hv
  have hl10 := hg.2.2.1
  have H := Lib.hid (fun w' (hb : Below w.heap.size w w') => flo_v hv A cap AD dc w' (h.kept hb (Nat.le_refl _)) hm (hd.kept hb (Nat.le_refl _)) hdl)
  have hv3 : amtB fl fl.length (-2000) 2000 = true := by rw [amt_self]; exact hv2
  have H2 := Lib.hid (fun w' (hb : Below w.heap.size w w') => am_v hv3 AD dc w' (hd.kept hb (Nat.le_refl _)) hdl)
  have HA := Lib.hid (fun w' (hb : Below w.heap.size w w') => h.kept hb (Nat.le_refl _))
  have HI := Lib.hid (fun w' (hb : Below w.heap.size w w') => hd.kept hb (Nat.le_refl _))
  have HE := Lib.hid (fun k (hk : k < fl.length) => allR_at hr hk)
  have HT := Lib.hid (fun k (hk : k < fl.length) => enT_in hg hr hfl hk)
  have HS := Lib.hid (fun k (hk : k ≤ fl.length) => enS_in hg hr hfl hk)
  have HG := Lib.hid (fun k (hk : k < ps.length) => good_pp hg (pAt_mem hk))
  have HL := Lib.hid hfl
  clear h hd hv hr hg hfl hm hdl hv2 hv3
  go_enter Try.func53, Try.ntmps53
  go_wp2_with (first
    | (go_at_call 124; refine (H.out _ ((Below.refl _ _).alloc (Nat.le_refl _) _)).mono ?_; rintro e w1 ⟨rfl, hb1⟩; have HX1 := Lib.hid (show Below (w.heap.size + 1) (w.alloc (nb n A ps.length cap)) w1 by simpa using hb1); obtain ⟨b0, b1⟩ := box2 HX1.out; have hy1 := box_lt HX1.out; clear hb1)
    | (go_at_call 145; refine (H2.out _ (below_box HX1.out)).mono ?_; rintro e w2 ⟨rfl, hb2⟩; have HX2 := Lib.hid (on_call HX1.out hb2); clear b0 b1; obtain ⟨b0, b1⟩ := box2 HX2.out; have hy2 := box_lt HX2.out; clear hb2))
  have hB := Lib.hid (below_box HX2.out)
  clear H H2 HX1 HX2 b0 b1
  go_loopw [6, 23] (fun a i wr => ∃ (k : Nat), k ≤ ps.length ∧ i = .int .i64 (k : Int) ∧ a = .int .i64 (sumK (enT ps fl) k) ∧ Hid (Below w.heap.size w wr)) (fun _ i _ => ps.length - (intOf i).toNat)
  case atStart => exact ⟨0, Nat.zero_le _, rfl, rfl, hB⟩
  case round =>
    clear hB hy1 hy2
    obtain ⟨k, hk, rfl, rfl, hB⟩ := hrel
    have hs := HS.out k (by rw [HL.out]; exact hk)
    by_cases hlt : k < ps.length
    · obtain ⟨b, off, hA, hbl, p0, p1, p2, p3⟩ := (HA.out _ hB.out).at_ hlt
      subst hA
      have hkf : k < fl.length := by rw [HL.out]; exact hlt
      obtain ⟨bb, of2, hA2, hbl2, q0⟩ := (HI.out _ hB.out).at_ hkf
      subst hA2
      have hk0 : (0 : Int) ≤ (k : Int) := by omega
      have hkn : (k : Int) < (ps.length : Int) := by omega
      have hknf : (k : Int) < (fl.length : Int) := by omega
      have hy := HE.out k hkf
      have ht := HT.out k hkf
      have HLO := Lib.hid (fun w' => loss_any (HG.out k hlt) hy.1 hy.2 w')
      have hsn : sumK (enT ps fl) (k + 1) = sumK (enT ps fl) k + lossI (pAt ps k) (fl.getD k 0) * fl.getD k 0 := rfl
      have ht2 : -4608000000000 ≤ lossI (pAt ps k) (fl.getD k 0) * fl.getD k 0 ∧ lossI (pAt ps k) (fl.getD k 0) * fl.getD k 0 ≤ 4608000000000 := ht
      have HSN := Lib.hid hsn
      clear ht hsn hy
      generalize lossI (pAt ps k) (fl.getD k 0) = L at *
      generalize fl.getD k 0 = f at *
      generalize pAt ps k = p at *
      generalize sumK (enT ps fl) k = s at *
      have wP : IntKind.i64.wrap (L * f) = L * f := w64 _ (by omega)
      have wS : IntKind.i64.wrap (s + L * f) = s + L * f := w64 _ (by omega)
      have hBn := Lib.hid (hB.out.alloc hB.out.size (.cells #[.int .i64 p.id, .int .i64 p.fr, .int .i64 p.to, .int .i64 p.sz] 75))
      have q1 := ((alloc_belowE wr (.cells #[.int .i64 p.id, .int .i64 p.fr, .int .i64 p.to, .int .i64 p.sz] 75)).cell (p := ⟨bb, of2 + k, none⟩) hbl2).trans q0
      have d0 := cells4 wr (.int .i64 p.id) (.int .i64 p.fr) (.int .i64 p.to) (.int .i64 p.sz) 75 0 _ rfl
      have d1 := cells4 wr (.int .i64 p.id) (.int .i64 p.fr) (.int .i64 p.to) (.int .i64 p.sz) 75 1 _ rfl
      have d2 := cells4 wr (.int .i64 p.id) (.int .i64 p.fr) (.int .i64 p.to) (.int .i64 p.sz) 75 2 _ rfl
      have d3 := cells4 wr (.int .i64 p.id) (.int .i64 p.fr) (.int .i64 p.to) (.int .i64 p.sz) 75 3 _ rfl
      have hzz : wr.heap.size < (wr.alloc (.cells #[.int .i64 p.id, .int .i64 p.fr, .int .i64 p.to, .int .i64 p.sz] 75)).heap.size := by simp
      have hbl2' : bb < (wr.alloc (.cells #[.int .i64 p.id, .int .i64 p.fr, .int .i64 p.to, .int .i64 p.sz] 75)).heap.size := by omega
      go_wp2
      generalize wr.alloc (.cells #[.int .i64 p.id, .int .i64 p.fr, .int .i64 p.to, .int .i64 p.sz] 75) = wa at *
      clear p0 p1 p2 p3 q0
      have hG := @cell_g
      refine region_below (by kernel_rfl) (by kernel_rfl) ?_
      repeat (first | go_big_quiet_step ((go_at_call 137; exact met HLO.out)))
      refine wpQuiet_nil ?_
      intro w3 hb3
      go_wp2
      go_roundw
      case rel => exact ⟨k + 1, by omega, by go_num, by rw [HSN.out], Lib.hid (hBn.out.trans (hb3.mono hBn.out.size))⟩
      case measure => simp [intOf]; omega
    · have hkk : k = fl.length := by rw [HL.out]; omega
      have HF := Lib.hid (show sumK (enT ps fl) k = enA ps fl by rw [hkk]; rfl)
      clear hkk
      go_wp2
      go_ret2
      exact ⟨by rw [← HF.out]; rfl, hB.out⟩

/-! ### The model -/
set_option maxHeartbeats 2000000 in
set_option maxRecDepth 100000 in
theorem sen_sum (n : Int) (A : Option Addr) (cap : Nat) (ps : List Pp) (AD : Option Addr) (dc : Nat) (fl : List Int) (w : World) (h : PAt w A ps) (hd : IAt w AD fl) (hv : floB n ps fl = true) :
    Calls Try.prog 131 #[nv n A ps.length cap, .slice AD fl.length dc] w fun e w' => e = .returned (.int .i64 (enA ps fl)) ∧ Below w.heap.size w w' := by
  obtain ⟨hg, hfl, hr⟩ := floB_of hv
  have hl10 := hg.2.2.1
  have HA := Lib.hid (fun w' (hb : Below w.heap.size w w') => h.kept hb (Nat.le_refl _))
  have HI := Lib.hid (fun w' (hb : Below w.heap.size w w') => hd.kept hb (Nat.le_refl _))
  have HE := Lib.hid (fun k (hk : k < fl.length) => allR_at hr hk)
  have HT := Lib.hid (fun k (hk : k < fl.length) => enT_in hg hr hfl hk)
  have HS := Lib.hid (fun k (hk : k ≤ fl.length) => enS_in hg hr hfl hk)
  have HG := Lib.hid (fun k (hk : k < ps.length) => good_pp hg (pAt_mem hk))
  have HL := Lib.hid hfl
  have hps0 : fl.length ≤ 10 := by omega
  have hBX := (Below.refl (w.heap.size + 1) (w.alloc (nb n A ps.length cap)))
  clear h hd hv hr hg hfl
  go_enter Try.func131, Try.ntmps131
  go_wp2
  go_loopw [5, 6] (fun a i wr => ∃ (k : Nat), k ≤ fl.length ∧ i = .int .i64 (k : Int) ∧ a = .int .i64 (sumK (enT ps fl) k) ∧ Below (w.heap.size + 1) (w.alloc (nb n A ps.length cap)) wr) (fun _ i _ => fl.length - (intOf i).toNat)
  case atStart => exact ⟨0, Nat.zero_le _, rfl, rfl, hBX⟩
  case round =>
    clear hBX
    obtain ⟨k, hk, rfl, rfl, hb⟩ := hrel
    obtain ⟨c0, c1⟩ := box2 hb
    have hz2 := box_lt hb
    have hB := Lib.hid (below_box hb)
    have hs := HS.out k hk
    by_cases hlt : k < fl.length
    · have hkp : k < ps.length := by rw [← HL.out]; exact hlt
      obtain ⟨b, off, hA, hbl, p0, p1, p2, p3⟩ := (HA.out _ hB.out).at_ hkp
      subst hA
      obtain ⟨bb, of2, hA2, hbl2, q0⟩ := (HI.out _ hB.out).at_ hlt
      subst hA2
      have hk0 : (0 : Int) ≤ (k : Int) := by omega
      have hkn : (k : Int) < (fl.length : Int) := by omega
      have hknp : (k : Int) < (ps.length : Int) := by omega
      have hy := HE.out k hlt
      have hp := HG.out k hkp
      have hli := loss_in hp hy.1 hy.2
      have ht := HT.out k hlt
      have HC := Lib.hid (fun w' => sabs_any (fl.getD k 0) w' (by omega) (by omega))
      have ha0 := absI_nn (fl.getD k 0)
      have ha1 := absI_le hy.1 hy.2
      have e1 : (pAt ps k).sz * absI (fl.getD k 0) * fl.getD k 0 = lossI (pAt ps k) (fl.getD k 0) := by unfold lossI; rw [Int.mul_right_comm]
      have hm1 := mul_bd (x := (pAt ps k).sz) (y := absI (fl.getD k 0)) (a := 9) (b := 8000) (by have := hp.2.2.2.2.2.2.2; omega) (by have := hp.2.2.2.2.2.2.2; omega) (by omega) (by omega)
      have hsn : sumK (enT ps fl) (k + 1) = sumK (enT ps fl) k + lossI (pAt ps k) (fl.getD k 0) * fl.getD k 0 := rfl
      have ht2 : -4608000000000 ≤ lossI (pAt ps k) (fl.getD k 0) * fl.getD k 0 ∧ lossI (pAt ps k) (fl.getD k 0) * fl.getD k 0 ≤ 4608000000000 := ht
      have hli2 := hli.2
      rw [← e1] at hsn ht2 hli2
      have HSN := Lib.hid hsn
      clear ht hsn hli hp e1
      generalize absI (fl.getD k 0) = g at *
      generalize fl.getD k 0 = f at *
      generalize pAt ps k = p at *
      generalize sumK (enT ps fl) k = s at *
      have wP : IntKind.i64.wrap (p.sz * g) = p.sz * g := w64 _ (by omega)
      have wQ : IntKind.i64.wrap (p.sz * g * f) = p.sz * g * f := w64 _ (by omega)
      have wR : IntKind.i64.wrap (p.sz * g * f * f) = p.sz * g * f * f := w64 _ (by omega)
      have wS : IntKind.i64.wrap (s + p.sz * g * f * f) = s + p.sz * g * f * f := w64 _ (by omega)
      clear hm1 ht2 hli2 hy hs
      go_wp2
      go_quiet ((go_at_call 181; exact Calls.quiet_of_same (HC.out _)))
      go_wp2
      go_roundw
      case rel => exact ⟨k + 1, by omega, by go_num, by rw [HSN.out], below_drewN hb _⟩
      case measure => simp [intOf]; omega
    · have hkk : k = fl.length := by omega
      have HF := Lib.hid (show sumK (enT ps fl) k = enA ps fl by rw [hkk]; rfl)
      clear hkk
      go_wp2
      go_ret
      exact ⟨by rw [← HF.out]; rfl, hB.out⟩

set_option maxHeartbeats 2000000 in
theorem sen_bad (n : Int) (A : Option Addr) (cap : Nat) (ps : List Pp) (AD : Option Addr) (dc : Nat) (fl : List Int) (w : World) (h : PAt w A ps) (hm : ps.length ≤ maxLen) (hd : IAt w AD fl) (hdl : fl.length ≤ 1048576) (hv : floB n ps fl = false) :
    Calls Try.prog 73 #[nv n A ps.length cap, .slice AD fl.length dc] w fun e w' => e = .returned (.tuple #[.int .i64 0, .bool false]) ∧ Below w.heap.size w w' := by
  obtain ⟨v1, hv1⟩ : ∃ v, goodB n ps = v := ⟨_, rfl⟩
  have H1 := Lib.hid (fun w' (hb : Below w.heap.size w w') => sgood_v hv1 A cap w' (h.kept hb (Nat.le_refl _)) hm)
  cases v1 with
  | false =>
    clear h hd hv hv1
    go_enter Try.func73, Try.ntmps73
    go_wp2_with (go_at_call 112; refine (H1.out _ ((Below.refl _ _).alloc (Nat.le_refl _) _)).mono ?_; rintro e w1 ⟨rfl, hb1⟩; have hB1 := Lib.hid (below_alloc_call hb1))
    go_ret2
    exact ⟨rfl, hB1.out⟩
  | true =>
    have hv2 : amtB fl ps.length (-8000) 8000 = false := by unfold floB at hv; rw [hv1] at hv; simpa using hv
    have H2 := Lib.hid (fun w' (hb : Below w.heap.size w w') => sflo_v hv2 (n := n) A cap AD dc w' (hd.kept hb (Nat.le_refl _)) hdl)
    clear h hd hv hv1 hv2
    go_enter Try.func73, Try.ntmps73
    go_wp2_with (first
      | (go_at_call 112; refine (H1.out _ ((Below.refl _ _).alloc (Nat.le_refl _) _)).mono ?_; rintro e w1 ⟨rfl, hb1⟩; obtain ⟨hc1, hf1⟩ := bcell hb1; have hz1 := hb1.size; simp at hz1; have hB1 := Lib.hid (below_alloc_call hb1))
      | (go_at_call 121; refine (H2.out _ hB1.out).mono ?_; rintro e w2 ⟨rfl, hb2⟩; have hB2 := Lib.hid (hB1.out.trans (hb2.mono hB1.out.size))))
    go_ret2
    exact ⟨rfl, hB2.out⟩

set_option maxHeartbeats 2000000 in
set_option maxRecDepth 100000 in
theorem sen_ok (n : Int) (A : Option Addr) (cap : Nat) (ps : List Pp) (AD : Option Addr) (dc : Nat) (fl : List Int) (u : Int × Bool) (w : World) (h : PAt w A ps) (hm : ps.length ≤ maxLen) (hd : IAt w AD fl) (hdl : fl.length ≤ 1048576) (hv : floB n ps fl = true) (hu : u = if allR (-2000) 2000 fl = true then (enA ps fl, true) else (0, false)) :
    Calls Try.prog 73 #[nv n A ps.length cap, .slice AD fl.length dc] w fun e w' => e = .returned (.tuple #[.int .i64 u.1, .bool u.2]) ∧ Below w.heap.size w w' := by
  have HSUM := Lib.hid (fun w' (hb : Below w.heap.size w w') => sen_sum n A cap ps AD dc fl w' (h.kept hb (Nat.le_refl _)) (hd.kept hb (Nat.le_refl _)) hv)
  unfold floB at hv
  rw [Bool.and_eq_true] at hv
  have H1 := Lib.hid (fun w' (hb : Below w.heap.size w w') => sgood_v hv.1 A cap w' (h.kept hb (Nat.le_refl _)) hm)
  have H2 := Lib.hid (fun w' (hb : Below w.heap.size w w') => sflo_v hv.2 (n := n) A cap AD dc w' (hd.kept hb (Nat.le_refl _)) hdl)
  have HI := Lib.hid (fun w' (hb : Below w.heap.size w w') => hd.kept hb (Nat.le_refl _))
  have HNO := Lib.hid (fun (h : allR (-2000) 2000 fl = false) => show u = (0, false) by rw [hu, h]; rfl)
  have HYES := Lib.hid (fun (h : allR (-2000) 2000 fl = true) => show u = (enA ps fl, true) by rw [hu, h]; rfl)
  clear h hd hv hu
  go_enter Try.func73, Try.ntmps73
  go_wp2_with (first
    | (go_at_call 112; refine (H1.out _ ((Below.refl _ _).alloc (Nat.le_refl _) _)).mono ?_; rintro e w1 ⟨rfl, hb1⟩; have HX1 := Lib.hid (show Below (w.heap.size + 1) (w.alloc (nb n A ps.length cap)) w1 by simpa using hb1); obtain ⟨b0, b1⟩ := box2 HX1.out; have hy1 := box_lt HX1.out; clear hb1)
    | (go_at_call 121; refine (H2.out _ (below_box HX1.out)).mono ?_; rintro e w2 ⟨rfl, hb2⟩; have HX2 := Lib.hid (on_call HX1.out hb2); clear b0 b1; obtain ⟨b0, b1⟩ := box2 HX2.out; have hy2 := box_lt HX2.out; clear hb2))
  have hB := Lib.hid (below_box HX2.out)
  clear H1 H2 HX1
  go_loop [6] (fun i => ∃ k : Nat, k ≤ fl.length ∧ i = .int .i64 (k : Int) ∧ Hid (∀ j, j < k → inR (-2000) 2000 (fl.getD j 0) = true)) (fun i => fl.length - (intOf i).toNat)
  case atStart => exact ⟨0, Nat.zero_le _, rfl, Lib.hid (fun j hj => absurd hj (by omega))⟩
  case round =>
    obtain ⟨k, hk, rfl, hno⟩ := hrel
    by_cases hlt : k < fl.length
    · obtain ⟨b, off, hA, hbl, h0⟩ := (HI.out _ hB.out).at_ hlt
      subst hA
      have hk0 : (0 : Int) ≤ (k : Int) := by omega
      have hkn : (k : Int) < (fl.length : Int) := by omega
      obtain ⟨v, hv⟩ : ∃ v, inR (-2000) 2000 (fl.getD k 0) = v := ⟨_, rfl⟩
      have HC := Lib.hid (fun w' => in_eq (fl.getD k 0) (-2000) 2000 v hv w')
      cases v with
      | false =>
        have HU := Lib.hid (HNO.out (allR_no hlt hv))
        clear hv hno
        generalize fl.getD k 0 = y at *
        go_wp2_with (go_at_call 122; refine (HC.out _).mono ?_; rintro e w3 ⟨rfl, hw⟩; replace hw := hw.symm; subst hw)
        go_ret2
        exact ⟨by rw [HU.out]; rfl, hB.out⟩
      | true =>
        have hno2 := Lib.hid (inR_snoc hno.out hv)
        clear hv hno
        generalize fl.getD k 0 = y at *
        go_wp2_with (go_at_call 122; refine (HC.out _).mono ?_; rintro e w3 ⟨rfl, hw⟩; replace hw := hw.symm; subst hw)
        go_round
        case rel => exact ⟨k + 1, by omega, by go_num, hno2⟩
        case measure => simp [intOf]; omega
    · have HU := Lib.hid (HYES.out (allR_mk (fun i hi => hno.out i (by omega))))
      go_wp2_with (go_at_call 131; refine (HSUM.out _ hB.out).mono ?_; rintro e w3 ⟨rfl, hb3⟩)
      go_ret2
      exact ⟨by rw [HU.out]; rfl, hB.out.trans (hb3.mono hB.out.size)⟩
end Go.Proofs.Ytgjogjmfpbinfaa.S2
