/- HeaviestPipe of the program: contracts. Conditions: each theorem's own premises. -/
import Derived.Test.YtipnecmgpfmjeaaSup
namespace Go.Proofs.Ytipnecmgpfmjeaa.S2
open Go.RowKit P2

def absI (x : Int) : Int := max x (-x)
theorem absI_nn (x : Int) : 0 ≤ absI x := by unfold absI; omega
/-- The first of the first k flows that is greatest, by its absolute value. -/
def hvI (fl : List Int) : Nat → Nat
  | 0 => 0
  | k + 1 => if absI (lA fl (hvI fl k)) < absI (lA fl k) then k else hvI fl k
theorem hvI_lt (fl : List Int) : ∀ k, 0 < k → hvI fl k < k
  | 0, h => absurd h (by omega)
  | 1, _ => by unfold hvI; split <;> simp [hvI]
  | k + 2, _ => by
    have := hvI_lt fl (k + 1) (by omega)
    rw [hvI]
    split <;> omega
theorem hvI_one (fl : List Int) : hvI fl 1 = 0 := by have := hvI_lt fl 1 (by omega); omega

set_option maxHeartbeats 1000000 in
theorem hvy_no (n : Int) (A : Option Addr) (cap : Nat) (ps : List Pp) (AD : Option Addr) (dc : Nat) (dm : List Int) (w : World) (h : PAt w A ps) (hm : ps.length ≤ maxLen) (hd : IAt w AD dm) (hdl : dm.length ≤ 1048576) (hv : floB n ps dm = false ∨ dm.length = 0) :
    Calls Try.prog 35 #[nv n A ps.length cap, .slice AD dm.length dc] w fun e w' => e = .returned (.tuple #[.int .i64 0, .int .i64 0, .bool false]) ∧ Below w.heap.size w w' := by
  cases hf : floB n ps dm with
  | false =>
    have H := Lib.hid (fun w' (hb : Below w.heap.size w w') => flo_v hf A cap AD dc w' (h.kept hb (Nat.le_refl _)) hm (hd.kept hb (Nat.le_refl _)) hdl)
    clear h hd hv hf
    go_enter Try.func35, Try.ntmps35
    go_wp2_with (go_at_call 71; refine (H.out _ ((Below.refl _ _).alloc (Nat.le_refl _) _)).mono ?_; rintro e w1 ⟨rfl, hb1⟩)
    go_ret3
    exact ⟨rfl, below_alloc_call hb1⟩
  | true =>
    have H := Lib.hid (fun w' (hb : Below w.heap.size w w') => flo_v hf A cap AD dc w' (h.kept hb (Nat.le_refl _)) hm (hd.kept hb (Nat.le_refl _)) hdl)
    have hl0 : dm.length = 0 := by
      rcases hv with h | h
      · exact absurd (hf.symm.trans h) (by simp)
      · exact h
    have g0 : ((dm.length : Int) == 0) = true := by rw [hl0]; rfl
    clear h hd hv hf hl0
    go_enter Try.func35, Try.ntmps35
    go_wp2_with (go_at_call 71; refine (H.out _ ((Below.refl _ _).alloc (Nat.le_refl _) _)).mono ?_; rintro e w1 ⟨rfl, hb1⟩)
    go_ret3
    exact ⟨rfl, below_alloc_call hb1⟩

/-- What the loop knows behind k rounds. -/
def HvR (ps : List Pp) (fl : List Int) (k : Nat) (a b : Int) : Prop := (k = 0 ∧ a = 0 ∧ b = -1) ∨ (0 < k ∧ a = (pAt ps (hvI fl k)).id ∧ b = absI (lA fl (hvI fl k)))
theorem HvR.more {ps : List Pp} {fl : List Int} {k : Nat} {a b : Int} (h : HvR ps fl k a b) (hb : b < absI (lA fl k)) : HvR ps fl (k + 1) (pAt ps k).id (absI (lA fl k)) := by
  rcases h with ⟨rfl, _, _⟩ | ⟨_, _, rfl⟩
  · exact .inr ⟨by omega, by rw [hvI_one], by rw [hvI_one]⟩
  · have e : hvI fl (k + 1) = k := by rw [hvI, if_pos hb]
    exact .inr ⟨by omega, by rw [e], by rw [e]⟩
theorem HvR.same {ps : List Pp} {fl : List Int} {k : Nat} {a b : Int} (h : HvR ps fl k a b) (hb : ¬ b < absI (lA fl k)) : HvR ps fl (k + 1) a b := by
  rcases h with ⟨rfl, _, rfl⟩ | ⟨_, rfl, rfl⟩
  · have := absI_nn (lA fl 0); omega
  · have e : hvI fl (k + 1) = hvI fl k := by rw [hvI, if_neg hb]
    exact .inr ⟨by omega, by rw [e], by rw [e]⟩
theorem HvR.done {ps : List Pp} {fl : List Int} {k : Nat} {a b : Int} (h : HvR ps fl k a b) (hk : 0 < k) : a = (pAt ps (hvI fl k)).id ∧ b = absI (lA fl (hvI fl k)) := by
  rcases h with ⟨rfl, _, _⟩ | ⟨_, h1, h2⟩
  · omega
  · exact ⟨h1, h2⟩

set_option maxHeartbeats 2000000 in
theorem hvy_yes (n : Int) (A : Option Addr) (cap : Nat) (ps : List Pp) (AD : Option Addr) (dc : Nat) (fl : List Int) (w : World) (h : PAt w A ps) (hm : ps.length ≤ maxLen) (hd : IAt w AD fl) (hdl : fl.length ≤ 1048576) (hv : floB n ps fl = true) (h0 : 0 < fl.length) :
    Calls Try.prog 35 #[nv n A ps.length cap, .slice AD fl.length dc] w fun e w' => e = .returned (.tuple #[.int .i64 (pAt ps (hvI fl fl.length)).id, .int .i64 (absI (lA fl (hvI fl fl.length))), .bool true]) ∧ Below w.heap.size w w' := by
  obtain ⟨hg, hfl, hr⟩ := floB_of hv
  have hl10 := hg.2.2.1
  have H := Lib.hid (fun w' (hb : Below w.heap.size w w') => flo_v hv A cap AD dc w' (h.kept hb (Nat.le_refl _)) hm (hd.kept hb (Nat.le_refl _)) hdl)
  have HA := Lib.hid (fun w' (hb : Below w.heap.size w w') => h.kept hb (Nat.le_refl _))
  have HI := Lib.hid (fun w' (hb : Below w.heap.size w w') => hd.kept hb (Nat.le_refl _))
  have HE := Lib.hid (fun k (hk : k < fl.length) => allR_at hr hk)
  have HL := Lib.hid hfl
  have g0 : ((fl.length : Int) == 0) = false := beq_eq_false_iff_ne.2 (by omega)
  have hps0 : 0 < ps.length := by omega
  clear h hd hv hr hg hfl hm hdl
  go_enter Try.func35, Try.ntmps35
  go_wp2_with (go_at_call 71; refine (H.out _ ((Below.refl _ _).alloc (Nat.le_refl _) _)).mono ?_; rintro e w1 ⟨rfl, hb1⟩; obtain ⟨hc1, hf1⟩ := bcell hb1; have hz1 := hb1.size; simp at hz1)
  have hB := Lib.hid (below_alloc_call hb1)
  clear hb1 H g0 hc1 hf1
  go_loopw [7, 8, 24] (fun a b i wr => ∃ (k : Nat) (x y : Int), k ≤ ps.length ∧ i = .int .i64 (k : Int) ∧ a = .int .i64 x ∧ b = .int .i64 y ∧ Hid (HvR ps fl k x y) ∧ -1 ≤ y ∧ y ≤ 8000 ∧ Hid (Below w.heap.size w wr)) (fun _ _ i _ => ps.length - (intOf i).toNat)
  case atStart => exact ⟨0, 0, -1, Nat.zero_le _, rfl, rfl, rfl, Lib.hid (.inl ⟨rfl, rfl, rfl⟩), by omega, by omega, hB⟩
  case round =>
    clear hB
    obtain ⟨k, x, y, hk, rfl, rfl, rfl, hR, hy0, hy1, hB⟩ := hrel
    by_cases hlt : k < ps.length
    · obtain ⟨b, off, hA, hbl, p0, p1, p2, p3⟩ := (HA.out _ hB.out).at_ hlt
      subst hA
      have hkf : k < fl.length := by rw [HL.out]; exact hlt
      obtain ⟨bb, of2, hA2, hbl2, q0⟩ := (HI.out _ hB.out).at_ hkf
      subst hA2
      have hk0 : (0 : Int) ≤ (k : Int) := by omega
      have hkn : (k : Int) < (ps.length : Int) := by omega
      have hknf : (k : Int) < (fl.length : Int) := by omega
      have hy2 : -8000 ≤ fl.getD k 0 := (HE.out k hkf).1
      have hy3 : fl.getD k 0 ≤ 8000 := (HE.out k hkf).2
      have hmore := Lib.hid (fun hb => hR.out.more hb)
      have hsame := Lib.hid (fun hb => hR.out.same hb)
      have hx : lA fl k = fl.getD k 0 := rfl
      rw [hx] at hmore hsame
      clear hx hR
      generalize fl.getD k 0 = f at *
      generalize pAt ps k = p at *
      have hBn := Lib.hid (fun d : Nat => below_drewN (hB.out.alloc hB.out.size (.cells #[.int .i64 p.id, .int .i64 p.fr, .int .i64 p.to, .int .i64 p.sz] 40)) d)
      by_cases hgt : y < max f (-f)
      · have hR2 := Lib.hid (hmore.out hgt)
        have hm0 : -1 ≤ max f (-f) := by omega
        have hm1 : max f (-f) ≤ 8000 := by omega
        clear hmore hsame
        go_wp2
        go_quiet (fail)
        go_wp2
        go_roundw
        case rel => exact ⟨k + 1, p.id, max f (-f), by omega, by go_num, rfl, rfl, hR2, hm0, hm1, Lib.hid (hBn.out _)⟩
        case measure => simp [intOf]; omega
      · have hR2 := Lib.hid (hsame.out hgt)
        clear hmore hsame
        go_wp2
        go_quiet (fail)
        go_wp2
        go_roundw
        case rel => exact ⟨k + 1, x, y, by omega, by go_num, rfl, rfl, hR2, hy0, hy1, Lib.hid (hBn.out _)⟩
        case measure => simp [intOf]; omega
    · have hkk : k = fl.length := by rw [HL.out]; omega
      have hR2 := hR.out
      rw [hkk] at hR2
      obtain ⟨hx, hy⟩ := hR2.done h0
      have HX := Lib.hid hx
      have HY := Lib.hid hy
      clear hkk hR2 hx hy hR
      go_wp2
      go_ret3
      exact ⟨by rw [← HX.out, ← HY.out]; rfl, hB.out⟩

/-! ### The model -/
theorem sabs_any (x : Int) (w : World) (h0 : -8000 ≤ x) (h1 : x ≤ 8000) : Calls Try.prog 83 #[.int .i64 x] w fun e w' => e = .returned (.int .i64 (absI x)) ∧ w' = w := by
  have hm : ∀ w, Calls Try.prog 113 #[.int .i64 x, .int .i64 (-x)] w fun e w' => e = .returned (.int .i64 (absI x)) ∧ w' = w := by
    intro w
    by_cases hgt : -x < x
    · have e : absI x = x := by unfold absI; omega
      rw [e]
      clear e
      go_enter Try.func113, Try.ntmps113
      go_wp2
      go_ret
      exact ⟨rfl, rfl⟩
    · have e : absI x = -x := by unfold absI; omega
      rw [e]
      clear e
      go_enter Try.func113, Try.ntmps113
      go_wp2
      go_ret
      exact ⟨rfl, rfl⟩
  have HM := Lib.hid hm
  clear hm
  generalize absI x = a at *
  go_enter Try.func83, Try.ntmps83
  go_wp2_with (go_at_call 113; refine (HM.out _).mono ?_; rintro e w' ⟨rfl, hw⟩; replace hw := hw.symm; subst hw)
  go_ret
  exact ⟨rfl, rfl⟩

set_option maxHeartbeats 1000000 in
theorem shvy_no (n : Int) (A : Option Addr) (cap : Nat) (ps : List Pp) (AD : Option Addr) (dc : Nat) (dm : List Int) (w : World) (h : PAt w A ps) (hm : ps.length ≤ maxLen) (hd : IAt w AD dm) (hdl : dm.length ≤ 1048576) (hv : floB n ps dm = false ∨ dm.length = 0) :
    Calls Try.prog 36 #[nv n A ps.length cap, .slice AD dm.length dc] w fun e w' => e = .returned (.tuple #[.int .i64 0, .int .i64 0, .bool false]) ∧ Below w.heap.size w w' := by
  cases hg : goodB n ps with
  | false =>
    have H := Lib.hid (fun w' (hb : Below w.heap.size w w') => sgood_v hg A cap w' (h.kept hb (Nat.le_refl _)) hm)
    clear h hd hv hg
    go_enter Try.func36, Try.ntmps36
    go_wp2_with (go_at_call 75; refine (H.out _ ((Below.refl _ _).alloc (Nat.le_refl _) _)).mono ?_; rintro e w1 ⟨rfl, hb1⟩)
    go_ret3
    exact ⟨rfl, below_alloc_call hb1⟩
  | true =>
    have H := Lib.hid (fun w' (hb : Below w.heap.size w w') => sgood_v hg A cap w' (h.kept hb (Nat.le_refl _)) hm)
    obtain ⟨u, hu⟩ : ∃ u, amtB dm ps.length (-8000) 8000 = u := ⟨_, rfl⟩
    have HD := Lib.hid (fun w' (hb : Below w.heap.size w w') => sflo_v hu (n := n) A cap AD dc w' (hd.kept hb (Nat.le_refl _)) hdl)
    cases u with
    | false =>
      clear h hd hv hg hu
      go_enter Try.func36, Try.ntmps36
      go_wp2_with (first
        | (go_at_call 75; refine (H.out _ ((Below.refl _ _).alloc (Nat.le_refl _) _)).mono ?_; rintro e w1 ⟨rfl, hb1⟩; obtain ⟨hc1, hf1⟩ := bcell hb1; have hz1 := hb1.size; simp at hz1; have hb2 := Lib.hid (below_alloc_call hb1))
        | (go_at_call 76; refine (HD.out _ hb2.out).mono ?_; rintro e w2 ⟨rfl, hb3⟩))
      go_ret3
      exact ⟨rfl, hb2.out.trans (hb3.mono hb2.out.size)⟩
    | true =>
      have hl0 : dm.length = 0 := by
        rcases hv with h | h
        · rw [floB, hg, hu] at h; cases h
        · exact h
      have g0 : ((dm.length : Int) == 0) = true := by rw [hl0]; rfl
      clear h hd hv hg hu hl0
      go_enter Try.func36, Try.ntmps36
      go_wp2_with (first
        | (go_at_call 75; refine (H.out _ ((Below.refl _ _).alloc (Nat.le_refl _) _)).mono ?_; rintro e w1 ⟨rfl, hb1⟩; obtain ⟨hc1, hf1⟩ := bcell hb1; have hz1 := hb1.size; simp at hz1; have hb2 := Lib.hid (below_alloc_call hb1))
        | (go_at_call 76; refine (HD.out _ hb2.out).mono ?_; rintro e w2 ⟨rfl, hb3⟩))
      go_ret3
      exact ⟨rfl, hb2.out.trans (hb3.mono hb2.out.size)⟩

set_option maxHeartbeats 2000000 in
set_option maxRecDepth 100000 in
theorem shvy_yes (n : Int) (A : Option Addr) (cap : Nat) (ps : List Pp) (AD : Option Addr) (dc : Nat) (fl : List Int) (w : World) (h : PAt w A ps) (hm : ps.length ≤ maxLen) (hd : IAt w AD fl) (hdl : fl.length ≤ 1048576) (hv : floB n ps fl = true) (h0 : 0 < fl.length) :
    Calls Try.prog 36 #[nv n A ps.length cap, .slice AD fl.length dc] w fun e w' => e = .returned (.tuple #[.int .i64 (pAt ps (hvI fl fl.length)).id, .int .i64 (absI (lA fl (hvI fl fl.length))), .bool true]) ∧ Below w.heap.size w w' := by
  obtain ⟨hgd, hfl, hr⟩ := floB_of hv
  unfold floB at hv
  rw [Bool.and_eq_true] at hv
  have hl10 := hgd.2.2.1
  have H := Lib.hid (fun w' (hb : Below w.heap.size w w') => sgood_v hv.1 A cap w' (h.kept hb (Nat.le_refl _)) hm)
  have HD := Lib.hid (fun w' (hb : Below w.heap.size w w') => sflo_v hv.2 (n := n) A cap AD dc w' (hd.kept hb (Nat.le_refl _)) hdl)
  have HA := Lib.hid (fun w' (hb : Below w.heap.size w w') => h.kept hb (Nat.le_refl _))
  have HI := Lib.hid (fun w' (hb : Below w.heap.size w w') => hd.kept hb (Nat.le_refl _))
  have HE := Lib.hid (fun k (hk : k < fl.length) => allR_at hr hk)
  have HL := Lib.hid hfl
  have g0 : ((fl.length : Int) == 0) = false := beq_eq_false_iff_ne.2 (by omega)
  have hps0 : fl.length ≤ 10 := by omega
  have HONE := Lib.hid (hvI_one fl)
  clear h hd hv hr hgd hfl hm hdl
  go_enter Try.func36, Try.ntmps36
  go_wp2_with (first
    | (go_at_call 75; refine (H.out _ ((Below.refl _ _).alloc (Nat.le_refl _) _)).mono ?_; rintro e w1 ⟨rfl, hb1⟩; obtain ⟨hc1, hf1⟩ := bcell hb1; have hz1 := hb1.size; simp at hz1; have hb2 := Lib.hid (below_alloc_call hb1))
    | (go_at_call 76; refine (HD.out _ hb2.out).mono ?_; rintro e w2 ⟨rfl, hb3⟩))
  have hBX : Below (w.heap.size + 1) (w.alloc (.cells #[.int .i64 n, .slice A ps.length cap] 26)) w2 := by
    have hx : Below (w.heap.size + 1) (w.alloc (.cells #[.int .i64 n, .slice A ps.length cap] 26)) w1 := by simpa using hb1
    exact on_call hx hb3
  clear hb1 H g0 hc1 hf1 hb3 hb2 HD hz1
  go_loopw [7, 8] (fun a i wr => ∃ (k : Nat), 1 ≤ k ∧ k ≤ fl.length ∧ i = .int .i64 (k : Int) ∧ a = .int .i64 (hvI fl k : Nat) ∧ Below (w.heap.size + 1) (w.alloc (.cells #[.int .i64 n, .slice A ps.length cap] 26)) wr) (fun _ i _ => fl.length - (intOf i).toNat)
  case atStart => exact ⟨1, Nat.le_refl _, by omega, rfl, by rw [HONE.out]; rfl, hBX⟩
  case round =>
    clear hBX
    obtain ⟨k, hk1, hk, rfl, rfl, hb⟩ := hrel
    obtain ⟨c0, c1⟩ := box2 hb
    have hz2 := box_lt hb
    have hB := Lib.hid (below_box hb)
    have hj := hvI_lt fl k (by omega)
    by_cases hlt : k < fl.length
    · have hi2 := HI.out _ hB.out
      obtain ⟨bb, of2, hA2, hbl2, q0⟩ := hi2.at_ hlt
      obtain ⟨bb', of2', hA2', hbl2', q1⟩ := hi2.at_ (show hvI fl k < fl.length by omega)
      subst hA2
      simp only [Option.some.injEq, Addr.mk.injEq, and_true] at hA2'
      obtain ⟨rfl, rfl⟩ := hA2'
      have hk0 : (0 : Int) ≤ (k : Int) := by omega
      have hkn : (k : Int) < (fl.length : Int) := by omega
      have hj0 : (0 : Int) ≤ (hvI fl k : Int) := by omega
      have hjn : (hvI fl k : Int) < (fl.length : Int) := by omega
      have HC1 := Lib.hid (fun w' => sabs_any (fl.getD k 0) w' (HE.out k hlt).1 (HE.out k hlt).2)
      have HC2 := Lib.hid (fun w' => sabs_any (fl.getD (hvI fl k) 0) w' (HE.out _ (by omega)).1 (HE.out _ (by omega)).2)
      have HS := Lib.hid (show hvI fl (k + 1) = if absI (fl.getD (hvI fl k) 0) < absI (fl.getD k 0) then k else hvI fl k from rfl)
      clear hi2 hbl2'
      generalize fl.getD k 0 = f at *
      generalize hvI fl k = j at *
      generalize fl.getD j 0 = g at *
      by_cases hgt : absI g < absI f
      · have hs2 := Lib.hid (HS.out.trans (if_pos hgt))
        clear HS
        generalize absI f = fa at *
        generalize absI g = ga at *
        go_wp2
        go_quiet ((first | (go_at_call_of 83 (iv f); exact Calls.quiet_of_same (HC1.out _)) | (go_at_call_of 83 (iv g); exact Calls.quiet_of_same (HC2.out _))))
        go_wp2
        go_roundw
        case rel => exact ⟨k + 1, by omega, by omega, by go_num, by rw [hs2.out], below_drewN hb _⟩
        case measure => simp [intOf]; omega
      · have hs2 := Lib.hid (HS.out.trans (if_neg hgt))
        clear HS
        generalize absI f = fa at *
        generalize absI g = ga at *
        go_wp2
        go_quiet ((first | (go_at_call_of 83 (iv f); exact Calls.quiet_of_same (HC1.out _)) | (go_at_call_of 83 (iv g); exact Calls.quiet_of_same (HC2.out _))))
        go_wp2
        go_roundw
        case rel => exact ⟨k + 1, by omega, by omega, by go_num, by rw [hs2.out], below_drewN hb _⟩
        case measure => simp [intOf]; omega
    · have hkk : k = fl.length := by omega
      have hjp : hvI fl fl.length < ps.length := by have := hvI_lt fl fl.length (by omega); have := HL.out; omega
      have hjf : hvI fl fl.length < fl.length := hvI_lt fl fl.length (by omega)
      have HK := Lib.hid (show hvI fl k = hvI fl fl.length by rw [hkk])
      rw [HK.out]
      obtain ⟨b, off, hA, hbl, p0, p1, p2, p3⟩ := (HA.out _ hB.out).at_ hjp
      subst hA
      obtain ⟨bb, of2, hA2, hbl2, q0⟩ := (HI.out _ hB.out).at_ hjf
      subst hA2
      have hj0 : (0 : Int) ≤ (hvI fl fl.length : Int) := by omega
      have hjn : (hvI fl fl.length : Int) < (fl.length : Int) := by omega
      have hjn2 : (hvI fl fl.length : Int) < (ps.length : Int) := by omega
      have HC2 := Lib.hid (fun w' => sabs_any (fl.getD (hvI fl fl.length) 0) w' (HE.out _ (by omega)).1 (HE.out _ (by omega)).2)
      have hlt2 : ¬ (k : Int) < (fl.length : Int) := by omega
      obtain ⟨g, hgq⟩ : ∃ g, fl.getD (hvI fl fl.length) 0 = g := ⟨_, rfl⟩
      rw [hgq] at q0 HC2
      have HG := Lib.hid (show absI (lA fl (hvI fl fl.length)) = absI g from congrArg absI hgq)
      clear hkk HK hj hlt HONE HL HE hgq
      go_wp2
      go_quiet ((go_at_call 83; exact Calls.quiet_of_same (HC2.out _)))
      go_wp2
      go_ret3
      exact ⟨by rw [HG.out]; rfl, below_drewN hB.out _⟩
end Go.Proofs.Ytipnecmgpfmjeaa.S2
