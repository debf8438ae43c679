/- SteepestPipe of the model: contracts. Conditions: each theorem's own premises. -/
import Derived.Test.YtpldbakllegheaaStI
namespace Go.Proofs.Ytpldbakllegheaa.S2
open Go.RowKit P2

/-- What the loop knows behind k rounds. -/
def StR (ps : List Pp) (fl : List Int) (k : Nat) (a b : Int) : Prop := (k = 0 ∧ a = 0 ∧ b = -1) ∨ (0 < k ∧ a = (pAt ps (fstG (stF ps fl) k)).id ∧ b = stF ps fl (fstG (stF ps fl) k))
theorem StR.more {ps : List Pp} {fl : List Int} {k : Nat} {a b : Int} (h : StR ps fl k a b) (hb : b < stF ps fl k) : StR ps fl (k + 1) (pAt ps k).id (stF ps fl k) := by
  rcases h with ⟨rfl, _, _⟩ | ⟨_, _, rfl⟩
  · exact .inr ⟨by omega, by rw [fstG_one], by rw [fstG_one]⟩
  · have e : fstG (stF ps fl) (k + 1) = k := by rw [fstG, if_pos hb]
    exact .inr ⟨by omega, by rw [e], by rw [e]⟩
theorem StR.same {ps : List Pp} {fl : List Int} {k : Nat} {a b : Int} (h : StR ps fl k a b) (hb : ¬ b < stF ps fl k) : StR ps fl (k + 1) a b := by
  rcases h with ⟨rfl, _, rfl⟩ | ⟨_, rfl, rfl⟩
  · have := absI_nn (lossI (pAt ps 0) (lA fl 0)); unfold stF at hb; omega
  · have e : fstG (stF ps fl) (k + 1) = fstG (stF ps fl) k := by rw [fstG, if_neg hb]
    exact .inr ⟨by omega, by rw [e], by rw [e]⟩
theorem StR.done {ps : List Pp} {fl : List Int} {k : Nat} {a b : Int} (h : StR ps fl k a b) (hk : 0 < k) : a = (pAt ps (fstG (stF ps fl) k)).id ∧ b = stF ps fl (fstG (stF ps fl) k) := by
  rcases h with ⟨rfl, _, _⟩ | ⟨_, h1, h2⟩
  · omega
  · exact ⟨h1, h2⟩
theorem sabs_b (x : Int) (h0 : -1000000000000 ≤ x) (h1 : x ≤ 1000000000000) (w : World) : Calls Try.prog 81 #[.int .i64 x] w fun e w' => e = .returned (.int .i64 (absI x)) ∧ Below w.heap.size w w' :=
  (sabs_any x w h0 h1).mono fun _ _ ⟨h, e⟩ => ⟨h, by rw [e]; exact Below.refl _ _⟩

set_option maxHeartbeats 1000000 in
theorem sst_no (n : Int) (A : Option Addr) (cap : Nat) (ps : List Pp) (AD : Option Addr) (dc : Nat) (dm : List Int) (w : World) (h : PAt w A ps) (hm : ps.length ≤ maxLen) (hd : IAt w AD dm) (hdl : dm.length ≤ 1048576) (hv : floB n ps dm = false ∨ dm.length = 0) :
    Calls Try.prog 37 #[nv n A ps.length cap, .slice AD dm.length dc] w fun e w' => e = .returned (.tuple #[.int .i64 0, .int .i64 0, .bool false]) ∧ Below w.heap.size w w' := by
  cases hg : goodB n ps with
  | false =>
    have H := Lib.hid (fun w' (hb : Below w.heap.size w w') => sgood_v hg A cap w' (h.kept hb (Nat.le_refl _)) hm)
    clear h hd hv hg
    go_enter Try.func37, Try.ntmps37
    go_wp2_with (go_at_call 53; refine (H.out _ ((Below.refl _ _).alloc (Nat.le_refl _) _)).mono ?_; rintro e w1 ⟨rfl, hb1⟩)
    go_ret3
    exact ⟨rfl, below_alloc_call hb1⟩
  | true =>
    have H := Lib.hid (fun w' (hb : Below w.heap.size w w') => sgood_v hg A cap w' (h.kept hb (Nat.le_refl _)) hm)
    obtain ⟨u, hu⟩ : ∃ u, amtB dm ps.length (-8000) 8000 = u := ⟨_, rfl⟩
    have HD := Lib.hid (fun w' (hb : Below w.heap.size w w') => sflo_v hu (n := n) A cap AD dc w' (hd.kept hb (Nat.le_refl _)) hdl)
    cases u with
    | false =>
      clear h hd hv hg hu
      go_enter Try.func37, Try.ntmps37
      go_wp2_with (first
        | (go_at_call 53; refine (H.out _ ((Below.refl _ _).alloc (Nat.le_refl _) _)).mono ?_; rintro e w1 ⟨rfl, hb1⟩; obtain ⟨hc1, hf1⟩ := bcell hb1; have hz1 := hb1.size; simp at hz1; have hb2 := Lib.hid (below_alloc_call hb1))
        | (go_at_call 54; refine (HD.out _ hb2.out).mono ?_; rintro e w2 ⟨rfl, hb3⟩))
      go_ret3
      exact ⟨rfl, hb2.out.trans (hb3.mono hb2.out.size)⟩
    | true =>
      have hl0 : dm.length = 0 := by
        rcases hv with h | h
        · rw [floB, hg, hu] at h; cases h
        · exact h
      have g0 : ((dm.length : Int) == 0) = true := by rw [hl0]; rfl
      clear h hd hv hg hu hl0
      go_enter Try.func37, Try.ntmps37
      go_wp2_with (first
        | (go_at_call 53; refine (H.out _ ((Below.refl _ _).alloc (Nat.le_refl _) _)).mono ?_; rintro e w1 ⟨rfl, hb1⟩; obtain ⟨hc1, hf1⟩ := bcell hb1; have hz1 := hb1.size; simp at hz1; have hb2 := Lib.hid (below_alloc_call hb1))
        | (go_at_call 54; refine (HD.out _ hb2.out).mono ?_; rintro e w2 ⟨rfl, hb3⟩))
      go_ret3
      exact ⟨rfl, hb2.out.trans (hb3.mono hb2.out.size)⟩

set_option maxHeartbeats 3000000 in
set_option maxRecDepth 100000 in
theorem sst_yes (n : Int) (A : Option Addr) (cap : Nat) (ps : List Pp) (AD : Option Addr) (dc : Nat) (fl : List Int) (w : World) (h : PAt w A ps) (hm : ps.length ≤ maxLen) (hd : IAt w AD fl) (hdl : fl.length ≤ 1048576) (hv : floB n ps fl = true) (h0 : 0 < fl.length) :
    Calls Try.prog 37 #[nv n A ps.length cap, .slice AD fl.length dc] w fun e w' => e = .returned (.tuple #[.int .i64 (pAt ps (stI ps fl)).id, .int .i64 (stF ps fl (stI ps fl)), .bool true]) ∧ Below w.heap.size w w' := by
  obtain ⟨hgd, hfl, hr⟩ := floB_of hv
  unfold floB at hv
  rw [Bool.and_eq_true] at hv
  have hl10 := hgd.2.2.1
  have H := Lib.hid (fun w' (hb : Below w.heap.size w w') => sgood_v hv.1 A cap w' (h.kept hb (Nat.le_refl _)) hm)
  have HD := Lib.hid (fun w' (hb : Below w.heap.size w w') => sflo_v hv.2 (n := n) A cap AD dc w' (hd.kept hb (Nat.le_refl _)) hdl)
  have HA := Lib.hid (fun w' (hb : Below w.heap.size w w') => h.kept hb (Nat.le_refl _))
  have HI := Lib.hid (fun w' (hb : Below w.heap.size w w') => hd.kept hb (Nat.le_refl _))
  have HE := Lib.hid (fun k (hk : k < fl.length) => allR_at hr hk)
  have HT := Lib.hid (fun k (hk : k < fl.length) => stF_in hgd hr hfl hk)
  have HG := Lib.hid (fun k (hk : k < ps.length) => good_pp hgd (pAt_mem hk))
  have HL := Lib.hid hfl
  have g0 : ((fl.length : Int) == 0) = false := beq_eq_false_iff_ne.2 (by omega)
  clear h hd hv hr hgd hfl hm hdl
  go_enter Try.func37, Try.ntmps37
  go_wp2_with (first
    | (go_at_call 53; refine (H.out _ ((Below.refl _ _).alloc (Nat.le_refl _) _)).mono ?_; rintro e w1 ⟨rfl, hb1⟩; have HX1 := Lib.hid (show Below (w.heap.size + 1) (w.alloc (nb n A ps.length cap)) w1 by simpa using hb1); obtain ⟨b0, b1⟩ := box2 HX1.out; have hy1 := box_lt HX1.out; clear hb1)
    | (go_at_call 54; refine (HD.out _ (below_box HX1.out)).mono ?_; rintro e w2 ⟨rfl, hb2⟩; have HX2 := Lib.hid (on_call HX1.out hb2); clear b0 b1; obtain ⟨b0, b1⟩ := box2 HX2.out; have hy2 := box_lt HX2.out; clear hb2))
  have hBX := HX2.out
  clear H HD HX1 HX2 b0 b1 hy1 hy2 g0
  go_loopw [7, 8, 9] (fun a b i wr => ∃ (k : Nat) (x y : Int), k ≤ fl.length ∧ i = .int .i64 (k : Int) ∧ a = .int .i64 x ∧ b = .int .i64 y ∧ Hid (StR ps fl k x y) ∧ -1 ≤ y ∧ y ≤ 576000000 ∧ Below (w.heap.size + 1) (w.alloc (nb n A ps.length cap)) wr) (fun _ _ i _ => fl.length - (intOf i).toNat)
  case atStart => exact ⟨0, 0, -1, Nat.zero_le _, rfl, rfl, rfl, Lib.hid (.inl ⟨rfl, rfl, rfl⟩), by omega, by omega, hBX⟩
  case round =>
    clear hBX
    obtain ⟨k, x, y, hk, rfl, rfl, rfl, hR, hy0, hy1, hb⟩ := hrel
    obtain ⟨c0, c1⟩ := box2 hb
    have hz2 := box_lt hb
    have hB := Lib.hid (below_box hb)
    by_cases hlt : k < fl.length
    · have hkp : k < ps.length := by rw [← HL.out]; exact hlt
      obtain ⟨b, off, hA, hbl, p0, p1, p2, p3⟩ := (HA.out _ hB.out).at_ hkp
      subst hA
      obtain ⟨bb, of2, hA2, hbl2, q0⟩ := (HI.out _ hB.out).at_ hlt
      subst hA2
      have hk0 : (0 : Int) ≤ (k : Int) := by omega
      have hkn : (k : Int) < (ps.length : Int) := by omega
      have hknf : (k : Int) < (fl.length : Int) := by omega
      have hyy := HE.out k hlt
      have hst := HT.out k hlt
      have hpp := HG.out k hkp
      have HLO := Lib.hid (fun w' => sloss_any hpp hyy.1 hyy.2 w')
      have hli := (loss_in hpp hyy.1 hyy.2).2
      have HAB := Lib.hid (fun w' => sabs_b (lossI (pAt ps k) (fl.getD k 0)) (by omega) (by omega) w')
      have hmore := Lib.hid (fun hb => hR.out.more hb)
      have hsame := Lib.hid (fun hb => hR.out.same hb)
      have hsf : absI (lossI (pAt ps k) (fl.getD k 0)) = stF ps fl k := rfl
      rw [hsf] at HAB
      clear hyy hpp hli hsf hR
      generalize lossI (pAt ps k) (fl.getD k 0) = L at *
      generalize stF ps fl k = M at *
      generalize fl.getD k 0 = f at *
      generalize pAt ps k = p at *
      go_wp2
      have hG := @cell_g
      refine region_below (by kernel_rfl) (by kernel_rfl) ?_
      repeat (first | go_big_quiet_step ((first | (go_at_call 55; exact met HLO.out) | (go_at_call 81; exact met HAB.out))))
      refine wpQuiet_nil ?_
      intro w3 hb3
      have hX3 := on_call hb hb3
      have r0 := (hb3.cell (p := ⟨b, off + k * 4, none⟩) hbl).trans p0
      have hbl3 : b < w3.heap.size := by have := hb3.size; omega
      clear c0 c1 p0 p1 p2 p3 q0 hz2 hG
      obtain ⟨c0, c1⟩ := box2 hX3
      have hz3 := box_lt hX3
      by_cases hgt : y < M
      · have hR2 := Lib.hid (hmore.out hgt)
        clear hmore hsame
        go_wp2
        go_roundw
        case rel => exact ⟨k + 1, p.id, M, by omega, by go_num, rfl, rfl, hR2, by omega, by omega, hX3⟩
        case measure => simp [intOf]; omega
      · have hR2 := Lib.hid (hsame.out (by omega))
        clear hmore hsame
        go_wp2
        go_roundw
        case rel => exact ⟨k + 1, x, y, by omega, by go_num, rfl, rfl, hR2, hy0, hy1, hX3⟩
        case measure => simp [intOf]; omega
    · have hkk : k = ps.length := by rw [← HL.out]; omega
      have hR2 := hR.out
      rw [hkk] at hR2
      obtain ⟨hx, hy⟩ := hR2.done (by rw [← HL.out]; exact h0)
      have HX := Lib.hid (show x = (pAt ps (stI ps fl)).id from hx)
      have HY := Lib.hid (show y = stF ps fl (stI ps fl) from hy)
      clear hkk hR2 hx hy hR
      go_wp2
      go_ret3
      exact ⟨by rw [← HX.out, ← HY.out]; rfl, hB.out⟩
end Go.Proofs.Ytpldbakllegheaa.S2
