/- BestLevel of the program and of the model: contracts. Conditions: each theorem's own premises. -/
import Derived.Test.YtjfpimldiokpbaaZnRd
import Derived.Test.YtjfpimldiokpbaaZnLow
namespace Go.Proofs.Ytjfpimldiokpbaa.S12
open Go.RowKit Go.Sort P12

set_option maxHeartbeats 1000000 in
theorem bs_no (A : Option Addr) (cap : Nat) (l : List Int) (a b : Int) (w : World) (hI : IAt w A l) (hl : l.length ≤ 1048576) (hv : askB l a b = false) :
    Calls Try.prog 32 #[.slice A l.length cap, rv a b] w (TwoN w 0 0 false) := by
  have HB0 := Lib.hid (alloc_below w (rb 25 a b))
  have HA := Lib.hid (fun w' (hb : Below w.heap.size w w') => ask_v hv A cap w' (hI.kept hb (Nat.le_refl _)) hl)
  have HT0 := Lib.hid (BT.new w 25 a b)
  clear hI hv
  go_enter Try.func32, Try.ntmps32
  refine Hid.out ?_
  obtain ⟨_, q0, q1⟩ := HT0.out
  refine Lib.hid ?_
  go_wp2_with (go_at_call 49; refine (HA.out _ HB0.out).mono ?_; rintro e w1 ⟨rfl, hb1⟩; have HB1 := Lib.hid (HB0.out.trans (hb1.mono HB0.out.size)); clear hb1)
  go_ret3
  exact ⟨rfl, HB1.out⟩
set_option maxHeartbeats 1000000 in
theorem sbs_no (A : Option Addr) (cap : Nat) (l : List Int) (a b : Int) (w : World) (hI : IAt w A l) (hl : l.length ≤ 1048576) (hv : askB l a b = false) :
    Calls Try.prog 31 #[.slice A l.length cap, rv a b] w (TwoN w 0 0 false) := by
  have HB0 := Lib.hid (alloc_below w (rb 25 a b))
  have HA := Lib.hid (fun w' (hb : Below w.heap.size w w') => sask_v hv A cap w' (hI.kept hb (Nat.le_refl _)) hl)
  have HT0 := Lib.hid (BT.new w 25 a b)
  clear hI hv
  go_enter Try.func31, Try.ntmps31
  refine Hid.out ?_
  obtain ⟨_, q0, q1⟩ := HT0.out
  refine Lib.hid ?_
  go_wp2_with (go_at_call 46; refine (HA.out _ HB0.out).mono ?_; rintro e w1 ⟨rfl, hb1⟩; have HB1 := Lib.hid (HB0.out.trans (hb1.mono HB0.out.size)); clear hb1)
  go_ret3
  exact ⟨rfl, HB1.out⟩
set_option maxHeartbeats 4000000 in
set_option maxRecDepth 100000 in
theorem bs_yes (A : Option Addr) (cap : Nat) (l : List Int) (a b : Int) (w : World) (hI : IAt w A l) (hl : l.length ≤ 1048576) (hq : ZAsk l a b) :
    Calls Try.prog 32 #[.slice A l.length cap, rv a b] w (TwoN w (bsB l a b) (bsM l a b : Int) true) := by
  have HB0 := Lib.hid (alloc_below w (rb 25 a b))
  have HA := Lib.hid (fun w' (hb : Below w.heap.size w w') => ask_v (askB_iff.2 hq) A cap w' (hI.kept hb (Nat.le_refl _)) hl)
  have HT0 := Lib.hid (BT.new w 25 a b)
  have HSU := Lib.hid (fun h (hh : -5000 ≤ h ∧ h ≤ 5000) w' (hb : Below w.heap.size w w') => suited_any A cap l a b h w' (hI.kept hb (Nat.le_refl _)) hq hh)
  have ha1 := hq.a1
  have hab := hq.ab
  have hb1 := hq.b1
  have hn12 := hq.n
  have HLW := Lib.hid (fun w' (hb : Below w.heap.size w w') => low_any cap A l hl w' (hI.kept hb (Nat.le_refl _)))
  have HAT := Lib.hid (fun (i : Nat) (hi : i < (sL l).length) => hq.toPl.mem ((sL_perm l).mem_iff.1 (getD_mem hi)))
  have HSL := Lib.hid (sL_len l)
  have HEND := Lib.hid (fun B M (h : BI l a b (sL l) (sL l).length B M) => bs_is (bi_end hq (sL_perm l) h))
  have HMORE := Lib.hid (fun j B M (h : BI l a b (sL l) j B M) => bi_more h)
  have HSKIP := Lib.hid (fun j B M (h : BI l a b (sL l) j B M) (hj : j < (sL l).length) => bi_skip hq (sL_asc l) (sL_perm l) h hj)
  clear hI hq
  generalize bsB l a b = RB at *
  generalize bsM l a b = RM at *
  go_enter Try.func32, Try.ntmps32
  refine Hid.out ?_
  obtain ⟨_, q0, q1⟩ := HT0.out
  refine Lib.hid ?_
  go_upto_region 4 with (first
    | (go_at_call 49; refine (HA.out _ HB0.out).mono ?_; rintro e w1 ⟨rfl, hb1⟩; have HB1 := Lib.hid (HB0.out.trans (hb1.mono HB0.out.size)); have HT1 := Lib.hid (HT0.out.kept hb1); clear hb1)
    | fail)
  clear q0 q1 HT0 HA HB0
  go_wp2_with (first
    | (go_at_call 58; refine (HLW.out _ HB1.out).mono ?_; rintro e w2 ⟨A2, c2, rfl, hP, hfr, hb2⟩; have HP2 := Lib.hid (fun w' (hb : Below w2.heap.size w2 w') => hP.kept hb (Nat.le_refl _)); have HT2 := Lib.hid (HT1.out.kept hb2); have HB2 := Lib.hid (HB1.out.trans (hb2.mono HB1.out.size)); clear hP hfr hb2; refine Hid.out ?_)
    | fail)
  clear HT1 HB1 HLW
  obtain ⟨n, hn⟩ : ∃ n, n = l.length := ⟨_, rfl⟩
  have HN := Lib.hid hn
  have hn12' : n ≤ 12 := by omega
  rw [← hn] at HSU ⊢
  clear hn
  refine Lib.hid ?_
  go_wp2_with fail
  go_loopw [7, 8, 20] (fun vb vm i wr => ∃ (k M : Nat) (B : Int), k ≤ n ∧ i = .int .i64 (k : Int) ∧ vb = .int .i64 B ∧ vm = .int .i64 (M : Int) ∧ Hid (BI l a b (sL l) k B M) ∧ Hid (Below w2.heap.size w2 wr)) (fun _ _ i _ => n - (intOf i).toNat)
  case atStart => exact ⟨0, 0, 0, Nat.zero_le _, rfl, rfl, rfl, Lib.hid (bi_zero l a b (sL l)), Lib.hid (Below.refl _ _)⟩
  case round =>
    obtain ⟨k, M, B, hk, rfl, rfl, rfl, hBI, hB⟩ := hrel
    have hzB := hB.out.size
    by_cases hlt : k < n
    · have hks : k < (sL l).length := by rw [HSL.out, ← HN.out]; exact hlt
      obtain ⟨bb, off, hA2, hbl, p0⟩ := (HP2.out _ hB.out).at_ hks
      subst hA2
      obtain ⟨x0, x1⟩ := HAT.out k hks
      obtain ⟨q9, q0, q1⟩ := HT2.out.kept hB.out
      have HM1 := Lib.hid (fun hg => HMORE.out k B M hBI.out hg)
      have HM2 := Lib.hid (fun hg => HSKIP.out k B M hBI.out hks hg)
      have hk0 : (0 : Int) ≤ (k : Int) := by omega
      have hkn : (k : Int) < (n : Int) := by omega
      have hf0 := lf0
      generalize (sL l).getD k 0 = x at *
      clear hks hBI
      have HC := Lib.hid (fun w' => lev_lit x a b w' ⟨x0, x1⟩ (by omega) (by omega))
      have HS := Lib.hid (HSU.out (x + a) (by omega))
      have HCL := Lib.hid (show (suL l a b (x + a)).length ≤ l.length from cnt_le l a b (x + a))
      change Hid (M < (suL l a b (x + a)).length → BI l a b (sL l) (k + 1) (x + a) (suL l a b (x + a)).length) at HM1
      change Hid (¬ M < (suL l a b (x + a)).length → BI l a b (sL l) (k + 1) B M) at HM2
      generalize suL l a b (x + a) = L at *
      by_cases hg : M < L.length
      · have HM := Lib.hid (HM1.out hg)
        have g1 : decide ((M : Int) < (L.length : Int)) = true := by simp; omega
        have g2 : decide (M < L.length) = true := by simp; omega
        clear HM1 HM2 hg
        refine Hid.out ?_
        refine Lib.hid ?_
        go_wp2_with (first
          | (go_at_call 54; refine (HC.out _).mono ?_; rintro e wx ⟨rfl, hbx⟩; have HBX := Lib.hid (hB.out.trans (hbx.mono hzB)); clear q9 q0 q1; obtain ⟨q9, q0, q1⟩ := HT2.out.kept HBX.out; clear hbx)
          | (go_at_call 51; refine (HS.out _ (HB2.out.trans (HBX.out.mono HB2.out.size))).mono ?_; rintro e wy ⟨g, c, rfl, hg, hO, hby⟩; have HBY := Lib.hid (HBX.out.trans (hby.mono HBX.out.size)); clear hby hO hg)
          | fail)
        go_roundw
        case rel => exact ⟨k + 1, L.length, x + a, by omega, by go_num, rfl, rfl, HM, HBY⟩
        case measure => simp [intOf]; omega
      · have HM := Lib.hid (HM2.out hg)
        have g1 : decide ((M : Int) < (L.length : Int)) = false := by simp; omega
        have g2 : decide (M < L.length) = false := by simp; omega
        clear HM1 HM2 hg
        refine Hid.out ?_
        refine Lib.hid ?_
        go_wp2_with (first
          | (go_at_call 54; refine (HC.out _).mono ?_; rintro e wx ⟨rfl, hbx⟩; have HBX := Lib.hid (hB.out.trans (hbx.mono hzB)); clear q9 q0 q1; obtain ⟨q9, q0, q1⟩ := HT2.out.kept HBX.out; clear hbx)
          | (go_at_call 51; refine (HS.out _ (HB2.out.trans (HBX.out.mono HB2.out.size))).mono ?_; rintro e wy ⟨g, c, rfl, hg, hO, hby⟩; have HBY := Lib.hid (HBX.out.trans (hby.mono HBX.out.size)); clear hby hO hg)
          | fail)
        go_roundw
        case rel => exact ⟨k + 1, M, B, by omega, by go_num, rfl, rfl, HM, HBY⟩
        case measure => simp [intOf]; omega
    · have hkN : k = (sL l).length := by rw [HSL.out, ← HN.out]; omega
      have hP := hBI.out
      rw [hkN] at hP
      obtain ⟨e1, e2⟩ := HEND.out B M hP
      subst e1 e2
      clear hkN hP
      go_wp2
      go_ret3
      exact ⟨rfl, HB2.out.trans (hB.out.mono HB2.out.size)⟩
set_option maxHeartbeats 4000000 in
set_option maxRecDepth 100000 in
theorem sbs_yes (A : Option Addr) (cap : Nat) (l : List Int) (a b : Int) (w : World) (hI : IAt w A l) (hl : l.length ≤ 1048576) (hq : ZAsk l a b) :
    Calls Try.prog 31 #[.slice A l.length cap, rv a b] w (TwoN w (bsB l a b) (bsM l a b : Int) true) := by
  have HB0 := Lib.hid (alloc_below w (rb 25 a b))
  have HA := Lib.hid (fun w' (hb : Below w.heap.size w w') => sask_v (askB_iff.2 hq) A cap w' (hI.kept hb (Nat.le_refl _)) hl)
  have HT0 := Lib.hid (BT.new w 25 a b)
  have HSU := Lib.hid (fun h (hh : -5000 ≤ h ∧ h ≤ 5000) w' (hb : Below w.heap.size w w') => ssuited_any A cap l a b h w' (hI.kept hb (Nat.le_refl _)) hq hh)
  have ha1 := hq.a1
  have hab := hq.ab
  have hb1 := hq.b1
  have hn12 := hq.n
  have HEND := Lib.hid (fun B M (h : BK l a b 2001 B M) => bs_is (bk_end h))
  have HZ := Lib.hid (bk_zero hq)
  clear hI hq
  generalize bsB l a b = RB at *
  generalize bsM l a b = RM at *
  go_enter Try.func31, Try.ntmps31
  refine Hid.out ?_
  obtain ⟨_, q0, q1⟩ := HT0.out
  refine Lib.hid ?_
  go_wp2_with (first
    | (go_at_call 46; refine (HA.out _ HB0.out).mono ?_; rintro e w2 ⟨rfl, hb1⟩; have HB2 := Lib.hid (HB0.out.trans (hb1.mono HB0.out.size)); have HT2 := Lib.hid (HT0.out.kept hb1); clear hb1)
    | fail)
  clear q0 q1 HT0 HA HB0
  go_loopw [7, 8, 9] (fun vb vm i wr => ∃ (k M : Nat) (B : Int), k ≤ 2001 ∧ i = .int .i64 (k : Int) ∧ vb = .int .i64 B ∧ vm = .int .i64 (M : Int) ∧ M ≤ l.length ∧ Hid (BK l a b k B M ∧ B ≤ k) ∧ Hid (Below w2.heap.size w2 wr)) (fun _ _ i _ => 2001 - (intOf i).toNat)
  case atStart => exact ⟨0, 0, 0, Nat.zero_le _, rfl, rfl, rfl, Nat.zero_le _, Lib.hid ⟨HZ.out, Int.le_refl _⟩, Lib.hid (Below.refl _ _)⟩
  case round =>
    obtain ⟨k, M, B, hk, rfl, rfl, rfl, hM12, hBK, hB⟩ := hrel
    have hzB := hB.out.size
    by_cases hlt : k ≤ 2000
    · obtain ⟨q9, q0, q1⟩ := HT2.out.kept hB.out
      have HM1 := Lib.hid (fun hg => bk_more hBK.out.1 hlt hg)
      have HM2 := Lib.hid (fun hg => bk_skip hBK.out.1 hBK.out.2 hg)
      have HBL := Lib.hid hBK.out.2
      have hlt1 : decide ((k : Int) ≤ 2000) = true := decide_eq_true (by omega)
      have HS := Lib.hid (HSU.out (k : Int) (by omega))
      have HCL := Lib.hid (show (suL l a b (k : Int)).length ≤ l.length from cnt_le l a b (k : Int))
      change Hid (M < (suL l a b (k : Int)).length → BK l a b (k + 1) (k : Int) (suL l a b (k : Int)).length) at HM1
      change Hid (¬ M < (suL l a b (k : Int)).length → BK l a b (k + 1) B M) at HM2
      clear hBK
      generalize suL l a b (k : Int) = L at *
      by_cases hg : M < L.length
      · have HM := Lib.hid (HM1.out hg)
        have g1 : decide ((M : Int) < (L.length : Int)) = true := by simp; omega
        have g2 : decide (M < L.length) = true := by simp; omega
        clear HM1 HM2 hg
        refine Hid.out ?_
        refine Lib.hid ?_
        go_wp2_with (first
          | (go_at_call 48; refine (HS.out _ (HB2.out.trans (hB.out.mono HB2.out.size))).mono ?_; rintro e wy ⟨g, c, rfl, hg, hO, hby⟩; have HBY := Lib.hid (hB.out.trans (hby.mono hzB)); clear hby hO hg)
          | fail)
        go_roundw
        case rel => exact ⟨k + 1, L.length, (k : Int), by omega, by go_num, rfl, rfl, HCL.out, Lib.hid ⟨HM.out, by omega⟩, HBY⟩
        case measure => simp [intOf]; omega
      · have HM := Lib.hid (HM2.out hg)
        have g1 : decide ((M : Int) < (L.length : Int)) = false := by simp; omega
        have g2 : decide (M < L.length) = false := by simp; omega
        clear HM1 HM2 hg
        refine Hid.out ?_
        refine Lib.hid ?_
        go_wp2_with (first
          | (go_at_call 48; refine (HS.out _ (HB2.out.trans (hB.out.mono HB2.out.size))).mono ?_; rintro e wy ⟨g, c, rfl, hg, hO, hby⟩; have HBY := Lib.hid (hB.out.trans (hby.mono hzB)); clear hby hO hg)
          | fail)
        go_roundw
        case rel => exact ⟨k + 1, M, B, by omega, by go_num, rfl, rfl, hM12, Lib.hid ⟨HM.out, by have := HBL.out; omega⟩, HBY⟩
        case measure => simp [intOf]; omega
    · have hkN : k = 2001 := by omega
      have hP := hBK.out.1
      rw [hkN] at hP
      obtain ⟨e1, e2⟩ := HEND.out B M hP
      subst e1 e2
      have hlt1 : decide ((k : Int) ≤ 2000) = false := decide_eq_false (by omega)
      clear hkN hP
      go_wp2
      go_ret3
      exact ⟨rfl, HB2.out.trans (hB.out.mono HB2.out.size)⟩
end Go.Proofs.Ytjfpimldiokpbaa.S12
