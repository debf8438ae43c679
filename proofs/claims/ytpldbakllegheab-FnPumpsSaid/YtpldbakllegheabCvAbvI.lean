/- IsAbove, the program's: contracts. Conditions: each theorem's own premises. -/
import Derived.Test.YtpldbakllegheabCvAbv
import Derived.Test.YtpldbakllegheabCvRaise
namespace Go.Proofs.Ytpldbakllegheab.S7
open Go.RowKit Go.Sort P7

set_option maxHeartbeats 4000000 in
theorem above_no (A A2 : Option Addr) (c c2 : Nat) (a b : List Cp) (w : World) (h : CAt w A a) (hm : a.length ≤ 1048576) (k : CAt w A2 b) (km : b.length ≤ 1048576) (hn : (gB a && gB b) = false) :
    Calls Try.prog 25 #[.slice A a.length c, .slice A2 b.length c2] w (APost a b w) := by
  have hfin := Lib.hid (abA_no hn)
  obtain ⟨v, hv⟩ : ∃ v, gB a = v := ⟨_, rfl⟩
  obtain ⟨v2, hv2⟩ : ∃ v, gB b = v := ⟨_, rfl⟩
  have H1 := Lib.hid (valid_w hv A c w h hm)
  have H2 := Lib.hid (fun w' (hb : Below w.heap.size w w') => valid_w hv2 A2 c2 w' (k.kept hb (Nat.le_refl _)) km)
  rw [hv, hv2] at hn
  clear h k hv hv2
  go_enter Try.func25, Try.ntmps25
  cases v with
  | false =>
    clear hn
    go_wp2_with (go_at_call 23; refine H1.out.mono ?_; rintro e w1 ⟨rfl, hb1⟩)
    go_ret2
    exact apost_of hfin.out hb1
  | true =>
    have e : v2 = false := by simpa using hn
    subst e
    clear hn
    go_wp2_with (first
      | (go_at_call_of 23 (Value.slice A2 b.length c2); refine (H2.out _ hb1).mono ?_; rintro e w2 ⟨rfl, hb2⟩)
      | (go_at_call 23; refine H1.out.mono ?_; rintro e w1 ⟨rfl, hb1⟩))
    go_ret2
    exact apost_of hfin.out (hb1.trans (hb2.mono hb1.size))

set_option maxHeartbeats 8000000 in
set_option maxRecDepth 100000 in
theorem above_cap (A A2 : Option Addr) (c c2 : Nat) (a b : List Cp) (w : World) (h : CAt w A a) (hm : a.length ≤ 1048576) (h1 : a.length ≤ c) (h9 : c ≤ maxLen) (k : CAt w A2 b) (km : b.length ≤ 1048576) (k1 : b.length ≤ c2) (k9 : c2 ≤ maxLen) :
    Calls Try.prog 25 #[.slice A a.length c, .slice A2 b.length c2] w (APost a b w) := by
  cases hn : gB a && gB b with
  | false => exact above_no A A2 c c2 a b w h hm k km hn
  | true =>
    simp only [Bool.and_eq_true] at hn
    obtain ⟨hv, hv2⟩ := hn
    have g1 := gB_of hv
    have g2 := gB_of hv2
    have ha0 := g1.1
    have ha9 := g1.2.1
    have hb0 := g2.1
    have hb9 := g2.2.1
    have hR := Lib.hid (abA_yes hv hv2)
    have H1 := Lib.hid (valid_w hv A c w h hm)
    have H2 := Lib.hid (fun w' (hb : Below w.heap.size w w') => valid_w hv2 A2 c2 w' (k.kept hb (Nat.le_refl _)) km)
    have HB := Lib.hid (fun f w' (hb : Below w.heap.size w w') => below_any A A2 c c2 a b f w' (h.kept hb (Nat.le_refl _)) hm h1 h9 (k.kept hb (Nat.le_refl _)) km k1 k9)
    obtain ⟨b1, o1, hA, hl1, _, _⟩ := h.at_ (show 0 < a.length by omega)
    obtain ⟨b2, o2, hA2, hl2, _, _⟩ := k.at_ (show 0 < b.length by omega)
    subst hA hA2
    have HX := Lib.hid (fun w' (hb : Below w.heap.size w w') => ccs_at (h.kept hb (Nat.le_refl _)))
    have HY := Lib.hid (fun w' (hb : Below w.heap.size w w') => ccs_at (k.kept hb (Nat.le_refl _)))
    clear h k hv hv2 g1 g2
    go_enter Try.func25, Try.ntmps25
    go_wp2_with (first
      | (go_at_call_of 23 (Value.slice (some { block := b2, off := o2, spot := none }) b.length c2); refine (H2.out _ hb1).mono ?_; rintro e w2 ⟨rfl, hb2⟩)
      | (go_at_call 23; refine H1.out.mono ?_; rintro e w1 ⟨rfl, hb1⟩)
      | (go_at_call 58; have hB2 := Lib.hid (hb1.trans (hb2.mono hb1.size)); have hz2 := hB2.out.size; have hB3 := Lib.hid (hB2.out.alloc hz2 (.cells #[.slice (some ⟨b1, o1, none⟩) a.length c, .slice (some ⟨b2, o2, none⟩) b.length c2] 24)); refine (concat_any w2.heap.size a.length b.length c c2 ⟨b1, o1, none⟩ ⟨b2, o2, none⟩ (ccs a) (ccs b) (w2.alloc (.cells #[.slice (some ⟨b1, o1, none⟩) a.length c, .slice (some ⟨b2, o2, none⟩) b.length c2] 24)) (by simp) (by go_simp) (by go_simp) (ccs_len a) (ccs_len b) (ccs_one a) (ccs_one b) (fun w' hb => HX.out w' (hB3.out.trans (hb.mono (Nat.le_trans hz2 (by simp))))) (fun w' hb => HY.out w' (hB3.out.trans (hb.mono (Nat.le_trans hz2 (by simp))))) (by omega) (by omega)).mono ?_; rintro e w4 ⟨gc, cc, rfl, hoc, hb4⟩; have HO := Lib.hid hoc; have hB4 := Lib.hid (hB3.out.trans (hb4.mono (Nat.le_trans hz2 (by simp)))); clear hoc hb4))
    have HCT := Lib.hid (show CAt w4 (some ⟨gc, 0, none⟩) (a ++ b) by
      have h := HO.out
      rw [← ccs_app, ← List.length_append] at h
      exact own_cat h)
    have HLE := Lib.hid (show (a ++ b).length = a.length + b.length by simp)
    have hL1 : 1 ≤ a.length + b.length := by omega
    have hL9 : a.length + b.length ≤ 12 := by omega
    clear HO HX HY
    go_loopw [21] (fun i wr => ∃ k : Nat, k ≤ a.length + b.length ∧ i = .int .i64 k ∧ Hid (NoB a b k) ∧ Below w4.heap.size w4 wr ∧ Below w.heap.size w wr) (fun i _ => a.length + b.length - (intOf i).toNat)
    case atStart => exact ⟨0, Nat.zero_le _, rfl, Lib.hid (NoB.zero _ _), Below.refl _ _, hB4.out⟩
    case round =>
      obtain ⟨k, hk, rfl, hno, hb4, hbw⟩ := hrel
      by_cases hlt : k < a.length + b.length
      · obtain ⟨bb, oo, hA, hbl, c0, c1⟩ := (HCT.out.kept hb4 (Nat.le_refl _)).at_ (show k < (a ++ b).length by rw [HLE.out]; exact hlt)
        simp only [Option.some.injEq, Addr.mk.injEq, and_true] at hA
        obtain ⟨rfl, rfl⟩ := hA
        rw [Nat.zero_add] at c0 c1
        have hk0 : (0 : Int) ≤ (k : Int) := by omega
        have hkn : (k : Int) < (a.length : Int) + (b.length : Int) := by omega
        have hz := hbw.size
        have HBX := Lib.hid (fun x y => hbw.alloc hz (.cells #[.int .i64 x, .int .i64 y] 38))
        have HB4X := Lib.hid (fun x y => hb4.alloc hb4.size (.cells #[.int .i64 x, .int .i64 y] 38))
        obtain ⟨q, hq⟩ : ∃ q, belB a b (cAt (a ++ b) k).fl = q := ⟨_, rfl⟩
        have HN := Lib.hid (fun h => NoB.next hno.out (hq.trans h))
        have HF := Lib.hid (fun h => abv_no (show k < (a ++ b).length by rw [HLE.out]; exact hlt) (hq.trans h))
        have HQ := Lib.hid (fun w' hb => HB.out (cAt (a ++ b) k).fl w' hb)
        rw [hq] at HQ
        generalize (cAt (a ++ b) k).fl = x at *
        generalize (cAt (a ++ b) k).hd = y at *
        clear hq
        cases q with
        | true =>
          have hfin := Lib.hid (hR.out.trans (by rw [HF.out rfl]))
          clear HN HF
          go_wp2_with (go_at_call 59; refine (HQ.out _ (HBX.out x y)).mono ?_; rintro e w5 ⟨rfl, hb5⟩)
          go_ret2
          exact apost_of hfin.out ((HBX.out x y).trans (hb5.mono (Nat.le_trans hz (by simp))))
        | false =>
          have HN2 := Lib.hid (HN.out rfl)
          clear HN HF
          have hz4 := hb4.size
          go_wp2_with (go_at_call 59; refine (HQ.out _ (HBX.out x y)).mono ?_; rintro e w5 ⟨rfl, hb5⟩)
          go_roundw
          case rel => exact ⟨k + 1, by omega, by go_num, HN2, (HB4X.out x y).trans (hb5.mono (Nat.le_trans hz4 (by simp))), (HBX.out x y).trans (hb5.mono (Nat.le_trans hz (by simp)))⟩
          case measure => simp [intOf]; omega
      · have e : k = a.length + b.length := by omega
        have hfin := Lib.hid (hR.out.trans (by rw [abv_yes (by rw [HLE.out, ← e]; exact hno.out)]))
        have hlt2 : ¬ ((k : Int) < (a.length : Int) + (b.length : Int)) := by omega
        go_wp2
        go_ret2
        exact apost_of hfin.out hbw
theorem above_any (A A2 : Option Addr) (c c2 : Nat) (a b : List Cp) (w : World) (h : CAt w A a) (hm : a.length ≤ 1048576) (h1 : a.length ≤ c) (h9 : c ≤ 1048576) (k : CAt w A2 b) (km : b.length ≤ 1048576) (k1 : b.length ≤ c2) (k9 : c2 ≤ 1048576) :
    Calls Try.prog 25 #[.slice A a.length c, .slice A2 b.length c2] w (APost a b w) :=
  above_cap A A2 c c2 a b w h hm h1 (cap_ok h9) k km k1 (cap_ok k9)
end Go.Proofs.Ytpldbakllegheab.S7
