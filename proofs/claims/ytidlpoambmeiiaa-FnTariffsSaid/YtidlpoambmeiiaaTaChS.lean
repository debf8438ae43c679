/- CheaperFrom of the model: contracts. Conditions: each theorem's own premises. -/
import Derived.Test.YtidlpoambmeiiaaTaCh
import Derived.Test.YtidlpoambmeiiaaTaGoodS
namespace Go.Proofs.Ytidlpoambmeiiaa.S14
open Go.RowKit P14

/-- The block at hand, or the next one, is that of the cubic meter behind n. -/
def PV (t : Ta) (n : Int) (i : Nat) : Prop := i < t.bs.length ∧ NX t n (if (cAt t.bs i).up < n + 1 then i + 1 else i)
theorem PV.zero {t : Ta} (g : P14.Good t) : PV t 0 0 := by
  have hl := g.2.1
  have h0 := g.at_ (i := 0) (by omega)
  have hp : pre t.bs 0 = 0 := rfl
  have hn : ¬ (cAt t.bs 0).up < 0 + 1 := by omega
  exact ⟨by omega, by rw [if_neg hn]; exact ⟨by omega, by omega, by rw [hp]; exact Int.le_refl _⟩⟩
theorem PV.next {t : Ta} (g : P14.Good t) {n : Int} {i : Nat} (h : NX t n i) (h9 : n + 1 < 100000) : PV t (n + 1) i := by
  refine ⟨h.1, ?_⟩
  have := h.step g h9
  rwa [show n + 2 = n + 1 + 1 by omega] at this
set_option maxHeartbeats 8000000 in
set_option maxRecDepth 100000 in
theorem scheap_any (a b : Ta) (A : Option Addr) (c : Nat) (B : Option Addr) (d : Nat) (w : World) (ha : TAt w a A) (hb : TAt w b B) :
    Calls Try.prog 30 #[tv a A c, tv b B d] w (ChI a b w) := by
  have HC0 := Lib.hid (CT.new w 29 29 a b A c B d)
  obtain ⟨v1, hv1⟩ : ∃ v, gB a = v := ⟨_, rfl⟩
  obtain ⟨v2, hv2⟩ : ∃ v, gB b = v := ⟨_, rfl⟩
  have H1 := Lib.hid (fun w' (hbw : Below w.heap.size w w') => sgood_w hv1 A c w' (ha.kept hbw))
  have H2 := Lib.hid (fun w' (hbw : Below w.heap.size w w') => sgood_w hv2 B d w' (hb.kept hbw))
  have HTA := Lib.hid ha.x
  have HTB := Lib.hid hb.x
  clear ha hb
  cases v1 with
  | false =>
    have HN := Lib.hid (cfB_bad (a := a) (b := b) (.inl hv1))
    clear hv1 hv2
    go_enter Try.func30, Try.ntmps30
    go_wp2_with (first | (go_at_call 53; refine (H1.out _ HC0.out.bw).mono ?_; rintro e w1 ⟨rfl, hb1⟩; have HB1 := Lib.hid (HC0.out.call hb1).bw; clear hb1; refine Hid.out ?_) | fail)
    refine Lib.hid ?_
    go_wp2_with fail
    go_ret2
    exact ch_no HN.out HB1.out
  | true =>
    cases v2 with
    | false =>
      have HN := Lib.hid (cfB_bad (a := a) (b := b) (.inr hv2))
      clear hv1 hv2
      go_enter Try.func30, Try.ntmps30
      go_wp2_with (first | (go_at_call 53; refine (H1.out _ HC0.out.bw).mono ?_; rintro e w1 ⟨rfl, hb1⟩; have HC1 := Lib.hid (HC0.out.call hb1); clear hb1; refine Hid.out ?_) | fail)
      obtain ⟨⟨_, q0, q1, _⟩, ⟨_, q2, q3, _⟩, _⟩ := HC1.out
      clear HC0 H1
      refine Lib.hid ?_
      go_wp2_with (first | (go_at_call 53; refine (H2.out _ HC1.out.bw).mono ?_; rintro e w2 ⟨rfl, hb2⟩; have HB2 := Lib.hid (HC1.out.call hb2).bw; clear hb2; refine Hid.out ?_) | fail)
      refine Lib.hid ?_
      go_wp2_with fail
      go_ret2
      exact ch_no HN.out HB2.out
    | true =>
      have HGA := Lib.hid hv1
      have HGB := Lib.hid hv2
      have hla := (gB_of hv1).2.1.2
      have hlb := (gB_of hv2).2.1.2
      have hfa := (gB_of hv1).1
      have hfb := (gB_of hv2).1
      have HZ := Lib.hid (show gap a b ((0 : Nat) : Int) = a.fee - b.fee by have h1 := cost_zero (gB_of hv1); have h2 := cost_zero (gB_of hv2); simp only [Int.natCast_zero]; unfold gap; omega)
      clear hv1 hv2
      go_enter Try.func30, Try.ntmps30
      go_wp2_with (first | (go_at_call 53; refine (H1.out _ HC0.out.bw).mono ?_; rintro e w1 ⟨rfl, hb1⟩; have HC1 := Lib.hid (HC0.out.call hb1); clear hb1; refine Hid.out ?_) | fail)
      obtain ⟨⟨_, q0, q1, _⟩, ⟨_, q2, q3, _⟩, _⟩ := HC1.out
      clear HC0 H1
      refine Lib.hid ?_
      go_wp2_with (first | (go_at_call 53; refine (H2.out _ HC1.out.bw).mono ?_; rintro e w2 ⟨rfl, hb2⟩; have HC2 := Lib.hid (HC1.out.call hb2); clear hb2; refine Hid.out ?_) | fail)
      clear q0 q1 q2 q3 HC1 H2
      obtain ⟨⟨_, q0, q1, _⟩, ⟨_, q2, q3, _⟩, _⟩ := HC2.out
      by_cases hgz : 0 < a.fee - b.fee
      · have HX := Lib.hid (show CF a b 0 from ⟨by omega, by rw [HZ.out]; exact hgz, fun m hm => absurd hm (by omega)⟩)
        refine Lib.hid ?_
        go_wp2_with fail
        go_ret2
        exact ch_yes (n := 0) HGA.out HGB.out HX.out HC2.out.bw
      · have HI0 := Lib.hid (show ∀ m : Nat, m ≤ 0 → gap a b (m : Int) ≤ 0 from fun m hm => by
          have e : m = 0 := by omega
          subst e; rw [HZ.out]; omega)
        refine Lib.hid ?_
        go_wp2_with fail
        clear q0 q1 q2 q3 hfa hfb
        go_loopw [6, 7, 8, 9] (fun gp i k v wr => ∃ (n I K : Nat) (V : Int), n ≤ 100000 ∧ gp = .int .i64 (gap a b (n : Int)) ∧ i = .int .i64 (I : Int) ∧ k = .int .i64 (K : Int) ∧ v = .int .i64 V ∧ Hid (V = (n : Int) + 1) ∧ Hid (∀ m : Nat, m ≤ n → gap a b (m : Int) ≤ 0) ∧ Hid (n < 100000 → PV a (n : Int) I ∧ PV b (n : Int) K) ∧ Hid (Below w2.heap.size w2 wr)) (fun _ _ _ v _ => (100001 - intOf v).toNat)
        case atStart => exact ⟨0, 0, 0, 1, Nat.zero_le _, by rw [HZ.out], rfl, rfl, rfl, Lib.hid rfl, HI0, Lib.hid (fun _ => ⟨PV.zero (gB_of HGA.out), PV.zero (gB_of HGB.out)⟩), Lib.hid (Below.refl _ _)⟩
        case round =>
          clear HZ HI0 hgz
          obtain ⟨n, I, K, V, hn, rfl, rfl, rfl, rfl, HVE, hno, hpv, HB⟩ := hrel
          have HC := Lib.hid (HC2.out.call HB.out)
          by_cases hlt : n < 100000
          · have hV9 : V ≤ 100000 := by have := HVE.out; omega
            have hV1 : 1 ≤ V := by have := HVE.out; omega
            obtain ⟨⟨hI, hI2⟩, hK, hK2⟩ := hpv.out hlt
            obtain ⟨⟨_, q0, q1, _⟩, ⟨_, q2, q3, _⟩, hbw⟩ := HC.out
            have HAK := Lib.hid (HTA.out.kept hbw (Nat.le_refl _))
            have HBK := Lib.hid (HTB.out.kept hbw (Nat.le_refl _))
            obtain ⟨ba, oa, hA, hal, a0, a1⟩ := HAK.out.at_ hI
            obtain ⟨bb, ob, hB, hbl, b0, b1⟩ := HBK.out.at_ hK
            subst hA hB
            have hI0 : (0 : Int) ≤ (I : Int) := by omega
            have hIn : (I : Int) < (a.bs.length : Int) := by omega
            have hK0 : (0 : Int) ≤ (K : Int) := by omega
            have hKn : (K : Int) < (b.bs.length : Int) := by omega
            have hgl := cost_le (gB_of HGA.out) (n : Int)
            have hgl2 := cost_le (gB_of HGB.out) (n : Int)
            have hgf := (gB_of HGA.out).1
            have hgf2 := (gB_of HGB.out).1
            have hgr : -600000000 ≤ gap a b (n : Int) ∧ gap a b (n : Int) ≤ 600000000 := by unfold gap; omega
            obtain ⟨hgr0, hgr9⟩ := hgr
            have HST := Lib.hid (fun (i k : Nat) (hi : NX a (n : Int) i) (hk : NX b (n : Int) k) => show gap a b ((n : Int) + 1) = gap a b (n : Int) + (cAt a.bs i).pr - (cAt b.bs k).pr from by
              unfold gap; rw [cost_next (gB_of HGA.out) hi, cost_next (gB_of HGB.out) hk]; omega)
            have HNP := Lib.hid (fun (i k : Nat) (hi : NX a (n : Int) i) (hk : NX b (n : Int) k) => show n + 1 < 100000 → PV a ((n + 1 : Nat) : Int) i ∧ PV b ((n + 1 : Nat) : Int) k from fun h => by
              have e : ((n + 1 : Nat) : Int) = (n : Int) + 1 := by omega
              rw [e]
              exact ⟨PV.next (gB_of HGA.out) hi (by omega), PV.next (gB_of HGB.out) hk (by omega)⟩)
            have HAT := Lib.hid (fun i (h : i < a.bs.length) => (gB_of HGA.out).at_ h)
            have HBT := Lib.hid (fun i (h : i < b.bs.length) => (gB_of HGB.out).at_ h)
            have HNN := Lib.hid (show ((n + 1 : Nat) : Int) = (n : Int) + 1 by omega)
            have HNG := Lib.hid (show gap a b ((n : Int) + 1) ≤ 0 → ∀ m : Nat, m ≤ n + 1 → gap a b (m : Int) ≤ 0 from fun h m hm => by
              by_cases e : m = n + 1
              · subst e; rw [HNN.out]; exact h
              · exact hno.out m (by omega))
            have HYS := Lib.hid (show 0 < gap a b ((n : Int) + 1) → CF a b (n + 1) from fun h => ⟨by omega, by rw [HNN.out]; exact h, fun m hm => hno.out m (by omega)⟩)
            clear hgl hgl2 hgf hgf2 hpv hno
            by_cases hx : (cAt a.bs I).up < (n : Int) + 1
            · by_cases hy : (cAt b.bs K).up < (n : Int) + 1
              · skip
                have hIX : NX a (n : Int) (I + 1) := by rw [if_pos hx] at hI2; exact hI2
                have hKX : NX b (n : Int) (K + 1) := by rw [if_pos hy] at hK2; exact hK2
                obtain ⟨ba', oa', hA, _, _, a2⟩ := HAK.out.at_ hIX.1
                obtain ⟨bb', ob', hB, _, _, b2⟩ := HBK.out.at_ hKX.1
                simp only [Option.some.injEq, Addr.mk.injEq, and_true] at hA hB
                obtain ⟨rfl, rfl⟩ := hA
                obtain ⟨rfl, rfl⟩ := hB
                have hI5 : (((I + 1) : Nat) : Int) < (a.bs.length : Int) := by have := hIX.1; omega
                have hK5 : (((K + 1) : Nat) : Int) < (b.bs.length : Int) := by have := hKX.1; omega
                have hI6 : (0 : Int) ≤ (((I + 1) : Nat) : Int) := by omega
                have hK6 : (0 : Int) ≤ (((K + 1) : Nat) : Int) := by omega
                have hG := HST.out (I + 1) (K + 1) hIX hKX
                have HPN := Lib.hid (HNP.out (I + 1) (K + 1) hIX hKX)
                have hp1 := (HAT.out (I + 1) hIX.1).2
                have hp2 := (HBT.out (K + 1) hKX.1).2
                have hxv : (cAt a.bs I).up < V := by rw [HVE.out]; exact hx
                have hyv : (cAt b.bs K).up < V := by rw [HVE.out]; exact hy
                have HLT := Lib.hid hlt
                clear hI2 hK2 hIX hKX hx hy hlt hn
                simp only [Int.natCast_add, Int.natCast_one] at hI5 hI6
                simp only [Int.natCast_add, Int.natCast_one] at hK5 hK6
                generalize (cAt a.bs (I + 1)).pr = pa at *
                generalize (cAt b.bs (K + 1)).pr = pb at *
                generalize (cAt a.bs I).up = xa at *
                generalize (cAt b.bs K).up = xb at *
                obtain ⟨p10, p19⟩ := hp1
                obtain ⟨p20, p29⟩ := hp2
                have hw1 : IntKind.i64.wrap (gap a b (n : Int) + pa) = gap a b (n : Int) + pa := IntWalk.i64_in _ (by omega)
                have hw2 : IntKind.i64.wrap (gap a b (n : Int) + pa - pb) = gap a b (n : Int) + pa - pb := IntWalk.i64_in _ (by omega)
                have HGG := Lib.hid hG
                clear hG
                generalize gap a b (n : Int) = G at *
                by_cases hpos : 0 < G + pa - pb
                · have HX := Lib.hid (HYS.out (by rw [HGG.out]; exact hpos))
                  go_wp2
                  go_quiet (fail)
                  go_wp2
                  go_ret2
                  rw [show V = ((n + 1 : Nat) : Int) by rw [HNN.out]; exact HVE.out]
                  exact ch_yes HGA.out HGB.out HX.out (below_drewN HC.out.bw _)
                · have HX := Lib.hid (HNG.out (by rw [HGG.out]; omega))
                  go_wp2
                  go_quiet (fail)
                  go_wp2
                  go_roundw
                  case rel => exact ⟨n + 1, (I + 1), (K + 1), V + 1, HLT.out, by rw [HNN.out, HGG.out], by simp, by simp, rfl, Lib.hid (by rw [HNN.out, HVE.out]), HX, HPN, Lib.hid (below_drewN HB.out _)⟩
                  case measure => simp [intOf]; omega
              · skip
                have hIX : NX a (n : Int) (I + 1) := by rw [if_pos hx] at hI2; exact hI2
                have hKX : NX b (n : Int) K := by rw [if_neg hy] at hK2; exact hK2
                obtain ⟨ba', oa', hA, _, _, a2⟩ := HAK.out.at_ hIX.1
                obtain ⟨bb', ob', hB, _, _, b2⟩ := HBK.out.at_ hKX.1
                simp only [Option.some.injEq, Addr.mk.injEq, and_true] at hA hB
                obtain ⟨rfl, rfl⟩ := hA
                obtain ⟨rfl, rfl⟩ := hB
                have hI5 : (((I + 1) : Nat) : Int) < (a.bs.length : Int) := by have := hIX.1; omega
                have hK5 : ((K : Nat) : Int) < (b.bs.length : Int) := by have := hKX.1; omega
                have hI6 : (0 : Int) ≤ (((I + 1) : Nat) : Int) := by omega
                have hK6 : (0 : Int) ≤ ((K : Nat) : Int) := by omega
                have hG := HST.out (I + 1) K hIX hKX
                have HPN := Lib.hid (HNP.out (I + 1) K hIX hKX)
                have hp1 := (HAT.out (I + 1) hIX.1).2
                have hp2 := (HBT.out K hKX.1).2
                have hxv : (cAt a.bs I).up < V := by rw [HVE.out]; exact hx
                have hyv : ¬ (cAt b.bs K).up < V := by rw [HVE.out]; exact hy
                have HLT := Lib.hid hlt
                clear hI2 hK2 hIX hKX hx hy hlt hn
                simp only [Int.natCast_add, Int.natCast_one] at hI5 hI6
                generalize (cAt a.bs (I + 1)).pr = pa at *
                generalize (cAt b.bs K).pr = pb at *
                generalize (cAt a.bs I).up = xa at *
                generalize (cAt b.bs K).up = xb at *
                obtain ⟨p10, p19⟩ := hp1
                obtain ⟨p20, p29⟩ := hp2
                have hw1 : IntKind.i64.wrap (gap a b (n : Int) + pa) = gap a b (n : Int) + pa := IntWalk.i64_in _ (by omega)
                have hw2 : IntKind.i64.wrap (gap a b (n : Int) + pa - pb) = gap a b (n : Int) + pa - pb := IntWalk.i64_in _ (by omega)
                have HGG := Lib.hid hG
                clear hG
                generalize gap a b (n : Int) = G at *
                by_cases hpos : 0 < G + pa - pb
                · have HX := Lib.hid (HYS.out (by rw [HGG.out]; exact hpos))
                  go_wp2
                  go_quiet (fail)
                  go_wp2
                  go_ret2
                  rw [show V = ((n + 1 : Nat) : Int) by rw [HNN.out]; exact HVE.out]
                  exact ch_yes HGA.out HGB.out HX.out (below_drewN HC.out.bw _)
                · have HX := Lib.hid (HNG.out (by rw [HGG.out]; omega))
                  go_wp2
                  go_quiet (fail)
                  go_wp2
                  go_roundw
                  case rel => exact ⟨n + 1, (I + 1), K, V + 1, HLT.out, by rw [HNN.out, HGG.out], by simp, rfl, rfl, Lib.hid (by rw [HNN.out, HVE.out]), HX, HPN, Lib.hid (below_drewN HB.out _)⟩
                  case measure => simp [intOf]; omega
            · by_cases hy : (cAt b.bs K).up < (n : Int) + 1
              · skip
                have hIX : NX a (n : Int) I := by rw [if_neg hx] at hI2; exact hI2
                have hKX : NX b (n : Int) (K + 1) := by rw [if_pos hy] at hK2; exact hK2
                obtain ⟨ba', oa', hA, _, _, a2⟩ := HAK.out.at_ hIX.1
                obtain ⟨bb', ob', hB, _, _, b2⟩ := HBK.out.at_ hKX.1
                simp only [Option.some.injEq, Addr.mk.injEq, and_true] at hA hB
                obtain ⟨rfl, rfl⟩ := hA
                obtain ⟨rfl, rfl⟩ := hB
                have hI5 : ((I : Nat) : Int) < (a.bs.length : Int) := by have := hIX.1; omega
                have hK5 : (((K + 1) : Nat) : Int) < (b.bs.length : Int) := by have := hKX.1; omega
                have hI6 : (0 : Int) ≤ ((I : Nat) : Int) := by omega
                have hK6 : (0 : Int) ≤ (((K + 1) : Nat) : Int) := by omega
                have hG := HST.out I (K + 1) hIX hKX
                have HPN := Lib.hid (HNP.out I (K + 1) hIX hKX)
                have hp1 := (HAT.out I hIX.1).2
                have hp2 := (HBT.out (K + 1) hKX.1).2
                have hxv : ¬ (cAt a.bs I).up < V := by rw [HVE.out]; exact hx
                have hyv : (cAt b.bs K).up < V := by rw [HVE.out]; exact hy
                have HLT := Lib.hid hlt
                clear hI2 hK2 hIX hKX hx hy hlt hn
                simp only [Int.natCast_add, Int.natCast_one] at hK5 hK6
                generalize (cAt a.bs I).pr = pa at *
                generalize (cAt b.bs (K + 1)).pr = pb at *
                generalize (cAt a.bs I).up = xa at *
                generalize (cAt b.bs K).up = xb at *
                obtain ⟨p10, p19⟩ := hp1
                obtain ⟨p20, p29⟩ := hp2
                have hw1 : IntKind.i64.wrap (gap a b (n : Int) + pa) = gap a b (n : Int) + pa := IntWalk.i64_in _ (by omega)
                have hw2 : IntKind.i64.wrap (gap a b (n : Int) + pa - pb) = gap a b (n : Int) + pa - pb := IntWalk.i64_in _ (by omega)
                have HGG := Lib.hid hG
                clear hG
                generalize gap a b (n : Int) = G at *
                by_cases hpos : 0 < G + pa - pb
                · have HX := Lib.hid (HYS.out (by rw [HGG.out]; exact hpos))
                  go_wp2
                  go_quiet (fail)
                  go_wp2
                  go_ret2
                  rw [show V = ((n + 1 : Nat) : Int) by rw [HNN.out]; exact HVE.out]
                  exact ch_yes HGA.out HGB.out HX.out (below_drewN HC.out.bw _)
                · have HX := Lib.hid (HNG.out (by rw [HGG.out]; omega))
                  go_wp2
                  go_quiet (fail)
                  go_wp2
                  go_roundw
                  case rel => exact ⟨n + 1, I, (K + 1), V + 1, HLT.out, by rw [HNN.out, HGG.out], rfl, by simp, rfl, Lib.hid (by rw [HNN.out, HVE.out]), HX, HPN, Lib.hid (below_drewN HB.out _)⟩
                  case measure => simp [intOf]; omega
              · skip
                have hIX : NX a (n : Int) I := by rw [if_neg hx] at hI2; exact hI2
                have hKX : NX b (n : Int) K := by rw [if_neg hy] at hK2; exact hK2
                obtain ⟨ba', oa', hA, _, _, a2⟩ := HAK.out.at_ hIX.1
                obtain ⟨bb', ob', hB, _, _, b2⟩ := HBK.out.at_ hKX.1
                simp only [Option.some.injEq, Addr.mk.injEq, and_true] at hA hB
                obtain ⟨rfl, rfl⟩ := hA
                obtain ⟨rfl, rfl⟩ := hB
                have hI5 : ((I : Nat) : Int) < (a.bs.length : Int) := by have := hIX.1; omega
                have hK5 : ((K : Nat) : Int) < (b.bs.length : Int) := by have := hKX.1; omega
                have hI6 : (0 : Int) ≤ ((I : Nat) : Int) := by omega
                have hK6 : (0 : Int) ≤ ((K : Nat) : Int) := by omega
                have hG := HST.out I K hIX hKX
                have HPN := Lib.hid (HNP.out I K hIX hKX)
                have hp1 := (HAT.out I hIX.1).2
                have hp2 := (HBT.out K hKX.1).2
                have hxv : ¬ (cAt a.bs I).up < V := by rw [HVE.out]; exact hx
                have hyv : ¬ (cAt b.bs K).up < V := by rw [HVE.out]; exact hy
                have HLT := Lib.hid hlt
                clear hI2 hK2 hIX hKX hx hy hlt hn
                generalize (cAt a.bs I).pr = pa at *
                generalize (cAt b.bs K).pr = pb at *
                generalize (cAt a.bs I).up = xa at *
                generalize (cAt b.bs K).up = xb at *
                obtain ⟨p10, p19⟩ := hp1
                obtain ⟨p20, p29⟩ := hp2
                have hw1 : IntKind.i64.wrap (gap a b (n : Int) + pa) = gap a b (n : Int) + pa := IntWalk.i64_in _ (by omega)
                have hw2 : IntKind.i64.wrap (gap a b (n : Int) + pa - pb) = gap a b (n : Int) + pa - pb := IntWalk.i64_in _ (by omega)
                have HGG := Lib.hid hG
                clear hG
                generalize gap a b (n : Int) = G at *
                by_cases hpos : 0 < G + pa - pb
                · have HX := Lib.hid (HYS.out (by rw [HGG.out]; exact hpos))
                  go_wp2
                  go_quiet (fail)
                  go_wp2
                  go_ret2
                  rw [show V = ((n + 1 : Nat) : Int) by rw [HNN.out]; exact HVE.out]
                  exact ch_yes HGA.out HGB.out HX.out (below_drewN HC.out.bw _)
                · have HX := Lib.hid (HNG.out (by rw [HGG.out]; omega))
                  go_wp2
                  go_quiet (fail)
                  go_wp2
                  go_roundw
                  case rel => exact ⟨n + 1, I, K, V + 1, HLT.out, by rw [HNN.out, HGG.out], rfl, rfl, rfl, Lib.hid (by rw [HNN.out, HVE.out]), HX, HPN, Lib.hid (below_drewN HB.out _)⟩
                  case measure => simp [intOf]; omega
          · have e : n = 100000 := by omega
            have HV := Lib.hid (cfB_no (a := a) (b := b) (fun m hm => by have h1 := hno.out m (by have := hm.1; omega); have h2 := hm.2.1; omega))
            have hn9 : ¬ (V ≤ 100000) := by have := HVE.out; omega
            clear e hpv hlt hn
            go_wp2
            go_ret2
            exact ch_no HV.out HC.out.bw
end Go.Proofs.Ytidlpoambmeiiaa.S14
