/- The eager schedule: what the model returns: contract. Conditions: its own premises. -/
import Derived.Test.YtlkomipjamelkaaPuRow
import Derived.Deep.DeepCutAuto
namespace Go.Proofs.Ytlkomipjamelkaa.S13
open Go.RowKit Go.Sort Go.ChangeShapes Go.WideShapes Go.Deep Go.Joins P11 S11 P13

theorem empty_gives {w w1 : World} {ok : Bool} (hb : Below w.heap.size w w1) : GivesA w [] ok (.returned (.tuple #[.slice (some ⟨w1.heap.size, 0, none⟩) 0 0, .bool ok])) (w1.alloc (.cells #[] 3)) :=
  ⟨w1.heap.size, 0, 0, rfl, hb.size, .inl rfl, hb.trans ((alloc_below _ _).mono hb.size), by simp⟩
theorem egR_no {p : Pg} (h : egB p = false) : egR p = [] := by unfold egR; rw [h]; rfl
theorem egR_yes {p : Pg} (h : egB p = true) : egR p = egL p p.xs.length := by unfold egR; rw [h]; rfl
theorem R1.out {w wr : World} {p : Pg} {A : Option Addr} {c : Nat} {A2 : Option Addr} {c2 g cg : Nat} {l : List Int} (h : R1 w wr p A c A2 c2 g cg l) : w.heap.size < wr.heap.size := h.b6.lt
set_option maxHeartbeats 1500000 in
theorem seager_any (p : Pg) (A : Option Addr) (c : Nat) (A2 : Option Addr) (c2 : Nat) (w : World) (h : PAt w p A A2) :
    Calls Try.prog 29 #[pv p A c A2 c2] w (GivesA w (egR p) (egB p)) := by
  have HB0 := Lib.hid (boxB w 31 p A c A2 c2)
  have HR0 := Lib.hid (R1.new (boxB w 31 p A c A2 c2) (B6.new w 31 p A c A2 c2))
  have HP := Lib.hid (fun w' hb => h.kept (w' := w') hb)
  have HG := Lib.hid (fun w' (hb : Below w.heap.size w w') => lgood_any p A c A2 c2 w' (h.kept hb))
  have hz1 : (w.alloc (po 31 p A c A2 c2)).heap.size = w.heap.size + 1 := by simp
  clear h
  obtain ⟨i0, hi, hz0, hz1', hz2⟩ := info_parts infoI
  cases hp : pgB p with
  | false =>
    have HE := Lib.hid (eg_bad hp)
    rw [hp] at HG
    rw [HE.out, egR_no HE.out]
    rw [hz1] at HR0
    go_enter Try.func29, Try.ntmps29
    go_wp2_with (first | (go_at_call 36; refine (HG.out _ HR0.out.bw).mono ?_; rintro e w1 ⟨rfl, hb1⟩; refine Hid.out ?_) | fail)
    have HR1 := Lib.hid (HR0.out.call hb1)
    refine Lib.hid ?_
    go_wp2_with fail
    go_ret2
    exact HR1.out.post rfl
  | true =>
    have HGD := Lib.hid (pgB_iff.1 hp)
    rw [hp] at HG
    have hn12 := HGD.out.day.n1
    rw [hz1] at HR0
    clear hp
    go_enter Try.func29, Try.ntmps29
    go_wp2_with (first | (go_at_call 36; refine (HG.out _ HR0.out.bw).mono ?_; rintro e w1 ⟨rfl, hb1⟩; refine Hid.out ?_) | fail)
    have HR1 := Lib.hid (HR0.out.call hb1)
    obtain ⟨a0, a1, a2, a3, a4, a5⟩ := HR1.out.b6.out
    clear hb1 HR0 HG HB0
    refine Lib.hid ?_
    go_wp2_with fail
    clear a0 a1 a2 a3 a4 a5
    go_loopw [6, 5, 4] (fun i lv s wr => ∃ k g cg : Nat, k ≤ p.xs.length ∧ i = .int .i64 (k : Int) ∧ lv = .int .i64 (lvE p k) ∧ s = .slice (some ⟨g, 0, none⟩) k cg ∧ Hid (∀ j, j < k → okS p j (lvE p j) (vE p j) = true) ∧ Hid (R1 w wr p A c A2 c2 g cg (egL p k))) (fun i _ _ _ => p.xs.length - (intOf i).toNat)
    case atStart => exact ⟨0, _, 0, Nat.zero_le _, rfl, rfl, rfl, Lib.hid (fun j hj => absurd hj (by omega)), HR1⟩
    case round =>
      obtain ⟨k, g, cg, hk, rfl, rfl, rfl, hno, hr⟩ := hrel
      clear HR1
      obtain ⟨a0, a1, a2, a3, a4, a5⟩ := hr.out.b6.out
      by_cases hlt : k < p.xs.length
      · have hk0 : (0 : Int) ≤ (k : Int) := by omega
        have hkn : (k : Int) < (p.xs.length : Int) := by omega
        have htk := lvE_tk HGD.out (k := k) (by omega)
        have hve := vE_in HGD.out (k := k) (by omega)
        have hst := good_st HGD.out hlt htk hve.1 hve.2
        have hky : k < p.ys.length := by rw [HGD.out.day.eq]; exact hlt
        have htb := tkB_iff.1 htk
        have HLS := Lib.hid (fun w => least_v (x := p.pm) (y := p.b - lvE p k) (z := vE p k) (by unfold vE vB; split <;> omega) w)
        have n1 := Lib.hid (egL_len p k)
        cases ho : okS p k (lvE p k) (vE p k) with
        | false =>
          have HE := Lib.hid (eg_no HGD.out hlt ho)
          have HN := Lib.hid (fun w' (hb : Below w.heap.size w w') => lnext_v (A := A) (c := c) (A2 := A2) (c2 := c2) rfl ho w' (HP.out _ hb) hky hst)
          clear ho hno HP HGD hst hky htk
          generalize nx p k (lvE p k) (vE p k) = z at *
          generalize vE p k = v at *
          generalize lvE p k = l0 at *
          go_wp2_with (first | (go_at_call 49; refine (HLS.out _).mono ?_; rintro e w2 ⟨rfl, hw⟩; replace hw := hw.symm; subst hw; refine Hid.out ?_) | fail)
          refine Lib.hid ?_
          go_wp2_with (first | (go_at_call 50; refine (HN.out _ hr.out.bw).mono ?_; rintro e w2 ⟨rfl, hb2⟩; refine Hid.out ?_) | fail)
          have HB2 := Lib.hid (hr.out.bw.trans (hb2.mono hr.out.bw.size))
          refine Lib.hid ?_
          go_wp2_with fail
          go_ret2
          rw [HE.out, egR_no HE.out]
          exact empty_gives HB2.out
        | true =>
          have hno2 := Lib.hid (show ∀ j, j < k + 1 → okS p j (lvE p j) (vE p j) = true from fun j hj => by
            by_cases e : j = k
            · subst e; exact ho
            · exact hno.out j (by omega))
          have HN := Lib.hid (fun w' (hb : Below w.heap.size w w') => lnext_v (A := A) (c := c) (A2 := A2) (c2 := c2) (L := lvE p k) (v := vE p k) (z := lvE p (k + 1)) rfl ho w' (HP.out _ hb) hky hst)
          have S1 := Lib.hid (egL_snoc p k)
          clear ho hno hst hky htk HP HGD
          obtain ⟨z, hz⟩ : ∃ z, lvE p (k + 1) = z := ⟨_, rfl⟩
          rw [hz] at HN
          have HZ := Lib.hid hz
          clear hz
          obtain ⟨q, hq⟩ : ∃ q, egL p (k + 1) = q := ⟨_, rfl⟩
          rw [hq] at S1
          have HQ := Lib.hid hq
          clear hq
          generalize vE p k = v at *
          generalize lvE p k = l0 at *
          generalize egL p k = q1 at *
          go_wp2_with (first | (go_at_call 49; refine (HLS.out _).mono ?_; rintro e w2 ⟨rfl, hw⟩; replace hw := hw.symm; subst hw; refine Hid.out ?_) | fail)
          refine Lib.hid ?_
          go_wp2_with (first | (go_at_call 50; refine (HN.out _ hr.out.bw).mono ?_; rintro e w2 ⟨rfl, hb2⟩; refine Hid.out ?_) | fail)
          have HR := Lib.hid (hr.out.call hb2)
          clear hb2 hr a0 a1 a2 a3 a4 a5 HN HLS
          have ho := HR.out.o1
          unfold IOwn at ho
          rw [n1.out] at ho
          have hbs := HR.out.bw.size
          have hqs := HR.out.b6.lt
          refine Lib.hid ?_
          go_wp2_with (first
            | (at_builtin; go_must (refine wpList_append_own_at _ rfl _ _ 24 rfl (w.heap.size + 1) 3 i0 (.int .i64 0) 1 8 Try.underlying24 hi hz0 hz1' hz2 rfl (by decide) _ _ _ rfl (ho.alloc _) ⟨w2.heap.size, 0, none⟩ 1 1 [iv v] rfl rfl (cell_one_new _ _ _) (by intro u hu; simp at hu; subst hu; rfl) (by unfold maxLen; omega) (by omega) (by simp; omega) ?_); intro v' w5 hown' hgrow hnil hbl'; refine Hid.out ?_)
            | fail)
          obtain ⟨g1, c1, hv', hR'⟩ := (HR.out.call (alloc_below w2 (.cells #[iv v] 3))).push hgrow (by rw [n1.out]; exact hown') hbl'
          rw [n1.out] at hv'
          subst hv'
          rw [← S1.out] at hR'
          have HRR := Lib.hid hR'
          clear hown' hgrow hnil hbl' ho hbs hqs hR' HR
          refine Lib.hid ?_
          go_wp2_with fail
          go_roundw
          case rel => exact ⟨k + 1, g1, c1, by omega, by go_num, by rw [HZ.out], rfl, hno2, by rw [HQ.out]; exact HRR⟩
          case measure => simp [intOf]; omega
      · have e : k = p.xs.length := by omega
        subst e
        have HE := Lib.hid (eg_end HGD.out hno.out)
        by_cases hll : p.L ≤ lvE p p.xs.length
        · have e2 : egB p = true := by rw [HE.out]; simp [hll]
          have hnl : ¬ lvE p p.xs.length < p.L := by omega
          have HER := Lib.hid (egR_yes e2)
          have HLN := Lib.hid (egL_len p p.xs.length)
          have HEB := Lib.hid e2
          clear HE e2 hno HGD HP
          generalize lvE p p.xs.length = l0 at *
          go_wp2_with fail
          go_ret2
          rw [HEB.out, HER.out]
          exact hr.out.post HLN.out
        · have e2 : egB p = false := by rw [HE.out]; simp; omega
          have hnl : lvE p p.xs.length < p.L := by omega
          have HB2 := Lib.hid hr.out.bw
          have HEB := Lib.hid e2
          clear HE e2 hno HGD HP
          generalize lvE p p.xs.length = l0 at *
          go_wp2_with fail
          go_ret2
          rw [HEB.out, egR_no HEB.out]
          exact empty_gives HB2.out
end Go.Proofs.Ytlkomipjamelkaa.S13
