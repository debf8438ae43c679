/- The first best schedule of the model: what it returns: contracts. Conditions: each theorem's own premises. -/
import Derived.Test.YtlkomipjamelkaaPuTab
import Derived.Test.YtlkomipjamelkaaPuEgS
import Derived.Deep.DeepCutAuto
namespace Go.Proofs.Ytlkomipjamelkaa.S13
open Go.RowKit Go.Sort Go.ChangeShapes Go.WideShapes Go.Deep Go.Joins P11 S11 P13

def VL (V : Nat → Int) (k : Nat) : List Int := (List.range k).map V
theorem VL_len (V : Nat → Int) (k : Nat) : (VL V k).length = k := by simp [VL]
theorem VL_snoc (V : Nat → Int) (k : Nat) : VL V (k + 1) = VL V k ++ [V k] := by simp [VL, List.range_succ]
set_option maxRecDepth 100000 in
set_option maxHeartbeats 4000000 in
theorem lbest_yes (p : Pg) (A : Option Addr) (c : Nat) (A2 : Option Addr) (c2 : Nat) (cheap : Bool) (lv V : Nat → Int) (w : World) (hp : PAt w p A A2) (hg : P13.Good p) (hex : (plan p p.xs.length p.L).ex = true) (hT : Takes p cheap lv V) (hlv : ∀ h, h ≤ p.xs.length → tkB (lv h) p.a p.b = true) :
    Calls Try.prog 47 #[pv p A c A2 c2, .bool cheap] w (GivesA w (VL V p.xs.length) true) := by
  have HGD := Lib.hid hg
  have HTK := Lib.hid hT
  have HLV := Lib.hid hlv
  have HPA := Lib.hid (fun w' hb => hp.kept (w' := w') hb)
  have HEQ := Lib.hid hg.day.eq
  have hn1 := hg.day.n0
  have hn12 := hg.day.n1
  have hp0 := hg.m0
  have hp10 := hg.m1
  obtain ⟨q0, q1, q2, q3⟩ := tkB_iff.1 hg.day.tk
  obtain ⟨M, hM⟩ : ∃ M : Nat, p.b = (M : Int) := ⟨p.b.toNat, by omega⟩
  obtain ⟨LN, hLN⟩ : ∃ LN : Nat, p.L = (LN : Int) := ⟨p.L.toNat, by omega⟩
  have hM60 : M ≤ 60 := by omega
  have hLM : LN < M + 1 := by omega
  have HM := Lib.hid hM
  have HLN := Lib.hid hLN
  have HL0 := Lib.hid hT.l0
  have HTB := Lib.hid (fun w' hb => table_any p A c A2 c2 M w' (hp.kept (w' := w') hb) hg hM)
  have HTV0 := Lib.hid (show tbv p 0 LN = (plan p p.xs.length p.L).cost by
    rw [tbv_tk (by rw [← hLN]; exact hg.day.tk), Nat.sub_zero, ← hLN]
    unfold enc
    rw [if_pos hex])
  have hc0 := hg.cost (r := p.xs.length) (Nat.le_refl _) p.L
  have HB0 := Lib.hid (boxB w 31 p A c A2 c2)
  have H60 := Lib.hid (B6.new w 31 p A c A2 c2)
  obtain ⟨i0, hi, hz0, hz1', hz2⟩ := info_parts infoI
  obtain ⟨a0, a1, a2, a3, a4, a5⟩ := H60.out.out
  have hl20 : (0 : Int) ≤ (LN : Int) := by omega
  have hl21 : (LN : Int) < ((M + 1 : Nat) : Int) := by omega
  have hl22 : (LN : Int) < (M : Int) + 1 := by omega
  have hn00 : (0 : Int) < (p.xs.length : Int) + 1 := by omega
  clear hp hg hex hT hlv hM hLN
  go_enter Try.func47, Try.ntmps47
  go_wp2_with (first | (go_at_call 45; refine (HTB.out _ HB0.out).mono ?_; rintro e w1 ⟨T, rfl, hb1, hTl, hrow⟩; refine Hid.out ?_) | fail)
  have HB1 := Lib.hid (HB0.out.trans (hb1.mono HB0.out.size))
  have H61 := Lib.hid (H60.out.kept hb1)
  clear a0 a1 a2 a3 a4 a5 hb1 HB0 H60 HTB
  -- the empty list
  have hb2 := alloc_below w1 (.cells #[] 3)
  have HO2 := Lib.hid (own_empty w1 w1.heap.size (Nat.le_refl _))
  have HROW := Lib.hid (fun h (hh : h ≤ p.xs.length) => hrow h hh)
  obtain ⟨w2, hw2⟩ : ∃ w2, w2 = w1 := ⟨_, rfl⟩
  have HW2 := Lib.hid hw2
  rw [← hw2] at HB1 H61 hTl HROW hb2 HO2
  clear hrow
  obtain ⟨a0, a1, a2, a3, a4, a5⟩ := (H61.out.kept hb2).out
  rw [HLN.out] at a0
  obtain ⟨g0, cg0, r1, r2, r3⟩ := HROW.out 0 (Nat.zero_le _)
  obtain ⟨bb, off, hA, hbl, h0⟩ := r3.at_ (i := LN) (by rw [rowK_len]; exact hLM)
  injection hA with hA
  injection hA with x1 x2 _
  subst x1 x2
  rw [Nat.zero_add, rowK_at p 0 hLM, HTV0.out] at h0
  have t1 := (hb2.cell (p := ⟨T, 0, none⟩) hTl).trans r1
  have t2 := (hb2.cell (p := ⟨g0, LN, none⟩) r2).trans h0
  have HB2 := Lib.hid hb2
  have hpos : ¬ (plan p p.xs.length p.L).cost < 0 := by omega
  generalize (plan p p.xs.length p.L).cost = pc0 at *
  rw [hw2] at a0 a1 a2 a3 a4 a5 t1 t2
  clear r1 r2 r3 hbl h0 hb2 HTV0
  refine Lib.hid ?_
  go_wp2_with fail
  clear a0 a1 a2 a3 a4 a5 t1 t2 hpos hc0
  rw [← HW2.out]
  clear hw2
  have hl0 : (LN : Int) = lv 0 := by rw [HL0.out, HLN.out]
  rw [hl0]
  clear hl0
  go_loopw [9, 8, 7] (fun i l s wr => ∃ k g cg : Nat, k ≤ p.xs.length ∧ i = .int .i64 (k : Int) ∧ l = .int .i64 (lv k) ∧ s = .slice (some ⟨g, 0, none⟩) k cg ∧ Hid (Below w2.heap.size w2 wr) ∧ Hid (IOwn wr w2.heap.size (.slice (some ⟨g, 0, none⟩) (VL V k).length cg) (VL V k))) (fun i _ _ _ => p.xs.length - (intOf i).toNat)
  case atStart => exact ⟨0, w2.heap.size, 0, Nat.zero_le _, rfl, rfl, rfl, HB2, HO2⟩
  case round =>
    obtain ⟨k, g, cg, hk, rfl, rfl, rfl, hB, hO⟩ := hrel
    clear HB2 HO2
    have HBw := Lib.hid (HB1.out.trans (hB.out.mono HB1.out.size))
    obtain ⟨a0, a1, a2, a3, a4, a5⟩ := (H61.out.kept hB.out).out
    by_cases hlt : k < p.xs.length
    · have hk0 : (0 : Int) ≤ (k : Int) := by omega
      have hkn : (k : Int) < (p.xs.length : Int) := by omega
      have htk := HLV.out k (by omega)
      obtain ⟨t0, t1, t2, t3⟩ := tkB_iff.1 htk
      obtain ⟨hv0, hv1⟩ := HTK.out.v0 k hlt
      obtain ⟨Vn, hVn⟩ : ∃ Vn : Nat, V k = (Vn : Int) := ⟨(V k).toNat, by omega⟩
      have hVp : (Vn : Int) ≤ p.pm := by omega
      obtain ⟨ln, hln⟩ : ∃ ln : Nat, lv k = (ln : Int) := ⟨(lv k).toNat, by omega⟩
      have hlnM : ln < M + 1 := by have := HM.out; omega
      have n1 := Lib.hid (VL_len V k)
      have hky : k < p.ys.length := by rw [HEQ.out]; exact hlt
      have HVN := Lib.hid hVn
      have HLK := Lib.hid hln
      clear hVn hv0 hv1
      rw [hln]
      rw [hln] at htk t1 t2
      clear hln
      have HTKK := Lib.hid htk
      clear htk
      go_wp2_with fail
      clear a0 a1 a2 a3 a4 a5
      go_loopw [10, 8, 7] (fun i l s wr => ∃ v : Nat, v ≤ Vn ∧ i = .int .i64 (v : Int) ∧ l = .int .i64 (ln : Int) ∧ s = .slice (some ⟨g, 0, none⟩) k cg ∧ Hid (Below w2.heap.size w2 wr) ∧ Hid (IOwn wr w2.heap.size (.slice (some ⟨g, 0, none⟩) (VL V k).length cg) (VL V k))) (fun i _ _ _ => Vn + 1 - (intOf i).toNat)
      case atStart => exact ⟨0, Nat.zero_le _, rfl, rfl, rfl, hB, hO⟩
      case round =>
        obtain ⟨v, hvl, rfl, rfl, rfl, hB3, hO3⟩ := hrel
        clear hB hO HBw
        have HBw := Lib.hid (HB1.out.trans (hB3.out.mono HB1.out.size))
        obtain ⟨a0, a1, a2, a3, a4, a5⟩ := (H61.out.kept hB3.out).out
        have hv0 : (0 : Int) ≤ (v : Int) := by omega
        have hvp : (v : Int) ≤ p.pm := by omega
        have hst := good_st HGD.out hlt HTKK.out hv0 hvp
        have hnx := HGD.out.nx hlt HTKK.out hv0 hvp
        obtain ⟨zn, hzn⟩ : ∃ zn : Nat, nx p k ln v = (zn : Int) := ⟨(nx p k ln v).toNat, by have := tkB_iff.1 hnx; omega⟩
        rw [hzn] at hnx
        have hz60 := tkB_iff.1 hnx
        have hznM : zn < M + 1 := by have := HM.out; omega
        have HTV := Lib.hid (show tbv p (k + 1) zn = enc (plan p (p.xs.length - (k + 1)) zn) from tbv_tk hnx)
        have HTV2 := Lib.hid (show tbv p k ln = enc (plan p (p.xs.length - k) ln) from tbv_tk HTKK.out)
        have HN : Hid (∀ w', Below w.heap.size w w' → Calls Try.prog 50 #[pv p A c A2 c2, .int .i64 k, .int .i64 (ln : Int), .int .i64 (v : Int)] w' fun e w'' => e = .returned (.tuple #[.int .i64 (zn : Int), .bool (okS p k ln v)]) ∧ Below w'.heap.size w' w'') :=
          Lib.hid (fun w' hb => lnext_v hzn rfl w' (HPA.out w' hb) hky hst)
        have HZN := Lib.hid hzn
        have hcb := HGD.out.cost (r := p.xs.length - (k + 1)) (by omega) (zn : Int)
        have hcb2 := HGD.out.cost (r := p.xs.length - k) (by omega) (ln : Int)
        have hxb := HGD.out.price hlt
        have hv10 : (v : Int) ≤ 10 := by omega
        have hmb := mul_bd hxb ⟨hv0, hv10⟩
        clear hzn hst hnx
        have hh1 : (0 : Int) ≤ (k : Int) + 1 := by omega
        have hh2 : (k : Int) + 1 < (p.xs.length : Int) + 1 := by omega
        have hh3 : (k : Int) < (p.xs.length : Int) + 1 := by omega
        have hzn0 : (0 : Int) ≤ (zn : Int) := by omega
        have hzn1 : (zn : Int) < (M : Int) + 1 := by omega
        have hln0 : (0 : Int) ≤ (ln : Int) := by omega
        have hln1 : (ln : Int) < (M : Int) + 1 := by omega
        have HNO := Lib.hid (fun (hvv : (v : Int) < V k) (h1 : okS p k ln v = true) (h2 : (plan p (p.xs.length - (k + 1)) (zn : Int)).ex = true) => HTK.out.no k hlt v hvv (by rw [HLK.out]; exact h1) (by rw [HLK.out, HZN.out]; exact h2))
        have HYE := Lib.hid (fun (hvv : (v : Int) = V k) => (⟨by have := HTK.out.ok k hlt; rw [HLK.out, ← hvv] at this; exact this, by have := HTK.out.ls k hlt; rw [HLK.out, ← hvv, HZN.out] at this; exact this⟩ : okS p k ln v = true ∧ lv (k + 1) = (zn : Int)))
        have hVN := HVN.out
        cases hok : okS p k ln v with
        | false =>
          have hvlt : v < Vn := by
            by_cases e : v = Vn
            · have := (HYE.out (by rw [hVN, e])).1
              rw [hok] at this; cases this
            · omega
          rw [hok] at HN
          clear hok HNO HYE HTV HTV2
          go_wp2_with (first | (go_at_call 50; refine (HN.out _ HBw.out).mono ?_; rintro e w4 ⟨rfl, hb4⟩; refine Hid.out ?_) | fail)
          have HB4 := Lib.hid (hB3.out.trans (hb4.mono hB3.out.size))
          have HO4 := Lib.hid (hO3.out.on hb4)
          clear hb4
          refine Lib.hid ?_
          go_wp2_with fail
          have hG := @cell_g
          refine region_below (by kernel_rfl) (by kernel_rfl) ?_
          repeat (first | go_big_quiet_step (fail))
          refine wpQuiet_nil ?_
          intro w6 hb6
          have HB6 := Lib.hid (HB4.out.trans (hb6.mono HB4.out.size))
          have HO6 := Lib.hid (HO4.out.on hb6)
          clear hb6 hG a0 a1 a2 a3 a4 a5 HB4 HO4
          have HB4 := HB6
          have HO4 := HO6
          clear HB6 HO6
          refine Hid.out ?_
          refine Lib.hid ?_
          go_wp2_with fail
          go_roundw
          case rel => exact ⟨v + 1, by omega, by go_num, rfl, rfl, HB4, HO4⟩
          case measure => simp [intOf]; omega
        | true =>
          rw [hok] at HN
          go_wp2_with (first | (go_at_call 50; refine (HN.out _ HBw.out).mono ?_; rintro e w4 ⟨rfl, hb4⟩; refine Hid.out ?_) | fail)
          have HB4 := Lib.hid (hB3.out.trans (hb4.mono hB3.out.size))
          have HO4 := Lib.hid (hO3.out.on hb4)
          have HBw4 := Lib.hid (HB1.out.trans (HB4.out.mono HB1.out.size))
          clear a0 a1 a2 a3 a4 a5 hb4 hB3 hO3 HN
          obtain ⟨a0, a1, a2, a3, a4, a5⟩ := (H61.out.kept HB4.out).out
          have hs4 := HB4.out.size
          have hwl4 : w.heap.size < w4.heap.size := Nat.lt_of_lt_of_le H61.out.lt hs4
          have hTl4 : T < w4.heap.size := by omega
          obtain ⟨g2, cg2, e1, e2, e3⟩ := HROW.out (k + 1) (by omega)
          obtain ⟨bb, off, hA, hbl, h0⟩ := e3.at_ (i := zn) (by rw [rowK_len]; exact hznM)
          injection hA with hA
          injection hA with x1 x2 _
          subst x1 x2
          rw [Nat.zero_add, rowK_at p (k + 1) hznM, HTV.out] at h0
          have u1 := (HB4.out.cell (p := ⟨T, k + 1, none⟩) hTl).trans e1
          have u2 := (HB4.out.cell (p := ⟨g2, zn, none⟩) e2).trans h0
          have hg24 : g2 < w4.heap.size := by omega
          clear e1 e3 hbl h0
          cases hpx : (plan p (p.xs.length - (k + 1)) (zn : Int)).ex with
          | false =>
            have hvlt : v < Vn := by
              by_cases e : v = Vn
              · have h9 := (HYE.out (by rw [hVN, e])).2
                have := HTK.out.ex k hlt
                rw [h9, hpx] at this; cases this
              · omega
            have u2' : w4.cell? ⟨g2, zn, none⟩ = some (.int .i64 (-1)) := by rw [u2]; unfold enc; rw [hpx]; rfl
            clear u2 hok HNO HYE HTV HTV2 hpx hcb hcb2
            refine Lib.hid ?_
            go_wp2_with fail
            have hG := @cell_g
            refine region_below (by kernel_rfl) (by kernel_rfl) ?_
            repeat (first | go_big_quiet_step (fail))
            refine wpQuiet_nil ?_
            intro w6 hb6
            have HB6 := Lib.hid (HB4.out.trans (hb6.mono HB4.out.size))
            have HO6 := Lib.hid (HO4.out.on hb6)
            clear hb6 hG a0 a1 a2 a3 a4 a5 HB4 HO4
            have HB4 := HB6
            have HO4 := HO6
            clear HB6 HO6
            refine Hid.out ?_
            refine Lib.hid ?_
            go_wp2_with fail
            go_roundw
            case rel => exact ⟨v + 1, by omega, by go_num, rfl, rfl, HB4, HO4⟩
            case measure => simp [intOf]; omega
          | true =>
            have u2' : w4.cell? ⟨g2, zn, none⟩ = some (.int .i64 (plan p (p.xs.length - (k + 1)) (zn : Int)).cost) := by rw [u2]; unfold enc; rw [hpx, if_pos rfl]
            have hEQ9 := HTK.out.eq
            have hEN9 : enc (plan p (p.xs.length - k) (ln : Int)) = tbl p (p.xs.length - k) (lv k) := by rw [enc_tbl, HLK.out]
            have hENb : -1 ≤ enc (plan p (p.xs.length - k) (ln : Int)) ∧ enc (plan p (p.xs.length - k) (ln : Int)) ≤ 12000 := by unfold enc; split <;> omega
            have HNO2 := Lib.hid (fun hvv => HNO.out hvv hok hpx)
            have HZL := Lib.hid (fun hvv => (HYE.out hvv).2)
            clear u2 HNO HYE hok
            generalize hpp : plan p (p.xs.length - (k + 1)) (zn : Int) = pp at *
            obtain ⟨px, pc, pvl⟩ := pp
            simp only at hcb hpx u2'
            subst hpx
            have hpc0 : ¬ pc < 0 := by omega
            have hpcd : decide (pc < 0) = false := by simp; omega
            obtain ⟨g3, cg3, f1, f2, f3⟩ := HROW.out k (by omega)
            obtain ⟨bb, off, hA, hbl, h0⟩ := f3.at_ (i := ln) (by rw [rowK_len]; exact hlnM)
            injection hA with hA
            injection hA with x1 x2 _
            subst x1 x2
            rw [Nat.zero_add, rowK_at p k hlnM, HTV2.out] at h0
            have u3 := (HB4.out.cell (p := ⟨T, k, none⟩) hTl).trans f1
            have u4 := (HB4.out.cell (p := ⟨g3, ln, none⟩) f2).trans h0
            have hg34 : g3 < w4.heap.size := by omega
            clear f1 f3 hbl h0 HTV HTV2
            obtain ⟨bx, ox, hAx, hbx, hcx⟩ := (HPA.out _ HBw4.out).x.at_ hlt
            subst hAx
            have HXE := Lib.hid (fun (hc : cheap = true) (hvv : (v : Int) = V k) => (show p.xs.getD k 0 * v + pc = enc (plan p (p.xs.length - k) (ln : Int)) by
              have h1 := hEQ9 hc k hlt
              rw [← hvv, HZL.out hvv, hpp] at h1
              rw [hEN9]; exact h1))
            have HXN := Lib.hid (fun (hvv : (v : Int) < V k) => (show cheap = true ∧ p.xs.getD k 0 * v + pc ≠ enc (plan p (p.xs.length - k) (ln : Int)) by
              have h1 := HNO2.out hvv
              refine ⟨h1.1, fun h2 => h1.2 ?_⟩
              rw [HLK.out, HZN.out, hpp, ← HLK.out, ← hEN9]
              exact h2))
            clear HNO2 hEQ9 hEN9 hpp
            generalize enc (plan p (p.xs.length - k) (ln : Int)) = tc at *
            generalize hxv : p.xs.getD k 0 = x at *
            clear hxv
            generalize hmv : x * (v : Int) = m9v at *
            have HMV := Lib.hid hmv
            clear hmv
            have HW := Lib.hid (show wrap64 (wrap64 (x * (v : Int)) + pc) = m9v + pc by rw [HMV.out]; unfold wrap64; omega)
            cases cheap with
            | false =>
              have hve : v = Vn := by
                by_cases e : v = Vn
                · exact e
                · have := (HXN.out (by rw [hVN]; omega)).1
                  cases this
              obtain rfl : Vn = v := hve.symm
              have hvk9 : V k = (Vn : Int) := hVN
              have HZL2 := HZL.out hvk9.symm
              clear HXN HXE
              refine Lib.hid ?_
              go_wp2_with fail
              have hG := @cell_g
              refine region_below (by kernel_rfl) (by kernel_rfl) ?_
              repeat (first | go_big_quiet_step (fail))
              refine wpQuiet_nil ?_
              intro w6 hb6
              have HB6 := Lib.hid (HB4.out.trans (hb6.mono HB4.out.size))
              have HO6 := Lib.hid (HO4.out.on hb6)
              clear hb6 hG a0 a1 a2 a3 a4 a5 HB4 HO4
              have HB4 := HB6
              have HO4 := HO6
              clear HB6 HO6
              refine Hid.out ?_
              have ho := HO4.out
              unfold IOwn at ho
              rw [n1.out] at ho
              have hbs := HB4.out.size
              refine Lib.hid ?_
              go_wp2_with (first
                | (at_builtin; go_must (refine wpList_append_own_at _ rfl _ _ 24 rfl w2.heap.size 3 i0 (.int .i64 0) 1 8 Try.underlying24 hi hz0 hz1' hz2 rfl (by decide) _ _ _ rfl (ho.alloc _) ⟨w6.heap.size, 0, none⟩ 1 1 [iv (Vn : Int)] rfl rfl (cell_one_new _ _ _) (by intro u hu; simp at hu; subst hu; rfl) (by unfold maxLen; omega) (by omega) (by simp; omega) ?_); intro v' w9 hown' hgrow hnil hbl'; refine Hid.out ?_)
                | fail)
              obtain ⟨g9, c9, hv', _, _⟩ := hown'.form (by omega)
              subst hv'
              have hqg := World.ownsRow.lt HO4.out g rfl
              have hgl9 := hqg.1
              have hgrow2 : (w6.alloc (.cells #[iv (Vn : Int)] 3)).grownBy w9 (some g) := hgrow
              have HB9 := Lib.hid (HB4.out.trans (((alloc_below w6 (.cells #[iv (Vn : Int)] 3)).mono hbs).grown hgrow2 (Nat.le_trans hbs (alloc_below w6 _).size) (fun q hq => by (have hq2 : q = g := by simpa using hq.symm); omega)))
              have HO9 := Lib.hid (show IOwn w9 w2.heap.size (.slice (some ⟨g9, 0, none⟩) (VL V (k + 1)).length c9) (VL V (k + 1)) by
                rw [VL_snoc, hVN]
                have e9 : (VL V k ++ [(Vn : Int)]).length = k + 1 := by simp [VL_len]
                rw [e9]
                exact IOwn.push (by rw [VL_len]; exact hown'))
              clear hown' hgrow hgrow2 hnil hbl' ho hbs HO4
              refine Lib.hid ?_
              go_wp2_with fail
              go_roundw
              case rel => exact ⟨k + 1, g9, c9, by omega, by go_num, by rw [HZL2], rfl, HB9, HO9⟩
              case measure => simp [intOf]; omega
            | true =>
              by_cases hve : v = Vn
              · obtain rfl : Vn = v := hve.symm
                have hvk9 : V k = (Vn : Int) := hVN
                have HZL2 := HZL.out hvk9.symm
                have hee := HXE.out rfl hvk9.symm
                have hb1 : (wrap64 (wrap64 (x * (Vn : Int)) + pc) != tc) = false := by rw [HW.out, hee]; simp
                have hb2 : (m9v + pc != tc) = false := by rw [hee]; simp
                have hb3 : (wrap64 (m9v + pc) != tc) = false := by rw [show wrap64 (m9v + pc) = m9v + pc by unfold wrap64; omega, hee]; simp
                clear HXN HXE hee
                refine Lib.hid ?_
                go_wp2_with fail
                have hG := @cell_g
                refine region_below (by kernel_rfl) (by kernel_rfl) ?_
                repeat (first | go_big_quiet_step (fail))
                refine wpQuiet_nil ?_
                intro w6 hb6
                have HB6 := Lib.hid (HB4.out.trans (hb6.mono HB4.out.size))
                have HO6 := Lib.hid (HO4.out.on hb6)
                clear hb6 hG a0 a1 a2 a3 a4 a5 HB4 HO4
                have HB4 := HB6
                have HO4 := HO6
                clear HB6 HO6
                refine Hid.out ?_
                have ho := HO4.out
                unfold IOwn at ho
                rw [n1.out] at ho
                have hbs := HB4.out.size
                refine Lib.hid ?_
                go_wp2_with (first
                  | (at_builtin; go_must (refine wpList_append_own_at _ rfl _ _ 24 rfl w2.heap.size 3 i0 (.int .i64 0) 1 8 Try.underlying24 hi hz0 hz1' hz2 rfl (by decide) _ _ _ rfl (ho.alloc _) ⟨w6.heap.size, 0, none⟩ 1 1 [iv (Vn : Int)] rfl rfl (cell_one_new _ _ _) (by intro u hu; simp at hu; subst hu; rfl) (by unfold maxLen; omega) (by omega) (by simp; omega) ?_); intro v' w9 hown' hgrow hnil hbl'; refine Hid.out ?_)
                  | fail)
                obtain ⟨g9, c9, hv', _, _⟩ := hown'.form (by omega)
                subst hv'
                have hqg := World.ownsRow.lt HO4.out g rfl
                have hgl9 := hqg.1
                have hgrow2 : (w6.alloc (.cells #[iv (Vn : Int)] 3)).grownBy w9 (some g) := hgrow
                have HB9 := Lib.hid (HB4.out.trans (((alloc_below w6 (.cells #[iv (Vn : Int)] 3)).mono hbs).grown hgrow2 (Nat.le_trans hbs (alloc_below w6 _).size) (fun q hq => by (have hq2 : q = g := by simpa using hq.symm); omega)))
                have HO9 := Lib.hid (show IOwn w9 w2.heap.size (.slice (some ⟨g9, 0, none⟩) (VL V (k + 1)).length c9) (VL V (k + 1)) by
                  rw [VL_snoc, hVN]
                  have e9 : (VL V k ++ [(Vn : Int)]).length = k + 1 := by simp [VL_len]
                  rw [e9]
                  exact IOwn.push (by rw [VL_len]; exact hown'))
                clear hown' hgrow hgrow2 hnil hbl' ho hbs HO4
                refine Lib.hid ?_
                go_wp2_with fail
                go_roundw
                case rel => exact ⟨k + 1, g9, c9, by omega, by go_num, by rw [HZL2], rfl, HB9, HO9⟩
                case measure => simp [intOf]; omega
              · have hvlt : v < Vn := by omega
                have hee := (HXN.out (by rw [hVN]; omega)).2
                have hb1 : (wrap64 (wrap64 (x * (v : Int)) + pc) != tc) = true := by rw [HW.out]; simp; exact hee
                have hb2 : (m9v + pc != tc) = true := by simp; exact hee
                have hb3 : (wrap64 (m9v + pc) != tc) = true := by rw [show wrap64 (m9v + pc) = m9v + pc by unfold wrap64; omega]; simp; exact hee
                clear HXN HXE
                refine Lib.hid ?_
                go_wp2_with fail
                have hG := @cell_g
                refine region_below (by kernel_rfl) (by kernel_rfl) ?_
                repeat (first | go_big_quiet_step (fail))
                refine wpQuiet_nil ?_
                intro w6 hb6
                have HB6 := Lib.hid (HB4.out.trans (hb6.mono HB4.out.size))
                have HO6 := Lib.hid (HO4.out.on hb6)
                clear hb6 hG a0 a1 a2 a3 a4 a5 HB4 HO4
                have HB4 := HB6
                have HO4 := HO6
                clear HB6 HO6
                refine Hid.out ?_
                refine Lib.hid ?_
                go_wp2_with fail
                go_roundw
                case rel => exact ⟨v + 1, by omega, by go_num, rfl, rfl, HB4, HO4⟩
                case measure => simp [intOf]; omega
    · have e : k = p.xs.length := by omega
      subst e
      have hgl := iown_lt' hO.out
      have hgb := (World.ownsRow.lt hO.out g rfl).1
      have HL9 := Lib.hid (VL_len V p.xs.length)
      go_wp2_with fail
      go_ret2
      exact ⟨g, 0, cg, by rw [HL9.out]; rfl, by have := HB1.out.size; omega, hO.out.iat, HBw.out, hgl⟩
end Go.Proofs.Ytlkomipjamelkaa.S13
