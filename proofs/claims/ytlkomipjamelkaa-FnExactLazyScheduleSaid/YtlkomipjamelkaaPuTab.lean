/- The model's table of costs: what it returns: contract. Conditions: its own premises. -/
import Derived.Test.YtlkomipjamelkaaPuTabP
import Derived.Deep.CutRange
import Derived.Deep.DeepCutAuto
namespace Go.Proofs.Ytlkomipjamelkaa.S13
open Go.RowKit Go.Sort Go.ChangeShapes Go.WideShapes Go.Deep Go.Joins P11 S11 P13

theorem infoS : (Try.prog.info? 24).map (fun i => (i.zero, i.size, i.bytes)) = some (some (.slice none 0 0), 1, 24) := by kernel_rfl
/-- What the model's table is. -/
def TabIs (w : World) (p : Pg) (K : Nat) (e : Ending) (w' : World) : Prop :=
  ∃ T, e = .returned (.slice (some ⟨T, 0, none⟩) (p.xs.length + 1) (p.xs.length + 1)) ∧ Below w.heap.size w w' ∧ T < w'.heap.size ∧
    ∀ h, h ≤ p.xs.length → ∃ g cg, w'.cell? ⟨T, h, none⟩ = some (.slice (some ⟨g, 0, none⟩) K cg) ∧ g < w'.heap.size ∧ IAt w' (some ⟨g, 0, none⟩) (rowK p h K)
theorem Tb.new {w : World} (t tt : TypeId) (p : Pg) (A : Option Addr) (c : Nat) (A2 : Option Addr) (c2 K : Nat) :
    Tb w ((w.alloc (po t p A c A2 c2)).alloc (.cells (madeCells #[.slice none 0 0] (p.xs.length + 1)) tt)) p A c A2 c2 (w.heap.size + 1) (p.xs.length + 1) K (w.heap.size + 2) := by
  have b6 := B6.new w t p A c A2 c2
  have s1 := alloc_size w (po t p A c A2 c2)
  have k1 := alloc_below w (po t p A c A2 c2)
  generalize w.alloc (po t p A c A2 c2) = w1 at *
  have k2 := alloc_below w1 (.cells (madeCells #[.slice none 0 0] (p.xs.length + 1)) tt)
  have hc : ∀ h, h < p.xs.length + 1 → (w1.alloc (.cells (madeCells #[.slice none 0 0] (p.xs.length + 1)) tt)).cell? ⟨w1.heap.size, h, none⟩ = some (.slice none 0 0) := fun h hh => by
    rw [World.cell?_alloc_at _ _ _ _ rfl]
    show (madeCells #[.slice none 0 0] (p.xs.length + 1))[h]? = _
    simp [madeCells, hh, Nat.mod_one]
  have f2 := FZ.new w1 (madeCells #[.slice none 0 0] (p.xs.length + 1)) tt
  rw [s1] at hc f2
  exact ⟨b6.kept k2, k1.trans (k2.mono k1.size), by omega, by omega, by simp [s1], f2, fun h hh => hc h hh, fun h h1 h2 => by omega⟩
theorem enc_step {p : Pg} {h : Nat} {L : Int} {f : Int → Pl} {v : Nat} (hc : can p h L f v = false) : enc (best p h L f (v + 1)) = enc (best p h L f v) := by
  have : best p h L f (v + 1) = best p h L f v := if_neg (by rw [hc]; simp)
  rw [this]
set_option maxRecDepth 100000 in
set_option maxHeartbeats 4000000 in
theorem table_any (p : Pg) (A : Option Addr) (c : Nat) (A2 : Option Addr) (c2 M : Nat) (w : World) (hp : PAt w p A A2) (hg : P13.Good p) (hM : p.b = (M : Int)) :
    Calls Try.prog 45 #[pv p A c A2 c2] w (TabIs w p (M + 1)) := by
  have HGD := Lib.hid hg
  have HPA := Lib.hid (fun w' hb => hp.kept (w' := w') hb)
  have HEQ := Lib.hid hg.day.eq
  have hn1 := hg.day.n0
  have hn12 := hg.day.n1
  have hp0 := hg.m0
  have hp10 := hg.m1
  obtain ⟨q0, q1, q2, q3⟩ := tkB_iff.1 hg.day.tk
  have hM60 : M ≤ 60 := by omega
  have HM := Lib.hid hM
  obtain ⟨V, hV⟩ : ∃ V : Nat, p.pm = (V : Int) := ⟨p.pm.toNat, by omega⟩
  have HV := Lib.hid hV
  have hV10 : V ≤ 10 := by omega
  have HT0 := Lib.hid (Tb.new (w := w) 31 24 p A c A2 c2 (M + 1))
  obtain ⟨a0, a1, a2, a3, a4, a5⟩ := (B6.new w 31 p A c A2 c2).out
  obtain ⟨i0, hi, hz0, hz1', hz2⟩ := info_parts infoI
  have hmk : ∀ wx : World, (Instr.makeSlice 57 (.int .i64 ((p.xs.length : Int) + 1)) (.int .i64 ((p.xs.length : Int) + 1))).run Try.prog wx = .ok (.slice (some ⟨wx.heap.size, 0, none⟩) (p.xs.length + 1) (p.xs.length + 1)) (wx.alloc (.cells (madeCells #[.slice none 0 0] (p.xs.length + 1)) 24)) := fun wx => by
    rw [show ((p.xs.length : Int) + 1) = ((p.xs.length + 1 : Nat) : Int) by omega]
    exact run_make_row' (P := Try.prog) 57 24 (.slice none 0 0) 24 Try.underlying57 infoS rfl .i64 .i64 (p.xs.length + 1) (by omega) (by omega) wx
  clear hp hg hM hV
  go_enter Try.func45, Try.ntmps45
  go_wp2_with fail
  clear hmk a0 a1 a2 a3 a4 a5
  go_loopw [5] (fun i wr => ∃ (k : Nat) (x : Int), k ≤ p.xs.length + 1 ∧ i = .int .i64 x ∧ Hid (x = (k : Int) - 1) ∧ ∃ Bt, Hid (Tb w wr p A c A2 c2 (w.heap.size + 1) k (M + 1) Bt)) (fun i _ => (intOf i + 1).toNat)
  case atStart => exact ⟨p.xs.length + 1, _, Nat.le_refl _, rfl, Lib.hid (by omega), _, HT0⟩
  case round =>
    obtain ⟨k, x, hk, rfl, hx, Bt, hT⟩ := hrel
    clear HT0
    cases k with
    | zero =>
      have hxn : ¬ x ≥ 0 := by have := hx.out; omega
      have HT := Lib.hid hT
      go_wp2_with fail
      go_ret
      exact ⟨w.heap.size + 1, rfl, hT.out.bw, Nat.lt_of_lt_of_le hT.out.tl hT.out.bl, fun h hh => by
        obtain ⟨g, cg, e1, e2, e3⟩ := hT.out.row h (by omega) hh
        exact ⟨g, cg, e1, Nat.lt_of_lt_of_le e2 hT.out.bl, e3⟩⟩
    | succ h =>
      have hxe : x = (h : Int) := by have := hx.out; omega
      subst hxe
      clear hx
      have hh0 : (h : Int) ≥ 0 := by omega
      have hhn : h ≤ p.xs.length := by omega
      have HTR := Lib.hid (TR.new hT.out)
      obtain ⟨B1, hB1⟩ : ∃ B1, B1 = wr.heap.size := ⟨_, rfl⟩
      rw [← hB1] at HTR
      have HB1 := Lib.hid hB1
      obtain ⟨a0, a1, a2, a3, a4, a5⟩ := hT.out.b6.out
      go_wp2_with fail
      rw [← HB1.out]
      clear a0 a1 a2 a3 a4 a5 hT hB1
      go_loopw [7, 6] (fun i s w2 => ∃ l g cg : Nat, l ≤ M + 1 ∧ i = .int .i64 (l : Int) ∧ s = .slice (some ⟨g, 0, none⟩) l cg ∧ Hid (TR w w2 p A c A2 c2 (w.heap.size + 1) (h + 1) (M + 1) B1 g cg (rowK p h l))) (fun i _ _ => M + 1 - (intOf i).toNat)
      case atStart => exact ⟨0, B1, 0, Nat.zero_le _, rfl, rfl, HTR⟩
      case round =>
        obtain ⟨l, g, cg, hl, rfl, rfl, hr⟩ := hrel
        clear HTR
        obtain ⟨a0, a1, a2, a3, a4, a5⟩ := hr.out.tb.b6.out
        by_cases hlt : l < M + 1
        · have hlb : (l : Int) ≤ p.b := by rw [HM.out]; omega
          have hl0 : (0 : Int) ≤ (l : Int) := by omega
          have HSN := Lib.hid (rowK_snoc p h l)
          have n1 := Lib.hid (rowK_len p h l)
          by_cases hhe : h = p.xs.length
          · have HHE := Lib.hid hhe
            have dq : ((h : Int) == (p.xs.length : Int)) = true := by rw [hhe]; simp
            have hnl : ¬ (h : Int) < (p.xs.length : Int) := by omega
            clear hhe
            by_cases hLl : p.L ≤ (l : Int)
            · have HVL : Hid (0 = tbv p h l) := Lib.hid (by unfold tbv; rw [if_neg (by have := HHE.out; omega), HHE.out, Nat.sub_self]; unfold enc plan; simp [hLl])
              generalize rowK p h l = q1 at *
              go_wp2_with fail
              clear a0 a1 a2 a3 a4 a5
              go_loopw [9, 8] (fun i b w3 => i = .int .i64 0 ∧ b = .int .i64 0 ∧ Hid (TR w w3 p A c A2 c2 (w.heap.size + 1) (h + 1) (M + 1) B1 g cg q1)) (fun _ _ _ => 0)
              case atStart => exact ⟨rfl, rfl, hr⟩
              case round =>
                obtain ⟨rfl, rfl, hr3⟩ := hrel
                clear hr
                obtain ⟨a0, a1, a2, a3, a4, a5⟩ := hr3.out.tb.b6.out
                refine Hid.out ?_
                refine Lib.hid ?_
                have HR := Lib.hid hr3.out
                have ho := HR.out.o1
                unfold IOwn at ho
                rw [n1.out] at ho
                have hbs := HR.out.tb.bw.size
                have hbl9 := HR.out.tb.bl
                go_wp2_with (first
                  | (at_builtin; go_must (refine wpList_append_own_at _ rfl _ _ 24 rfl B1 3 i0 (.int .i64 0) 1 8 Try.underlying24 hi hz0 hz1' hz2 rfl (by decide) _ _ _ rfl (ho.alloc _) ⟨wr.heap.size, 0, none⟩ 1 1 [iv 0] rfl rfl (cell_one_new _ _ _) (by intro u hu; simp at hu; subst hu; rfl) (by unfold maxLen; omega) (by omega) (by simp; omega) ?_); intro v' w5 hown' hgrow hnil hbl'; refine Hid.out ?_)
                  | fail)
                obtain ⟨g1, c1, hv', hR'⟩ := (HR.out.call (alloc_below wr (.cells #[iv 0] 3))).push hgrow (by rw [n1.out]; exact hown')
                rw [n1.out] at hv'
                subst hv'
                rw [HVL.out] at hR'
                rw [← HSN.out] at hR'
                have HRR := Lib.hid hR'
                clear hown' hgrow hnil hbl' ho hbs hbl9 hR' HR
                refine Lib.hid ?_
                go_wp2_with fail
                go_roundw
                case rel => exact ⟨l + 1, g1, c1, by omega, by go_num, rfl, HRR⟩
                case measure => simp [intOf]; omega
            · have HVL : Hid (-1 = tbv p h l) := Lib.hid (by unfold tbv; rw [if_neg (by have := HHE.out; omega), HHE.out, Nat.sub_self]; unfold enc plan; simp [hLl])
              generalize rowK p h l = q1 at *
              go_wp2_with fail
              clear a0 a1 a2 a3 a4 a5
              go_loopw [9, 8] (fun i b w3 => i = .int .i64 0 ∧ b = .int .i64 (-1) ∧ Hid (TR w w3 p A c A2 c2 (w.heap.size + 1) (h + 1) (M + 1) B1 g cg q1)) (fun _ _ _ => 0)
              case atStart => exact ⟨rfl, rfl, hr⟩
              case round =>
                obtain ⟨rfl, rfl, hr3⟩ := hrel
                clear hr
                obtain ⟨a0, a1, a2, a3, a4, a5⟩ := hr3.out.tb.b6.out
                refine Hid.out ?_
                refine Lib.hid ?_
                have HR := Lib.hid hr3.out
                have ho := HR.out.o1
                unfold IOwn at ho
                rw [n1.out] at ho
                have hbs := HR.out.tb.bw.size
                have hbl9 := HR.out.tb.bl
                go_wp2_with (first
                  | (at_builtin; go_must (refine wpList_append_own_at _ rfl _ _ 24 rfl B1 3 i0 (.int .i64 0) 1 8 Try.underlying24 hi hz0 hz1' hz2 rfl (by decide) _ _ _ rfl (ho.alloc _) ⟨wr.heap.size, 0, none⟩ 1 1 [iv (-1)] rfl rfl (cell_one_new _ _ _) (by intro u hu; simp at hu; subst hu; rfl) (by unfold maxLen; omega) (by omega) (by simp; omega) ?_); intro v' w5 hown' hgrow hnil hbl'; refine Hid.out ?_)
                  | fail)
                obtain ⟨g1, c1, hv', hR'⟩ := (HR.out.call (alloc_below wr (.cells #[iv (-1)] 3))).push hgrow (by rw [n1.out]; exact hown')
                rw [n1.out] at hv'
                subst hv'
                rw [HVL.out] at hR'
                rw [← HSN.out] at hR'
                have HRR := Lib.hid hR'
                clear hown' hgrow hnil hbl' ho hbs hbl9 hR' HR
                refine Lib.hid ?_
                go_wp2_with fail
                go_roundw
                case rel => exact ⟨l + 1, g1, c1, by omega, by go_num, rfl, HRR⟩
                case measure => simp [intOf]; omega
          · have hlt9 : h < p.xs.length := by omega
            have dq : ((h : Int) == (p.xs.length : Int)) = false := by simp; omega
            have hnl : (h : Int) < (p.xs.length : Int) := by omega
            obtain ⟨r, hr9⟩ : ∃ r, p.xs.length - h = r + 1 := ⟨p.xs.length - h - 1, by omega⟩
            have hrr : p.xs.length - (r + 1) = h := by omega
            have hr1 : p.xs.length - (h + 1) = r := by omega
            have HPB := Lib.hid (show plan p (p.xs.length - h) l = best p h l (plan p r) (V + 1) by
              rw [hr9]
              show best p (p.xs.length - (r + 1)) l (plan p r) (p.pm.toNat + 1) = _
              rw [hrr, HV.out]
              rfl)
            have hr12 : r ≤ 12 := by omega
            have HRX := Lib.hid hr1
            have HRN := Lib.hid (show r ≤ p.xs.length by omega)
            clear hhe hr9 hrr hr1
            generalize rowK p h l = q1 at *
            go_wp2_with fail
            clear a0 a1 a2 a3 a4 a5 dq
            go_loopw [9, 8] (fun i b w3 => ∃ v : Nat, v ≤ V + 1 ∧ i = .int .i64 (v : Int) ∧ b = .int .i64 (enc (best p h l (plan p r) v)) ∧ (v = 0 ∨ p.a ≤ (l : Int)) ∧ Hid (TR w w3 p A c A2 c2 (w.heap.size + 1) (h + 1) (M + 1) B1 g cg q1)) (fun i _ _ => V + 1 - (intOf i).toNat)
            case atStart => exact ⟨0, Nat.zero_le _, rfl, rfl, .inl rfl, hr⟩
            case round =>
              obtain ⟨v, hv, rfl, rfl, hv0, hr3⟩ := hrel
              clear hr
              obtain ⟨a0, a1, a2, a3, a4, a5⟩ := hr3.out.tb.b6.out
              have hvv0 : (0 : Int) ≤ (v : Int) := by omega
              by_cases hvl : v < V + 1
              · have hvp : (v : Int) ≤ p.pm := by rw [HV.out]; omega
                by_cases hal : p.a ≤ (l : Int)
                · have htl : tkB (l : Int) p.a p.b = true := tkB_iff.2 ⟨q0, hal, hlb, q3⟩
                  have hky : h < p.ys.length := by rw [HEQ.out]; exact hlt9
                  have hst := good_st HGD.out hlt9 htl hvv0 hvp
                  have hnx := HGD.out.nx hlt9 htl hvv0 hvp
                  obtain ⟨zn, hzn⟩ : ∃ zn : Nat, nx p h l v = (zn : Int) := ⟨(nx p h l v).toNat, by have := tkB_iff.1 hnx; omega⟩
                  rw [hzn] at hnx
                  have hz60 := tkB_iff.1 hnx
                  have hznM : zn < M + 1 := by have := HM.out; omega
                  have hzn0 : (0 : Int) ≤ (zn : Int) := by omega
                  have hznMi : (zn : Int) < ((M + 1 : Nat) : Int) := by omega
                  have HTV := Lib.hid (show tbv p (h + 1) zn = enc (plan p r zn) by rw [tbv_tk hnx, HRX.out])
                  have HN : Hid (∀ w', Below w.heap.size w w' → Calls Try.prog 50 #[pv p A c A2 c2, .int .i64 h, .int .i64 (l : Int), .int .i64 (v : Int)] w' fun e w'' => e = .returned (.tuple #[.int .i64 (zn : Int), .bool (okS p h l v)]) ∧ Below w'.heap.size w' w'') :=
                    Lib.hid (fun w' hb => lnext_v hzn rfl w' (HPA.out w' hb) hky hst)
                  have HCANX := Lib.hid (show can p h l (plan p r) v = (okS p h l v && (plan p r zn).ex) by unfold can; rw [hzn])
                  have HCST := Lib.hid (show cst p h l (plan p r) v = p.xs.getD h 0 * v + (plan p r zn).cost by unfold cst; rw [hzn])
                  clear hzn hst hnx htl
                  have hh1 : (0 : Int) ≤ (h : Int) + 1 := by omega
                  have hh2 : (h : Int) + 1 < ((p.xs.length + 1 : Nat) : Int) := by omega
                  have hh3 : (h : Int) + 1 < (p.xs.length : Int) + 1 := by omega
                  cases hok : okS p h l v with
                  | false =>
                    have HST9 := Lib.hid (enc_step (show can p h l (plan p r) v = false by rw [HCANX.out, hok]; rfl))
                    rw [hok] at HN
                    clear hok HCANX HCST HTV
                    generalize enc (best p h l (plan p r) v) = bv at *
                    go_wp2_with (first | (go_at_call 50; refine (HN.out _ hr3.out.tb.bw).mono ?_; rintro e w4 ⟨rfl, hb4⟩; refine Hid.out ?_) | fail)
                    have HR4 := Lib.hid (hr3.out.call hb4)
                    clear hb4
                    refine Lib.hid ?_
                    go_wp2_with fail
                    go_roundw
                    case rel => exact ⟨v + 1, by omega, by go_num, by rw [HST9.out], .inr hal, HR4⟩
                    case measure => simp [intOf]; omega
                  | true =>
                    rw [hok] at HN
                    rw [hok, Bool.true_and] at HCANX
                    clear hok
                    have hcb := HGD.out.cost (r := r) HRN.out (zn : Int)
                    have hxb := HGD.out.price hlt9
                    have hv10 : (v : Int) ≤ 10 := by omega
                    have hmb := mul_bd hxb ⟨hvv0, hv10⟩
                    go_wp2_with (first | (go_at_call 50; refine (HN.out _ hr3.out.tb.bw).mono ?_; rintro e w4 ⟨rfl, hb4⟩; refine Hid.out ?_) | fail)
                    have HR4 := Lib.hid (hr3.out.call hb4)
                    clear hb4 hr3 HN a0 a1 a2 a3 a4 a5
                    obtain ⟨g2, cg2, e1, e2, e3⟩ := HR4.out.tb.row (h + 1) (Nat.le_refl _) (by omega)
                    have hbl4 := HR4.out.tb.bl
                    obtain ⟨bb, off, hA, hbl, h0⟩ := e3.at_ (i := zn) (by rw [rowK_len]; exact hznM)
                    injection hA with hA
                    injection hA with x1 x2 _
                    subst x1 x2
                    rw [Nat.zero_add, rowK_at p (h + 1) hznM, HTV.out] at h0
                    clear e3 hbl
                    obtain ⟨a0, a1, a2, a3, a4, a5⟩ := HR4.out.tb.b6.out
                    generalize hpl : plan p r (zn : Int) = pp at *
                    obtain ⟨px, pc, pvl⟩ := pp
                    simp only at hcb HCANX HCST
                    cases px with
                    | false =>
                      have HST9 := Lib.hid (enc_step HCANX.out)
                      have h0' : w4.cell? ⟨g2, zn, none⟩ = some (.int .i64 (-1)) := h0
                      clear h0
                      generalize enc (best p h l (plan p r) v) = bv at *
                      refine Lib.hid ?_
                      go_wp2_with fail
                      go_roundw
                      case rel => exact ⟨v + 1, by omega, by go_num, by rw [HST9.out], .inr hal, HR4⟩
                      case measure => simp [intOf]; omega
                    | true =>
                      have h0' : w4.cell? ⟨g2, zn, none⟩ = some (.int .i64 pc) := h0
                      clear h0
                      have hpc0 : ¬ pc < 0 := by omega
                      obtain ⟨bx, ox, hAx, hbx, hcx⟩ := (HPA.out _ HR4.out.tb.bw).x.at_ hlt9
                      subst hAx
                      generalize hxv : p.xs.getD h 0 = x at *
                      clear hxv
                      generalize hmv : x * (v : Int) = m9v at *
                      have HMV := Lib.hid hmv
                      clear hmv
                      have HW := Lib.hid (show wrap64 (wrap64 (x * (v : Int)) + pc) = m9v + pc by rw [HMV.out]; unfold wrap64; omega)
                      have hTl4 : w.heap.size + 1 < w4.heap.size := by have := HR4.out.tb.tl; omega
                      have hwl4 : w.heap.size < w4.heap.size := by omega
                      have hg24 : g2 < w4.heap.size := by omega
                      refine Lib.hid ?_
                      go_wp2_with fail
                      have hG := @cell_g
                      refine region_below (by kernel_rfl) (by kernel_rfl) ?_
                      repeat (first | go_big_quiet_step (fail))
                      refine wpQuiet_nil ?_
                      intro w6 hb6
                      have HR6 := Lib.hid (HR4.out.call hb6)
                      clear hb6 hG a0 a1 a2 a3 a4 a5 h0' hcx e1
                      try rw [HW.out]
                      have HENC : Hid (enc (best p h l (plan p r) v) = if (best p h l (plan p r) v).ex then (best p h l (plan p r) v).cost else -1) := Lib.hid rfl
                      cases hax : (best p h l (plan p r) v).ex with
                      | false =>
                        have HST9 := Lib.hid (show enc (best p h l (plan p r) (v + 1)) = m9v + pc from by
                          have e : best p h l (plan p r) (v + 1) = ⟨true, cst p h l (plan p r) v, v⟩ := if_pos ⟨HCANX.out, .inl hax⟩
                          rw [e, HCST.out]; rfl)
                        have hneg : enc (best p h l (plan p r) v) < 0 := by rw [HENC.out, hax]; simp
                        clear hax HENC
                        generalize enc (best p h l (plan p r) v) = bv at *
                        go_wp2_with fail
                        go_roundw
                        case rel => exact ⟨v + 1, by omega, by go_num, by rw [HST9.out], .inr hal, HR6⟩
                        case measure => simp [intOf]; omega
                      | true =>
                        have hbb : ¬ enc (best p h l (plan p r) v) < 0 := by
                          rw [HENC.out, hax, if_pos rfl]
                          obtain ⟨V9, h1, _, _, h4, _, _⟩ := best_is hax
                          rw [h4]
                          unfold cst
                          have g1 := HGD.out.price hlt9
                          have g2 := mul_bd g1 (v := (V9 : Int)) ⟨by omega, by omega⟩
                          have g3 := HGD.out.cost (r := r) HRN.out (nx p h l V9)
                          omega
                        by_cases hlc : m9v + pc < enc (best p h l (plan p r) v)
                        · have HST9 := Lib.hid (show enc (best p h l (plan p r) (v + 1)) = m9v + pc from by
                            have e : best p h l (plan p r) (v + 1) = ⟨true, cst p h l (plan p r) v, v⟩ := if_pos ⟨HCANX.out, .inr (by rw [HCST.out]; rw [HENC.out, hax, if_pos rfl] at hlc; exact hlc)⟩
                            rw [e, HCST.out]; rfl)
                          clear hax HENC
                          generalize enc (best p h l (plan p r) v) = bv at *
                          go_wp2_with fail
                          go_roundw
                          case rel => exact ⟨v + 1, by omega, by go_num, by rw [HST9.out], .inr hal, HR6⟩
                          case measure => simp [intOf]; omega
                        · have HST9 := Lib.hid (show enc (best p h l (plan p r) (v + 1)) = enc (best p h l (plan p r) v) from by
                            have e : best p h l (plan p r) (v + 1) = best p h l (plan p r) v := if_neg (by rw [HCST.out, hax]; rw [HENC.out, hax, if_pos rfl] at hlc; simp; omega)
                            rw [e])
                          clear hax HENC
                          generalize enc (best p h l (plan p r) v) = bv at *
                          go_wp2_with fail
                          go_roundw
                          case rel => exact ⟨v + 1, by omega, by go_num, by rw [HST9.out], .inr hal, HR6⟩
                          case measure => simp [intOf]; omega
                · have hv9 : v = 0 := by rcases hv0 with e | e; exact e; exact absurd e hal
                  have HVL : Hid (enc (best p h l (plan p r) v) = tbv p h l) := Lib.hid (by rw [hv9]; unfold tbv; rw [if_pos ⟨hlt9, by omega⟩]; rfl)
                  generalize enc (best p h l (plan p r) v) = bv at *
                  refine Hid.out ?_
                  refine Lib.hid ?_
                  have HR := Lib.hid hr3.out
                  have ho := HR.out.o1
                  unfold IOwn at ho
                  rw [n1.out] at ho
                  have hbs := HR.out.tb.bw.size
                  have hbl9 := HR.out.tb.bl
                  go_wp2_with (first
                    | (at_builtin; go_must (refine wpList_append_own_at _ rfl _ _ 24 rfl B1 3 i0 (.int .i64 0) 1 8 Try.underlying24 hi hz0 hz1' hz2 rfl (by decide) _ _ _ rfl (ho.alloc _) ⟨wr.heap.size, 0, none⟩ 1 1 [iv bv] rfl rfl (cell_one_new _ _ _) (by intro u hu; simp at hu; subst hu; rfl) (by unfold maxLen; omega) (by omega) (by simp; omega) ?_); intro v' w5 hown' hgrow hnil hbl'; refine Hid.out ?_)
                    | fail)
                  obtain ⟨g1, c1, hv', hR'⟩ := (HR.out.call (alloc_below wr (.cells #[iv bv] 3))).push hgrow (by rw [n1.out]; exact hown')
                  rw [n1.out] at hv'
                  subst hv'
                  rw [HVL.out] at hR'
                  rw [← HSN.out] at hR'
                  have HRR := Lib.hid hR'
                  clear hown' hgrow hnil hbl' ho hbs hbl9 hR' HR
                  refine Lib.hid ?_
                  go_wp2_with fail
                  go_roundw
                  case rel => exact ⟨l + 1, g1, c1, by omega, by go_num, rfl, HRR⟩
                  case measure => simp [intOf]; omega
              · have hvp : ¬ (v : Int) ≤ p.pm := by rw [HV.out]; omega
                have hal : p.a ≤ (l : Int) := by rcases hv0 with e | e; omega; exact e
                have HVL : Hid (enc (best p h l (plan p r) v) = tbv p h l) := Lib.hid (by
                  unfold tbv
                  rw [if_neg (by omega), HPB.out, show v = V + 1 by omega])
                generalize enc (best p h l (plan p r) v) = bv at *
                refine Hid.out ?_
                refine Lib.hid ?_
                have HR := Lib.hid hr3.out
                have ho := HR.out.o1
                unfold IOwn at ho
                rw [n1.out] at ho
                have hbs := HR.out.tb.bw.size
                have hbl9 := HR.out.tb.bl
                go_wp2_with (first
                  | (at_builtin; go_must (refine wpList_append_own_at _ rfl _ _ 24 rfl B1 3 i0 (.int .i64 0) 1 8 Try.underlying24 hi hz0 hz1' hz2 rfl (by decide) _ _ _ rfl (ho.alloc _) ⟨wr.heap.size, 0, none⟩ 1 1 [iv bv] rfl rfl (cell_one_new _ _ _) (by intro u hu; simp at hu; subst hu; rfl) (by unfold maxLen; omega) (by omega) (by simp; omega) ?_); intro v' w5 hown' hgrow hnil hbl'; refine Hid.out ?_)
                  | fail)
                obtain ⟨g1, c1, hv', hR'⟩ := (HR.out.call (alloc_below wr (.cells #[iv bv] 3))).push hgrow (by rw [n1.out]; exact hown')
                rw [n1.out] at hv'
                subst hv'
                rw [HVL.out] at hR'
                rw [← HSN.out] at hR'
                have HRR := Lib.hid hR'
                clear hown' hgrow hnil hbl' ho hbs hbl9 hR' HR
                refine Lib.hid ?_
                go_wp2_with fail
                go_roundw
                case rel => exact ⟨l + 1, g1, c1, by omega, by go_num, rfl, HRR⟩
                case measure => simp [intOf]; omega
        · have hlb : ¬ (l : Int) ≤ p.b := by rw [HM.out]; omega
          have e : l = M + 1 := by omega
          subst e
          have hrl := hr.out
          have hTl : w.heap.size + 1 < wr.heap.size := by have := hrl.tb.tl; have := hrl.tb.bl; omega
          have hem := hrl.tb.emp h (by omega)
          have hfz := hrl.tb.fz h
          have hhl : (h : Int) < ((p.xs.length + 1 : Nat) : Int) := by omega
          have hput := hrl.put
          go_wp2_with fail
          go_roundw
          case rel => exact ⟨h, _, by omega, by go_num, Lib.hid (by omega), _, Lib.hid hput⟩
          case measure => simp [intOf]
end Go.Proofs.Ytlkomipjamelkaa.S13
