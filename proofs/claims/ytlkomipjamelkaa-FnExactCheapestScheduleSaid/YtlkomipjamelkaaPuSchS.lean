/- Good schedules and their costs: what the model returns: contracts. Conditions: each theorem's own premises. -/
import Derived.Test.YtlkomipjamelkaaPuSch
import Derived.Deep.DeepCutAuto
namespace Go.Proofs.Ytlkomipjamelkaa.S13
open Go.RowKit Go.Sort Go.ChangeShapes Go.WideShapes Go.Deep Go.Joins P11 S11 P13

theorem in_b {x a b : Int} {v : Bool} (h : inR a b x = v) (w : World) : Calls Try.prog 52 #[.int .i64 x, .int .i64 a, .int .i64 b] w fun e w' => e = .returned (.bool v) ∧ Below w.heap.size w w' :=
  (in_eq x a b v h w).mono fun _ _ ⟨h1, h2⟩ => ⟨h1, by rw [h2]; exact Below.refl _ _⟩
theorem neq_len {n m : Nat} (h : n = m) : ((n : Int) != (m : Int)) = false := by subst h; simp
theorem neq_len' {n m : Nat} (h : n ≠ m) : ((n : Int) != (m : Int)) = true := by simp; omega
theorem B6.below {w w' : World} {t : TypeId} {p : Pg} {A : Option Addr} {c : Nat} {A2 : Option Addr} {c2 : Nat} (hb : Below (w.heap.size + 1) (w.alloc (po t p A c A2 c2)) w') : B6 w' w.heap.size 0 p A c A2 c2 :=
  (B6.new w t p A c A2 c2).keep hb (by omega)
set_option maxHeartbeats 4000000 in
theorem lsch_any (p : Pg) (A : Option Addr) (c : Nat) (A2 : Option Addr) (c2 : Nat) (AS : Option Addr) (cs : Nat) (vs : List Int) (w : World) (h : PAt w p A A2) (hv : IAt w AS vs) (hvl : vs.length ≤ 1048576) :
    Calls Try.prog 41 #[pv p A c A2 c2, .slice AS vs.length cs] w fun e w' => e = .returned (.bool (gsB p vs)) ∧ Below w.heap.size w w' := by
  have HB0 := Lib.hid (boxB w 31 p A c A2 c2)
  have H60 := Lib.hid (B6.new w 31 p A c A2 c2)
  have HP := Lib.hid (fun w' hb => h.kept (w' := w') hb)
  have HV := Lib.hid (fun w' (hb : Below w.heap.size w w') => hv.kept hb (Nat.le_refl _))
  have HG := Lib.hid (fun w' (hb : Below w.heap.size w w') => lgood_any p A c A2 c2 w' (h.kept hb))
  clear h hv
  unfold gsB
  cases hp : pgB p with
  | false =>
    rw [hp] at HG
    rw [Bool.false_and]
    go_enter Try.func41, Try.ntmps41
    go_wp2_with (first | (go_at_call 36; refine (HG.out _ HB0.out).mono ?_; rintro e w1 ⟨rfl, hb1⟩; refine Hid.out ?_) | fail)
    have hB1 := HB0.out.trans (hb1.mono HB0.out.size)
    refine Lib.hid ?_
    go_wp2_with fail
    go_ret
    exact ⟨rfl, hB1⟩
  | true =>
    rw [hp] at HG
    rw [Bool.true_and]
    have HGD := Lib.hid (pgB_iff.1 hp)
    clear hp
    by_cases hl : vs.length = p.xs.length
    · have e : decide (vs.length = p.xs.length) = true := by simp [hl]
      rw [e, Bool.true_and]
      clear e
      have d := neq_len hl
      have hn12 : vs.length ≤ 12 := by have := HGD.out.day.n1; omega
      have HL := Lib.hid hl
      clear hl
      go_enter Try.func41, Try.ntmps41
      go_wp2_with (first | (go_at_call 36; refine (HG.out _ HB0.out).mono ?_; rintro e w1 ⟨rfl, hb1⟩; refine Hid.out ?_) | fail)
      have hB1 := Lib.hid (HB0.out.trans (hb1.mono HB0.out.size))
      have H61 := Lib.hid (H60.out.kept hb1)
      obtain ⟨a0, a1, a2, a3, a4, a5⟩ := H61.out.out
      clear hb1 H60 HB0 HG
      refine Lib.hid ?_
      go_wp2_with fail
      try rw [d]
      clear d a0 a1 a2 a3 a4 a5
      go_loopw [6, 5] (fun i l wr => ∃ k : Nat, k ≤ vs.length ∧ i = .int .i64 (k : Int) ∧ l = .int .i64 (lvS p vs k) ∧ Hid (∀ j, j < k → hrB p vs j = true) ∧ Hid (Below w.heap.size w wr) ∧ Hid (B6 wr w.heap.size 0 p A c A2 c2)) (fun i _ _ => vs.length - (intOf i).toNat)
      case atStart => exact ⟨0, Nat.zero_le _, rfl, rfl, Lib.hid (fun j hj => absurd hj (by omega)), hB1, H61⟩
      case round =>
        obtain ⟨k, hk, rfl, rfl, hno, hBr, h6r⟩ := hrel
        clear hB1 H61
        obtain ⟨a0, a1, a2, a3, a4, a5⟩ := h6r.out.out
        have hwl : w.heap.size < wr.heap.size := h6r.out.lt
        by_cases hlt : k < vs.length
        · obtain ⟨bb, off, hA, hbl, h0⟩ := (HV.out _ hBr.out).at_ hlt
          subst hA
          have hk0 : (0 : Int) ≤ (k : Int) := by omega
          have hkn : (k : Int) < (vs.length : Int) := by omega
          cases hi : inR 0 p.pm (vs.getD k 0) with
          | false =>
            have HE := Lib.hid (gs_no hlt (show hrB p vs k = false by unfold hrB; rw [hi]; rfl))
            have HIN := Lib.hid (fun w => in_b hi w)
            clear hi hno HP HV HL HGD
            generalize vs.getD k 0 = v at *
            go_wp2_with fail
            have hG := @cell_g
            refine region_below (by kernel_rfl) (by kernel_rfl) ?_
            repeat (first | go_big_quiet_step ((go_at_call 52; exact met HIN.out)))
            refine wpQuiet_nil ?_
            intro w2 hb2
            have HB2 := Lib.hid (hBr.out.trans (hb2.mono hBr.out.size))
            clear hb2 hG
            go_wp2_with fail
            go_ret
            exact ⟨by rw [HE.out]; rfl, HB2.out⟩
          | true =>
            have hvr : 0 ≤ vs.getD k 0 ∧ vs.getD k 0 ≤ p.pm := by simpa [inR] using hi
            have hkx : k < p.xs.length := by rw [← HL.out]; exact hlt
            have htk := lvS_tk HGD.out (n := k) (by omega) hno.out (Nat.le_refl _)
            have hst := good_st HGD.out hkx htk hvr.1 hvr.2
            have hky : k < p.ys.length := by rw [HGD.out.day.eq]; exact hkx
            have HIN := Lib.hid (fun w => in_b hi w)
            cases ho : okS p k (lvS p vs k) (vs.getD k 0) with
            | false =>
              have HE := Lib.hid (gs_no hlt (show hrB p vs k = false by unfold hrB; rw [hi, ho]; rfl))
              have HN := Lib.hid (fun w' (hb : Below w.heap.size w w') => lnext_v (A := A) (c := c) (A2 := A2) (c2 := c2) rfl ho w' (HP.out _ hb) hky hst)
              clear hi ho hno HP HV HL HGD hst htk hvr hkx hky
              generalize nx p k (lvS p vs k) (vs.getD k 0) = z at *
              generalize vs.getD k 0 = v at *
              generalize lvS p vs k = l0 at *
              go_wp2_with fail
              have hG := @cell_g
              refine region_below (by kernel_rfl) (by kernel_rfl) ?_
              repeat (first | go_big_quiet_step ((go_at_call 52; exact met HIN.out)))
              refine wpQuiet_nil ?_
              intro w2 hb2
              have HB2 := Lib.hid (hBr.out.trans (hb2.mono hBr.out.size))
              clear a0 a1 a2 a3 a4 a5
              obtain ⟨a0, a1, a2, a3, a4, a5⟩ := (h6r.out.kept hb2).out
              have h02 := (hb2.cell (p := ⟨bb, off + k, none⟩) hbl).trans h0
              have hwl2 := Nat.lt_of_lt_of_le hwl hb2.size
              have hbl2 := Nat.lt_of_lt_of_le hbl hb2.size
              clear hb2 hG hwl hbl h0
              have HN2 := Lib.hid (fun w' (hb : Below w2.heap.size w2 w') => HN.out w' (HB2.out.trans (hb.mono HB2.out.size)))
              clear HN HIN hBr h6r
              go_wp2_with fail
              have hG := @cell_g
              refine region_below (by kernel_rfl) (by kernel_rfl) ?_
              repeat (first | go_big_quiet_step ((go_at_call 50; exact met_at HN2.out)))
              refine wpQuiet_nil ?_
              intro w3 hb3
              have HB3 := Lib.hid (HB2.out.trans (hb3.mono HB2.out.size))
              clear hb3 hG
              go_wp2_with fail
              go_ret
              exact ⟨by rw [HE.out]; rfl, HB3.out⟩
            | true =>
              have hno2 := Lib.hid (show ∀ j, j < k + 1 → hrB p vs j = true from fun j hj => by
                by_cases e : j = k
                · subst e; unfold hrB; rw [hi, ho]; rfl
                · exact hno.out j (by omega))
              have HN := Lib.hid (fun w' (hb : Below w.heap.size w w') => lnext_v (A := A) (c := c) (A2 := A2) (c2 := c2) (lvS_succ p vs k).symm ho w' (HP.out _ hb) hky hst)
              clear hi ho hno HV HL HGD hst htk hvr hkx hky HP
              obtain ⟨z, hz⟩ : ∃ z, lvS p vs (k + 1) = z := ⟨_, rfl⟩
              rw [hz] at HN
              have HZ := Lib.hid hz
              clear hz
              generalize hgv : vs.getD k 0 = v at *
              generalize hgl : lvS p vs k = l0 at *
              clear hgv hgl
              go_wp2_with fail
              have hG := @cell_g
              refine region_below (by kernel_rfl) (by kernel_rfl) ?_
              repeat (first | go_big_quiet_step ((go_at_call 52; exact met HIN.out)))
              refine wpQuiet_nil ?_
              intro w2 hb2
              have HB2 := Lib.hid (hBr.out.trans (hb2.mono hBr.out.size))
              clear a0 a1 a2 a3 a4 a5
              have H62 := Lib.hid (h6r.out.kept hb2)
              obtain ⟨a0, a1, a2, a3, a4, a5⟩ := H62.out.out
              have h02 := (hb2.cell (p := ⟨bb, off + k, none⟩) hbl).trans h0
              have hwl2 := Nat.lt_of_lt_of_le hwl hb2.size
              have hbl2 := Nat.lt_of_lt_of_le hbl hb2.size
              clear hb2 hG hwl hbl h0
              have HN2 := Lib.hid (fun w' (hb : Below w2.heap.size w2 w') => HN.out w' (HB2.out.trans (hb.mono HB2.out.size)))
              clear HN HIN hBr h6r
              go_wp2_with fail
              have hG := @cell_g
              refine region_below (by kernel_rfl) (by kernel_rfl) ?_
              repeat (first | go_big_quiet_step ((go_at_call 50; exact met_at HN2.out)))
              refine wpQuiet_nil ?_
              intro w3 hb3
              have HB3 := Lib.hid (HB2.out.trans (hb3.mono HB2.out.size))
              have H63 := Lib.hid (H62.out.kept hb3)
              clear hb3 hG a0 a1 a2 a3 a4 a5 h02 hwl2 hbl2
              go_wp2_with fail
              go_roundw
              case rel => exact ⟨k + 1, by omega, by go_num, by rw [HZ.out], hno2, HB3, H63⟩
              case measure => simp [intOf]; omega
        · have e : k = vs.length := by omega
          subst e
          have HE := Lib.hid (gs_mk hno.out)
          clear hno
          generalize hgl : lvS p vs vs.length = l0 at *
          have HGL := Lib.hid hgl
          clear hgl
          go_wp2
          go_ret
          exact ⟨by rw [HE.out, Bool.true_and, HGL.out]; rfl, hBr.out⟩
    · have e : decide (vs.length = p.xs.length) = false := by simp [hl]
      rw [e, Bool.false_and]
      clear e
      have d := neq_len' hl
      clear hl HGD
      go_enter Try.func41, Try.ntmps41
      go_wp2_with (first | (go_at_call 36; refine (HG.out _ HB0.out).mono ?_; rintro e w1 ⟨rfl, hb1⟩; refine Hid.out ?_) | fail)
      have hB1 := HB0.out.trans (hb1.mono HB0.out.size)
      obtain ⟨a0, a1, a2, a3, a4, a5⟩ := (H60.out.kept hb1).out
      refine Lib.hid ?_
      go_wp2_with fail
      go_ret
      exact ⟨rfl, hB1⟩
end Go.Proofs.Ytlkomipjamelkaa.S13
