/- The flattened profile, the model's: contracts. Conditions: each theorem's own premises. -/
import Derived.Test.YtkgkeohnnpkahaaPfFla
namespace Go.Proofs.Ytkgkeohnnpkahaa.S6
open Go.RowKit P6

set_option maxHeartbeats 2000000 in
theorem sfla_no (A : Option Addr) (cap : Nat) (l : List Int) (y : Int) (w : World) (h : IAt w A l) (hm : l.length ≤ 1048576) (hn : (gdB l && moB y) = false) :
    Calls Try.prog 24 #[dv A l.length cap, .int .i64 y] w (GivesPN w) := by
  obtain ⟨v, hv⟩ : ∃ v, gdB l = v := ⟨_, rfl⟩
  have HV := Lib.hid (fun w' (hb : Below w.heap.size w w') => sgood_v hv A cap w' (h.kept hb (Nat.le_refl _)) hm)
  have HI := Lib.hid (fun w => in_any y 100 1000 w)
  rw [hv] at hn
  clear h hv
  unfold moB at hn
  generalize decide (100 ≤ y ∧ y ≤ 1000) = vy at *
  go_enter Try.func24, Try.ntmps24
  cases v <;> cases vy <;> first | (exact absurd hn (by decide)) | skip
  all_goals
    clear hn
    go_wp2_with (first
      | (go_at_call 57; refine (HV.out _ (two_below _ _ _)).mono ?_; rintro e w1 ⟨rfl, hb1⟩; obtain ⟨hB, c0, c1, f1, hz⟩ := two_cells hb1)
      | (go_at_call 65; refine (HI.out _).mono ?_; rintro e w1z ⟨rfl, hw⟩; replace hw := hw.symm; subst hw))
    refine bodyPost_ret (v := .tuple #[dv none 0 0, .bool false]) (by simp [results, Try.results24, go_sem, c1]) rfl ⟨rfl, (under2 hB).setCell (p := ⟨w.heap.size + 1, 0, none⟩) (by show w.heap.size ≤ w.heap.size + 1; omega) _⟩
set_option maxHeartbeats 16000000 in
theorem sfla_yes (A : Option Addr) (cap : Nat) (l : List Int) (m : Int) (w : World) (h : IAt w A l) (g : Gd l) (hm1 : 100 ≤ m) (hm9 : m ≤ 1000) :
    Calls Try.prog 24 #[dv A l.length cap, .int .i64 m] w (GivesPA w (flL l m) true) := by
  have hl := g.1
  have HV := Lib.hid (fun w' (hb : Below w.heap.size w w') => sgood_v (gd_mk g) A cap w' (h.kept hb (Nat.le_refl _)) (by omega))
  rw [hl] at HV ⊢
  have HI := Lib.hid (fun w => in_eq m 100 1000 true (by simp; omega) w)
  have HCl := Lib.hid (fun w' (hb : Below w.heap.size w w') => own_any A cap l w' (h.kept hb (Nat.le_refl _)) hl)
  obtain ⟨hN1, hN2⟩ := flN_spec g hm1
  have HGD := Lib.hid (mvs_gd g hm1 hN2)
  have HN1 := Lib.hid hN1
  have HN2 := Lib.hid hN2
  have HFL := Lib.hid (show mvs l (flN l m) = flL l m from rfl)
  generalize flN l m = N at *
  clear h g hl hN1 hN2
  refine Calls.mono ?_ (fun e w' h => GivesPI.any h)
  go_enter Try.func24, Try.ntmps24
  go_wp2_with (first
    | (go_at_call 57; refine (HV.out _ (two_below _ _ _)).mono ?_; rintro e w1 ⟨rfl, hb1⟩; obtain ⟨hB, c0, c1, f1, hz⟩ := two_cells hb1)
    | (go_at_call 65; refine (HI.out _).mono ?_; rintro e w1z ⟨rfl, hw⟩; replace hw := hw.symm; subst hw)
    | (go_at_call 66; refine (HCl.out _ (under2 hB)).mono ?_; rintro e w2 ⟨gr, capr, rfl, hgr, hor, hb2⟩; refine Hid.out ?_))
  have HB := Lib.hid (show tB w A cap w2 from hB.trans (hb2.mono hz))
  have HO := Lib.hid (own_lower (B' := w.heap.size + 2) hor (by omega))
  have hp0 := Lib.hid (row_facts (HGD.out 0 (by omega)).1 (show IOwn w2 (w.heap.size + 2) (.slice (some ⟨gr, 0, none⟩) 24 capr) (mvs l 0) from HO.out))
  have HP0 := Lib.hid (speak_any (some ⟨gr, 0, none⟩) capr (mvs l 0) w2 hp0.out.1 (HGD.out 0 (by omega)).1)
  clear hB c0 c1 f1 hb1 hb2 hor hp0
  refine Lib.hid ?_
  go_wp2_with (go_at_call 67; refine HP0.out.mono ?_; rintro e w3 ⟨rfl, hb3⟩)
  have HB3 := Lib.hid (show tB w A cap w3 from HB.out.trans (hb3.mono (by have := HB.out.size; simp at this; omega)))
  have HO3 := Lib.hid (show IOwn w3 (w.heap.size + 2) (.slice (some ⟨gr, 0, none⟩) 24 capr) (mvs l 0) from HO.out.on hb3)
  clear HB HO HP0 hb3
  go_loopg [7, 8, 9] N (fun K kk _ _ wr => ∃ (n p0 : Nat), n ≤ N ∧ n + K = N ∧ kk = .int .i64 (p0 : Int) ∧ Hid (p0 = pk (mvs l n) 24) ∧ Hid (IOwn wr (w.heap.size + 2) (.slice (some ⟨gr, 0, none⟩) 24 capr) (mvs l n)) ∧ Hid (tB w A cap wr))
  case atStart => exact ⟨0, _, by omega, by omega, rfl, Lib.hid rfl, HO3, HB3⟩
  case round =>
    clear HO3 HB3
    obtain ⟨n, p0, hn, hnK, rfl, hp0, hown, hb⟩ := hrel
    have hG := HGD.out n hn
    obtain ⟨hat, hce, hfr⟩ := row_facts hG.1 hown.out
    have hp := pk_lt (mvs l n) 24 (by omega)
    rw [← hp0.out] at hp
    have hcp := hce _ hp
    by_cases hlt : n < N
    · have hgt := HN2.out n hlt
      rw [← hp0.out] at hgt
      have hgl : gr < wr.heap.size := (World.ownsRow.lt hown.out gr rfl).2
      have hfp := hfr p0
      have HCE := Lib.hid hce
      have HFR := Lib.hid hfr
      have HG := Lib.hid hG
      have hpi : (0 : Int) ≤ (p0 : Int) := by omega
      have HZ := Lib.hid (lo_one (mvs l n))
      have hL1 := Lib.hid (lo_lt (mvs l n))
      have hbp := hG.2.1 _ hp
      have HPV := Lib.hid (show at0 (mvs l n) p0 = at0 (mvs l n) p0 from rfl)
      obtain ⟨P, hP⟩ : ∃ P, at0 (mvs l n) p0 = P := ⟨_, rfl⟩
      rw [hP] at hcp hgt hbp
      have HP := Lib.hid hP
      clear hat hce hfr hG hP HPV
      obtain ⟨wo, hwo⟩ : ∃ wo, wo = wr := ⟨_, rfl⟩
      subst hwo
      go_wp2_with fail
      go_loopg [8, 9] 24 (fun K2 lw i wr2 => ∃ (k q0 : Nat), 1 ≤ k ∧ k ≤ 24 ∧ k + K2 = 25 ∧ i = .int .i64 (k : Int) ∧ lw = .int .i64 (q0 : Int) ∧ Hid (q0 = lo (mvs l n) k) ∧ Below wo.heap.size wo wr2)
      case atStart => exact ⟨1, 0, by omega, by omega, by omega, rfl, rfl, Lib.hid HZ.out.symm, Below.refl _ _⟩
      case round =>
        obtain ⟨k, q0, hk1, hk, hkK, rfl, rfl, hq0, hb2⟩ := hrel
        have hq : q0 < 24 := by rw [hq0.out]; have := hL1.out k (by omega); omega
        obtain ⟨hc2, hf2⟩ := bcell hb2
        have hz2 := hb2.size
        by_cases hlt2 : k < 24
        · have hck := (hc2 gr k hgl).trans (HCE.out k hlt2)
          have hcq := (hc2 gr q0 hgl).trans (HCE.out q0 hq)
          have hs : lo (mvs l n) (k + 1) = if at0 (mvs l n) k < at0 (mvs l n) (lo (mvs l n) k) then k else lo (mvs l n) k := rfl
          rw [← hq0.out] at hs
          have HS := Lib.hid hs
          have hG := @cell_g
          have hgw : gr < wr.heap.size := by omega
          have hki : (0 : Int) ≤ (k : Int) := by omega
          have hqi : (0 : Int) ≤ (q0 : Int) := by omega
          have hcl := Lib.hid (fun (w1 : World) (h1 : Below wr.heap.size wr w1) => hb2.trans (h1.mono hz2))
          clear hs hc2 hf2
          by_cases hx : at0 (mvs l n) k < at0 (mvs l n) q0
          · have HR := Lib.hid (show k = lo (mvs l n) (k + 1) by rw [HS.out, if_pos hx])
            generalize at0 (mvs l n) k = x at *
            generalize at0 (mvs l n) q0 = y at *
            go_wp2_with fail
            refine region_below (by kernel_rfl) (by kernel_rfl) ?_
            repeat (first | go_big_quiet_step (fail))
            refine wpQuiet_nil ?_
            intro w1 hb1
            go_wp2_with fail
            go_roundg (25 - (k + 1))
            case rel => exact ⟨k + 1, k, by omega, by omega, by omega, by go_num, rfl, Lib.hid HR.out, hcl.out _ hb1⟩
            case measure => omega
          · have HR := Lib.hid (show q0 = lo (mvs l n) (k + 1) by rw [HS.out, if_neg hx])
            generalize at0 (mvs l n) k = x at *
            generalize at0 (mvs l n) q0 = y at *
            go_wp2_with fail
            refine region_below (by kernel_rfl) (by kernel_rfl) ?_
            repeat (first | go_big_quiet_step (fail))
            refine wpQuiet_nil ?_
            intro w1 hb1
            go_wp2_with fail
            go_roundg (25 - (k + 1))
            case rel => exact ⟨k + 1, q0, by omega, by omega, by omega, by go_num, rfl, Lib.hid HR.out, hcl.out _ hb1⟩
            case measure => omega
        · have e : k = 24 := by omega
          subst e
          have hG := HG.out
          have hlow := low_below hG (by rw [← hp0.out, HP.out]; omega)
          rw [← hq0.out] at hlow
          have hne : ¬ q0 = p0 := fun e => by rw [e, HP.out] at hlow; omega
          have hne2 : ¬ p0 = q0 := fun e => hne e.symm
          have hcp2 := (hc2 gr p0 hgl).trans hcp
          have hcq2 := (hc2 gr q0 hgl).trans (HCE.out q0 hq)
          have hfp2 := (hf2 gr p0 hgl).trans hfp
          have hfq2 := (hf2 gr q0 hgl).trans (HFR.out q0)
          have hqi : (0 : Int) ≤ (q0 : Int) := by omega
          have hbq := hG.2.1 _ hq
          have hnx := mv_cells hG (by rw [← hp0.out, HP.out]; omega) (hown.out.on hb2)
          rw [← hp0.out, ← hq0.out, HP.out] at hnx
          have hzw := hb.out.size
          simp at hzw
          have hBx := ((hb.out.trans (hb2.mono (by omega))).setCell (p := ⟨gr, p0, none⟩) (by show w.heap.size + 2 ≤ gr; omega) (iv (P - 1))).setCell (p := ⟨gr, q0, none⟩) (by show w.heap.size + 2 ≤ gr; omega) (iv (at0 (mvs l n) q0 + 1))
          have hG1 := HGD.out (n + 1) (by omega)
          obtain ⟨hat1, _, _⟩ := row_facts hG1.1 hnx
          have HPk := Lib.hid (speak_any (some ⟨gr, 0, none⟩) capr (mvs l (n + 1)) _ hat1 hG1.1)
          have HNX := Lib.hid hnx
          have HBX := Lib.hid hBx
          clear hlow hnx hBx hG1 hat1 hG hc2 hf2
          generalize at0 (mvs l n) q0 = Q at *
          go_wp2_with (go_at_call 67; refine HPk.out.mono ?_; rintro e w5 ⟨rfl, hb5⟩)
          go_roundg (N - (n + 1))
          case rel => exact ⟨n + 1, _, by omega, by omega, rfl, Lib.hid rfl, Lib.hid (HNX.out.on hb5), Lib.hid (HBX.out.trans (hb5.mono (by have := HBX.out.size; simp at this ⊢; omega)))⟩
          case measure => omega
    · have e : n = N := by omega
      subst e
      have hle := HN1.out
      rw [← hp0.out] at hle
      rw [HFL.out] at hown
      obtain ⟨c0, c1, f1, hz3⟩ := tB.parts hb.out
      have hlen : (flL l m).length = 24 := by rw [← HFL.out]; exact hG.1
      have hpi : (0 : Int) ≤ (p0 : Int) := by omega
      clear hce hfr hat hG
      generalize at0 (mvs l n) p0 = P at *
      go_wp2_with fail
      refine bodyPost_ret (v := .tuple #[dv (some ⟨gr, 0, none⟩) (flL l m).length capr, .bool true]) (by simp [results, Try.results24, go_sem, c1, hlen]) rfl ⟨gr, capr, rfl, by omega, ?_, (under2 hb.out).setCell (p := ⟨w.heap.size + 1, 0, none⟩) (by show w.heap.size ≤ w.heap.size + 1; omega) _⟩
      rw [hlen]
      exact own_lower (ownsRow_setCell_below hown.out (show w.heap.size + 1 < w.heap.size + 2 by omega) _) (by omega)
end Go.Proofs.Ytkgkeohnnpkahaa.S6
