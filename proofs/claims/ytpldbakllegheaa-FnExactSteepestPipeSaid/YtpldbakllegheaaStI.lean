/- SteepestPipe of the program and of the model: contracts. Conditions: each theorem's own premises. -/
import Derived.Test.YtpldbakllegheaaEnI
import Derived.Test.YtpldbakllegheaaMinMax
import Derived.Test.YtpldbakllegheaaNetKit
namespace Go.Proofs.Ytpldbakllegheaa.S2
open Go.RowKit P2

def stF (ps : List Pp) (fl : List Int) (k : Nat) : Int := absI (lossI (pAt ps k) (lA fl k))
def stL (ps : List Pp) (fl : List Int) : List Int := (List.range ps.length).map (stF ps fl)
theorem stL_len (ps : List Pp) (fl : List Int) : (stL ps fl).length = ps.length := by simp [stL]
theorem stL_at {ps : List Pp} {fl : List Int} {k : Nat} (h : k < ps.length) : lA (stL ps fl) k = stF ps fl k := by simp [lA, stL, List.getD, h]
theorem stF_in {n : Int} {ps : List Pp} (hg : P2.Good n ps) {fl : List Int} (hr : allR (-8000) 8000 fl = true) (hl : fl.length = ps.length) {k : Nat} (hk : k < fl.length) : 0 ≤ stF ps fl k ∧ stF ps fl k ≤ 576000000 := by
  have h2 := allR_at hr hk
  have h3 := (loss_in (good_pp hg (pAt_mem (show k < ps.length by omega))) h2.1 h2.2).2
  exact ⟨absI_nn _, absI_le (by unfold lA; omega) (by unfold lA; omega)⟩
theorem fst_same {f g : Nat → Int} : ∀ k, (∀ j, j < k → f j = g j) → fstG f k = fstG g k
  | 0, _ => rfl
  | k + 1, h => by
    have e := fst_same k (fun j hj => h j (by omega))
    rw [fstG, fstG, e]
    by_cases h0 : k = 0
    · subst h0; simp [fstG]
    · rw [h _ (show fstG g k < k + 1 by have := fstG_lt g k (by omega); omega), h k (by omega)]
/-- The place of the greatest. -/
def stI (ps : List Pp) (fl : List Int) : Nat := fstG (stF ps fl) ps.length
theorem stI_list (ps : List Pp) (fl : List Int) : fstG (lA (stL ps fl)) (stL ps fl).length = stI ps fl := by
  rw [stL_len]
  exact fst_same _ fun j hj => stL_at hj
theorem stI_lt {ps : List Pp} (fl : List Int) (h : 0 < ps.length) : stI ps fl < ps.length := fstG_lt _ _ h

/-! ### The losses of all pipes -/
set_option maxHeartbeats 1000000 in
theorem stc_any {n : Int} {p : Pp} (hp : PpOk n p) {f : Int} (h0 : -8000 ≤ f) (h1 : f ≤ 8000) (w : World) :
    Calls Try.prog 83 #[pv p, .int .i64 f] w fun e w' => e = .returned (.int .i64 (absI (lossI p f))) ∧ Below w.heap.size w w' := by
  have HLO := Lib.hid (fun w' => loss_any hp h0 h1 w')
  have a4 := (loss_in hp h0 h1).2
  have HA := Lib.hid (show absI (lossI p f) = max (lossI p f) (-lossI p f) from rfl)
  rw [HA.out]
  clear hp
  generalize lossI p f = L at *
  go_enter Try.func83, Try.ntmps83
  go_wp2_with (go_at_call 59; refine (HLO.out _).mono ?_; rintro e w1 ⟨rfl, hb1⟩)
  go_ret
  exact ⟨rfl, below_alloc_call hb1⟩

theorem made_row (l : List Int) (w : World) (hn : l.length ≤ 1048576) : Hid ((w.alloc (.cells (madeCells #[.int .i64 0] l.length) 3)).ownsRow w.heap.size 3 1 (.slice (some ⟨w.heap.size, 0, none⟩) l.length l.length) l.length (fiI l 0)) := Lib.hid (made_own l w hn)
set_option maxHeartbeats 3000000 in
set_option maxRecDepth 100000 in
theorem stp_any {n : Int} (A : Option Addr) (cap : Nat) (ps : List Pp) (AD : Option Addr) (dc : Nat) (fl : List Int) (w : World) (h : PAt w A ps) (hd : IAt w AD fl) (hg : P2.Good n ps) (hr : allR (-8000) 8000 fl = true) (hl : fl.length = ps.length) :
    Calls Try.prog 82 #[.slice A ps.length cap, .slice AD fl.length dc, .func (.func 83) #[] #[]] w fun e w' => (∃ g, e = .returned (.slice (some ⟨g, 0, none⟩) ps.length ps.length) ∧ w.heap.size ≤ g ∧ IOwn w' w.heap.size (.slice (some ⟨g, 0, none⟩) ps.length ps.length) (stL ps fl)) ∧ Below w.heap.size w w' := by
  have hl10 := hg.2.2.1
  have HA := Lib.hid (fun w' (hb : Below w.heap.size w w') => h.kept hb (Nat.le_refl _))
  have HI := Lib.hid (fun w' (hb : Below w.heap.size w w') => hd.kept hb (Nat.le_refl _))
  have HE := Lib.hid (fun k (hk : k < fl.length) => allR_at hr hk)
  have HG := Lib.hid (fun k (hk : k < ps.length) => good_pp hg (pAt_mem hk))
  have HL := Lib.hid hl
  have HSL := Lib.hid (stL_len ps fl)
  have HSA := Lib.hid (fun k (hk : k < ps.length) => stL_at (fl := fl) hk)
  have hmk := run_make_row' (P := Try.prog) 25 3 (.int .i64 0) 8 Try.underlying25 infoI rfl .i64 .i64 ps.length (by omega) (by omega)
  have HO := made_row (stL ps fl) w (by rw [stL_len]; omega)
  have HF := Lib.hid (fiI_full (stL ps fl))
  rw [HSL.out] at HO HF
  clear h hd hg hr hl
  go_enter Try.func82, Try.ntmps82
  go_wp2
  clear hmk
  go_loopw [15] (fun i wr => ∃ k : Nat, k ≤ ps.length ∧ i = .int .i64 k ∧ Hid (wr.ownsRow w.heap.size 3 1 (.slice (some ⟨w.heap.size, 0, none⟩) ps.length ps.length) ps.length (fiI (stL ps fl) k)) ∧ Hid (Below w.heap.size w wr)) (fun i _ => ps.length - (intOf i).toNat)
  case atStart => exact ⟨0, Nat.zero_le _, rfl, HO, Lib.hid ((Below.refl _ _).alloc (Nat.le_refl _) _)⟩
  case round =>
    obtain ⟨k, hk, rfl, hown, hB⟩ := hrel
    clear HO
    by_cases hlt : k < ps.length
    · obtain ⟨b, off, hA, hbl, p0, p1, p2, p3⟩ := (HA.out _ hB.out).at_ hlt
      subst hA
      have hkf : k < fl.length := by rw [HL.out]; exact hlt
      obtain ⟨bb, of2, hA2, hbl2, q0⟩ := (HI.out _ hB.out).at_ hkf
      subst hA2
      have hk0 : (0 : Int) ≤ (k : Int) := by omega
      have hkn : (k : Int) < (ps.length : Int) := by omega
      have hknf : (k : Int) < (fl.length : Int) := by omega
      have hy := HE.out k hkf
      have HLO := Lib.hid (fun w' => stc_any (HG.out k hlt) hy.1 hy.2 w')
      have hgx := (hown.out.lt w.heap.size rfl).2
      have hfs := fiI_set (stL ps fl) k (by rw [HSL.out]; exact hlt)
      have hat := HSA.out k hlt
      unfold stF lA at hat
      rw [hat] at hfs
      have HST := Lib.hid hfs
      clear hfs hat hy
      generalize absI (lossI (pAt ps k) (fl.getD k 0)) = L at *
      generalize fl.getD k 0 = f at *
      generalize pAt ps k = p at *
      have hab := alloc_belowE wr (.cells #[.int .i64 p.id, .int .i64 p.fr, .int .i64 p.to, .int .i64 p.sz] 63)
      have hBn := Lib.hid (hB.out.trans (hab.mono hB.out.size))
      have q1 := (hab.cell (p := ⟨bb, of2 + k, none⟩) hbl2).trans q0
      have d0 := cells4 wr (.int .i64 p.id) (.int .i64 p.fr) (.int .i64 p.to) (.int .i64 p.sz) 63 0 _ rfl
      have d1 := cells4 wr (.int .i64 p.id) (.int .i64 p.fr) (.int .i64 p.to) (.int .i64 p.sz) 63 1 _ rfl
      have d2 := cells4 wr (.int .i64 p.id) (.int .i64 p.fr) (.int .i64 p.to) (.int .i64 p.sz) 63 2 _ rfl
      have d3 := cells4 wr (.int .i64 p.id) (.int .i64 p.fr) (.int .i64 p.to) (.int .i64 p.sz) 63 3 _ rfl
      have hO2 := Lib.hid (own_on hown.out hab)
      have hzz : wr.heap.size < (wr.alloc (.cells #[.int .i64 p.id, .int .i64 p.fr, .int .i64 p.to, .int .i64 p.sz] 63)).heap.size := by simp
      have hbl2' : bb < (wr.alloc (.cells #[.int .i64 p.id, .int .i64 p.fr, .int .i64 p.to, .int .i64 p.sz] 63)).heap.size := by omega
      go_wp2
      generalize wr.alloc (.cells #[.int .i64 p.id, .int .i64 p.fr, .int .i64 p.to, .int .i64 p.sz] 63) = wa at *
      clear p0 p1 p2 p3 q0
      obtain ⟨uo, huo⟩ := fiI_has (stL ps fl) k (by rw [HSL.out]; exact hlt)
      have HUO := Lib.hid huo
      clear huo
      go_region_with (first
        | (go_at_call 83; refine (HLO.out _).mono ?_; rintro e wq ⟨rfl, hbq⟩; have hO3 := own_on (A := wa.drew) hO2.out hbq; have hcell := (hO3.cellAt k (by omega)).trans HUO.out; have hfz := hO3.frozenAt k; have hgq := (hO3.lt w.heap.size rfl).2; have HB3 := Lib.hid (hBn.out.drew.trans (hbq.mono hBn.out.size)); have HO3 := Lib.hid hO3; have hst0 := Lib.hid (hO3.stored k (iv L)); clear hO3 hbq))
      all_goals
        have hst := hst0.out
        rw [HST.out] at hst
        have HRL := Lib.hid hst.1
        clear hst hst0
        go_wp2
        go_roundw
        · exact ⟨k + 1, by omega, by go_num, HRL, Lib.hid (HB3.out.setCell (p := ⟨w.heap.size, k, none⟩) (Nat.le_refl _) _)⟩
        · simp [intOf]; omega
    · have e : k = ps.length := by omega
      subst e
      have hown2 := hown.out
      rw [HF.out] at hown2
      have H2 := Lib.hid hown2
      clear hown hown2
      go_wp2
      go_ret
      exact ⟨⟨_, rfl, Nat.le_refl _, by have := H2.out; unfold IOwn; rw [HSL.out]; exact this⟩, hB.out⟩

set_option maxHeartbeats 1000000 in
theorem st_no (n : Int) (A : Option Addr) (cap : Nat) (ps : List Pp) (AD : Option Addr) (dc : Nat) (dm : List Int) (w : World) (h : PAt w A ps) (hm : ps.length ≤ maxLen) (hd : IAt w AD dm) (hdl : dm.length ≤ 1048576) (hv : floB n ps dm = false ∨ dm.length = 0) :
    Calls Try.prog 38 #[nv n A ps.length cap, .slice AD dm.length dc] w fun e w' => e = .returned (.tuple #[.int .i64 0, .int .i64 0, .bool false]) ∧ Below w.heap.size w w' := by
  cases hf : floB n ps dm with
  | false =>
    have H := Lib.hid (fun w' (hb : Below w.heap.size w w') => flo_v hf A cap AD dc w' (h.kept hb (Nat.le_refl _)) hm (hd.kept hb (Nat.le_refl _)) hdl)
    clear h hd hv hf
    go_enter Try.func38, Try.ntmps38
    go_wp2_with (go_at_call 57; refine (H.out _ ((Below.refl _ _).alloc (Nat.le_refl _) _)).mono ?_; rintro e w1 ⟨rfl, hb1⟩)
    go_ret3
    exact ⟨rfl, below_alloc_call hb1⟩
  | true =>
    have H := Lib.hid (fun w' (hb : Below w.heap.size w w') => flo_v hf A cap AD dc w' (h.kept hb (Nat.le_refl _)) hm (hd.kept hb (Nat.le_refl _)) hdl)
    have hl0 : dm.length = 0 := by
      rcases hv with h | h
      · exact absurd (hf.symm.trans h) (by simp)
      · exact h
    have g0 : ((dm.length : Int) == 0) = true := by rw [hl0]; rfl
    clear h hd hv hf hl0
    go_enter Try.func38, Try.ntmps38
    go_wp2_with (go_at_call 57; refine (H.out _ ((Below.refl _ _).alloc (Nat.le_refl _) _)).mono ?_; rintro e w1 ⟨rfl, hb1⟩)
    go_ret3
    exact ⟨rfl, below_alloc_call hb1⟩

set_option maxHeartbeats 2000000 in
set_option maxRecDepth 100000 in
theorem st_yes (n : Int) (A : Option Addr) (cap : Nat) (ps : List Pp) (AD : Option Addr) (dc : Nat) (fl : List Int) (w : World) (h : PAt w A ps) (hm : ps.length ≤ maxLen) (hd : IAt w AD fl) (hdl : fl.length ≤ 1048576) (hv : floB n ps fl = true) (h0 : 0 < fl.length) :
    Calls Try.prog 38 #[nv n A ps.length cap, .slice AD fl.length dc] w fun e w' => e = .returned (.tuple #[.int .i64 (pAt ps (stI ps fl)).id, .int .i64 (stF ps fl (stI ps fl)), .bool true]) ∧ Below w.heap.size w w' := by
  obtain ⟨hg, hfl, hr⟩ := floB_of hv
  have hl10 := hg.2.2.1
  have H := Lib.hid (fun w' (hb : Below w.heap.size w w') => flo_v hv A cap AD dc w' (h.kept hb (Nat.le_refl _)) hm (hd.kept hb (Nat.le_refl _)) hdl)
  have HPW := Lib.hid (fun w' (hb : Below w.heap.size w w') => stp_any A cap ps AD dc fl w' (h.kept hb (Nat.le_refl _)) (hd.kept hb (Nat.le_refl _)) hg hr hfl)
  have hi := stI_lt fl (show 0 < ps.length by omega)
  have HSL := Lib.hid (stL_len ps fl)
  have HMX := Lib.hid (fun g w' (hO : IOwn w' w.heap.size (.slice (some ⟨g, 0, none⟩) (stL ps fl).length (stL ps fl).length) (stL ps fl)) => max_any (some ⟨g, 0, none⟩) (stL ps fl).length (stL ps fl) w' hO.iat (by rw [stL_len]; omega) (by rw [stL_len]; omega))
  have HIX := Lib.hid (fun g w' (hO : IOwn w' w.heap.size (.slice (some ⟨g, 0, none⟩) (stL ps fl).length (stL ps fl).length) (stL ps fl)) => index_any (some ⟨g, 0, none⟩) (stL ps fl).length (stL ps fl) (stF ps fl (stI ps fl)) (stI ps fl) w' hO.iat (by rw [stL_len]; omega) (by rw [stL_len]; exact hi) (stL_at hi) (fun j hj => by
    rw [stL_at (by omega)]
    have := fstG_first (stF ps fl) ps.length j hj
    unfold stI at hj ⊢
    omega))
  rw [stI_list, stL_at hi, HSL.out] at HMX
  rw [HSL.out] at HIX
  have HA := Lib.hid (fun w' (hb : Below w.heap.size w w') => h.kept hb (Nat.le_refl _))
  have g0 : ((fl.length : Int) == 0) = false := beq_eq_false_iff_ne.2 (by omega)
  obtain ⟨b, off, hA, hbl, p0, p1, p2, p3⟩ := h.at_ hi
  subst hA
  have hi0 : (0 : Int) ≤ (stI ps fl : Int) := by omega
  have hin : (stI ps fl : Int) < (ps.length : Int) := by omega
  clear h hd hv hr hg hfl hm hdl p1 p2 p3
  generalize stF ps fl (stI ps fl) = M at *
  generalize pAt ps (stI ps fl) = p at *
  generalize stI ps fl = i at *
  generalize stL ps fl = SL at *
  go_enter Try.func38, Try.ntmps38
  go_wp2_with (first
    | (go_at_call 57; refine (H.out _ ((Below.refl _ _).alloc (Nat.le_refl _) _)).mono ?_; rintro e w1 ⟨rfl, hb1⟩; have HX1 := Lib.hid (show Below (w.heap.size + 1) (w.alloc (nb n (some ⟨b, off, none⟩) ps.length cap)) w1 by simpa using hb1); obtain ⟨b0, b1⟩ := box2 HX1.out; have hy1 := box_lt HX1.out; clear hb1)
    | (go_at_call 82; refine (HPW.out _ (below_box HX1.out)).mono ?_; rintro e w2 ⟨⟨g, rfl, hg2, hO2⟩, hb2⟩; have HX2 := Lib.hid (on_call HX1.out hb2); clear b0 b1; obtain ⟨b0, b1⟩ := box2 HX2.out; have hy2 := box_lt HX2.out; have HO2 := Lib.hid (own_lower (B' := w.heap.size) hO2 (by omega)); clear hb2 hO2)
    | (go_at_call 84; refine (HMX.out _ _ HO2.out).mono ?_; rintro e w3 ⟨rfl, hw⟩; replace hw := hw.symm; subst hw))
  have HB2 := Lib.hid (below_box HX2.out)
  have hbl' : b < w2.heap.size := by omega
  have r0 := (HB2.out.cell (p := ⟨b, off + i * 4, none⟩) hbl).trans p0
  clear p0
  go_quiet ((go_at_call 85; exact Calls.quiet_of_same (HIX.out _ _ HO2.out)))
  go_wp2
  go_ret3
  exact ⟨rfl, below_drewN HB2.out _⟩
end Go.Proofs.Ytpldbakllegheaa.S2
