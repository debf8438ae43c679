/- The law FnExactLoopLoss holds of the program: for every network and flows LoopLoss answers as its model and writes into no argument. Condition: the arguments are laid out as the row says. -/
import Derived.Test.YtgjogjmfpbinfaaKS
import Derived.Test.YtgjogjmfpbinfaaNetKit
import Derived.Deep.DeepCutAuto
import Derived.Test.YtgjogjmfpbinfaaRows
import Derived.Test.YtgjogjmfpbinfaaOpenOne
import Derived.WalkKit
import Derived.ProofKit
import Derived.OpenShut
import Derived.ChangeOld
import Derived.Below
namespace Go.Proofs.Ytgjogjmfpbinfaa.S2
open Go.RowKit P2

def lsF (ps : List Pp) (fl : List Int) (k : Nat) : Int := lossI (pAt ps k) (lA fl k)
def lsL (ps : List Pp) (fl : List Int) : List Int := (List.range ps.length).map (lsF ps fl)
theorem lsL_len (ps : List Pp) (fl : List Int) : (lsL ps fl).length = ps.length := by simp [lsL]
theorem lsL_at {ps : List Pp} {fl : List Int} {k : Nat} (h : k < ps.length) : lA (lsL ps fl) k = lsF ps fl k := by simp [lA, lsL, List.getD, h]
theorem lsF_in {n : Int} {ps : List Pp} (hg : P2.Good n ps) {fl : List Int} (hr : allR (-8000) 8000 fl = true) (hl : fl.length = ps.length) {k : Nat} (hk : k < fl.length) : -576000000 ≤ lsF ps fl k ∧ lsF ps fl k ≤ 576000000 := by
  have h2 := allR_at hr hk
  exact (loss_in (good_pp hg (pAt_mem (show k < ps.length by omega))) h2.1 h2.2).2
set_option maxHeartbeats 3000000 in
set_option maxRecDepth 100000 in
theorem lsp_any {n : Int} (A : Option Addr) (cap : Nat) (ps : List Pp) (AD : Option Addr) (dc : Nat) (fl : List Int) (w : World) (h : PAt w A ps) (hd : IAt w AD fl) (hg : P2.Good n ps) (hr : allR (-8000) 8000 fl = true) (hl : fl.length = ps.length) :
    Calls Try.prog 136 #[.slice A ps.length cap, .slice AD fl.length dc, .func (.func 137) #[] #[]] w fun e w' => (∃ g, e = .returned (.slice (some ⟨g, 0, none⟩) ps.length ps.length) ∧ w.heap.size ≤ g ∧ IOwn w' w.heap.size (.slice (some ⟨g, 0, none⟩) ps.length ps.length) (lsL ps fl)) ∧ Below w.heap.size w w' := by
  have hl10 := hg.2.2.1
  have HA := Lib.hid (fun w' (hb : Below w.heap.size w w') => h.kept hb (Nat.le_refl _))
  have HI := Lib.hid (fun w' (hb : Below w.heap.size w w') => hd.kept hb (Nat.le_refl _))
  have HE := Lib.hid (fun k (hk : k < fl.length) => allR_at hr hk)
  have HG := Lib.hid (fun k (hk : k < ps.length) => good_pp hg (pAt_mem hk))
  have HL := Lib.hid hl
  have HSL := Lib.hid (lsL_len ps fl)
  have HSA := Lib.hid (fun k (hk : k < ps.length) => lsL_at (fl := fl) hk)
  have hmk := run_make_row' (P := Try.prog) 34 3 (.int .i64 0) 8 Try.underlying34 infoI rfl .i64 .i64 ps.length (by omega) (by omega)
  have HO := made_row (lsL ps fl) w (by rw [lsL_len]; omega)
  have HF := Lib.hid (fiI_full (lsL ps fl))
  rw [HSL.out] at HO HF
  clear h hd hg hr hl
  go_enter Try.func136, Try.ntmps136
  go_wp2
  clear hmk
  go_loopw [15] (fun i wr => ∃ k : Nat, k ≤ ps.length ∧ i = .int .i64 k ∧ Hid (wr.ownsRow w.heap.size 3 1 (.slice (some ⟨w.heap.size, 0, none⟩) ps.length ps.length) ps.length (fiI (lsL ps fl) k)) ∧ Hid (Below w.heap.size w wr)) (fun i _ => ps.length - (intOf i).toNat)
  case atStart => exact ⟨0, Nat.zero_le _, rfl, HO, Lib.hid ((Below.refl _ _).alloc (Nat.le_refl _) _)⟩
  case round =>
    obtain ⟨k, hk, rfl, hown, hB⟩ := hrel
    clear HO
    by_cases hlt : k < ps.length
    · obtain ⟨b, off, hA, hbl, p0, p1, p2, p3⟩ := (HA.out _ hB.out).at_ hlt
      subst hA
      have hkf : k < fl.length := by rw [HL.out]; exact hlt
      obtain ⟨bb, of2, hA2, hbl2, q0⟩ := (HI.out _ hB.out).at_ hkf
      subst hA2
      have hk0 : (0 : Int) ≤ (k : Int) := by omega
      have hkn : (k : Int) < (ps.length : Int) := by omega
      have hknf : (k : Int) < (fl.length : Int) := by omega
      have hy := HE.out k hkf
      have HLO := Lib.hid (fun w' => loss_any (HG.out k hlt) hy.1 hy.2 w')
      have hgx := (hown.out.lt w.heap.size rfl).2
      have hfs := fiI_set (lsL ps fl) k (by rw [HSL.out]; exact hlt)
      have hat := HSA.out k hlt
      unfold lsF lA at hat
      rw [hat] at hfs
      have HST := Lib.hid hfs
      clear hfs hat hy
      generalize lossI (pAt ps k) (fl.getD k 0) = L at *
      generalize fl.getD k 0 = f at *
      generalize pAt ps k = p at *
      have hab := alloc_belowE wr (.cells #[.int .i64 p.id, .int .i64 p.fr, .int .i64 p.to, .int .i64 p.sz] 75)
      have hBn := Lib.hid (hB.out.trans (hab.mono hB.out.size))
      have q1 := (hab.cell (p := ⟨bb, of2 + k, none⟩) hbl2).trans q0
      have d0 := cells4 wr (.int .i64 p.id) (.int .i64 p.fr) (.int .i64 p.to) (.int .i64 p.sz) 75 0 _ rfl
      have d1 := cells4 wr (.int .i64 p.id) (.int .i64 p.fr) (.int .i64 p.to) (.int .i64 p.sz) 75 1 _ rfl
      have d2 := cells4 wr (.int .i64 p.id) (.int .i64 p.fr) (.int .i64 p.to) (.int .i64 p.sz) 75 2 _ rfl
      have d3 := cells4 wr (.int .i64 p.id) (.int .i64 p.fr) (.int .i64 p.to) (.int .i64 p.sz) 75 3 _ rfl
      have hO2 := Lib.hid (own_on hown.out hab)
      have hzz : wr.heap.size < (wr.alloc (.cells #[.int .i64 p.id, .int .i64 p.fr, .int .i64 p.to, .int .i64 p.sz] 75)).heap.size := by simp
      have hbl2' : bb < (wr.alloc (.cells #[.int .i64 p.id, .int .i64 p.fr, .int .i64 p.to, .int .i64 p.sz] 75)).heap.size := by omega
      go_wp2
      generalize wr.alloc (.cells #[.int .i64 p.id, .int .i64 p.fr, .int .i64 p.to, .int .i64 p.sz] 75) = wa at *
      clear p0 p1 p2 p3 q0
      obtain ⟨uo, huo⟩ := fiI_has (lsL ps fl) k (by rw [HSL.out]; exact hlt)
      have HUO := Lib.hid huo
      clear huo
      go_region_with (first
        | (go_at_call 137; refine (HLO.out _).mono ?_; rintro e wq ⟨rfl, hbq⟩; have hO3 := own_on (A := wa.drew) hO2.out hbq; have hcell := (hO3.cellAt k (by omega)).trans HUO.out; have hfz := hO3.frozenAt k; have hgq := (hO3.lt w.heap.size rfl).2; have HB3 := Lib.hid (hBn.out.drew.trans (hbq.mono hBn.out.size)); have HO3 := Lib.hid hO3; have hst0 := Lib.hid (hO3.stored k (iv L)); clear hO3 hbq))
      all_goals
        have hst := hst0.out
        rw [HST.out] at hst
        have HRL := Lib.hid hst.1
        clear hst hst0
        go_wp2
        go_roundw
        · exact ⟨k + 1, by omega, by go_num, HRL, Lib.hid (HB3.out.setCell (p := ⟨w.heap.size, k, none⟩) (Nat.le_refl _) _)⟩
        · simp [intOf]; omega
    · have e : k = ps.length := by omega
      subst e
      have hown2 := hown.out
      rw [HF.out] at hown2
      have H2 := Lib.hid hown2
      clear hown hown2
      go_wp2
      go_ret
      exact ⟨⟨_, rfl, Nat.le_refl _, by have := H2.out; unfold IOwn; rw [HSL.out]; exact this⟩, hB.out⟩

/-- The loss around the loop of a ring. -/
noncomputable def llF (N : Nat) (ps : List Pp) (fl : List Int) (i : Nat) : Int := lA (sgL N ps) i * lsF ps fl i
noncomputable def llA (N : Nat) (ps : List Pp) (fl : List Int) : Int := sumK (llF N ps fl) ps.length
theorem llF_in {N : Nat} {ps : List Pp} (hg : P2.Good N ps) {fl : List Int} (hr : allR (-8000) 8000 fl = true) (hl : fl.length = ps.length) {k : Nat} (hk : k < fl.length) : -576000000 ≤ llF N ps fl k ∧ llF N ps fl k ≤ 576000000 := by
  have h2 := lsF_in hg hr hl hk
  exact sg_mul (sgL_sg N ps k) h2.1 h2.2
theorem llS_in {N : Nat} {ps : List Pp} (hg : P2.Good N ps) {fl : List Int} (hr : allR (-8000) 8000 fl = true) (hl : fl.length = ps.length) {k : Nat} (hk : k ≤ fl.length) : -5760000000 ≤ sumK (llF N ps fl) k ∧ sumK (llF N ps fl) k ≤ 5760000000 := by
  have h1 := sumK_le (f := llF N ps fl) (B := 576000000) (by omega) (k := k) (fun i hi => llF_in hg hr hl (by omega))
  have h2 : (k : Int) ≤ 10 := by have := hg.2.2.1; omega
  have h3 : (576000000 : Int) * k ≤ 576000000 * 10 := Int.mul_le_mul_of_nonneg_left h2 (by omega)
  omega

set_option maxHeartbeats 2000000 in
theorem ll_no1 (n : Int) (A : Option Addr) (cap : Nat) (ps : List Pp) (AD : Option Addr) (dc : Nat) (fl : List Int) (w : World) (hT : ∀ w', Below w.heap.size w w' → Calls Try.prog 119 #[nv n A ps.length cap] w' (GivesI w' [] false)) :
    Calls Try.prog 36 #[nv n A ps.length cap, .slice AD fl.length dc] w fun e w' => e = .returned (.tuple #[.int .i64 0, .bool false]) ∧ Below w.heap.size w w' := by
  have H := Lib.hid hT
  clear hT
  go_enter Try.func36, Try.ntmps36
  go_wp2_with (go_at_call 119; refine (H.out _ ((Below.refl _ _).alloc (Nat.le_refl _) _)).mono ?_; rintro e w1 ⟨g, c, rfl, hg, hO, hb1⟩)
  go_ret2
  exact ⟨rfl, below_alloc_call hb1⟩
set_option maxHeartbeats 2000000 in
theorem ll_no2 (N : Nat) (A : Option Addr) (cap : Nat) (ps : List Pp) (AD : Option Addr) (dc : Nat) (fl : List Int) (w : World) (h : PAt w A ps) (hm : ps.length ≤ maxLen) (hd : IAt w AD fl) (hdl : fl.length ≤ 1048576) (hv : floB N ps fl = false) (hT : ∀ w', Below w.heap.size w w' → Calls Try.prog 119 #[nv N A ps.length cap] w' (GivesI w' (sgL N ps) true)) :
    Calls Try.prog 36 #[nv N A ps.length cap, .slice AD fl.length dc] w fun e w' => e = .returned (.tuple #[.int .i64 0, .bool false]) ∧ Below w.heap.size w w' := by
  have H := Lib.hid hT
  have H2 := Lib.hid (fun w' (hb : Below w.heap.size w w') => flo_v hv A cap AD dc w' (h.kept hb (Nat.le_refl _)) hm (hd.kept hb (Nat.le_refl _)) hdl)
  clear hT h hd hv
  go_enter Try.func36, Try.ntmps36
  go_wp2_with (first
    | (go_at_call 119; refine (H.out _ ((Below.refl _ _).alloc (Nat.le_refl _) _)).mono ?_; rintro e w1 ⟨g, c, rfl, hg, hO, hb1⟩; have HX1 := Lib.hid (show Below (w.heap.size + 1) (w.alloc (nb N A ps.length cap)) w1 by simpa using hb1); obtain ⟨b0, b1⟩ := box2 HX1.out; have hy1 := box_lt HX1.out; clear hb1)
    | (go_at_call 124; refine (H2.out _ (below_box HX1.out)).mono ?_; rintro e w2 ⟨rfl, hb2⟩; have HX2 := Lib.hid (on_call HX1.out hb2)))
  go_ret2
  exact ⟨rfl, below_box HX2.out⟩
set_option maxHeartbeats 2000000 in
set_option maxRecDepth 100000 in
theorem ll_yes (N : Nat) (A : Option Addr) (cap : Nat) (ps : List Pp) (AD : Option Addr) (dc : Nat) (fl : List Int) (w : World) (h : PAt w A ps) (hm : ps.length ≤ maxLen) (hd : IAt w AD fl) (hv : floB N ps fl = true) (hT : ∀ w', Below w.heap.size w w' → Calls Try.prog 119 #[nv N A ps.length cap] w' (GivesI w' (sgL N ps) true)) :
    Calls Try.prog 36 #[nv N A ps.length cap, .slice AD fl.length dc] w fun e w' => e = .returned (.tuple #[.int .i64 (llA N ps fl), .bool true]) ∧ Below w.heap.size w w' := by
  obtain ⟨hg, hfl, hr⟩ := floB_of hv
  have hl10 := hg.2.2.1
  have H := Lib.hid hT
  have H2 := Lib.hid (fun w' (hb : Below w.heap.size w w') => flo_v hv A cap AD dc w' (h.kept hb (Nat.le_refl _)) hm (hd.kept hb (Nat.le_refl _)) (by omega))
  have H3 := Lib.hid (fun w' (hb : Below w.heap.size w w') => lsp_any A cap ps AD dc fl w' (h.kept hb (Nat.le_refl _)) (hd.kept hb (Nat.le_refl _)) hg hr hfl)
  have HSL := Lib.hid (sgL_len N ps)
  have HLL := Lib.hid (lsL_len ps fl)
  have HLA := Lib.hid (fun k (hk : k < ps.length) => lsL_at (fl := fl) hk)
  have HS := Lib.hid (fun k (hk : k ≤ ps.length) => llS_in hg hr hfl (k := k) (by omega))
  have HT := Lib.hid (fun k (hk : k < ps.length) => llF_in hg hr hfl (k := k) (by omega))
  have HF := Lib.hid (show llA N ps fl = sumK (llF N ps fl) ps.length from rfl)
  clear hT h hd hv hg hr hfl
  go_enter Try.func36, Try.ntmps36
  go_wp2_with (first
    | (go_at_call 119; refine (H.out _ ((Below.refl _ _).alloc (Nat.le_refl _) _)).mono ?_; rintro e w1 ⟨g, c, rfl, hg, hO, hb1⟩; have HX1 := Lib.hid (show Below (w.heap.size + 1) (w.alloc (nb N A ps.length cap)) w1 by simpa using hb1); obtain ⟨b0, b1⟩ := box2 HX1.out; have hy1 := box_lt HX1.out; have HO1 := Lib.hid hO.iat; clear hb1 hO)
    | (go_at_call 124; refine (H2.out _ (below_box HX1.out)).mono ?_; rintro e w2 ⟨rfl, hb2⟩; have HX2 := Lib.hid (on_call HX1.out hb2); clear b0 b1; obtain ⟨b0, b1⟩ := box2 HX2.out; have hy2 := box_lt HX2.out; have HO2 := Lib.hid (HO1.out.kept hb2 (Nat.le_refl _)); clear hb2)
    | (go_at_call 136; refine (H3.out _ (below_box HX2.out)).mono ?_; rintro e w3 ⟨⟨g3, rfl, hg3, hO3⟩, hb3⟩; have HX3 := Lib.hid (on_call HX2.out hb3); clear b0 b1; have HO3 := Lib.hid (HO2.out.kept hb3 (Nat.le_refl _)); have HI3 := Lib.hid (IOwn.iat (cap := ps.length) (by rw [HLL.out]; exact hO3 : IOwn w3 _ (.slice (some ⟨g3, 0, none⟩) (lsL ps fl).length ps.length) _)); clear hb3 hO3))
  clear H H2 H3 HX1 HX2 HO1 HO2
  go_loopw [8, 29] (fun s i wr => ∃ k : Nat, k ≤ ps.length ∧ i = .int .i64 (k : Int) ∧ s = .int .i64 (sumK (llF N ps fl) k) ∧ wr = w3) (fun _ i _ => ps.length - (intOf i).toNat)
  case atStart => exact ⟨0, Nat.zero_le _, rfl, rfl, rfl⟩
  case round =>
    obtain ⟨k, hk, rfl, rfl, hw⟩ := hrel
    subst hw
    have hs := HS.out k hk
    by_cases hlt : k < ps.length
    · obtain ⟨b, off, hA, hbl, p0⟩ := HI3.out.at_ (i := k) (by rw [HLL.out]; exact hlt)
      simp only [Option.some.injEq, Addr.mk.injEq, and_true] at hA
      obtain ⟨rfl, rfl⟩ := hA
      obtain ⟨b2, off2, hA2, hbl2, q0⟩ := HO3.out.at_ (i := k) (by rw [HSL.out]; exact hlt)
      simp only [Option.some.injEq, Addr.mk.injEq, and_true] at hA2
      obtain ⟨rfl, rfl⟩ := hA2
      rw [Nat.zero_add] at p0 q0
      have hk0 : (0 : Int) ≤ (k : Int) := by omega
      have hkn : (k : Int) < (ps.length : Int) := by omega
      have hkn2 : (k : Int) < ((sgL N ps).length : Int) := by rw [HSL.out]; exact hkn
      have hsn := HS.out (k + 1) hlt
      have ht := HT.out k hlt
      have hla := HLA.out k hlt
      have e1 : (lsL ps fl).getD k 0 = lA (lsL ps fl) k := rfl
      have e2 : (sgL N ps).getD k 0 = lA (sgL N ps) k := rfl
      rw [e1, hla] at p0
      rw [e2] at q0
      have hsk : sumK (llF N ps fl) (k + 1) = sumK (llF N ps fl) k + lA (sgL N ps) k * lsF ps fl k := rfl
      have htk : llF N ps fl k = lA (sgL N ps) k * lsF ps fl k := rfl
      rw [hsk] at hsn
      rw [htk] at ht
      have HSK := Lib.hid hsk
      clear hsk htk e1 e2 hla
      generalize sumK (llF N ps fl) k = s at *
      generalize lA (sgL N ps) k = u at *
      generalize lsF ps fl k = L at *
      have wm : IntKind.i64.wrap (u * L) = u * L := w64 _ (by omega)
      have ws : IntKind.i64.wrap (s + u * L) = s + u * L := w64 _ (by omega)
      go_wp2
      go_roundw
      case rel => exact ⟨k + 1, by omega, by go_num, by rw [HSK.out], trivial⟩
      case measure => simp [intOf]; omega
    · have hkk : k = ps.length := by omega
      have HE := Lib.hid (show sumK (llF N ps fl) k = llA N ps fl by rw [HF.out, hkk])
      clear hkk
      generalize sumK (llF N ps fl) k = s at *
      go_wp2
      go_ret2
      exact ⟨by rw [← HE.out]; rfl, below_box HX3.out⟩
end Go.Proofs.Ytgjogjmfpbinfaa.S2

namespace Go.Proofs.Ytgjogjmfpbinfaa.S2
open Go.RowKit P2

set_option maxHeartbeats 2000000 in
theorem sll_no1 (n : Int) (A : Option Addr) (cap : Nat) (ps : List Pp) (AD : Option Addr) (dc : Nat) (fl : List Int) (w : World) (h : PAt w A ps) (hm : ps.length ≤ maxLen) (hv : goodB n ps = false) :
    Calls Try.prog 35 #[nv n A ps.length cap, .slice AD fl.length dc] w fun e w' => e = .returned (.tuple #[.int .i64 0, .bool false]) ∧ Below w.heap.size w w' := by
  have H := Lib.hid (fun w' (hb : Below w.heap.size w w') => sgood_v hv A cap w' (h.kept hb (Nat.le_refl _)) hm)
  clear h hv
  go_enter Try.func35, Try.ntmps35
  go_wp2_with (go_at_call 112; refine (H.out _ ((Below.refl _ _).alloc (Nat.le_refl _) _)).mono ?_; rintro e w1 ⟨rfl, hb1⟩)
  go_ret2
  exact ⟨rfl, below_alloc_call hb1⟩
set_option maxHeartbeats 2000000 in
theorem sll_no2 (N : Nat) (A : Option Addr) (cap : Nat) (ps : List Pp) (AD : Option Addr) (dc : Nat) (fl : List Int) (w : World) (h : PAt w A ps) (hm : ps.length ≤ maxLen) (hv : goodB N ps = true) (hr : ringB N ps = false) :
    Calls Try.prog 35 #[nv N A ps.length cap, .slice AD fl.length dc] w fun e w' => e = .returned (.tuple #[.int .i64 0, .bool false]) ∧ Below w.heap.size w w' := by
  have H := Lib.hid (fun w' (hb : Below w.heap.size w w') => sgood_v hv A cap w' (h.kept hb (Nat.le_refl _)) hm)
  have H2 := Lib.hid (fun w' (hb : Below w.heap.size w w') => sring_v hr A cap w' (h.kept hb (Nat.le_refl _)) (good_of hv))
  clear h hv hr
  go_enter Try.func35, Try.ntmps35
  go_wp2_with (first
    | (go_at_call 112; refine (H.out _ ((Below.refl _ _).alloc (Nat.le_refl _) _)).mono ?_; rintro e w1 ⟨rfl, hb1⟩; have HX1 := Lib.hid (show Below (w.heap.size + 1) (w.alloc (nb N A ps.length cap)) w1 by simpa using hb1); obtain ⟨b0, b1⟩ := box2 HX1.out; have hy1 := box_lt HX1.out; clear hb1)
    | (go_at_call 113; refine (H2.out _ (below_box HX1.out)).mono ?_; rintro e w2 ⟨rfl, hb2⟩; have HX2 := Lib.hid (on_call HX1.out hb2); clear hb2))
  go_ret2
  exact ⟨rfl, below_box HX2.out⟩
set_option maxHeartbeats 2000000 in
theorem sll_no3 (N : Nat) (A : Option Addr) (cap : Nat) (ps : List Pp) (AD : Option Addr) (dc : Nat) (fl : List Int) (w : World) (h : PAt w A ps) (hm : ps.length ≤ maxLen) (hd : IAt w AD fl) (hdl : fl.length ≤ 1048576) (hv : goodB N ps = true) (hr : ringB N ps = true) (hx : floB N ps fl = false) :
    Calls Try.prog 35 #[nv N A ps.length cap, .slice AD fl.length dc] w fun e w' => e = .returned (.tuple #[.int .i64 0, .bool false]) ∧ Below w.heap.size w w' := by
  have hv2 : amtB fl ps.length (-8000) 8000 = false := by
    unfold floB at hx
    rw [hv, Bool.true_and] at hx
    exact hx
  have H := Lib.hid (fun w' (hb : Below w.heap.size w w') => sgood_v hv A cap w' (h.kept hb (Nat.le_refl _)) hm)
  have H2 := Lib.hid (fun w' (hb : Below w.heap.size w w') => sring_v hr A cap w' (h.kept hb (Nat.le_refl _)) (good_of hv))
  have H3 := Lib.hid (fun w' (hb : Below w.heap.size w w') => sflo_v hv2 (n := N) A cap AD dc w' (hd.kept hb (Nat.le_refl _)) hdl)
  clear h hd hv hr hv2 hx
  go_enter Try.func35, Try.ntmps35
  go_wp2_with (first
    | (go_at_call 112; refine (H.out _ ((Below.refl _ _).alloc (Nat.le_refl _) _)).mono ?_; rintro e w1 ⟨rfl, hb1⟩; have HX1 := Lib.hid (show Below (w.heap.size + 1) (w.alloc (nb N A ps.length cap)) w1 by simpa using hb1); obtain ⟨b0, b1⟩ := box2 HX1.out; have hy1 := box_lt HX1.out; clear hb1)
    | (go_at_call 113; refine (H2.out _ (below_box HX1.out)).mono ?_; rintro e w2 ⟨rfl, hb2⟩; have HX2 := Lib.hid (on_call HX1.out hb2); clear b0 b1; obtain ⟨b0, b1⟩ := box2 HX2.out; have hy2 := box_lt HX2.out; clear hb2)
    | (go_at_call 121; refine (H3.out _ (below_box HX2.out)).mono ?_; rintro e w3 ⟨rfl, hb3⟩; have HX3 := Lib.hid (on_call HX2.out hb3); clear hb3))
  go_ret2
  exact ⟨rfl, below_box HX3.out⟩
set_option maxHeartbeats 4000000 in
set_option maxRecDepth 100000 in
theorem sll_yes (N : Nat) (A : Option Addr) (cap : Nat) (ps : List Pp) (AD : Option Addr) (dc : Nat) (fl : List Int) (w : World) (h : PAt w A ps) (hm : ps.length ≤ maxLen) (hc : ps.length ≤ cap) (hd : IAt w AD fl) (hr : ringB N ps = true) (hv : floB N ps fl = true) :
    Calls Try.prog 35 #[nv N A ps.length cap, .slice AD fl.length dc] w fun e w' => e = .returned (.tuple #[.int .i64 (llA N ps fl), .bool true]) ∧ Below w.heap.size w w' := by
  obtain ⟨hg, hfl, hrr⟩ := floB_of hv
  have hl10 := hg.2.2.1
  have hvg : goodB (N : Int) ps = true := good_mk hg
  have hv2 : amtB fl ps.length (-8000) 8000 = true := by simp [amtB, hfl, hrr]
  have H := Lib.hid (fun w' (hb : Below w.heap.size w w') => sgood_v hvg A cap w' (h.kept hb (Nat.le_refl _)) hm)
  have H2 := Lib.hid (fun w' (hb : Below w.heap.size w w') => sring_v hr A cap w' (h.kept hb (Nat.le_refl _)) hg)
  have H3 := Lib.hid (fun w' (hb : Below w.heap.size w w') => sflo_v hv2 (n := N) A cap AD dc w' (hd.kept hb (Nat.le_refl _)) (by omega))
  have H5 := Lib.hid (fun w' (hb : Below w.heap.size w w') => slp_any N A cap ps w' (h.kept hb (Nat.le_refl _)) hc hg hr)
  have HA := Lib.hid (fun w' (hb : Below w.heap.size w w') => h.kept hb (Nat.le_refl _))
  have HI := Lib.hid (fun w' (hb : Below w.heap.size w w') => hd.kept hb (Nat.le_refl _))
  have HSL := Lib.hid (sgL_len N ps)
  have HL := Lib.hid hfl
  have HS := Lib.hid (fun k (hk : k ≤ ps.length) => llS_in hg hrr hfl (k := k) (by omega))
  have HT := Lib.hid (fun k (hk : k < ps.length) => llF_in hg hrr hfl (k := k) (by omega))
  have HG := Lib.hid (fun k (hk : k < ps.length) => good_pp hg (pAt_mem hk))
  have HE := Lib.hid (fun k (hk : k < fl.length) => allR_at hrr hk)
  have HF := Lib.hid (show llA N ps fl = sumK (llF N ps fl) ps.length from rfl)
  clear h hd hv hg hrr hfl hv2 hvg hr
  go_enter Try.func35, Try.ntmps35
  go_wp2_with (first
    | (go_at_call 112; refine (H.out _ ((Below.refl _ _).alloc (Nat.le_refl _) _)).mono ?_; rintro e w1 ⟨rfl, hb1⟩; have HX1 := Lib.hid (show Below (w.heap.size + 1) (w.alloc (nb N A ps.length cap)) w1 by simpa using hb1); obtain ⟨b0, b1⟩ := box2 HX1.out; have hy1 := box_lt HX1.out; clear hb1)
    | (go_at_call 113; refine (H2.out _ (below_box HX1.out)).mono ?_; rintro e w2 ⟨rfl, hb2⟩; have HX2 := Lib.hid (on_call HX1.out hb2); clear b0 b1; obtain ⟨b0, b1⟩ := box2 HX2.out; have hy2 := box_lt HX2.out; clear hb2)
    | (go_at_call 121; refine (H3.out _ (below_box HX2.out)).mono ?_; rintro e w3 ⟨rfl, hb3⟩; have HX3 := Lib.hid (on_call HX2.out hb3); clear b0 b1; obtain ⟨b0, b1⟩ := box2 HX3.out; have hy3 := box_lt HX3.out; clear hb3)
    | (go_at_call 118; refine (H5.out _ (below_box HX3.out)).mono ?_; rintro e w5 ⟨g5, c5, rfl, hg5, hO5, hb5⟩; have HX5 := Lib.hid (on_call HX3.out hb5); clear b0 b1; have hy5 := box_lt HX5.out; have HI5 := Lib.hid hO5.iat; clear hb5 hO5))
  clear H H2 H3 H5 HX1 HX2 HX3
  have HB5 := Lib.hid (Below.refl w5.heap.size w5)
  go_loopw [7, 8] (fun s i wr => ∃ k : Nat, k ≤ ps.length ∧ i = .int .i64 (k : Int) ∧ s = .int .i64 (sumK (llF N ps fl) k) ∧ Hid (Below w5.heap.size w5 wr)) (fun _ i _ => ps.length - (intOf i).toNat)
  case atStart => exact ⟨0, Nat.zero_le _, rfl, rfl, HB5⟩
  case round =>
    clear HB5
    obtain ⟨k, hk, rfl, rfl, hB2⟩ := hrel
    have hb := on_call HX5.out hB2.out
    have hB := Lib.hid (below_box hb)
    have hs := HS.out k hk
    by_cases hlt : k < ps.length
    · obtain ⟨c0, c1⟩ := box2 hb
      have hz2 := box_lt hb
      obtain ⟨b, off, hA, hbl, p0, p1, p2, p3⟩ := (HA.out _ hB.out).at_ hlt
      subst hA
      have hkf : k < fl.length := by rw [HL.out]; exact hlt
      obtain ⟨bb, of2, hA2, hbl2, q0⟩ := (HI.out _ hB.out).at_ hkf
      subst hA2
      obtain ⟨b3, off3, hA3, hbl3, s0⟩ := (HI5.out.kept hB2.out (Nat.le_refl _)).at_ (i := k) (by rw [HSL.out]; exact hlt)
      simp only [Option.some.injEq, Addr.mk.injEq, and_true] at hA3
      obtain ⟨rfl, rfl⟩ := hA3
      rw [Nat.zero_add] at s0
      have hk0 : (0 : Int) ≤ (k : Int) := by omega
      have hkn : (k : Int) < (ps.length : Int) := by omega
      have hknf : (k : Int) < (fl.length : Int) := by omega
      have hkn2 : (k : Int) < ((sgL N ps).length : Int) := by rw [HSL.out]; exact hkn
      have hsn := HS.out (k + 1) hlt
      have ht := HT.out k hlt
      have hy := HE.out k hkf
      have HLO := Lib.hid (fun w' => sloss_any (HG.out k hlt) hy.1 hy.2 w')
      have e2 : (sgL N ps).getD k 0 = lA (sgL N ps) k := rfl
      rw [e2] at s0
      have hsk : sumK (llF N ps fl) (k + 1) = sumK (llF N ps fl) k + lA (sgL N ps) k * lossI (pAt ps k) (fl.getD k 0) := rfl
      have htk : llF N ps fl k = lA (sgL N ps) k * lossI (pAt ps k) (fl.getD k 0) := rfl
      rw [hsk] at hsn
      rw [htk] at ht
      have HSK := Lib.hid hsk
      clear hsk htk e2 hy
      generalize sumK (llF N ps fl) k = s at *
      generalize lA (sgL N ps) k = u at *
      generalize lossI (pAt ps k) (fl.getD k 0) = L at *
      generalize fl.getD k 0 = f at *
      generalize pAt ps k = p at *
      have wm : IntKind.i64.wrap (u * L) = u * L := w64 _ (by omega)
      have ws : IntKind.i64.wrap (s + u * L) = s + u * L := w64 _ (by omega)
      have hG := @cell_g
      go_wp2
      refine region_below (by kernel_rfl) (by kernel_rfl) ?_
      repeat (first | go_big_quiet_step ((go_at_call 135; exact met HLO.out)))
      refine wpQuiet_nil ?_
      intro w6 hb6
      go_wp2
      go_roundw
      case rel => exact ⟨k + 1, by omega, by go_num, by rw [HSK.out], Lib.hid (hB2.out.trans (hb6.mono hB2.out.size))⟩
      case measure => simp [intOf]; omega
    · have hkk : k = ps.length := by omega
      have HE2 := Lib.hid (show sumK (llF N ps fl) k = llA N ps fl by rw [HF.out, hkk])
      have hnl : ¬ (k : Int) < ((sgL N ps).length : Int) := by rw [HSL.out]; omega
      clear hkk
      generalize sumK (llF N ps fl) k = s at *
      go_wp2
      go_ret2
      exact ⟨by rw [← HE2.out]; rfl, hB.out⟩
end Go.Proofs.Ytgjogjmfpbinfaa.S2

namespace Go.Proofs.Ytgjogjmfpbinfaa.S2
open Go.RowKit P2

set_option maxHeartbeats 16000000 in
set_option maxRecDepth 100000 in
theorem walkLoopLoss (n : Int) (A : Option Addr) (cap : Nat) (ps : List Pp) (AC1 : Option Addr) (cc1 : Nat) (cu1 : List Int) (w : World) (h : PAt w A ps) (hm : ps.length ≤ maxLen) (hc1 : IAt w AC1 cu1) (hmc1 : cu1.length ≤ maxLen) (sv0 : Int) (sv1 : Bool)
    (hs : ∀ (A : Option Addr) (cap : Nat) (AC1 : Option Addr) (cc1 : Nat) (w : World), PAt w A ps → ps.length ≤ 1048576 → ps.length = cap → IAt w AC1 cu1 → cu1.length ≤ 1048576 → Calls Try.prog 35 #[nv n A ps.length cap, .slice AC1 cu1.length cc1] w (fun e w' => e = .returned (.tuple #[.int .i64 sv0, .bool sv1]) ∧ Below w.heap.size w w'))
    (hi : ∀ (A : Option Addr) (cap : Nat) (AC1 : Option Addr) (cc1 : Nat) (w : World), PAt w A ps → ps.length ≤ 1048576 → ps.length = cap → IAt w AC1 cu1 → cu1.length ≤ 1048576 → Calls Try.prog 36 #[nv n A ps.length cap, .slice AC1 cu1.length cc1] w (fun e w' => e = .returned (.tuple #[.int .i64 sv0, .bool sv1]) ∧ Below w.heap.size w w')) :
    Calls Try.prog 7 #[nv n A ps.length cap, .slice AC1 cu1.length cc1] w fun e w' => e = .returned (.bool true) ∧ Below w.heap.size w w' := by
  have HA := Lib.hid h
  have HM := Lib.hid hm
  have HS := Lib.hid hs
  have HI := Lib.hid hi
  have HC1 := Lib.hid hc1
  have HMC1 := Lib.hid hmc1
  clear h hm hs hi hc1 hmc1
  by_cases hci1 : 1048576 < cu1.length
  · have hlm1 : cu1.length ≤ 9223372036854775807 := by have := HMC1.out; unfold maxLen at this; omega
    go_enter Try.func7, Try.ntmps7
    go_wp2
    go_ret
    exact ⟨rfl, (Below.refl w.heap.size w).alloc (Nat.le_refl _) _⟩
  have hcl1 : cu1.length ≤ 1048576 := by omega
  clear hci1
  go_enter Try.func7, Try.ntmps7
  go_wp2_with (go_at_call 19; refine (sznet_le n A ps.length cap _ HM.out).mono ?_; rintro e w1 ⟨⟨r, rfl, hr⟩, hb1⟩; refine Hid.out ?_)
  have hB1 : Below (w.heap.size + 1) (w.alloc (.cells #[.int .i64 n, .slice A ps.length cap] 24)) w1 := by simpa using hb1
  clear hb1
  obtain ⟨b0, b1⟩ := box2 hB1
  have hz1 : w.heap.size < w1.heap.size := box_lt hB1
  by_cases hr0 : r < 0
  · refine Lib.hid ?_
    go_wp2
    go_ret
    exact ⟨rfl, below_box hB1⟩
  have hlen : ps.length ≤ 1048576 := by rcases hr with h | h; exact absurd h hr0; exact h.2.2
  clear hr
  refine Lib.hid ?_
  go_wp2_with (first | (go_at_call 21; refine (tonet_any n A cap ps _ (HA.out.kept (below_box hB1) (Nat.le_refl _)) hlen).mono ?_; rintro e w2 ⟨⟨ga, rfl, hga, hrowa⟩, hb2⟩; refine Hid.out ?_) | fail)
  have hz2 := hb2.size
  have hB2 := on_call hB1 hb2
  clear b0 b1
  obtain ⟨b0, b1⟩ := box2 hB2
  clear hB1 hb2
  have hla := hrowa.lt
  have Ta_2 := Lib.hid hrowa.at_
  clear hrowa
  refine Lib.hid ?_
  go_wp2_with (first | (go_at_call 31; refine (toints_any AC1 cc1 cu1 _ (HC1.out.kept (below_box hB2) (Nat.le_refl _)) hcl1).mono ?_; rintro e w3 ⟨⟨ge1, rfl, hge1, hOe1⟩, hb3⟩; refine Hid.out ?_) | fail)
  have hz3 := hb3.size
  have hB3 := on_call hB2 hb3
  have Ta_3 := Lib.hid (Ta_2.out.kept hb3 (Nat.le_refl _))
  clear b0 b1
  obtain ⟨b0, b1⟩ := box2 hB3
  clear hB2 Ta_2 hb3
  have hle1 := iown_lt' hOe1
  have Ie1_3 := Lib.hid hOe1
  clear hOe1
  refine Lib.hid ?_
  go_wp2_with (first | (go_at_call 35; refine (HS.out _ _ _ _ _ Ta_3.out hlen rfl Ie1_3.out.iat hcl1).mono ?_; rintro e w4 ⟨rfl, hb4⟩; refine Hid.out ?_) | fail)
  have hz4 := hb4.size
  have hB4 := on_call hB3 hb4
  have Ta_4 := Lib.hid (Ta_3.out.kept hb4 (Nat.le_refl _))
  have Ie1_4 := Lib.hid (Ie1_3.out.on hb4)
  clear b0 b1
  obtain ⟨b0, b1⟩ := box2 hB4
  clear hB3 Ta_3 Ie1_3 hb4
  clear Ta_4
  clear Ie1_4
  refine Lib.hid ?_
  go_wp2_with (first | (go_at_call 21; refine (tonet_any n A cap ps _ (HA.out.kept (below_box hB4) (Nat.le_refl _)) hlen).mono ?_; rintro e w5 ⟨⟨gx, rfl, hgx, hrowx⟩, hb5⟩; refine Hid.out ?_) | fail)
  have hz5 := hb5.size
  have hB5 := on_call hB4 hb5
  clear b0 b1
  obtain ⟨b0, b1⟩ := box2 hB5
  clear hB4 hb5
  have hlx := hrowx.lt
  have Rx_5 := Lib.hid hrowx
  clear hrowx
  have hb5a := alloc_below w5 (.cells #[.int .i64 n, .slice (some ⟨gx, 0, none⟩) ps.length ps.length] 30)
  have hz5a : w5.heap.size < (w5.alloc (.cells #[.int .i64 n, .slice (some ⟨gx, 0, none⟩) ps.length ps.length] 30)).heap.size := by simp
  have hB5a := on_call hB5 hb5a
  have Rx_5a := Lib.hid (Rx_5.out.kept hb5a (by omega))
  have hqn : w.heap.size < w5.heap.size := by omega
  refine Lib.hid ?_
  go_wp2_with (first | (go_at_call 31; refine (toints_any AC1 cc1 cu1 _ (HC1.out.kept (below_box hB5a) (Nat.le_refl _)) hcl1).mono ?_; rintro e w6 ⟨⟨gz1, rfl, hgz1, hOz1⟩, hb6⟩; refine Hid.out ?_) | fail)
  replace hb6 : Below (w5.alloc (.cells #[.int .i64 n, .slice (some ⟨gx, 0, none⟩) ps.length ps.length] 30)).heap.size (w5.alloc (.cells #[.int .i64 n, .slice (some ⟨gx, 0, none⟩) ps.length ps.length] 30)) w6 := hb6
  have Bx0_6 := (hb6.cell (p := ⟨w5.heap.size, 0, none⟩) (by dsimp only; omega)).trans (boxA0 (w := w5))
  have Bx1_6 := (hb6.cell (p := ⟨w5.heap.size, 1, none⟩) (by dsimp only; omega)).trans (boxA1 (w := w5))
  have hz6 := hb6.size
  have hB6 := on_call hB5a hb6
  have Rx_6 := Lib.hid (Rx_5a.out.kept hb6 (by omega))
  clear b0 b1
  obtain ⟨b0, b1⟩ := box2 hB6
  clear hB5a Rx_5a hb6
  clear hB5 Rx_5 hqn hb5a
  have hlz1 := iown_lt' hOz1
  have Iz1_6 := Lib.hid hOz1
  clear hOz1
  refine Lib.hid ?_
  go_wp2_with (first | (go_at_call 36; refine (HI.out _ _ _ _ _ Rx_6.out.at_ hlen rfl Iz1_6.out.iat hcl1).mono ?_; rintro e w7 ⟨rfl, hb7⟩; refine Hid.out ?_) | fail)
  have hz7 := hb7.size
  have hB7 := on_call hB6 hb7
  have Rx_7 := Lib.hid (Rx_6.out.kept hb7 (by omega))
  have Bx0_7 := (hb7.cell (p := ⟨w5.heap.size, 0, none⟩) (by dsimp only; omega)).trans Bx0_6
  have Bx1_7 := (hb7.cell (p := ⟨w5.heap.size, 1, none⟩) (by dsimp only; omega)).trans Bx1_6
  have Iz1_7 := Lib.hid (Iz1_6.out.on hb7)
  clear b0 b1
  obtain ⟨b0, b1⟩ := box2 hB7
  clear hB6 Rx_6 Bx0_6 Bx1_6 Iz1_6 hb7
  refine Lib.hid ?_
  go_upto_region 13 with (fail)
  go_cut [50] (fun st wx => st = .bool false ∧ Hid (Below w7.heap.size w7 wx))
  case first =>
    have hA7 := Lib.hid (HA.out.kept (below_box hB7) (Nat.le_refl _))
    have hat7 := Lib.hid Rx_7.out.at_
    have hx4 : w5.heap.size < w7.heap.size := by omega
    go_region_with (first
      | (go_at_call 21; refine (tonet_any n A cap ps w7.drew hA7.out hlen).mono ?_; rintro e wqa ⟨⟨gqa, rfl, hgqa, hrowqa⟩, hbqa⟩; have HBqa := Lib.hid hbqa; have hatqa := Lib.hid hrowqa.at_; have hatqb := Lib.hid (PAt.kept (w := w7.drew) hat7.out hbqa (Nat.le_refl _)); have z0 := (hbqa.cell (p := ⟨w5.heap.size, 0, none⟩) hx4).trans Bx0_7; have z1 := (hbqa.cell (p := ⟨w5.heap.size, 1, none⟩) hx4).trans Bx1_7; clear hgqa hrowqa hbqa)
      | (go_at_call 23; refine (eqnet_same n _ _ _ _ ps wqa hatqb.out hatqa.out hlen).mono ?_; rintro e wqb ⟨rfl, hbqb⟩))
    all_goals
      go_wp2_with fail
      go_meet
      exact ⟨rfl, Lib.hid ((Below.refl w7.heap.size w7).drew.trans (HBqa.out.trans (hbqb.mono HBqa.out.size)))⟩
  case rest =>
    obtain ⟨rfl, hbc⟩ := hcut
    obtain ⟨w8, hwb⟩ : ∃ w8, w8 = wc := ⟨_, rfl⟩
    subst hwb
    have hb8 := hbc.out
    clear hbc
    have hz8 := hb8.size
    have hB8 := on_call hB7 hb8
    have Rx_8 := Lib.hid (Rx_7.out.kept hb8 (by omega))
    have Bx0_8 := (hb8.cell (p := ⟨w5.heap.size, 0, none⟩) (by dsimp only; omega)).trans Bx0_7
    have Bx1_8 := (hb8.cell (p := ⟨w5.heap.size, 1, none⟩) (by dsimp only; omega)).trans Bx1_7
    have Iz1_8 := Lib.hid (Iz1_7.out.on hb8)
    clear b0 b1
    obtain ⟨b0, b1⟩ := box2 hB8
    clear hB7 Rx_7 Bx0_7 Bx1_7 Iz1_7 hb8
    refine Lib.hid ?_
    go_wp2_with (first | (go_at_call 31; refine (toints_any AC1 cc1 cu1 _ (HC1.out.kept (below_box hB8) (Nat.le_refl _)) hcl1).mono ?_; rintro e w9 ⟨⟨gu1, rfl, hgu1, hOu1⟩, hb9⟩; refine Hid.out ?_) | fail)
    have hz9 := hb9.size
    have hB9 := on_call hB8 hb9
    have Rx_9 := Lib.hid (Rx_8.out.kept hb9 (by omega))
    have Bx0_9 := (hb9.cell (p := ⟨w5.heap.size, 0, none⟩) (by dsimp only; omega)).trans Bx0_8
    have Bx1_9 := (hb9.cell (p := ⟨w5.heap.size, 1, none⟩) (by dsimp only; omega)).trans Bx1_8
    have Iz1_9 := Lib.hid (Iz1_8.out.on hb9)
    clear b0 b1
    obtain ⟨b0, b1⟩ := box2 hB9
    clear hB8 Rx_8 Bx0_8 Bx1_8 Iz1_8 hb9
    have hlu1 := iown_lt' hOu1
    have Iu1_9 := Lib.hid hOu1
    clear hOu1
    refine Lib.hid ?_
    go_wp2_with (first | (go_at_call 26; refine (eqints_same _ _ _ _ cu1 _ Iz1_9.out.iat Iu1_9.out.iat hcl1).mono ?_; rintro e w10 ⟨rfl, hb10⟩; refine Hid.out ?_) | fail)
    have hz10 := hb10.size
    have hB10 := on_call hB9 hb10
    have Rx_10 := Lib.hid (Rx_9.out.kept hb10 (by omega))
    have Bx0_10 := (hb10.cell (p := ⟨w5.heap.size, 0, none⟩) (by dsimp only; omega)).trans Bx0_9
    have Bx1_10 := (hb10.cell (p := ⟨w5.heap.size, 1, none⟩) (by dsimp only; omega)).trans Bx1_9
    have Iz1_10 := Lib.hid (Iz1_9.out.on hb10)
    have Iu1_10 := Lib.hid (Iu1_9.out.on hb10)
    clear b0 b1
    obtain ⟨b0, b1⟩ := box2 hB10
    clear hB9 Rx_9 Bx0_9 Bx1_9 Iz1_9 Iu1_9 hb10
    clear Iu1_10
    refine Lib.hid ?_
    go_wp2_with fail
    go_ret
    exact ⟨rfl, (below_box hB10)⟩
end Go.Proofs.Ytgjogjmfpbinfaa.S2

namespace Go.Proofs.Ytgjogjmfpbinfaa.S2
open Go.RowKit P2
theorem law_lls (n : Int) (A : Option Addr) (cap : Nat) (ps : List Pp) (AC : Option Addr) (cc : Nat) (cu : List Int) (w : World) (h : PAt w A ps) (hm : ps.length ≤ maxLen) (hc : IAt w AC cu) (hmc : cu.length ≤ maxLen) :
    Calls Try.prog 7 #[nv n A ps.length cap, .slice AC cu.length cc] w fun e w' => e = .returned (.bool true) ∧ Below w.heap.size w w' := by
  cases hv : goodB n ps with
  | false => exact walkLoopLoss n A cap ps AC cc cu w h hm hc hmc 0 false (fun A c AC cc w h hl _ hc hcl => sll_no1 n A c ps AC cc cu w h (by unfold maxLen; omega) hv) (fun A c AC cc w h hl _ hc hcl => ll_no1 n A c ps AC cc cu w fun w' hb => sga_no1 n A c ps w' (h.kept hb (Nat.le_refl _)) (by unfold maxLen; omega) hv)
  | true =>
    have hg := good_of hv
    obtain ⟨N, rfl⟩ := good_nat hg
    cases hr : ringB N ps with
    | false => exact walkLoopLoss N A cap ps AC cc cu w h hm hc hmc 0 false (fun A c AC cc w h hl _ hc hcl => sll_no2 N A c ps AC cc cu w h (by unfold maxLen; omega) hv hr) (fun A c AC cc w h hl he hc hcl => ll_no1 N A c ps AC cc cu w fun w' hb => sga_no2 N A c ps w' (h.kept hb (Nat.le_refl _)) (by unfold maxLen; omega) hv (by omega) hr)
    | true =>
      cases hf : floB N ps cu with
      | false => exact walkLoopLoss N A cap ps AC cc cu w h hm hc hmc 0 false (fun A c AC cc w h hl _ hc hcl => sll_no3 N A c ps AC cc cu w h (by unfold maxLen; omega) hc hcl hv hr hf) (fun A c AC cc w h hl he hc hcl => ll_no2 N A c ps AC cc cu w h (by unfold maxLen; omega) hc hcl hf fun w' hb => sga_yes N A c ps w' (h.kept hb (Nat.le_refl _)) (by unfold maxLen; omega) hv (by omega) hr)
      | true => exact walkLoopLoss N A cap ps AC cc cu w h hm hc hmc (llA N ps cu) true (fun A c AC cc w h hl he hc hcl => sll_yes N A c ps AC cc cu w h (by unfold maxLen; omega) (by omega) hc hr hf) (fun A c AC cc w h hl he hc hcl => ll_yes N A c ps AC cc cu w h (by unfold maxLen; omega) hc hf fun w' hb => sga_yes N A c ps w' (h.kept hb (Nat.le_refl _)) (by unfold maxLen; omega) hv (by omega) hr)
end Go.Proofs.Ytgjogjmfpbinfaa.S2

namespace Go.Proofs.Ytgjogjmfpbinfaa.fnExactLoopLoss
open Go.ChangeShapes Go.WideShapes Go.ChangeAt Go.RowKit P2 S2
set_option linter.unusedVariables false

theorem own : ownKnob Try.prog.godebug = none := by kernel_rfl
theorem laidOut : laidOutB Try.prog = true := by kernel_rfl

set_option maxRecDepth 100000 in
theorem lifted (os : Os) (started : os.Started) (H : Type) (enc : TypeId × Value → H) :
    ReturnsInHanded {} Try.checked os 7 .any (Rows.fnExactLoopLossSpec.pre6 enc Try.prog Try.f7 Rows.fnExactLoopLossRow.domain false) (Rows.fnExactLoopLossSpec.post enc Try.prog Try.f7 false true false false) := by
  refine returnsInHanded_of_change (C := Try.checked) own started (by kernel_rfl) Try.func7
    (ChangeSpec.witness6 (enc := enc) (C := Try.checked) false ⟨#[], #[.agg #[.int .i64 0, .slice none 0 0], .slice none 0 0], []⟩ 8 (by kernel_rfl) (by kernel_rfl) (by kernel_rfl) (by kernel_rfl)) ?_
  intro W base args ds gs before hval0 hW hcnd _
  have hval : ∀ (j : Nat) t v, Try.f7.params[j]? = some t → args[j]? = some v → Value.okWide Try.prog W .any base t v := hval0
  have hW' := hW
  obtain ⟨p, q, hA0, hV, rfl, hfz, hnd⟩ := hW
  have hA : DataW.TrodAll enc Try.prog W 0 (fun _ => true) true Try.f7.params.toList args.toList ds p := hA0
  rw [Try.params7] at hA hval
  obtain ⟨v0, v1, d0, d1, p0, p1, rfl, rfl, rfl, h0, h1⟩ := trodAll_two hA
  obtain ⟨rfl, rfl⟩ := trodVars_none hV
  have k0 := h0
  have lt0 : ∀ x ∈ p0, x.block < W.heap.size := by obtain ⟨m, hm⟩ := k0; exact DataW.trod_lt m _ _ _ hm
  obtain ⟨n0, A0, cap0, ps0, rfl, at0, mx0⟩ := net_open (hval 0 24 v0 rfl rfl) h0
  have k1 := h1
  have lt1 : ∀ x ∈ p1, x.block < W.heap.size := by obtain ⟨m, hm⟩ := k1; exact DataW.trod_lt m _ _ _ hm
  obtain ⟨A1, cap1, cu1, rfl, at1, mx1⟩ := intsarg_open (hval 1 34 v1 rfl rfl) h1
  clear hA0 hval0
  refine (law_lls n0 A0 cap0 ps0 A1 cap1 cu1 W at0 mx0 at1 mx1).mono fun e W' ⟨he, bel⟩ => ?_
  subst he
  exact ⟨_, rfl, _, _, _, [], _, [], hW', trodAll_mk1 (shut_bool Try.underlying4 _), trodAll_mk2 (Below.trod laidOut (by kernel_rfl) (of_decide_eq_true (by kernel_rfl)) k0 bel lt0) (Below.trod laidOut (by kernel_rfl) (of_decide_eq_true (by kernel_rfl)) k1 bel lt1), rfl, bel.frame _, fun h => by cases h⟩

theorem andB {a b : Bool} (h : a = true) (g : b = true) : (a && b) = true := by rw [h, g]; rfl
theorem heavy : ((Rows.fnExactLoopLossRow.inPlace == Try.pinned.checked.prog.inPlace 7) && ((Rows.fnExactLoopLossRow.unfollowed == Try.pinned.checked.prog.unfollowed 7) && ((Rows.fnExactLoopLossRow.recurses == Try.pinned.checked.prog.recurses 7) && (Rows.fnExactLoopLossRow.named == Try.pinned.checked.prog.varsNamed 7)))) = true := by kernel_rfl
set_option maxHeartbeats 4000000 in
theorem closed : joinedFacts Try.pinned.checked.prog 7 Try.f7 Rows.fnExactLoopLossSpec Rows.fnExactLoopLossRow = true := by
  unfold joinedFacts
  simp only [Bool.and_assoc]
  have h := heavy
  rw [Bool.and_eq_true, Bool.and_eq_true, Bool.and_eq_true] at h
  obtain ⟨h1, h2, h3, h4⟩ := h
  iterate 9 refine andB (by as_aux_lemma => kernel_rfl) ?_
  refine andB (by with_reducible exact h1) (andB (by with_reducible exact h2) (andB (by with_reducible exact h3) (andB (by with_reducible exact h4) ?_)))
  as_aux_lemma => kernel_rfl
theorem named : Try.pinned.checked.prog.funcNamed Rows.fnExactLoopLossRow.func = some 7 := by kernel_rfl
theorem instd : Try.f7.isInstance Try.pinned.checked.prog Rows.fnExactLoopLossRow.origin Rows.fnExactLoopLossRow.targs := of_decide_eq_true (by kernel_rfl)
theorem proved : Rows.FnExactLoopLossSaid :=
  OpenClaim.holds_of_wide 7 Try.f7 rfl rfl rfl rfl rfl rfl rfl ⟨rfl, rfl, rfl, rfl, rfl⟩ rfl rfl rfl rfl rfl named Try.func7 closed
    instd (by unfold Func.isWrapper; first | (rw [if_pos (by decide +kernel)]; kernel_rfl) | (rw [if_neg (by decide +kernel)]; exact ⟨rfl, rfl⟩))
    (fun os started H enc _ => lifted os started H enc)
end Go.Proofs.Ytgjogjmfpbinfaa.fnExactLoopLoss
namespace Go.Proofs.Ytgjogjmfpbinfaa
theorem FnExactLoopLoss_holds : Rows.FnExactLoopLossSaid := fnExactLoopLoss.proved
#print axioms FnExactLoopLoss_holds
end Go.Proofs.Ytgjogjmfpbinfaa
