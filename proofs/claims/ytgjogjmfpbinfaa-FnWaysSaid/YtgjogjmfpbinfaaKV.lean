/- LossAlong of the model: contracts. Conditions: each theorem's own premises. -/
import Derived.Test.YtgjogjmfpbinfaaKT
import Derived.Test.YtgjogjmfpbinfaaKW
import Derived.Test.YtgjogjmfpbinfaaKQ
namespace Go.Proofs.Ytgjogjmfpbinfaa.S2
open Go.RowKit P2

open Go.Sort in
theorem met_at {P : Program} {f : FuncId} {args : Array Value} {w : World} {d : Nat} {os : Array Obj} {v : Value}
    (h : ∀ w', Below w.heap.size w w' → Calls P f args w' fun e w'' => e = .returned v ∧ Below w'.heap.size w' w'') : Calls P f args (grow (redrawn w d) os) fun e w'' => e = .returned v ∧ ∃ p : Regrown, w'' = grow (redrawn w p.d) p.os :=
  Calls.regrown_of (h _ (below_regrown w d os))
set_option maxHeartbeats 1000000 in
theorem al_no1 (n : Int) (A : Option Addr) (cap : Nat) (ps : List Pp) (AD : Option Addr) (dc : Nat) (fl : List Int) (x y : Int) (w : World) (hW : ∀ w', Below w.heap.size w w' → Calls Try.prog 97 #[nv n A ps.length cap, .int .i64 x, .int .i64 y] w' (GivesI w' [] false)) :
    Calls Try.prog 63 #[nv n A ps.length cap, .slice AD fl.length dc, .int .i64 x, .int .i64 y] w fun e w' => e = .returned (.tuple #[.int .i64 0, .bool false]) ∧ Below w.heap.size w w' := by
  have H := Lib.hid hW
  clear hW
  go_enter Try.func63, Try.ntmps63
  go_wp2_with (go_at_call 97; refine (H.out _ ((Below.refl _ _).alloc (Nat.le_refl _) _)).mono ?_; rintro e w1 ⟨g, c, rfl, hg, hO, hb1⟩)
  go_ret2
  exact ⟨rfl, below_alloc_call hb1⟩
set_option maxHeartbeats 1000000 in
theorem al_no2 (n : Int) (A : Option Addr) (cap : Nat) (ps : List Pp) (AD : Option Addr) (dc : Nat) (fl : List Int) (x y : Int) (W : List Int) (w : World) (h : PAt w A ps) (hm : ps.length ≤ maxLen) (hd : IAt w AD fl) (hdl : fl.length ≤ 1048576) (hv : floB n ps fl = false) (hW : ∀ w', Below w.heap.size w w' → Calls Try.prog 97 #[nv n A ps.length cap, .int .i64 x, .int .i64 y] w' (GivesI w' W true)) :
    Calls Try.prog 63 #[nv n A ps.length cap, .slice AD fl.length dc, .int .i64 x, .int .i64 y] w fun e w' => e = .returned (.tuple #[.int .i64 0, .bool false]) ∧ Below w.heap.size w w' := by
  have H := Lib.hid hW
  have H2 := Lib.hid (fun w' (hb : Below w.heap.size w w') => flo_v hv A cap AD dc w' (h.kept hb (Nat.le_refl _)) hm (hd.kept hb (Nat.le_refl _)) hdl)
  clear hW h hd hv
  go_enter Try.func63, Try.ntmps63
  go_wp2_with (first
    | (go_at_call 97; refine (H.out _ ((Below.refl _ _).alloc (Nat.le_refl _) _)).mono ?_; rintro e w1 ⟨g, c, rfl, hg, hO, hb1⟩; obtain ⟨hc1, hf1⟩ := bcell hb1; have hz1 := hb1.size; simp at hz1; have hB1 := Lib.hid (below_alloc_call hb1))
    | (go_at_call 124; refine (H2.out _ hB1.out).mono ?_; rintro e w2 ⟨rfl, hb2⟩; have hB2 := Lib.hid (hB1.out.trans (hb2.mono hB1.out.size))))
  go_ret2
  exact ⟨rfl, hB2.out⟩

set_option maxHeartbeats 4000000 in
set_option maxRecDepth 100000 in
theorem al_yes (N : Nat) (A : Option Addr) (cap : Nat) (ps : List Pp) (AD : Option Addr) (dc : Nat) (fl : List Int) (x y : Int) (W : List Int) (w : World) (h : PAt w A ps) (hm : ps.length ≤ maxLen) (hd : IAt w AD fl) (hdl : fl.length ≤ 1048576) (hv : floB N ps fl = true) (hwo : WayOk ps W x) (hW : ∀ w', Below w.heap.size w w' → Calls Try.prog 97 #[nv N A ps.length cap, .int .i64 x, .int .i64 y] w' (GivesI w' W true)) :
    Calls Try.prog 63 #[nv N A ps.length cap, .slice AD fl.length dc, .int .i64 x, .int .i64 y] w fun e w' => e = .returned (.tuple #[.int .i64 (alongA ps fl W x), .bool true]) ∧ Below w.heap.size w w' := by
  obtain ⟨hg, hfl, hr⟩ := floB_of hv
  have hl10 := hg.2.2.1
  have hW8 := hwo.1
  have H := Lib.hid hW
  have H2 := Lib.hid (fun w' (hb : Below w.heap.size w w') => flo_v hv A cap AD dc w' (h.kept hb (Nat.le_refl _)) hm (hd.kept hb (Nat.le_refl _)) hdl)
  have HPL := Lib.hid (fun v w' (hb : Below w.heap.size w w') => place_any N A cap ps v w' (h.kept hb (Nat.le_refl _)) hg)
  have HA := Lib.hid (fun w' (hb : Below w.heap.size w w') => h.kept hb (Nat.le_refl _))
  have HI := Lib.hid (fun w' (hb : Below w.heap.size w w') => hd.kept hb (Nat.le_refl _))
  have HE := Lib.hid (fun k (hk : k < fl.length) => allR_at hr hk)
  have HS := Lib.hid (fun k (hk : k ≤ W.length) => along_in hg hr hfl hwo hk)
  have HG := Lib.hid (fun k (hk : k < ps.length) => good_pp hg (pAt_mem hk))
  have HWO := Lib.hid (fun k (hk : k < W.length) => hwo.2 k hk)
  have HPP := Lib.hid (fun (v : Int) (i j : Nat) (f : Bool) (hf : FindIs ps v (i : Int)) (hp : Place ps v j f) => (show f = true ∧ j = i from by
    cases f with
    | false => have := (place_find (good_ids hg) hp hf).2 rfl; omega
    | true => have := ((place_find (good_ids hg) hp hf).1 rfl).1; exact ⟨rfl, by omega⟩))
  have HL := Lib.hid hfl
  clear h hd hv hr hg hfl hm hdl hW hwo
  go_enter Try.func63, Try.ntmps63
  go_wp2_with (first
    | (go_at_call 97; refine (H.out _ ((Below.refl _ _).alloc (Nat.le_refl _) _)).mono ?_; rintro e w1 ⟨gW, cW, rfl, hgW, hOW, hb1⟩; have HX1 := Lib.hid (show Below (w.heap.size + 1) (w.alloc (nb N A ps.length cap)) w1 by simpa using hb1); obtain ⟨b0, b1⟩ := box2 HX1.out; have hy1 := box_lt HX1.out; have HW1 := Lib.hid hOW.iat; clear hb1 hOW)
    | (go_at_call 124; refine (H2.out _ (below_box HX1.out)).mono ?_; rintro e w2 ⟨rfl, hb2⟩; have HX2 := Lib.hid (on_call HX1.out hb2); have HW2 := Lib.hid (HW1.out.kept hb2 (Nat.le_refl _)); clear b0 b1; obtain ⟨b0, b1⟩ := box2 HX2.out; have hy2 := box_lt HX2.out; clear hb2))
  have hBX := HX2.out
  have HWK := Lib.hid (fun w' (hb : Below w2.heap.size w2 w') => HW2.out.kept hb (Nat.le_refl _))
  have HB0 := Lib.hid (Below.refl w2.heap.size w2)
  have HX20 := Lib.hid hBX
  clear H H2 HX1 HX2 HW1 HW2 b0 b1 hy1 hBX
  go_loopw [12, 13, 38] (fun a h i wr => ∃ (k : Nat), k ≤ W.length ∧ i = .int .i64 (k : Int) ∧ a = .int .i64 (sumK (turnA ps fl W x) k) ∧ h = .int .i64 (hereA ps W x k) ∧ Hid (Below w2.heap.size w2 wr)) (fun _ _ i _ => W.length - (intOf i).toNat)
  case atStart => exact ⟨0, Nat.zero_le _, rfl, rfl, rfl, HB0⟩
  case round =>
    clear HB0
    obtain ⟨k, hk, rfl, rfl, rfl, hB2⟩ := hrel
    have hb := on_call HX20.out hB2.out
    have hB := Lib.hid (below_box hb)
    by_cases hlt : k < W.length
    · obtain ⟨c0, c1⟩ := box2 hb
      have hz2 := box_lt hb
      obtain ⟨bW, oW, hAW, hblW, w0⟩ := (HWK.out _ hB2.out).at_ hlt
      simp only [Option.some.injEq, Addr.mk.injEq, and_true] at hAW
      obtain ⟨rfl, rfl⟩ := hAW
      rw [Nat.zero_add] at w0
      have hk0 : (0 : Int) ≤ (k : Int) := by omega
      have hkn : (k : Int) < (W.length : Int) := by omega
      obtain ⟨hjl, hjf, hjt⟩ := HWO.out k hlt
      have hs := HS.out k hk
      have hs2 := HS.out (k + 1) hlt
      have hsn : sumK (turnA ps fl W x) (k + 1) = sumK (turnA ps fl W x) k + turnA ps fl W x k := rfl
      have hhn : hereA ps W x (k + 1) = oth (pAt ps (plc ps (lA W k))) (hereA ps W x k) := rfl
      have htn : turnA ps fl W x k = if (pAt ps (plc ps (lA W k))).fr = hereA ps W x k then lossI (pAt ps (plc ps (lA W k))) (lA fl (plc ps (lA W k))) else -lossI (pAt ps (plc ps (lA W k))) (lA fl (plc ps (lA W k))) := rfl
      have hla : lA W k = W.getD k 0 := rfl
      rw [htn] at hsn
      rw [hla] at hjl hjf hjt hsn hhn
      have hPL := Lib.hid (HPL.out (W.getD k 0))
      have hPP := Lib.hid (fun j f hp => HPP.out (W.getD k 0) (plc ps (W.getD k 0)) j f hjf hp)
      have hjfl : plc ps (W.getD k 0) < fl.length := by rw [HL.out]; exact hjl
      have hgp := HG.out _ hjl
      have hy := HE.out _ hjfl
      have HLO := Lib.hid (fun w' => loss_any hgp hy.1 hy.2 w')
      have hli := (loss_in hgp hy.1 hy.2).2
      have hne : (pAt ps (plc ps (W.getD k 0))).fr ≠ (pAt ps (plc ps (W.getD k 0))).to := hgp.2.2.2.2.2.2.1
      have hla2 : lA fl (plc ps (W.getD k 0)) = fl.getD (plc ps (W.getD k 0)) 0 := rfl
      rw [hla2] at hsn
      have HAP := Lib.hid (fun w' hb => (HA.out w' hb).at_ hjl)
      have HIP := Lib.hid (fun w' hb => (HI.out w' hb).at_ hjfl)
      have HO := Lib.hid (fun w => other_v hhn.symm w)
      have HTO := Lib.hid (show ((pAt ps (plc ps (W.getD k 0))).to = hereA ps W x k → sumK (turnA ps fl W x) (k + 1) = sumK (turnA ps fl W x) k + -lossI (pAt ps (plc ps (W.getD k 0))) (fl.getD (plc ps (W.getD k 0)) 0)) ∧ (¬ (pAt ps (plc ps (W.getD k 0))).to = hereA ps W x k → sumK (turnA ps fl W x) (k + 1) = sumK (turnA ps fl W x) k + lossI (pAt ps (plc ps (W.getD k 0))) (fl.getD (plc ps (W.getD k 0)) 0)) from ⟨fun e => by rw [hsn, if_neg (fun e2 => hne (e2.trans e.symm))], fun e => by rw [hsn, if_pos (hjt.resolve_right e)]⟩)
      clear hhn hsn htn hjf hjt hgp hy hla hla2 hne
      obtain ⟨s2, hs2e⟩ : ∃ z, sumK (turnA ps fl W x) (k + 1) = z := ⟨_, rfl⟩
      obtain ⟨h2, hh2e⟩ : ∃ z, hereA ps W x (k + 1) = z := ⟨_, rfl⟩
      rw [hs2e] at hs2 HTO
      rw [hh2e] at HO
      have HS2E := Lib.hid hs2e
      have HH2E := Lib.hid hh2e
      clear hs2e hh2e
      generalize lossI (pAt ps (plc ps (W.getD k 0))) (fl.getD (plc ps (W.getD k 0)) 0) = L at *
      generalize fl.getD (plc ps (W.getD k 0)) 0 = f at *
      generalize pAt ps (plc ps (W.getD k 0)) = p at *
      generalize plc ps (W.getD k 0) = j at *
      generalize sumK (turnA ps fl W x) k = s at *
      generalize hereA ps W x k = hh at *
      generalize W.getD k 0 = v at *
      have hjn : (j : Int) < (ps.length : Int) := by omega
      have hj0 : (0 : Int) ≤ (j : Int) := by omega
      have hjnf : (j : Int) < (fl.length : Int) := by omega
      go_wp2_with (first
        | (go_at_call 169; refine (hPL.out _ hB.out).mono ?_; rintro e w5 ⟨⟨j', f', rfl, hp'⟩, hb5⟩; obtain ⟨rfl, rfl⟩ := hPP.out j' f' hp'; refine Hid.out ?_))
      have hX5 := on_call hb hb5
      have hB5 := Lib.hid (below_box hX5)
      have hB25 := Lib.hid (hB2.out.trans (hb5.mono hB2.out.size))
      clear c0 c1 hz2 w0 hblW
      obtain ⟨c0, c1⟩ := box2 hX5
      have hz5 := box_lt hX5
      obtain ⟨b, off, hA, hbl, p0, p1, p2, p3⟩ := HAP.out _ hB5.out
      subst hA
      obtain ⟨bb, of2, hA2, hbl2, q0⟩ := HIP.out _ hB5.out
      subst hA2
      have hab := alloc_belowE w5 (.cells #[.int .i64 p.id, .int .i64 p.fr, .int .i64 p.to, .int .i64 p.sz] 75)
      have hB25n := Lib.hid (hB25.out.trans (hab.mono hB25.out.size))
      have q1 := (hab.cell (p := ⟨bb, of2 + j', none⟩) hbl2).trans q0
      have d0 := cells4 w5 (.int .i64 p.id) (.int .i64 p.fr) (.int .i64 p.to) (.int .i64 p.sz) 75 0 _ rfl
      have d1 := cells4 w5 (.int .i64 p.id) (.int .i64 p.fr) (.int .i64 p.to) (.int .i64 p.sz) 75 1 _ rfl
      have d2 := cells4 w5 (.int .i64 p.id) (.int .i64 p.fr) (.int .i64 p.to) (.int .i64 p.sz) 75 2 _ rfl
      have d3 := cells4 w5 (.int .i64 p.id) (.int .i64 p.fr) (.int .i64 p.to) (.int .i64 p.sz) 75 3 _ rfl
      have hzz : w5.heap.size < (w5.alloc (.cells #[.int .i64 p.id, .int .i64 p.fr, .int .i64 p.to, .int .i64 p.sz] 75)).heap.size := by simp
      have hbl2' : bb < (w5.alloc (.cells #[.int .i64 p.id, .int .i64 p.fr, .int .i64 p.to, .int .i64 p.sz] 75)).heap.size := by omega
      refine Lib.hid ?_
      go_wp2
      generalize w5.alloc (.cells #[.int .i64 p.id, .int .i64 p.fr, .int .i64 p.to, .int .i64 p.sz] 75) = wa at *
      clear p0 p1 p2 p3 q0 c0 c1 hab
      have hG := @cell_g
      refine region_below (by kernel_rfl) (by kernel_rfl) ?_
      repeat (first | go_big_quiet_step ((go_at_call 137; exact met HLO.out)))
      refine wpQuiet_nil ?_
      intro w6 hb6
      have r0 := (hb6.cell (p := ⟨w5.heap.size, 0, none⟩) hzz).trans d0
      have r1 := (hb6.cell (p := ⟨w5.heap.size, 1, none⟩) hzz).trans d1
      have r2 := (hb6.cell (p := ⟨w5.heap.size, 2, none⟩) hzz).trans d2
      have r3 := (hb6.cell (p := ⟨w5.heap.size, 3, none⟩) hzz).trans d3
      have hB6 := Lib.hid (hB25n.out.trans (hb6.mono hB25n.out.size))
      have hz6 : w5.heap.size < w6.heap.size := by have := hb6.size; omega
      clear hb6 d0 d1 d2 d3 q1 hG hbl2' hzz hb5
      by_cases hto : p.to = hh
      · have g0 : (p.to == hh) = true := beq_iff_eq.2 hto
        have he := HTO.out.1 hto
        have HE2 := Lib.hid he
        rw [he] at hs2
        clear hto he
        go_wp2_with (first
          | (go_at_call 170; refine (HO.out _).mono ?_; rintro e w7 ⟨rfl, hb7⟩))
        go_roundw
        case rel => exact ⟨k + 1, by omega, by go_num, by rw [HS2E.out, HE2.out], by rw [HH2E.out], Lib.hid (hB6.out.trans (hb7.mono hB6.out.size))⟩
        case measure => simp [intOf]; omega
      · have g0 : (p.to == hh) = false := beq_eq_false_iff_ne.2 hto
        have he := HTO.out.2 hto
        have HE2 := Lib.hid he
        rw [he] at hs2
        clear hto he
        go_wp2_with (first
          | (go_at_call 170; refine (HO.out _).mono ?_; rintro e w7 ⟨rfl, hb7⟩))
        go_roundw
        case rel => exact ⟨k + 1, by omega, by go_num, by rw [HS2E.out, HE2.out], by rw [HH2E.out], Lib.hid (hB6.out.trans (hb7.mono hB6.out.size))⟩
        case measure => simp [intOf]; omega
    · have hkk : k = W.length := by omega
      have HF := Lib.hid (show sumK (turnA ps fl W x) k = alongA ps fl W x by rw [hkk]; rfl)
      clear hkk
      go_wp2
      go_ret2
      exact ⟨by rw [← HF.out]; rfl, hB.out⟩
end Go.Proofs.Ytgjogjmfpbinfaa.S2

namespace Go.Proofs.Ytgjogjmfpbinfaa.S2
open Go.RowKit P2
set_option maxHeartbeats 4000000 in
set_option maxRecDepth 100000 in
theorem sal_any (N : Nat) (A : Option Addr) (cap : Nat) (ps : List Pp) (AD : Option Addr) (dc : Nat) (fl : List Int) (x y : Int) (W : List Int) (w : World) (h : PAt w A ps) (hd : IAt w AD fl) (hv : floB N ps fl = true) (hwo : WayOk ps W x) (hW : ∀ w', Below w.heap.size w w' → Calls Try.prog 198 #[nv N A ps.length cap, .int .i64 x, .int .i64 y] w' (GivesL w' W)) :
    Calls Try.prog 178 #[nv N A ps.length cap, .slice AD fl.length dc, .int .i64 x, .int .i64 y] w fun e w' => e = .returned (.int .i64 (alongA ps fl W x)) ∧ Below w.heap.size w w' := by
  obtain ⟨hg, hfl, hr⟩ := floB_of hv
  have hl10 := hg.2.2.1
  have hW8 := hwo.1
  have H := Lib.hid hW
  have HFN := Lib.hid (fun v (i : Nat) (hf : FindIs ps v (i : Int)) w' (hb : Below w.heap.size w w') => (find_any N A cap ps v w' (h.kept hb (Nat.le_refl _)) (by omega)).mono (R' := fun e w'' => e = .returned (.int .i64 (i : Int)) ∧ Below w'.heap.size w' w'') fun e w'' ⟨⟨r, he, hr⟩, hb⟩ => ⟨by rw [he, find_one hr hf], hb⟩)
  have HA := Lib.hid (fun w' (hb : Below w.heap.size w w') => h.kept hb (Nat.le_refl _))
  have HI := Lib.hid (fun w' (hb : Below w.heap.size w w') => hd.kept hb (Nat.le_refl _))
  have HE := Lib.hid (fun k (hk : k < fl.length) => allR_at hr hk)
  have HS := Lib.hid (fun k (hk : k ≤ W.length) => along_in hg hr hfl hwo hk)
  have HG := Lib.hid (fun k (hk : k < ps.length) => good_pp hg (pAt_mem hk))
  have HWO := Lib.hid (fun k (hk : k < W.length) => hwo.2 k hk)
  have HL := Lib.hid hfl
  clear h hd hv hr hg hfl hW hwo
  go_enter Try.func178, Try.ntmps178
  go_wp2_with (first
    | (go_at_call 198; refine (H.out _ ((Below.refl _ _).alloc (Nat.le_refl _) _)).mono ?_; rintro e w2 ⟨gW, cW, rfl, hgW, hOW, hb1⟩; have HX2 := Lib.hid (show Below (w.heap.size + 1) (w.alloc (nb N A ps.length cap)) w2 by simpa using hb1); have hy2 := box_lt HX2.out; have HW2 := Lib.hid hOW.iat; clear hb1 hOW))
  have HWK := Lib.hid (fun w' (hb : Below w2.heap.size w2 w') => HW2.out.kept hb (Nat.le_refl _))
  have HB0 := Lib.hid (Below.refl w2.heap.size w2)
  clear H HW2
  go_loopw [2, 10, 11] (fun h a i wr => ∃ (k : Nat), k ≤ W.length ∧ i = .int .i64 (k : Int) ∧ a = .int .i64 (sumK (turnA ps fl W x) k) ∧ h = .int .i64 (hereA ps W x k) ∧ Hid (Below w2.heap.size w2 wr)) (fun _ _ i _ => W.length - (intOf i).toNat)
  case atStart => exact ⟨0, Nat.zero_le _, rfl, rfl, rfl, HB0⟩
  case round =>
    clear HB0
    obtain ⟨k, hk, rfl, rfl, rfl, hB2⟩ := hrel
    have hb := on_call HX2.out hB2.out
    have hB := Lib.hid (below_box hb)
    by_cases hlt : k < W.length
    · obtain ⟨c0, c1⟩ := box2 hb
      have hz2 := box_lt hb
      obtain ⟨bW, oW, hAW, hblW, w0⟩ := (HWK.out _ hB2.out).at_ hlt
      simp only [Option.some.injEq, Addr.mk.injEq, and_true] at hAW
      obtain ⟨rfl, rfl⟩ := hAW
      rw [Nat.zero_add] at w0
      have hk0 : (0 : Int) ≤ (k : Int) := by omega
      have hkn : (k : Int) < (W.length : Int) := by omega
      obtain ⟨hjl, hjf, hjt⟩ := HWO.out k hlt
      have hs := HS.out k hk
      have hs2 := HS.out (k + 1) hlt
      have hsn : sumK (turnA ps fl W x) (k + 1) = sumK (turnA ps fl W x) k + turnA ps fl W x k := rfl
      have hhn : hereA ps W x (k + 1) = (if (pAt ps (plc ps (lA W k))).fr = hereA ps W x k then (pAt ps (plc ps (lA W k))).to else (pAt ps (plc ps (lA W k))).fr) := rfl
      have htn : turnA ps fl W x k = if (pAt ps (plc ps (lA W k))).fr = hereA ps W x k then lossI (pAt ps (plc ps (lA W k))) (lA fl (plc ps (lA W k))) else -lossI (pAt ps (plc ps (lA W k))) (lA fl (plc ps (lA W k))) := rfl
      have hla : lA W k = W.getD k 0 := rfl
      rw [htn] at hsn
      rw [hla] at hjl hjf hjt hsn hhn
      have hFN := Lib.hid (fun w' hb' => HFN.out (W.getD k 0) (plc ps (W.getD k 0)) hjf w' (hB.out.trans (Below.mono hb' hB.out.size)))
      have hjfl : plc ps (W.getD k 0) < fl.length := by rw [HL.out]; exact hjl
      have hgp := HG.out _ hjl
      have hy := HE.out _ hjfl
      have HLO := Lib.hid (fun w' => sloss_any hgp hy.1 hy.2 w')
      have hli := (loss_in hgp hy.1 hy.2).2
      have hla2 : lA fl (plc ps (W.getD k 0)) = fl.getD (plc ps (W.getD k 0)) 0 := rfl
      rw [hla2] at hsn
      have HAP := Lib.hid (fun w' hb => (HA.out w' hb).at_ hjl)
      have HIP := Lib.hid (fun w' hb => (HI.out w' hb).at_ hjfl)
      obtain ⟨s2, hs2e⟩ : ∃ z, sumK (turnA ps fl W x) (k + 1) = z := ⟨_, rfl⟩
      obtain ⟨h2, hh2e⟩ : ∃ z, hereA ps W x (k + 1) = z := ⟨_, rfl⟩
      rw [hs2e] at hs2 hsn
      rw [hh2e] at hhn
      have HS2E := Lib.hid hs2e
      have HH2E := Lib.hid hh2e
      clear hs2e hh2e
      have HTO := Lib.hid (show ((pAt ps (plc ps (W.getD k 0))).fr = hereA ps W x k → s2 = sumK (turnA ps fl W x) k + lossI (pAt ps (plc ps (W.getD k 0))) (fl.getD (plc ps (W.getD k 0)) 0) ∧ h2 = (pAt ps (plc ps (W.getD k 0))).to) ∧ (¬ (pAt ps (plc ps (W.getD k 0))).fr = hereA ps W x k → s2 = sumK (turnA ps fl W x) k - lossI (pAt ps (plc ps (W.getD k 0))) (fl.getD (plc ps (W.getD k 0)) 0) ∧ h2 = (pAt ps (plc ps (W.getD k 0))).fr) from ⟨fun e => ⟨by rw [hsn, if_pos e], by rw [hhn, if_pos e]⟩, fun e => ⟨by rw [hsn, if_neg e]; omega, by rw [hhn, if_neg e]⟩⟩)
      clear hhn hsn htn hjf hjt hgp hy hla hla2
      generalize lossI (pAt ps (plc ps (W.getD k 0))) (fl.getD (plc ps (W.getD k 0)) 0) = L at *
      generalize fl.getD (plc ps (W.getD k 0)) 0 = f at *
      generalize pAt ps (plc ps (W.getD k 0)) = p at *
      generalize plc ps (W.getD k 0) = j at *
      generalize sumK (turnA ps fl W x) k = s at *
      generalize hereA ps W x k = hh at *
      generalize W.getD k 0 = v at *
      have hjn : (j : Int) < (ps.length : Int) := by omega
      have hj0 : (0 : Int) ≤ (j : Int) := by omega
      have hjnf : (j : Int) < (fl.length : Int) := by omega
      go_wp2
      have hG := @cell_g
      refine region_below (by kernel_rfl) (by kernel_rfl) ?_
      repeat (first | go_big_quiet_step ((go_at_call 146; exact met_at hFN.out)))
      refine wpQuiet_nil ?_
      intro w5 hb5
      have hX5 := on_call hb hb5
      have hB5 := Lib.hid (below_box hX5)
      have hB25 := Lib.hid (hB2.out.trans (hb5.mono hB2.out.size))
      clear c0 c1 hz2 w0 hblW hG
      obtain ⟨c0, c1⟩ := box2 hX5
      have hz5 := box_lt hX5
      obtain ⟨b, off, hA, hbl, p0, p1, p2, p3⟩ := HAP.out _ hB5.out
      subst hA
      obtain ⟨bb, of2, hA2, hbl2, q0⟩ := HIP.out _ hB5.out
      subst hA2
      have hab := alloc_belowE w5 (.cells #[.int .i64 p.id, .int .i64 p.fr, .int .i64 p.to, .int .i64 p.sz] 75)
      have hB25n := Lib.hid (hB25.out.trans (hab.mono hB25.out.size))
      have q1 := (hab.cell (p := ⟨bb, of2 + j, none⟩) hbl2).trans q0
      have d0 := cells4 w5 (.int .i64 p.id) (.int .i64 p.fr) (.int .i64 p.to) (.int .i64 p.sz) 75 0 _ rfl
      have d1 := cells4 w5 (.int .i64 p.id) (.int .i64 p.fr) (.int .i64 p.to) (.int .i64 p.sz) 75 1 _ rfl
      have d2 := cells4 w5 (.int .i64 p.id) (.int .i64 p.fr) (.int .i64 p.to) (.int .i64 p.sz) 75 2 _ rfl
      have d3 := cells4 w5 (.int .i64 p.id) (.int .i64 p.fr) (.int .i64 p.to) (.int .i64 p.sz) 75 3 _ rfl
      have hzz : w5.heap.size < (w5.alloc (.cells #[.int .i64 p.id, .int .i64 p.fr, .int .i64 p.to, .int .i64 p.sz] 75)).heap.size := by simp
      have hbl2' : bb < (w5.alloc (.cells #[.int .i64 p.id, .int .i64 p.fr, .int .i64 p.to, .int .i64 p.sz] 75)).heap.size := by omega
      by_cases hto : p.fr = hh
      · have g0 : (p.fr == hh) = true := beq_iff_eq.2 hto
        obtain ⟨he, he2⟩ := HTO.out.1 hto
        have HE2 := Lib.hid he
        have HE3 := Lib.hid he2
        rw [he] at hs2
        have wS : IntKind.i64.wrap (s + L) = s + L := w64 _ (by omega)
        clear hto he he2
        go_wp2
        generalize w5.alloc (.cells #[.int .i64 p.id, .int .i64 p.fr, .int .i64 p.to, .int .i64 p.sz] 75) = wa at *
        clear p0 p1 p2 p3 q0 c0 c1 hab
        have hG := @cell_g
        refine region_below (by kernel_rfl) (by kernel_rfl) ?_
        repeat (first | go_big_quiet_step ((go_at_call 135; exact met HLO.out)))
        refine wpQuiet_nil ?_
        intro w6 hb6
        have r2 := (hb6.cell (p := ⟨w5.heap.size, 2, none⟩) hzz).trans d2
        have hB6 := Lib.hid (hB25n.out.trans (hb6.mono hB25n.out.size))
        have hz6 : w5.heap.size < w6.heap.size := by have := hb6.size; omega
        clear hb6 d0 d1 d2 d3 q1 hG hbl2' hzz hb5
        go_wp2
        go_roundw
        case rel => exact ⟨k + 1, by omega, by go_num, by rw [HS2E.out, HE2.out], by rw [HH2E.out, HE3.out], hB6⟩
        case measure => simp [intOf]; omega
      · have g0 : (p.fr == hh) = false := beq_eq_false_iff_ne.2 hto
        obtain ⟨he, he2⟩ := HTO.out.2 hto
        have HE2 := Lib.hid he
        have HE3 := Lib.hid he2
        rw [he] at hs2
        have wS : IntKind.i64.wrap (s - L) = s - L := w64 _ (by omega)
        clear hto he he2
        go_wp2
        generalize w5.alloc (.cells #[.int .i64 p.id, .int .i64 p.fr, .int .i64 p.to, .int .i64 p.sz] 75) = wa at *
        clear p0 p1 p2 p3 q0 c0 c1 hab
        have hG := @cell_g
        refine region_below (by kernel_rfl) (by kernel_rfl) ?_
        repeat (first | go_big_quiet_step ((go_at_call 135; exact met HLO.out)))
        refine wpQuiet_nil ?_
        intro w6 hb6
        have r2 := (hb6.cell (p := ⟨w5.heap.size, 1, none⟩) hzz).trans d1
        have hB6 := Lib.hid (hB25n.out.trans (hb6.mono hB25n.out.size))
        have hz6 : w5.heap.size < w6.heap.size := by have := hb6.size; omega
        clear hb6 d0 d1 d2 d3 q1 hG hbl2' hzz hb5
        go_wp2
        go_roundw
        case rel => exact ⟨k + 1, by omega, by go_num, by rw [HS2E.out, HE2.out], by rw [HH2E.out, HE3.out], hB6⟩
        case measure => simp [intOf]; omega
    · have hkk : k = W.length := by omega
      have HF := Lib.hid (show sumK (turnA ps fl W x) k = alongA ps fl W x by rw [hkk]; rfl)
      clear hkk
      go_wp2
      go_ret
      exact ⟨by rw [← HF.out]; rfl, hB.out⟩

set_option maxHeartbeats 2000000 in
theorem sal_no (n : Int) (A : Option Addr) (cap : Nat) (ps : List Pp) (AD : Option Addr) (dc : Nat) (fl : List Int) (x y : Int) (w : World) (h : PAt w A ps) (hm : ps.length ≤ maxLen) (hd : IAt w AD fl) (hdl : fl.length ≤ 1048576)
    (hv : nodeB n ps x = false ∨ nodeB n ps y = false ∨ floB n ps fl = false ∨ ∃ N X T : Nat, n = N ∧ x = X ∧ y = T ∧ dist ps T X = -1) :
    Calls Try.prog 71 #[nv n A ps.length cap, .slice AD fl.length dc, .int .i64 x, .int .i64 y] w fun e w' => e = .returned (.tuple #[.int .i64 0, .bool false]) ∧ Below w.heap.size w w' := by
  obtain ⟨v1, hv1⟩ : ∃ v, nodeB n ps x = v := ⟨_, rfl⟩
  obtain ⟨v2, hv2⟩ : ∃ v, nodeB n ps y = v := ⟨_, rfl⟩
  obtain ⟨v3, hv3⟩ : ∃ v, amtB fl ps.length (-8000) 8000 = v := ⟨_, rfl⟩
  have H1 := Lib.hid (fun w' (hb : Below w.heap.size w w') => snode_v hv1 A cap w' (h.kept hb (Nat.le_refl _)) hm)
  have H2 := Lib.hid (fun w' (hb : Below w.heap.size w w') => snode_v hv2 A cap w' (h.kept hb (Nat.le_refl _)) hm)
  have H3 := Lib.hid (fun w' (hb : Below w.heap.size w w') => sflo_v hv3 (n := n) A cap AD dc w' (hd.kept hb (Nat.le_refl _)) hdl)
  cases v1 with
  | false =>
    clear h hd hv hv1 hv2 hv3
    go_enter Try.func71, Try.ntmps71
    go_wp2_with (go_at_call_of 126 (Value.int IntKind.i64 x); refine (H1.out _ ((Below.refl _ _).alloc (Nat.le_refl _) _)).mono ?_; rintro e w1 ⟨rfl, hb1⟩; have hB1 := Lib.hid (below_alloc_call hb1))
    go_ret2
    exact ⟨rfl, hB1.out⟩
  | true =>
    cases v2 with
    | false =>
      by_cases hxy : x = y
      · subst hxy; exact absurd (hv1.symm.trans hv2) (by simp)
      clear h hd hv hv1 hv2 hv3
      go_enter Try.func71, Try.ntmps71
      go_wp2_with (first
        | (go_at_call_of 126 (Value.int IntKind.i64 x); refine (H1.out _ ((Below.refl _ _).alloc (Nat.le_refl _) _)).mono ?_; rintro e w1 ⟨rfl, hb1⟩; have HX1 := Lib.hid (show Below (w.heap.size + 1) (w.alloc (nb n A ps.length cap)) w1 by simpa using hb1); obtain ⟨b0, b1⟩ := box2 HX1.out; have hy1 := box_lt HX1.out; clear hb1)
        | (go_at_call_of 126 (Value.int IntKind.i64 y); refine (H2.out _ (below_box HX1.out)).mono ?_; rintro e w2 ⟨rfl, hb2⟩; have HX2 := Lib.hid (on_call HX1.out hb2); clear b0 b1; obtain ⟨b0, b1⟩ := box2 HX2.out; have hy2 := box_lt HX2.out; clear hb2))
      go_ret2
      exact ⟨rfl, below_box HX2.out⟩
    | true =>
      obtain ⟨hg, hx1, hx2⟩ := nodeB_of hv1
      obtain ⟨_, hy1', hy2'⟩ := nodeB_of hv2
      obtain ⟨N, rfl⟩ := good_nat hg
      obtain ⟨X, rfl⟩ : ∃ X : Nat, x = X := ⟨x.toNat, by omega⟩
      obtain ⟨T, rfl⟩ : ∃ T : Nat, y = T := ⟨y.toNat, by omega⟩
      cases v3 with
      | false =>
        clear h hd hv hv1 hv2 hv3 hg
        go_enter Try.func71, Try.ntmps71
        go_wp2_with (first
          | (go_at_call_of 126 (Value.int IntKind.i64 (X : Int)); refine (H1.out _ ((Below.refl _ _).alloc (Nat.le_refl _) _)).mono ?_; rintro e w1 ⟨rfl, hb1⟩; have HX1 := Lib.hid (show Below (w.heap.size + 1) (w.alloc (nb N A ps.length cap)) w1 by simpa using hb1); obtain ⟨b0, b1⟩ := box2 HX1.out; have hy1 := box_lt HX1.out; clear hb1)
          | (go_at_call_of 126 (Value.int IntKind.i64 (T : Int)); refine (H2.out _ (below_box HX1.out)).mono ?_; rintro e w2 ⟨rfl, hb2⟩; have HX2 := Lib.hid (on_call HX1.out hb2); clear b0 b1; obtain ⟨b0, b1⟩ := box2 HX2.out; have hy2 := box_lt HX2.out; clear hb2)
          | (go_at_call 121; refine (H3.out _ (below_box HX2.out)).mono ?_; rintro e w3 ⟨rfl, hb3⟩; have HX3 := Lib.hid (on_call HX2.out hb3); clear b0 b1; obtain ⟨b0, b1⟩ := box2 HX3.out; have hy3 := box_lt HX3.out; clear hb3))
        go_ret2
        exact ⟨rfl, below_box HX3.out⟩
      | true =>
        have hd0 : dist ps T X = -1 := by
          rcases hv with h | h | h | ⟨N', X', T', e1, e2, e3, h⟩
          · exact absurd (h.symm.trans hv1) (by simp)
          · exact absurd (h.symm.trans hv2) (by simp)
          · unfold floB at h; rw [good_mk hg, hv3] at h; cases h
          · have : X' = X := by omega
            have : T' = T := by omega
            subst X' T'
            exact h
        have HR := Lib.hid (fun w' (hb : Below w.heap.size w w') => sreach_any N X A cap ps w' (h.kept hb (Nat.le_refl _)) hg (by omega) (by omega))
        have hN : N ≤ 8 := by have := hg.2.1; omega
        have hcl := conL_len N ps X
        have HH := Lib.hid (show hasB (conL N ps X) T = false by rw [has_con (by omega) (by omega)]; exact decide_eq_false (fun h => h hd0))
        clear h hd hv hv1 hv2 hv3 hg hd0
        go_enter Try.func71, Try.ntmps71
        go_wp2_with (first
          | (go_at_call_of 126 (Value.int IntKind.i64 (X : Int)); refine (H1.out _ ((Below.refl _ _).alloc (Nat.le_refl _) _)).mono ?_; rintro e w1 ⟨rfl, hb1⟩; have HX1 := Lib.hid (show Below (w.heap.size + 1) (w.alloc (nb N A ps.length cap)) w1 by simpa using hb1); obtain ⟨b0, b1⟩ := box2 HX1.out; have hy1 := box_lt HX1.out; clear hb1)
          | (go_at_call_of 126 (Value.int IntKind.i64 (T : Int)); refine (H2.out _ (below_box HX1.out)).mono ?_; rintro e w2 ⟨rfl, hb2⟩; have HX2 := Lib.hid (on_call HX1.out hb2); clear b0 b1; obtain ⟨b0, b1⟩ := box2 HX2.out; have hy2 := box_lt HX2.out; clear hb2)
          | (go_at_call 121; refine (H3.out _ (below_box HX2.out)).mono ?_; rintro e w3 ⟨rfl, hb3⟩; have HX3 := Lib.hid (on_call HX2.out hb3); clear b0 b1; obtain ⟨b0, b1⟩ := box2 HX3.out; have hy3 := box_lt HX3.out; clear hb3)
          | (go_at_call 177; refine (HR.out _ (below_box HX3.out)).mono ?_; rintro e w4 ⟨g, o, c, rfl, hg4, hla, hb4⟩; have HX4 := Lib.hid (on_call HX3.out hb4); clear b0 b1; obtain ⟨b0, b1⟩ := box2 HX4.out; have hy4 := box_lt HX4.out; clear hb4)
          | (go_at_call 176; refine (has_v HH.out _ _ _ hla.iat (by omega)).mono ?_; rintro e w5 ⟨rfl, hw⟩; replace hw := hw.symm; subst hw))
        go_ret2
        exact ⟨rfl, below_box HX4.out⟩

set_option maxHeartbeats 2000000 in
theorem sal_yes (N X T K : Nat) (A : Option Addr) (cap : Nat) (ps : List Pp) (AD : Option Addr) (dc : Nat) (fl : List Int) (w : World) (h : PAt w A ps) (hm : ps.length ≤ maxLen) (hd : IAt w AD fl) (hdl : fl.length ≤ 1048576) (hv : floB N ps fl = true) (hv1 : nodeB N ps X = true) (hv2 : nodeB N ps T = true) (hdi : dist ps T X = K) :
    Calls Try.prog 71 #[nv N A ps.length cap, .slice AD fl.length dc, .int .i64 (X : Int), .int .i64 (T : Int)] w fun e w' => e = .returned (.tuple #[.int .i64 (alongA ps fl (wayL ps T K X) X), .bool true]) ∧ Below w.heap.size w w' := by
  obtain ⟨hg, hx1, hx2⟩ := nodeB_of hv1
  obtain ⟨_, hy1', hy2'⟩ := nodeB_of hv2
  have hv0 := hv
  unfold floB at hv
  rw [Bool.and_eq_true] at hv
  have H1 := Lib.hid (fun w' (hb : Below w.heap.size w w') => snode_v hv1 A cap w' (h.kept hb (Nat.le_refl _)) hm)
  have H2 := Lib.hid (fun w' (hb : Below w.heap.size w w') => snode_v hv2 A cap w' (h.kept hb (Nat.le_refl _)) hm)
  have H3 := Lib.hid (fun w' (hb : Below w.heap.size w w') => sflo_v hv.2 (n := N) A cap AD dc w' (hd.kept hb (Nat.le_refl _)) hdl)
  have HR := Lib.hid (fun w' (hb : Below w.heap.size w w') => sreach_any N X A cap ps w' (h.kept hb (Nat.le_refl _)) hg (by omega) (by omega))
  have HAL := Lib.hid (fun w' (hb : Below w.heap.size w w') => sal_any N A cap ps AD dc fl X T _ w' (h.kept hb (Nat.le_refl _)) (hd.kept hb (Nat.le_refl _)) hv0 (way_ok hg (by omega) hdi) (fun w'' hb2 => l2way_any N X T A cap ps w'' (h.kept (hb.trans (hb2.mono hb.size)) (Nat.le_refl _)) hg (by omega) (by omega) (by omega) (by omega) K hdi))
  have hN : N ≤ 8 := by have := hg.2.1; omega
  have hcl := conL_len N ps X
  have HH := Lib.hid (show hasB (conL N ps X) T = true by rw [has_con (by omega) (by omega)]; exact decide_eq_true (by omega))
  clear h hd hv hv0 hv1 hv2 hg hdi
  generalize alongA ps fl (wayL ps T K X) X = R at *
  go_enter Try.func71, Try.ntmps71
  go_wp2_with (first
    | (go_at_call_of 126 (Value.int IntKind.i64 (X : Int)); refine (H1.out _ ((Below.refl _ _).alloc (Nat.le_refl _) _)).mono ?_; rintro e w1 ⟨rfl, hb1⟩; have HX1 := Lib.hid (show Below (w.heap.size + 1) (w.alloc (nb N A ps.length cap)) w1 by simpa using hb1); obtain ⟨b0, b1⟩ := box2 HX1.out; have hy1 := box_lt HX1.out; clear hb1)
    | (go_at_call_of 126 (Value.int IntKind.i64 (T : Int)); refine (H2.out _ (below_box HX1.out)).mono ?_; rintro e w2 ⟨rfl, hb2⟩; have HX2 := Lib.hid (on_call HX1.out hb2); clear b0 b1; obtain ⟨b0, b1⟩ := box2 HX2.out; have hy2 := box_lt HX2.out; clear hb2)
    | (go_at_call 121; refine (H3.out _ (below_box HX2.out)).mono ?_; rintro e w3 ⟨rfl, hb3⟩; have HX3 := Lib.hid (on_call HX2.out hb3); clear b0 b1; obtain ⟨b0, b1⟩ := box2 HX3.out; have hy3 := box_lt HX3.out; clear hb3)
    | (go_at_call 177; refine (HR.out _ (below_box HX3.out)).mono ?_; rintro e w4 ⟨g, o, c, rfl, hg4, hla, hb4⟩; have HX4 := Lib.hid (on_call HX3.out hb4); clear b0 b1; obtain ⟨b0, b1⟩ := box2 HX4.out; have hy4 := box_lt HX4.out; clear hb4)
    | (go_at_call 176; refine (has_v HH.out _ _ _ hla.iat (by omega)).mono ?_; rintro e w5 ⟨rfl, hw⟩; replace hw := hw.symm; subst hw)
    | (go_at_call 178; refine (HAL.out _ (below_box HX4.out)).mono ?_; rintro e w6 ⟨rfl, hb6⟩))
  go_ret2
  exact ⟨rfl, (below_box HX4.out).trans (hb6.mono (below_box HX4.out).size)⟩
end Go.Proofs.Ytgjogjmfpbinfaa.S2
