/- HeadsOf of the program where it fails: contracts. Conditions: each theorem's own premises. -/
import Derived.Test.YtpldbakllegheaaKT
import Derived.Test.YtpldbakllegheaaWayTwo
import Derived.Test.YtpldbakllegheaaWayThree
import Derived.Test.YtpldbakllegheaaReachThree
import Derived.Test.YtpldbakllegheaaNetKit
import Derived.Test.YtpldbakllegheaaBrT
namespace Go.Proofs.Ytpldbakllegheaa.S2
open Go.RowKit P2

open Go.Sort in
theorem met_at {P : Program} {f : FuncId} {args : Array Value} {w : World} {d : Nat} {os : Array Obj} {v : Value}
    (h : ∀ w', Below w.heap.size w w' → Calls P f args w' fun e w'' => e = .returned v ∧ Below w'.heap.size w' w'') : Calls P f args (grow (redrawn w d) os) fun e w'' => e = .returned v ∧ ∃ p : Regrown, w'' = grow (redrawn w p.d) p.os :=
  Calls.regrown_of (h _ (below_regrown w d os))
set_option maxHeartbeats 1000000 in
theorem al_no1 (n : Int) (A : Option Addr) (cap : Nat) (ps : List Pp) (AD : Option Addr) (dc : Nat) (fl : List Int) (x y : Int) (w : World) (hW : ∀ w', Below w.heap.size w w' → Calls Try.prog 76 #[nv n A ps.length cap, .int .i64 x, .int .i64 y] w' (GivesI w' [] false)) :
    Calls Try.prog 34 #[nv n A ps.length cap, .slice AD fl.length dc, .int .i64 x, .int .i64 y] w fun e w' => e = .returned (.tuple #[.int .i64 0, .bool false]) ∧ Below w.heap.size w w' := by
  have H := Lib.hid hW
  clear hW
  go_enter Try.func34, Try.ntmps34
  go_wp2_with (go_at_call 76; refine (H.out _ ((Below.refl _ _).alloc (Nat.le_refl _) _)).mono ?_; rintro e w1 ⟨g, c, rfl, hg, hO, hb1⟩)
  go_ret2
  exact ⟨rfl, below_alloc_call hb1⟩
set_option maxHeartbeats 1000000 in
theorem al_no2 (n : Int) (A : Option Addr) (cap : Nat) (ps : List Pp) (AD : Option Addr) (dc : Nat) (fl : List Int) (x y : Int) (W : List Int) (w : World) (h : PAt w A ps) (hm : ps.length ≤ maxLen) (hd : IAt w AD fl) (hdl : fl.length ≤ 1048576) (hv : floB n ps fl = false) (hW : ∀ w', Below w.heap.size w w' → Calls Try.prog 76 #[nv n A ps.length cap, .int .i64 x, .int .i64 y] w' (GivesI w' W true)) :
    Calls Try.prog 34 #[nv n A ps.length cap, .slice AD fl.length dc, .int .i64 x, .int .i64 y] w fun e w' => e = .returned (.tuple #[.int .i64 0, .bool false]) ∧ Below w.heap.size w w' := by
  have H := Lib.hid hW
  have H2 := Lib.hid (fun w' (hb : Below w.heap.size w w') => flo_v hv A cap AD dc w' (h.kept hb (Nat.le_refl _)) hm (hd.kept hb (Nat.le_refl _)) hdl)
  clear hW h hd hv
  go_enter Try.func34, Try.ntmps34
  go_wp2_with (first
    | (go_at_call 76; refine (H.out _ ((Below.refl _ _).alloc (Nat.le_refl _) _)).mono ?_; rintro e w1 ⟨g, c, rfl, hg, hO, hb1⟩; obtain ⟨hc1, hf1⟩ := bcell hb1; have hz1 := hb1.size; simp at hz1; have hB1 := Lib.hid (below_alloc_call hb1))
    | (go_at_call 57; refine (H2.out _ hB1.out).mono ?_; rintro e w2 ⟨rfl, hb2⟩; have hB2 := Lib.hid (hB1.out.trans (hb2.mono hB1.out.size))))
  go_ret2
  exact ⟨rfl, hB2.out⟩

set_option maxHeartbeats 4000000 in
set_option maxRecDepth 100000 in
theorem al_yes (N : Nat) (A : Option Addr) (cap : Nat) (ps : List Pp) (AD : Option Addr) (dc : Nat) (fl : List Int) (x y : Int) (W : List Int) (w : World) (h : PAt w A ps) (hm : ps.length ≤ maxLen) (hd : IAt w AD fl) (hdl : fl.length ≤ 1048576) (hv : floB N ps fl = true) (hwo : WayOk ps W x) (hW : ∀ w', Below w.heap.size w w' → Calls Try.prog 76 #[nv N A ps.length cap, .int .i64 x, .int .i64 y] w' (GivesI w' W true)) :
    Calls Try.prog 34 #[nv N A ps.length cap, .slice AD fl.length dc, .int .i64 x, .int .i64 y] w fun e w' => e = .returned (.tuple #[.int .i64 (alongA ps fl W x), .bool true]) ∧ Below w.heap.size w w' := by
  obtain ⟨hg, hfl, hr⟩ := floB_of hv
  have hl10 := hg.2.2.1
  have hW8 := hwo.1
  have H := Lib.hid hW
  have H2 := Lib.hid (fun w' (hb : Below w.heap.size w w') => flo_v hv A cap AD dc w' (h.kept hb (Nat.le_refl _)) hm (hd.kept hb (Nat.le_refl _)) hdl)
  have HPL := Lib.hid (fun v w' (hb : Below w.heap.size w w') => place_any N A cap ps v w' (h.kept hb (Nat.le_refl _)) hg)
  have HA := Lib.hid (fun w' (hb : Below w.heap.size w w') => h.kept hb (Nat.le_refl _))
  have HI := Lib.hid (fun w' (hb : Below w.heap.size w w') => hd.kept hb (Nat.le_refl _))
  have HE := Lib.hid (fun k (hk : k < fl.length) => allR_at hr hk)
  have HS := Lib.hid (fun k (hk : k ≤ W.length) => along_in hg hr hfl hwo hk)
  have HG := Lib.hid (fun k (hk : k < ps.length) => good_pp hg (pAt_mem hk))
  have HWO := Lib.hid (fun k (hk : k < W.length) => hwo.2 k hk)
  have HPP := Lib.hid (fun (v : Int) (i j : Nat) (f : Bool) (hf : FindIs ps v (i : Int)) (hp : Place ps v j f) => (show f = true ∧ j = i from by
    cases f with
    | false => have := (place_find (good_ids hg) hp hf).2 rfl; omega
    | true => have := ((place_find (good_ids hg) hp hf).1 rfl).1; exact ⟨rfl, by omega⟩))
  have HL := Lib.hid hfl
  clear h hd hv hr hg hfl hm hdl hW hwo
  go_enter Try.func34, Try.ntmps34
  go_wp2_with (first
    | (go_at_call 76; refine (H.out _ ((Below.refl _ _).alloc (Nat.le_refl _) _)).mono ?_; rintro e w1 ⟨gW, cW, rfl, hgW, hOW, hb1⟩; have HX1 := Lib.hid (show Below (w.heap.size + 1) (w.alloc (nb N A ps.length cap)) w1 by simpa using hb1); obtain ⟨b0, b1⟩ := box2 HX1.out; have hy1 := box_lt HX1.out; have HW1 := Lib.hid hOW.iat; clear hb1 hOW)
    | (go_at_call 57; refine (H2.out _ (below_box HX1.out)).mono ?_; rintro e w2 ⟨rfl, hb2⟩; have HX2 := Lib.hid (on_call HX1.out hb2); have HW2 := Lib.hid (HW1.out.kept hb2 (Nat.le_refl _)); clear b0 b1; obtain ⟨b0, b1⟩ := box2 HX2.out; have hy2 := box_lt HX2.out; clear hb2))
  have hBX := HX2.out
  have HWK := Lib.hid (fun w' (hb : Below w2.heap.size w2 w') => HW2.out.kept hb (Nat.le_refl _))
  have HB0 := Lib.hid (Below.refl w2.heap.size w2)
  have HX20 := Lib.hid hBX
  clear H H2 HX1 HX2 HW1 HW2 b0 b1 hy1 hBX
  go_loopw [12, 13, 38] (fun a h i wr => ∃ (k : Nat), k ≤ W.length ∧ i = .int .i64 (k : Int) ∧ a = .int .i64 (sumK (turnA ps fl W x) k) ∧ h = .int .i64 (hereA ps W x k) ∧ Hid (Below w2.heap.size w2 wr)) (fun _ _ i _ => W.length - (intOf i).toNat)
  case atStart => exact ⟨0, Nat.zero_le _, rfl, rfl, rfl, HB0⟩
  case round =>
    clear HB0
    obtain ⟨k, hk, rfl, rfl, rfl, hB2⟩ := hrel
    have hb := on_call HX20.out hB2.out
    have hB := Lib.hid (below_box hb)
    by_cases hlt : k < W.length
    · obtain ⟨c0, c1⟩ := box2 hb
      have hz2 := box_lt hb
      obtain ⟨bW, oW, hAW, hblW, w0⟩ := (HWK.out _ hB2.out).at_ hlt
      simp only [Option.some.injEq, Addr.mk.injEq, and_true] at hAW
      obtain ⟨rfl, rfl⟩ := hAW
      rw [Nat.zero_add] at w0
      have hk0 : (0 : Int) ≤ (k : Int) := by omega
      have hkn : (k : Int) < (W.length : Int) := by omega
      obtain ⟨hjl, hjf, hjt⟩ := HWO.out k hlt
      have hs := HS.out k hk
      have hs2 := HS.out (k + 1) hlt
      have hsn : sumK (turnA ps fl W x) (k + 1) = sumK (turnA ps fl W x) k + turnA ps fl W x k := rfl
      have hhn : hereA ps W x (k + 1) = oth (pAt ps (plc ps (lA W k))) (hereA ps W x k) := rfl
      have htn : turnA ps fl W x k = if (pAt ps (plc ps (lA W k))).fr = hereA ps W x k then lossI (pAt ps (plc ps (lA W k))) (lA fl (plc ps (lA W k))) else -lossI (pAt ps (plc ps (lA W k))) (lA fl (plc ps (lA W k))) := rfl
      have hla : lA W k = W.getD k 0 := rfl
      rw [htn] at hsn
      rw [hla] at hjl hjf hjt hsn hhn
      have hPL := Lib.hid (HPL.out (W.getD k 0))
      have hPP := Lib.hid (fun j f hp => HPP.out (W.getD k 0) (plc ps (W.getD k 0)) j f hjf hp)
      have hjfl : plc ps (W.getD k 0) < fl.length := by rw [HL.out]; exact hjl
      have hgp := HG.out _ hjl
      have hy := HE.out _ hjfl
      have HLO := Lib.hid (fun w' => loss_any hgp hy.1 hy.2 w')
      have hli := (loss_in hgp hy.1 hy.2).2
      have hne : (pAt ps (plc ps (W.getD k 0))).fr ≠ (pAt ps (plc ps (W.getD k 0))).to := hgp.2.2.2.2.2.2.1
      have hla2 : lA fl (plc ps (W.getD k 0)) = fl.getD (plc ps (W.getD k 0)) 0 := rfl
      rw [hla2] at hsn
      have HAP := Lib.hid (fun w' hb => (HA.out w' hb).at_ hjl)
      have HIP := Lib.hid (fun w' hb => (HI.out w' hb).at_ hjfl)
      have HO := Lib.hid (fun w => other_v hhn.symm w)
      have HTO := Lib.hid (show ((pAt ps (plc ps (W.getD k 0))).to = hereA ps W x k → sumK (turnA ps fl W x) (k + 1) = sumK (turnA ps fl W x) k + -lossI (pAt ps (plc ps (W.getD k 0))) (fl.getD (plc ps (W.getD k 0)) 0)) ∧ (¬ (pAt ps (plc ps (W.getD k 0))).to = hereA ps W x k → sumK (turnA ps fl W x) (k + 1) = sumK (turnA ps fl W x) k + lossI (pAt ps (plc ps (W.getD k 0))) (fl.getD (plc ps (W.getD k 0)) 0)) from ⟨fun e => by rw [hsn, if_neg (fun e2 => hne (e2.trans e.symm))], fun e => by rw [hsn, if_pos (hjt.resolve_right e)]⟩)
      clear hhn hsn htn hjf hjt hgp hy hla hla2 hne
      obtain ⟨s2, hs2e⟩ : ∃ z, sumK (turnA ps fl W x) (k + 1) = z := ⟨_, rfl⟩
      obtain ⟨h2, hh2e⟩ : ∃ z, hereA ps W x (k + 1) = z := ⟨_, rfl⟩
      rw [hs2e] at hs2 HTO
      rw [hh2e] at HO
      have HS2E := Lib.hid hs2e
      have HH2E := Lib.hid hh2e
      clear hs2e hh2e
      generalize lossI (pAt ps (plc ps (W.getD k 0))) (fl.getD (plc ps (W.getD k 0)) 0) = L at *
      generalize fl.getD (plc ps (W.getD k 0)) 0 = f at *
      generalize pAt ps (plc ps (W.getD k 0)) = p at *
      generalize plc ps (W.getD k 0) = j at *
      generalize sumK (turnA ps fl W x) k = s at *
      generalize hereA ps W x k = hh at *
      generalize W.getD k 0 = v at *
      have hjn : (j : Int) < (ps.length : Int) := by omega
      have hj0 : (0 : Int) ≤ (j : Int) := by omega
      have hjnf : (j : Int) < (fl.length : Int) := by omega
      go_wp2_with (first
        | (go_at_call 58; refine (hPL.out _ hB.out).mono ?_; rintro e w5 ⟨⟨j', f', rfl, hp'⟩, hb5⟩; obtain ⟨rfl, rfl⟩ := hPP.out j' f' hp'; refine Hid.out ?_))
      have hX5 := on_call hb hb5
      have hB5 := Lib.hid (below_box hX5)
      have hB25 := Lib.hid (hB2.out.trans (hb5.mono hB2.out.size))
      clear c0 c1 hz2 w0 hblW
      obtain ⟨c0, c1⟩ := box2 hX5
      have hz5 := box_lt hX5
      obtain ⟨b, off, hA, hbl, p0, p1, p2, p3⟩ := HAP.out _ hB5.out
      subst hA
      obtain ⟨bb, of2, hA2, hbl2, q0⟩ := HIP.out _ hB5.out
      subst hA2
      have hab := alloc_belowE w5 (.cells #[.int .i64 p.id, .int .i64 p.fr, .int .i64 p.to, .int .i64 p.sz] 63)
      have hB25n := Lib.hid (hB25.out.trans (hab.mono hB25.out.size))
      have q1 := (hab.cell (p := ⟨bb, of2 + j', none⟩) hbl2).trans q0
      have d0 := cells4 w5 (.int .i64 p.id) (.int .i64 p.fr) (.int .i64 p.to) (.int .i64 p.sz) 63 0 _ rfl
      have d1 := cells4 w5 (.int .i64 p.id) (.int .i64 p.fr) (.int .i64 p.to) (.int .i64 p.sz) 63 1 _ rfl
      have d2 := cells4 w5 (.int .i64 p.id) (.int .i64 p.fr) (.int .i64 p.to) (.int .i64 p.sz) 63 2 _ rfl
      have d3 := cells4 w5 (.int .i64 p.id) (.int .i64 p.fr) (.int .i64 p.to) (.int .i64 p.sz) 63 3 _ rfl
      have hzz : w5.heap.size < (w5.alloc (.cells #[.int .i64 p.id, .int .i64 p.fr, .int .i64 p.to, .int .i64 p.sz] 63)).heap.size := by simp
      have hbl2' : bb < (w5.alloc (.cells #[.int .i64 p.id, .int .i64 p.fr, .int .i64 p.to, .int .i64 p.sz] 63)).heap.size := by omega
      refine Lib.hid ?_
      go_wp2
      generalize w5.alloc (.cells #[.int .i64 p.id, .int .i64 p.fr, .int .i64 p.to, .int .i64 p.sz] 63) = wa at *
      clear p0 p1 p2 p3 q0 c0 c1 hab
      have hG := @cell_g
      refine region_below (by kernel_rfl) (by kernel_rfl) ?_
      repeat (first | go_big_quiet_step ((go_at_call 59; exact met HLO.out)))
      refine wpQuiet_nil ?_
      intro w6 hb6
      have r0 := (hb6.cell (p := ⟨w5.heap.size, 0, none⟩) hzz).trans d0
      have r1 := (hb6.cell (p := ⟨w5.heap.size, 1, none⟩) hzz).trans d1
      have r2 := (hb6.cell (p := ⟨w5.heap.size, 2, none⟩) hzz).trans d2
      have r3 := (hb6.cell (p := ⟨w5.heap.size, 3, none⟩) hzz).trans d3
      have hB6 := Lib.hid (hB25n.out.trans (hb6.mono hB25n.out.size))
      have hz6 : w5.heap.size < w6.heap.size := by have := hb6.size; omega
      clear hb6 d0 d1 d2 d3 q1 hG hbl2' hzz hb5
      by_cases hto : p.to = hh
      · have g0 : (p.to == hh) = true := beq_iff_eq.2 hto
        have he := HTO.out.1 hto
        have HE2 := Lib.hid he
        rw [he] at hs2
        clear hto he
        go_wp2_with (first
          | (go_at_call 77; refine (HO.out _).mono ?_; rintro e w7 ⟨rfl, hb7⟩))
        go_roundw
        case rel => exact ⟨k + 1, by omega, by go_num, by rw [HS2E.out, HE2.out], by rw [HH2E.out], Lib.hid (hB6.out.trans (hb7.mono hB6.out.size))⟩
        case measure => simp [intOf]; omega
      · have g0 : (p.to == hh) = false := beq_eq_false_iff_ne.2 hto
        have he := HTO.out.2 hto
        have HE2 := Lib.hid he
        rw [he] at hs2
        clear hto he
        go_wp2_with (first
          | (go_at_call 77; refine (HO.out _).mono ?_; rintro e w7 ⟨rfl, hb7⟩))
        go_roundw
        case rel => exact ⟨k + 1, by omega, by go_num, by rw [HS2E.out, HE2.out], by rw [HH2E.out], Lib.hid (hB6.out.trans (hb7.mono hB6.out.size))⟩
        case measure => simp [intOf]; omega
    · have hkk : k = W.length := by omega
      have HF := Lib.hid (show sumK (turnA ps fl W x) k = alongA ps fl W x by rw [hkk]; rfl)
      clear hkk
      go_wp2
      go_ret2
      exact ⟨by rw [← HF.out]; rfl, hB.out⟩
end Go.Proofs.Ytpldbakllegheaa.S2

namespace Go.Proofs.Ytpldbakllegheaa.S2
open Go.RowKit P2

theorem has_v {l : List Int} {x : Int} {v : Bool} (hv : hasB l x = v) (A : Option Addr) (cap : Nat) (w : World) (h : IAt w A l) (hn : l.length ≤ 1048576) :
    Calls Try.prog 73 #[.slice A l.length cap, .int .i64 x] w fun e w' => e = .returned (.bool v) ∧ w' = w := by
  rw [← hv]; exact has_any A cap l x w h hn

set_option maxHeartbeats 4000000 in
set_option maxRecDepth 100000 in
theorem sal_any (N : Nat) (A : Option Addr) (cap : Nat) (ps : List Pp) (AD : Option Addr) (dc : Nat) (fl : List Int) (x y : Int) (W : List Int) (w : World) (h : PAt w A ps) (hd : IAt w AD fl) (hv : floB N ps fl = true) (hwo : WayOk ps W x) (hW : ∀ w', Below w.heap.size w w' → Calls Try.prog 109 #[nv N A ps.length cap, .int .i64 x, .int .i64 y] w' (GivesL w' W)) :
    Calls Try.prog 75 #[nv N A ps.length cap, .slice AD fl.length dc, .int .i64 x, .int .i64 y] w fun e w' => e = .returned (.int .i64 (alongA ps fl W x)) ∧ Below w.heap.size w w' := by
  obtain ⟨hg, hfl, hr⟩ := floB_of hv
  have hl10 := hg.2.2.1
  have hW8 := hwo.1
  have H := Lib.hid hW
  have HFN := Lib.hid (fun v (i : Nat) (hf : FindIs ps v (i : Int)) w' (hb : Below w.heap.size w w') => (find_any N A cap ps v w' (h.kept hb (Nat.le_refl _)) (by omega)).mono (R' := fun e w'' => e = .returned (.int .i64 (i : Int)) ∧ Below w'.heap.size w' w'') fun e w'' ⟨⟨r, he, hr⟩, hb⟩ => ⟨by rw [he, find_one hr hf], hb⟩)
  have HA := Lib.hid (fun w' (hb : Below w.heap.size w w') => h.kept hb (Nat.le_refl _))
  have HI := Lib.hid (fun w' (hb : Below w.heap.size w w') => hd.kept hb (Nat.le_refl _))
  have HE := Lib.hid (fun k (hk : k < fl.length) => allR_at hr hk)
  have HS := Lib.hid (fun k (hk : k ≤ W.length) => along_in hg hr hfl hwo hk)
  have HG := Lib.hid (fun k (hk : k < ps.length) => good_pp hg (pAt_mem hk))
  have HWO := Lib.hid (fun k (hk : k < W.length) => hwo.2 k hk)
  have HL := Lib.hid hfl
  clear h hd hv hr hg hfl hW hwo
  go_enter Try.func75, Try.ntmps75
  go_wp2_with (first
    | (go_at_call 109; refine (H.out _ ((Below.refl _ _).alloc (Nat.le_refl _) _)).mono ?_; rintro e w2 ⟨gW, cW, rfl, hgW, hOW, hb1⟩; have HX2 := Lib.hid (show Below (w.heap.size + 1) (w.alloc (nb N A ps.length cap)) w2 by simpa using hb1); have hy2 := box_lt HX2.out; have HW2 := Lib.hid hOW.iat; clear hb1 hOW))
  have HWK := Lib.hid (fun w' (hb : Below w2.heap.size w2 w') => HW2.out.kept hb (Nat.le_refl _))
  have HB0 := Lib.hid (Below.refl w2.heap.size w2)
  clear H HW2
  go_loopw [2, 10, 11] (fun h a i wr => ∃ (k : Nat), k ≤ W.length ∧ i = .int .i64 (k : Int) ∧ a = .int .i64 (sumK (turnA ps fl W x) k) ∧ h = .int .i64 (hereA ps W x k) ∧ Hid (Below w2.heap.size w2 wr)) (fun _ _ i _ => W.length - (intOf i).toNat)
  case atStart => exact ⟨0, Nat.zero_le _, rfl, rfl, rfl, HB0⟩
  case round =>
    clear HB0
    obtain ⟨k, hk, rfl, rfl, rfl, hB2⟩ := hrel
    have hb := on_call HX2.out hB2.out
    have hB := Lib.hid (below_box hb)
    by_cases hlt : k < W.length
    · obtain ⟨c0, c1⟩ := box2 hb
      have hz2 := box_lt hb
      obtain ⟨bW, oW, hAW, hblW, w0⟩ := (HWK.out _ hB2.out).at_ hlt
      simp only [Option.some.injEq, Addr.mk.injEq, and_true] at hAW
      obtain ⟨rfl, rfl⟩ := hAW
      rw [Nat.zero_add] at w0
      have hk0 : (0 : Int) ≤ (k : Int) := by omega
      have hkn : (k : Int) < (W.length : Int) := by omega
      obtain ⟨hjl, hjf, hjt⟩ := HWO.out k hlt
      have hs := HS.out k hk
      have hs2 := HS.out (k + 1) hlt
      have hsn : sumK (turnA ps fl W x) (k + 1) = sumK (turnA ps fl W x) k + turnA ps fl W x k := rfl
      have hhn : hereA ps W x (k + 1) = (if (pAt ps (plc ps (lA W k))).fr = hereA ps W x k then (pAt ps (plc ps (lA W k))).to else (pAt ps (plc ps (lA W k))).fr) := rfl
      have htn : turnA ps fl W x k = if (pAt ps (plc ps (lA W k))).fr = hereA ps W x k then lossI (pAt ps (plc ps (lA W k))) (lA fl (plc ps (lA W k))) else -lossI (pAt ps (plc ps (lA W k))) (lA fl (plc ps (lA W k))) := rfl
      have hla : lA W k = W.getD k 0 := rfl
      rw [htn] at hsn
      rw [hla] at hjl hjf hjt hsn hhn
      have hFN := Lib.hid (fun w' hb' => HFN.out (W.getD k 0) (plc ps (W.getD k 0)) hjf w' (hB.out.trans (Below.mono hb' hB.out.size)))
      have hjfl : plc ps (W.getD k 0) < fl.length := by rw [HL.out]; exact hjl
      have hgp := HG.out _ hjl
      have hy := HE.out _ hjfl
      have HLO := Lib.hid (fun w' => sloss_any hgp hy.1 hy.2 w')
      have hli := (loss_in hgp hy.1 hy.2).2
      have hla2 : lA fl (plc ps (W.getD k 0)) = fl.getD (plc ps (W.getD k 0)) 0 := rfl
      rw [hla2] at hsn
      have HAP := Lib.hid (fun w' hb => (HA.out w' hb).at_ hjl)
      have HIP := Lib.hid (fun w' hb => (HI.out w' hb).at_ hjfl)
      obtain ⟨s2, hs2e⟩ : ∃ z, sumK (turnA ps fl W x) (k + 1) = z := ⟨_, rfl⟩
      obtain ⟨h2, hh2e⟩ : ∃ z, hereA ps W x (k + 1) = z := ⟨_, rfl⟩
      rw [hs2e] at hs2 hsn
      rw [hh2e] at hhn
      have HS2E := Lib.hid hs2e
      have HH2E := Lib.hid hh2e
      clear hs2e hh2e
      have HTO := Lib.hid (show ((pAt ps (plc ps (W.getD k 0))).fr = hereA ps W x k → s2 = sumK (turnA ps fl W x) k + lossI (pAt ps (plc ps (W.getD k 0))) (fl.getD (plc ps (W.getD k 0)) 0) ∧ h2 = (pAt ps (plc ps (W.getD k 0))).to) ∧ (¬ (pAt ps (plc ps (W.getD k 0))).fr = hereA ps W x k → s2 = sumK (turnA ps fl W x) k - lossI (pAt ps (plc ps (W.getD k 0))) (fl.getD (plc ps (W.getD k 0)) 0) ∧ h2 = (pAt ps (plc ps (W.getD k 0))).fr) from ⟨fun e => ⟨by rw [hsn, if_pos e], by rw [hhn, if_pos e]⟩, fun e => ⟨by rw [hsn, if_neg e]; omega, by rw [hhn, if_neg e]⟩⟩)
      clear hhn hsn htn hjf hjt hgp hy hla hla2
      generalize lossI (pAt ps (plc ps (W.getD k 0))) (fl.getD (plc ps (W.getD k 0)) 0) = L at *
      generalize fl.getD (plc ps (W.getD k 0)) 0 = f at *
      generalize pAt ps (plc ps (W.getD k 0)) = p at *
      generalize plc ps (W.getD k 0) = j at *
      generalize sumK (turnA ps fl W x) k = s at *
      generalize hereA ps W x k = hh at *
      generalize W.getD k 0 = v at *
      have hjn : (j : Int) < (ps.length : Int) := by omega
      have hj0 : (0 : Int) ≤ (j : Int) := by omega
      have hjnf : (j : Int) < (fl.length : Int) := by omega
      go_wp2
      have hG := @cell_g
      refine region_below (by kernel_rfl) (by kernel_rfl) ?_
      repeat (first | go_big_quiet_step ((go_at_call 52; exact met_at hFN.out)))
      refine wpQuiet_nil ?_
      intro w5 hb5
      have hX5 := on_call hb hb5
      have hB5 := Lib.hid (below_box hX5)
      have hB25 := Lib.hid (hB2.out.trans (hb5.mono hB2.out.size))
      clear c0 c1 hz2 w0 hblW hG
      obtain ⟨c0, c1⟩ := box2 hX5
      have hz5 := box_lt hX5
      obtain ⟨b, off, hA, hbl, p0, p1, p2, p3⟩ := HAP.out _ hB5.out
      subst hA
      obtain ⟨bb, of2, hA2, hbl2, q0⟩ := HIP.out _ hB5.out
      subst hA2
      have hab := alloc_belowE w5 (.cells #[.int .i64 p.id, .int .i64 p.fr, .int .i64 p.to, .int .i64 p.sz] 63)
      have hB25n := Lib.hid (hB25.out.trans (hab.mono hB25.out.size))
      have q1 := (hab.cell (p := ⟨bb, of2 + j, none⟩) hbl2).trans q0
      have d0 := cells4 w5 (.int .i64 p.id) (.int .i64 p.fr) (.int .i64 p.to) (.int .i64 p.sz) 63 0 _ rfl
      have d1 := cells4 w5 (.int .i64 p.id) (.int .i64 p.fr) (.int .i64 p.to) (.int .i64 p.sz) 63 1 _ rfl
      have d2 := cells4 w5 (.int .i64 p.id) (.int .i64 p.fr) (.int .i64 p.to) (.int .i64 p.sz) 63 2 _ rfl
      have d3 := cells4 w5 (.int .i64 p.id) (.int .i64 p.fr) (.int .i64 p.to) (.int .i64 p.sz) 63 3 _ rfl
      have hzz : w5.heap.size < (w5.alloc (.cells #[.int .i64 p.id, .int .i64 p.fr, .int .i64 p.to, .int .i64 p.sz] 63)).heap.size := by simp
      have hbl2' : bb < (w5.alloc (.cells #[.int .i64 p.id, .int .i64 p.fr, .int .i64 p.to, .int .i64 p.sz] 63)).heap.size := by omega
      by_cases hto : p.fr = hh
      · have g0 : (p.fr == hh) = true := beq_iff_eq.2 hto
        obtain ⟨he, he2⟩ := HTO.out.1 hto
        have HE2 := Lib.hid he
        have HE3 := Lib.hid he2
        rw [he] at hs2
        have wS : IntKind.i64.wrap (s + L) = s + L := w64 _ (by omega)
        clear hto he he2
        go_wp2
        generalize w5.alloc (.cells #[.int .i64 p.id, .int .i64 p.fr, .int .i64 p.to, .int .i64 p.sz] 63) = wa at *
        clear p0 p1 p2 p3 q0 c0 c1 hab
        have hG := @cell_g
        refine region_below (by kernel_rfl) (by kernel_rfl) ?_
        repeat (first | go_big_quiet_step ((go_at_call 55; exact met HLO.out)))
        refine wpQuiet_nil ?_
        intro w6 hb6
        have r2 := (hb6.cell (p := ⟨w5.heap.size, 2, none⟩) hzz).trans d2
        have hB6 := Lib.hid (hB25n.out.trans (hb6.mono hB25n.out.size))
        have hz6 : w5.heap.size < w6.heap.size := by have := hb6.size; omega
        clear hb6 d0 d1 d2 d3 q1 hG hbl2' hzz hb5
        go_wp2
        go_roundw
        case rel => exact ⟨k + 1, by omega, by go_num, by rw [HS2E.out, HE2.out], by rw [HH2E.out, HE3.out], hB6⟩
        case measure => simp [intOf]; omega
      · have g0 : (p.fr == hh) = false := beq_eq_false_iff_ne.2 hto
        obtain ⟨he, he2⟩ := HTO.out.2 hto
        have HE2 := Lib.hid he
        have HE3 := Lib.hid he2
        rw [he] at hs2
        have wS : IntKind.i64.wrap (s - L) = s - L := w64 _ (by omega)
        clear hto he he2
        go_wp2
        generalize w5.alloc (.cells #[.int .i64 p.id, .int .i64 p.fr, .int .i64 p.to, .int .i64 p.sz] 63) = wa at *
        clear p0 p1 p2 p3 q0 c0 c1 hab
        have hG := @cell_g
        refine region_below (by kernel_rfl) (by kernel_rfl) ?_
        repeat (first | go_big_quiet_step ((go_at_call 55; exact met HLO.out)))
        refine wpQuiet_nil ?_
        intro w6 hb6
        have r2 := (hb6.cell (p := ⟨w5.heap.size, 1, none⟩) hzz).trans d1
        have hB6 := Lib.hid (hB25n.out.trans (hb6.mono hB25n.out.size))
        have hz6 : w5.heap.size < w6.heap.size := by have := hb6.size; omega
        clear hb6 d0 d1 d2 d3 q1 hG hbl2' hzz hb5
        go_wp2
        go_roundw
        case rel => exact ⟨k + 1, by omega, by go_num, by rw [HS2E.out, HE2.out], by rw [HH2E.out, HE3.out], hB6⟩
        case measure => simp [intOf]; omega
    · have hkk : k = W.length := by omega
      have HF := Lib.hid (show sumK (turnA ps fl W x) k = alongA ps fl W x by rw [hkk]; rfl)
      clear hkk
      go_wp2
      go_ret
      exact ⟨by rw [← HF.out]; rfl, hB.out⟩

set_option maxHeartbeats 2000000 in
theorem sal_no (n : Int) (A : Option Addr) (cap : Nat) (ps : List Pp) (AD : Option Addr) (dc : Nat) (fl : List Int) (x y : Int) (w : World) (h : PAt w A ps) (hm : ps.length ≤ maxLen) (hd : IAt w AD fl) (hdl : fl.length ≤ 1048576)
    (hv : nodeB n ps x = false ∨ nodeB n ps y = false ∨ floB n ps fl = false ∨ ∃ N X T : Nat, n = N ∧ x = X ∧ y = T ∧ dist ps T X = -1) :
    Calls Try.prog 33 #[nv n A ps.length cap, .slice AD fl.length dc, .int .i64 x, .int .i64 y] w fun e w' => e = .returned (.tuple #[.int .i64 0, .bool false]) ∧ Below w.heap.size w w' := by
  obtain ⟨v1, hv1⟩ : ∃ v, nodeB n ps x = v := ⟨_, rfl⟩
  obtain ⟨v2, hv2⟩ : ∃ v, nodeB n ps y = v := ⟨_, rfl⟩
  obtain ⟨v3, hv3⟩ : ∃ v, amtB fl ps.length (-8000) 8000 = v := ⟨_, rfl⟩
  have H1 := Lib.hid (fun w' (hb : Below w.heap.size w w') => snode_v hv1 A cap w' (h.kept hb (Nat.le_refl _)) hm)
  have H2 := Lib.hid (fun w' (hb : Below w.heap.size w w') => snode_v hv2 A cap w' (h.kept hb (Nat.le_refl _)) hm)
  have H3 := Lib.hid (fun w' (hb : Below w.heap.size w w') => sflo_v hv3 (n := n) A cap AD dc w' (hd.kept hb (Nat.le_refl _)) hdl)
  cases v1 with
  | false =>
    clear h hd hv hv1 hv2 hv3
    go_enter Try.func33, Try.ntmps33
    go_wp2_with (go_at_call_of 72 (Value.int IntKind.i64 x); refine (H1.out _ ((Below.refl _ _).alloc (Nat.le_refl _) _)).mono ?_; rintro e w1 ⟨rfl, hb1⟩; have hB1 := Lib.hid (below_alloc_call hb1))
    go_ret2
    exact ⟨rfl, hB1.out⟩
  | true =>
    cases v2 with
    | false =>
      by_cases hxy : x = y
      · subst hxy; exact absurd (hv1.symm.trans hv2) (by simp)
      clear h hd hv hv1 hv2 hv3
      go_enter Try.func33, Try.ntmps33
      go_wp2_with (first
        | (go_at_call_of 72 (Value.int IntKind.i64 x); refine (H1.out _ ((Below.refl _ _).alloc (Nat.le_refl _) _)).mono ?_; rintro e w1 ⟨rfl, hb1⟩; have HX1 := Lib.hid (show Below (w.heap.size + 1) (w.alloc (nb n A ps.length cap)) w1 by simpa using hb1); obtain ⟨b0, b1⟩ := box2 HX1.out; have hy1 := box_lt HX1.out; clear hb1)
        | (go_at_call_of 72 (Value.int IntKind.i64 y); refine (H2.out _ (below_box HX1.out)).mono ?_; rintro e w2 ⟨rfl, hb2⟩; have HX2 := Lib.hid (on_call HX1.out hb2); clear b0 b1; obtain ⟨b0, b1⟩ := box2 HX2.out; have hy2 := box_lt HX2.out; clear hb2))
      go_ret2
      exact ⟨rfl, below_box HX2.out⟩
    | true =>
      obtain ⟨hg, hx1, hx2⟩ := nodeB_of hv1
      obtain ⟨_, hy1', hy2'⟩ := nodeB_of hv2
      obtain ⟨N, rfl⟩ := good_nat hg
      obtain ⟨X, rfl⟩ : ∃ X : Nat, x = X := ⟨x.toNat, by omega⟩
      obtain ⟨T, rfl⟩ : ∃ T : Nat, y = T := ⟨y.toNat, by omega⟩
      cases v3 with
      | false =>
        clear h hd hv hv1 hv2 hv3 hg
        go_enter Try.func33, Try.ntmps33
        go_wp2_with (first
          | (go_at_call_of 72 (Value.int IntKind.i64 (X : Int)); refine (H1.out _ ((Below.refl _ _).alloc (Nat.le_refl _) _)).mono ?_; rintro e w1 ⟨rfl, hb1⟩; have HX1 := Lib.hid (show Below (w.heap.size + 1) (w.alloc (nb N A ps.length cap)) w1 by simpa using hb1); obtain ⟨b0, b1⟩ := box2 HX1.out; have hy1 := box_lt HX1.out; clear hb1)
          | (go_at_call_of 72 (Value.int IntKind.i64 (T : Int)); refine (H2.out _ (below_box HX1.out)).mono ?_; rintro e w2 ⟨rfl, hb2⟩; have HX2 := Lib.hid (on_call HX1.out hb2); clear b0 b1; obtain ⟨b0, b1⟩ := box2 HX2.out; have hy2 := box_lt HX2.out; clear hb2)
          | (go_at_call 54; refine (H3.out _ (below_box HX2.out)).mono ?_; rintro e w3 ⟨rfl, hb3⟩; have HX3 := Lib.hid (on_call HX2.out hb3); clear b0 b1; obtain ⟨b0, b1⟩ := box2 HX3.out; have hy3 := box_lt HX3.out; clear hb3))
        go_ret2
        exact ⟨rfl, below_box HX3.out⟩
      | true =>
        have hd0 : dist ps T X = -1 := by
          rcases hv with h | h | h | ⟨N', X', T', e1, e2, e3, h⟩
          · exact absurd (h.symm.trans hv1) (by simp)
          · exact absurd (h.symm.trans hv2) (by simp)
          · unfold floB at h; rw [good_mk hg, hv3] at h; cases h
          · have : X' = X := by omega
            have : T' = T := by omega
            subst X' T'
            exact h
        have HR := Lib.hid (fun w' (hb : Below w.heap.size w w') => sreach_any N X A cap ps w' (h.kept hb (Nat.le_refl _)) hg (by omega) (by omega))
        have hN : N ≤ 8 := by have := hg.2.1; omega
        have hcl := conL_len N ps X
        have HH := Lib.hid (show hasB (conL N ps X) T = false by rw [has_con (by omega) (by omega)]; exact decide_eq_false (fun h => h hd0))
        clear h hd hv hv1 hv2 hv3 hg hd0
        go_enter Try.func33, Try.ntmps33
        go_wp2_with (first
          | (go_at_call_of 72 (Value.int IntKind.i64 (X : Int)); refine (H1.out _ ((Below.refl _ _).alloc (Nat.le_refl _) _)).mono ?_; rintro e w1 ⟨rfl, hb1⟩; have HX1 := Lib.hid (show Below (w.heap.size + 1) (w.alloc (nb N A ps.length cap)) w1 by simpa using hb1); obtain ⟨b0, b1⟩ := box2 HX1.out; have hy1 := box_lt HX1.out; clear hb1)
          | (go_at_call_of 72 (Value.int IntKind.i64 (T : Int)); refine (H2.out _ (below_box HX1.out)).mono ?_; rintro e w2 ⟨rfl, hb2⟩; have HX2 := Lib.hid (on_call HX1.out hb2); clear b0 b1; obtain ⟨b0, b1⟩ := box2 HX2.out; have hy2 := box_lt HX2.out; clear hb2)
          | (go_at_call 54; refine (H3.out _ (below_box HX2.out)).mono ?_; rintro e w3 ⟨rfl, hb3⟩; have HX3 := Lib.hid (on_call HX2.out hb3); clear b0 b1; obtain ⟨b0, b1⟩ := box2 HX3.out; have hy3 := box_lt HX3.out; clear hb3)
          | (go_at_call 74; refine (HR.out _ (below_box HX3.out)).mono ?_; rintro e w4 ⟨g, o, c, rfl, hg4, hla, hb4⟩; have HX4 := Lib.hid (on_call HX3.out hb4); clear b0 b1; obtain ⟨b0, b1⟩ := box2 HX4.out; have hy4 := box_lt HX4.out; clear hb4)
          | (go_at_call 73; refine (has_v HH.out _ _ _ hla.iat (by omega)).mono ?_; rintro e w5 ⟨rfl, hw⟩; replace hw := hw.symm; subst hw))
        go_ret2
        exact ⟨rfl, below_box HX4.out⟩

set_option maxHeartbeats 2000000 in
theorem sal_yes (N X T K : Nat) (A : Option Addr) (cap : Nat) (ps : List Pp) (AD : Option Addr) (dc : Nat) (fl : List Int) (w : World) (h : PAt w A ps) (hm : ps.length ≤ maxLen) (hd : IAt w AD fl) (hdl : fl.length ≤ 1048576) (hv : floB N ps fl = true) (hv1 : nodeB N ps X = true) (hv2 : nodeB N ps T = true) (hdi : dist ps T X = K) :
    Calls Try.prog 33 #[nv N A ps.length cap, .slice AD fl.length dc, .int .i64 (X : Int), .int .i64 (T : Int)] w fun e w' => e = .returned (.tuple #[.int .i64 (alongA ps fl (wayL ps T K X) X), .bool true]) ∧ Below w.heap.size w w' := by
  obtain ⟨hg, hx1, hx2⟩ := nodeB_of hv1
  obtain ⟨_, hy1', hy2'⟩ := nodeB_of hv2
  have hv0 := hv
  unfold floB at hv
  rw [Bool.and_eq_true] at hv
  have H1 := Lib.hid (fun w' (hb : Below w.heap.size w w') => snode_v hv1 A cap w' (h.kept hb (Nat.le_refl _)) hm)
  have H2 := Lib.hid (fun w' (hb : Below w.heap.size w w') => snode_v hv2 A cap w' (h.kept hb (Nat.le_refl _)) hm)
  have H3 := Lib.hid (fun w' (hb : Below w.heap.size w w') => sflo_v hv.2 (n := N) A cap AD dc w' (hd.kept hb (Nat.le_refl _)) hdl)
  have HR := Lib.hid (fun w' (hb : Below w.heap.size w w') => sreach_any N X A cap ps w' (h.kept hb (Nat.le_refl _)) hg (by omega) (by omega))
  have HAL := Lib.hid (fun w' (hb : Below w.heap.size w w') => sal_any N A cap ps AD dc fl X T _ w' (h.kept hb (Nat.le_refl _)) (hd.kept hb (Nat.le_refl _)) hv0 (way_ok hg (by omega) hdi) (fun w'' hb2 => l2way_any N X T A cap ps w'' (h.kept (hb.trans (hb2.mono hb.size)) (Nat.le_refl _)) hg (by omega) (by omega) (by omega) (by omega) K hdi))
  have hN : N ≤ 8 := by have := hg.2.1; omega
  have hcl := conL_len N ps X
  have HH := Lib.hid (show hasB (conL N ps X) T = true by rw [has_con (by omega) (by omega)]; exact decide_eq_true (by omega))
  clear h hd hv hv0 hv1 hv2 hg hdi
  generalize alongA ps fl (wayL ps T K X) X = R at *
  go_enter Try.func33, Try.ntmps33
  go_wp2_with (first
    | (go_at_call_of 72 (Value.int IntKind.i64 (X : Int)); refine (H1.out _ ((Below.refl _ _).alloc (Nat.le_refl _) _)).mono ?_; rintro e w1 ⟨rfl, hb1⟩; have HX1 := Lib.hid (show Below (w.heap.size + 1) (w.alloc (nb N A ps.length cap)) w1 by simpa using hb1); obtain ⟨b0, b1⟩ := box2 HX1.out; have hy1 := box_lt HX1.out; clear hb1)
    | (go_at_call_of 72 (Value.int IntKind.i64 (T : Int)); refine (H2.out _ (below_box HX1.out)).mono ?_; rintro e w2 ⟨rfl, hb2⟩; have HX2 := Lib.hid (on_call HX1.out hb2); clear b0 b1; obtain ⟨b0, b1⟩ := box2 HX2.out; have hy2 := box_lt HX2.out; clear hb2)
    | (go_at_call 54; refine (H3.out _ (below_box HX2.out)).mono ?_; rintro e w3 ⟨rfl, hb3⟩; have HX3 := Lib.hid (on_call HX2.out hb3); clear b0 b1; obtain ⟨b0, b1⟩ := box2 HX3.out; have hy3 := box_lt HX3.out; clear hb3)
    | (go_at_call 74; refine (HR.out _ (below_box HX3.out)).mono ?_; rintro e w4 ⟨g, o, c, rfl, hg4, hla, hb4⟩; have HX4 := Lib.hid (on_call HX3.out hb4); clear b0 b1; obtain ⟨b0, b1⟩ := box2 HX4.out; have hy4 := box_lt HX4.out; clear hb4)
    | (go_at_call 73; refine (has_v HH.out _ _ _ hla.iat (by omega)).mono ?_; rintro e w5 ⟨rfl, hw⟩; replace hw := hw.symm; subst hw)
    | (go_at_call 75; refine (HAL.out _ (below_box HX4.out)).mono ?_; rintro e w6 ⟨rfl, hb6⟩))
  go_ret2
  exact ⟨rfl, (below_box HX4.out).trans (hb6.mono (below_box HX4.out).size)⟩
end Go.Proofs.Ytpldbakllegheaa.S2

namespace Go.Proofs.Ytpldbakllegheaa.S2
open Go.RowKit P2

/-- The way to a node. -/
noncomputable def wyA (ps : List Pp) (s : Nat) (v : Int) : List Int := wayL ps v (dist ps v s).toNat s
noncomputable def fallA (N : Nat) (ps : List Pp) (s : Nat) (dm : List Int) (v : Int) : Int := alongA ps (tfL N ps s dm) (wyA ps s v) s
noncomputable def hdF (N : Nat) (ps : List Pp) (s : Nat) (dm : List Int) (h : Int) (i : Nat) : Int := h - fallA N ps s dm ((i : Int) + 1)
noncomputable def hdTo (N : Nat) (ps : List Pp) (s : Nat) (dm : List Int) (h : Int) (k : Nat) : List Int := (List.range k).map (hdF N ps s dm h)
noncomputable def hdL (N : Nat) (ps : List Pp) (s : Nat) (dm : List Int) (h : Int) : List Int := hdTo N ps s dm h N
theorem hdTo_snoc (N : Nat) (ps : List Pp) (s : Nat) (dm : List Int) (h : Int) (k : Nat) : hdTo N ps s dm h (k + 1) = hdTo N ps s dm h k ++ [hdF N ps s dm h k] := by unfold hdTo; rw [List.range_succ, List.map_append]; rfl
theorem hdTo_len (N : Nat) (ps : List Pp) (s : Nat) (dm : List Int) (h : Int) (k : Nat) : (hdTo N ps s dm h k).length = k := by simp [hdTo]
theorem hdL_len (N : Nat) (ps : List Pp) (s : Nat) (dm : List Int) (h : Int) : (hdL N ps s dm h).length = N := hdTo_len N ps s dm h N
theorem hdL_at {N : Nat} {ps : List Pp} {s : Nat} {dm : List Int} {h : Int} {i : Nat} (hi : i < N) : (hdL N ps s dm h).getD i 0 = hdF N ps s dm h i := by
  simp [hdL, hdTo, List.getD, hi]
theorem node_mk {n : Int} {ps : List Pp} {x : Int} (hg : P2.Good n ps) (h1 : 1 ≤ x) (h2 : x ≤ n) : nodeB n ps x = true := by
  rw [nodeB_eq, good_mk hg]; simp [h1, h2]
theorem tfl_flo {N : Nat} {ps : List Pp} {s : Int} {dm : List Int} (hg : P2.Good N ps) (hr : allR 0 1000 dm = true) (hl : (dm.length : Int) = N) : floB N ps (tfL N ps s dm) = true := by
  have hN : N ≤ 8 := by have := hg.2.1; omega
  unfold floB amtB
  rw [good_mk hg, tfL_in hN hr (by omega)]
  simp [tfL_len]
theorem tree_dist {N : Nat} {ps : List Pp} (hg : P2.Good N ps) (ht : treeB N ps = true) {s : Nat} (h1 : 1 ≤ s) (h2 : s ≤ N) {v : Int} (v1 : 1 ≤ v) (v2 : v ≤ N) : dist ps v s = ((dist ps v s).toNat : Int) := by
  have hc := dist_conn.2 (tree_conn (tree_full hg ht).2.1 (a := s) (b := v) (by omega) (by omega) v1 v2)
  have := dist_lo ps v s
  omega
theorem wy_ok {N : Nat} {ps : List Pp} (hg : P2.Good N ps) (ht : treeB N ps = true) {s : Nat} (h1 : 1 ≤ s) (h2 : s ≤ N) {v : Int} (v1 : 1 ≤ v) (v2 : v ≤ N) : WayOk ps (wyA ps s v) s :=
  way_ok hg h2 (tree_dist hg ht h1 h2 v1 v2)
theorem fall_in {N : Nat} {ps : List Pp} (hg : P2.Good N ps) (ht : treeB N ps = true) {s : Nat} {dm : List Int} (hr : allR 0 1000 dm = true) (hl : (dm.length : Int) = N) (h1 : 1 ≤ s) (h2 : s ≤ N) {v : Int} (v1 : 1 ≤ v) (v2 : v ≤ N) : -4608000000 ≤ fallA N ps s dm v ∧ fallA N ps s dm v ≤ 4608000000 := by
  obtain ⟨hg2, hfl, hr2⟩ := floB_of (tfl_flo (s := s) hg hr hl)
  exact along_in hg hr2 hfl (wy_ok hg ht h1 h2 v1 v2) (Nat.le_refl _)
theorem hdF_in {N : Nat} {ps : List Pp} (hg : P2.Good N ps) (ht : treeB N ps = true) {s : Nat} {dm : List Int} (hr : allR 0 1000 dm = true) (hl : (dm.length : Int) = N) (h1 : 1 ≤ s) (h2 : s ≤ N) {h : Int} (g1 : 0 ≤ h) (g2 : h ≤ 100000000000) {i : Nat} (hi : i < N) : -5000000000 ≤ hdF N ps s dm h i ∧ hdF N ps s dm h i ≤ 105000000000 := by
  have := fall_in hg ht hr hl h1 h2 (v := (i : Int) + 1) (by omega) (by omega)
  unfold hdF
  omega
/-- At the source nothing is lost. -/
theorem fall_self (N : Nat) (ps : List Pp) (s : Nat) (dm : List Int) : fallA N ps s dm s = 0 := by
  unfold fallA wyA
  rw [dist_self]
  rfl

/-! ### Ranges of heads -/
def hdR (x : Int) : Bool := inR 0 100000000000 x
theorem hdR_of {x : Int} (h : hdR x = true) : 0 ≤ x ∧ x ≤ 100000000000 := by simpa [hdR, inR] using h
theorem ahd_v {l : List Int} {v : Bool} (hv : allR 0 100000000000 l = v) (A : Option Addr) (cap : Nat) (w : World) (h : IAt w A l) (hl : l.length ≤ 1048576) :
    Calls Try.prog 63 #[.slice A l.length cap] w fun e w' => e = .returned (.bool v) ∧ Below w.heap.size w w' := by
  have hv2 : amtB l l.length 0 100000000000 = v := by rw [amt_self]; exact hv
  have H := Lib.hid (am_v hv2 A cap w h hl)
  clear h hv hv2
  go_enter Try.func63, Try.ntmps63
  go_wp2_with (go_at_call 80; refine H.out.mono ?_; rintro e w1 ⟨rfl, hb1⟩)
  go_ret
  exact ⟨rfl, hb1⟩
/-- One head. -/
theorem ahd_one {x : Int} {v : Bool} (hv : hdR x = v) (w : World) :
    Calls Try.prog 63 #[.slice (some ⟨w.heap.size, 0, none⟩) 1 1] (w.alloc (.cells #[.int .i64 x] 3)) fun e w' => e = .returned (.bool v) ∧ Below w.heap.size w w' := by
  have hI : IAt (w.alloc (.cells #[.int .i64 x] 3)) (some ⟨w.heap.size, 0, none⟩) [x] := (own_oneI w w.heap.size x (Nat.le_refl _)).iat
  refine (ahd_v (l := [x]) (v := v) (by rw [← hv]; simp [allR, hdR]) _ 1 _ hI (by simp)).mono ?_
  rintro e w' ⟨he, hb⟩
  exact ⟨he, (alloc_belowE w _).trans (hb.mono (by simp))⟩
theorem shd_v {x : Int} {v : Bool} (hv : hdR x = v) (w : World) : Calls Try.prog 69 #[.int .i64 x] w fun e w' => e = .returned (.bool v) ∧ w' = w := by
  have HC := Lib.hid (fun w' => in_eq x 0 100000000000 v hv w')
  clear hv
  go_enter Try.func69, Try.ntmps69
  go_wp2_with (go_at_call 78; refine (HC.out _).mono ?_; rintro e w1 ⟨rfl, hw⟩; replace hw := hw.symm; subst hw)
  go_ret
  exact ⟨rfl, rfl⟩
end Go.Proofs.Ytpldbakllegheaa.S2

namespace Go.Proofs.Ytpldbakllegheaa.S2
open Go.RowKit P2

set_option maxHeartbeats 1000000 in
theorem hd_no1 (n : Int) (A : Option Addr) (cap : Nat) (ps : List Pp) (x : Int) (AD : Option Addr) (dc : Nat) (dm : List Int) (h : Int) (w : World) (hT : ∀ w', Below w.heap.size w w' → Calls Try.prog 40 #[nv n A ps.length cap, .int .i64 x, .slice AD dm.length dc] w' (GivesI w' [] false)) :
    Calls Try.prog 23 #[nv n A ps.length cap, .int .i64 x, .slice AD dm.length dc, .int .i64 h] w (GivesI w [] false) := by
  have H := Lib.hid hT
  clear hT
  go_enter Try.func23, Try.ntmps23
  go_wp2_with (go_at_call 40; refine (H.out _ ((Below.refl _ _).alloc (Nat.le_refl _) _)).mono ?_; rintro e w1 ⟨g, c, rfl, hg, hO, hb1⟩)
  go_ret2
  exact gives_none (below_alloc_call hb1)
set_option maxHeartbeats 1000000 in
theorem hd_no2 (n : Int) (A : Option Addr) (cap : Nat) (ps : List Pp) (x : Int) (AD : Option Addr) (dc : Nat) (dm : List Int) (h : Int) (L : List Int) (w : World) (hh : hdR h = false) (hT : ∀ w', Below w.heap.size w w' → Calls Try.prog 40 #[nv n A ps.length cap, .int .i64 x, .slice AD dm.length dc] w' (GivesI w' L true)) :
    Calls Try.prog 23 #[nv n A ps.length cap, .int .i64 x, .slice AD dm.length dc, .int .i64 h] w (GivesI w [] false) := by
  have H := Lib.hid hT
  have H2 := Lib.hid (fun w' => ahd_one hh w')
  clear hT hh
  go_enter Try.func23, Try.ntmps23
  go_wp2_with (first
    | (go_at_call 40; refine (H.out _ ((Below.refl _ _).alloc (Nat.le_refl _) _)).mono ?_; rintro e w1 ⟨g, c, rfl, hg, hO, hb1⟩; have hB1 := Lib.hid (below_alloc_call hb1); clear hO hb1)
    | (go_at_call 63; refine (H2.out _).mono ?_; rintro e w2 ⟨rfl, hb2⟩))
  go_ret2
  exact gives_none (hB1.out.trans (hb2.mono hB1.out.size))

set_option maxHeartbeats 2000000 in
set_option maxRecDepth 100000 in
theorem hd_yes (N s : Nat) (A : Option Addr) (cap : Nat) (ps : List Pp) (AD : Option Addr) (dc : Nat) (dm : List Int) (h : Int) (w : World) (hp : PAt w A ps) (hm : ps.length ≤ maxLen) (hd : IAt w AD dm) (hdl : dm.length ≤ 1048576) (hn : nodeB N ps s = true) (ht : treeB N ps = true) (hv : demB N ps dm = true) (hh : hdR h = true) :
    Calls Try.prog 23 #[nv N A ps.length cap, .int .i64 (s : Int), .slice AD dm.length dc, .int .i64 h] w (GivesI w (hdL N ps s dm h) true) := by
  obtain ⟨hg, hdn, hr⟩ := demB_of hv
  obtain ⟨_, hs1, hs2⟩ := nodeB_of hn
  have hN8 := hg.2.1
  have hl10 := hg.2.2.1
  obtain ⟨hh1, hh2⟩ := hdR_of hh
  have H := Lib.hid (fun w' (hb : Below w.heap.size w w') => tfl_yes N s A cap ps AD dc dm w' (hp.kept hb (Nat.le_refl _)) hm (hd.kept hb (Nat.le_refl _)) hdl hn ht hv)
  have H2 := Lib.hid (fun w' => ahd_one hh w')
  have hflo := tfl_flo (s := s) hg hr hdn
  have HAL := Lib.hid (fun (AF : Option Addr) (cF : Nat) (k : Nat) (hk : k < N) w' (hb : Below w.heap.size w w') (hf : IAt w' AF (tfL N ps s dm)) => al_yes N A cap ps AF cF (tfL N ps s dm) s ((k : Int) + 1) (wyA ps s ((k : Int) + 1)) w' (hp.kept hb (Nat.le_refl _)) hm hf (by rw [tfL_len]; omega) hflo (wy_ok hg ht (by omega) (by omega) (by omega) (by omega)) (fun w'' hb2 => by
    have hy := way_yes N s (k + 1) A cap ps w'' (hp.kept (hb.trans (hb2.mono hb.size)) (Nat.le_refl _)) hm hn (node_mk hg (by omega) (by omega)) _ (tree_dist hg ht (by omega) (by omega) (v := ((k + 1 : Nat) : Int)) (by omega) (by omega))
    exact hy))
  have HFI := Lib.hid (fun k (hk : k < N) => fall_in hg ht hr hdn (s := s) (by omega) (by omega) (v := (k : Int) + 1) (by omega) (by omega))
  have HFL := Lib.hid (tfL_len N ps s dm)
  have HLL := Lib.hid (hdL_len N ps s dm h)
  have HLA := Lib.hid (fun k (hk : k < N) => (show (hdL N ps s dm h).getD k 0 = h - fallA N ps s dm ((k : Int) + 1) from hdL_at hk))
  have hmk := run_make_row' (P := Try.prog) 25 3 (.int .i64 0) 8 Try.underlying25 infoI rfl .i64 .i64 N (by omega) (by omega)
  have HO := Lib.hid (fun w => made_own (hdL N ps s dm h) w (by rw [hdL_len]; omega))
  have HF := Lib.hid (fiI_full (hdL N ps s dm h))
  have HFS := Lib.hid (fun k (hk : k < N) => fiI_set (hdL N ps s dm h) k (by rw [hdL_len]; exact hk))
  have HFH := Lib.hid (fun k (hk : k < N) => fiI_has (hdL N ps s dm h) k (by rw [hdL_len]; exact hk))
  rw [HLL.out] at HO HF
  rw [HFL.out] at HAL
  clear hp hm hd hdl hn ht hv hh hg hdn hr hflo
  go_enter Try.func23, Try.ntmps23
  go_wp2_with (first
    | (go_at_call 40; refine (H.out _ ((Below.refl _ _).alloc (Nat.le_refl _) _)).mono ?_; rintro e w1 ⟨gF, cF, rfl, hgF, hOF, hb1⟩; have HX1 := Lib.hid (show Below (w.heap.size + 1) (w.alloc (nb N A ps.length cap)) w1 by simpa using hb1); have HF1 := Lib.hid hOF.iat; clear hb1 hOF)
    | (go_at_call 63; refine (H2.out _).mono ?_; rintro e w2 ⟨rfl, hb2⟩; refine Hid.out ?_))
  have HX2 := Lib.hid (on_call HX1.out hb2)
  have HB2 := Lib.hid (below_box HX2.out)
  have HF2 := Lib.hid (HF1.out.kept hb2 (Nat.le_refl _))
  obtain ⟨b0, b1⟩ := box2 HX2.out
  have hy2 := box_lt HX2.out
  have HO2 := Lib.hid (HO.out w2)
  have HFK := Lib.hid (fun w' (hb : Below w2.heap.size w2 w') => HF2.out.kept hb (Nat.le_refl _))
  clear hb2 HX1 HF1 H H2 HO HF2
  rw [HFL.out]
  refine Lib.hid ?_
  go_wp2
  clear hmk
  have HB0 := Lib.hid (show Below w2.heap.size w2 (w2.alloc (.cells (madeCells #[.int .i64 0] N) 3)) from (Below.refl _ _).alloc (Nat.le_refl _) _)
  go_loopw [37] (fun i wr => ∃ k : Nat, k ≤ N ∧ i = .int .i64 k ∧ Hid (wr.ownsRow w2.heap.size 3 1 (.slice (some ⟨w2.heap.size, 0, none⟩) N N) N (fiI (hdL N ps s dm h) k)) ∧ Hid (Below w2.heap.size w2 wr)) (fun i _ => N - (intOf i).toNat)
  case atStart => exact ⟨0, Nat.zero_le _, rfl, HO2, HB0⟩
  case round =>
    clear HB0 HO2
    obtain ⟨k, hk, rfl, hown, hB⟩ := hrel
    have c0 := (hB.out.cell (p := ⟨w.heap.size, 0, none⟩) hy2).trans b0
    have c1 := (hB.out.cell (p := ⟨w.heap.size, 1, none⟩) hy2).trans b1
    have hzr : w.heap.size < wr.heap.size := by have := hB.out.size; omega
    by_cases hlt : k < N
    · have hk0 : (0 : Int) ≤ (k : Int) := by omega
      have hkn : (k : Int) < (N : Int) := by omega
      have HK := Lib.hid (HAL.out (some ⟨gF, 0, none⟩) cF k hlt wr (HB2.out.trans (hB.out.mono HB2.out.size)) (HFK.out _ hB.out))
      have hfi := HFI.out k hlt
      have hfs := HFS.out k hlt
      rw [HLA.out k hlt] at hfs
      have HST := Lib.hid hfs
      obtain ⟨uo, huo⟩ := HFH.out k hlt
      have HUO := Lib.hid huo
      have hF : alongA ps (tfL N ps s dm) (wyA ps s ((k : Int) + 1)) s = fallA N ps s dm ((k : Int) + 1) := rfl
      rw [hF] at HK
      clear hfs huo hF
      generalize fallA N ps s dm ((k : Int) + 1) = F at *
      have wS : IntKind.i64.wrap (h - F) = h - F := w64 _ (by omega)
      go_wp2_with (go_at_call 34; refine HK.out.mono ?_; rintro e w3 ⟨rfl, hb3⟩; refine Hid.out ?_)
      have hO3 := own_on hown.out hb3
      have hcell := (hO3.cellAt k (by omega)).trans HUO.out
      have hfz := hO3.frozenAt k
      have hgq := (hO3.lt w2.heap.size rfl).2
      have HB3 := Lib.hid (hB.out.trans (hb3.mono hB.out.size))
      have hst := hO3.stored k (iv (h - F))
      rw [HST.out] at hst
      have HRL := Lib.hid hst.1
      clear hO3 hst hb3 c0 c1
      refine Lib.hid ?_
      go_wp2
      go_roundw
      case rel => exact ⟨k + 1, by omega, by go_num, HRL, Lib.hid (HB3.out.setCell (p := ⟨w2.heap.size, k, none⟩) (Nat.le_refl _) _)⟩
      case measure => simp [intOf]; omega
    · have e : k = N := by omega
      subst e
      have hown2 := hown.out
      rw [HF.out] at hown2
      have HW2 := Lib.hid hown2
      clear hown hown2
      go_wp2
      go_ret2
      exact ⟨_, _, by rw [HLL.out]; rfl, by omega, own_lower (by unfold IOwn; rw [HLL.out]; exact HW2.out), HB2.out.trans (hB.out.mono HB2.out.size)⟩
end Go.Proofs.Ytpldbakllegheaa.S2

namespace Go.Proofs.Ytpldbakllegheaa.S2
open Go.RowKit P2

/-- What is asked of a network, a source, demands and a head. -/
noncomputable def askH (n : Int) (ps : List Pp) (x : Int) (dm : List Int) (h : Int) : Bool := nodeB n ps x && (amtB dm n 0 1000 && (treeB n.toNat ps && hdR h))
theorem askH_of {n : Int} {ps : List Pp} {x : Int} {dm : List Int} {h : Int} (hv : askH n ps x dm h = true) : ∃ N X : Nat, n = N ∧ x = X ∧ nodeB n ps x = true ∧ demB n ps dm = true ∧ treeB N ps = true ∧ hdR h = true := by
  unfold askH at hv
  simp only [Bool.and_eq_true] at hv
  obtain ⟨h1, h2, h3, h4⟩ := hv
  obtain ⟨hg, hx1, hx2⟩ := nodeB_of h1
  obtain ⟨N, rfl⟩ := good_nat hg
  refine ⟨N, x.toNat, rfl, by omega, h1, by unfold demB; rw [good_mk hg, h2]; rfl, ?_, h4⟩
  rwa [Int.toNat_natCast] at h3
set_option maxHeartbeats 2000000 in
theorem ask_any (n : Int) (A : Option Addr) (cap : Nat) (ps : List Pp) (x : Int) (AD : Option Addr) (dc : Nat) (dm : List Int) (h : Int) (w : World) (hp : PAt w A ps) (hm : ps.length ≤ maxLen) (hd : IAt w AD dm) (hdl : dm.length ≤ 1048576) :
    Calls Try.prog 61 #[nv n A ps.length cap, .int .i64 x, .slice AD dm.length dc, .int .i64 h] w fun e w' => e = .returned (.bool (askH n ps x dm h)) ∧ Below w.heap.size w w' := by
  obtain ⟨v1, hv1⟩ : ∃ v, nodeB n ps x = v := ⟨_, rfl⟩
  obtain ⟨v3, hv3⟩ : ∃ v, amtB dm n 0 1000 = v := ⟨_, rfl⟩
  obtain ⟨v5, hv5⟩ : ∃ v, hdR h = v := ⟨_, rfl⟩
  have H1 := Lib.hid (fun w' (hb : Below w.heap.size w w') => snode_v hv1 A cap w' (hp.kept hb (Nat.le_refl _)) hm)
  have H3 := Lib.hid (fun w' (hb : Below w.heap.size w w') => sdem_v hv3 A ps.length cap AD dc w' (hd.kept hb (Nat.le_refl _)) hdl)
  have H5 := Lib.hid (fun w' => shd_v hv5 w')
  unfold askH
  rw [hv1, hv3, hv5]
  cases v1 with
  | false =>
    clear hp hd hv1 hv3 hv5
    go_enter Try.func61, Try.ntmps61
    go_wp2_with (go_at_call 72; refine (H1.out _ ((Below.refl _ _).alloc (Nat.le_refl _) _)).mono ?_; rintro e w1 ⟨rfl, hb1⟩)
    go_ret
    exact ⟨rfl, below_alloc_call hb1⟩
  | true =>
    obtain ⟨hg, hx1, hx2⟩ := nodeB_of hv1
    obtain ⟨N, rfl⟩ := good_nat hg
    rw [Int.toNat_natCast]
    cases v3 with
    | false =>
      clear hp hd hv1 hv3 hv5 hg
      go_enter Try.func61, Try.ntmps61
      go_wp2_with (first
        | (go_at_call 72; refine (H1.out _ ((Below.refl _ _).alloc (Nat.le_refl _) _)).mono ?_; rintro e w1 ⟨rfl, hb1⟩; have HX1 := Lib.hid (show Below (w.heap.size + 1) (w.alloc (nb N A ps.length cap)) w1 by simpa using hb1); obtain ⟨b0, b1⟩ := box2 HX1.out; have hy1 := box_lt HX1.out; clear hb1)
        | (go_at_call 86; refine (H3.out _ (below_box HX1.out)).mono ?_; rintro e w3 ⟨rfl, hb3⟩; have HX3 := Lib.hid (on_call HX1.out hb3)))
      go_ret
      exact ⟨rfl, below_box HX3.out⟩
    | true =>
      obtain ⟨v4, hv4⟩ : ∃ v, treeB N ps = v := ⟨_, rfl⟩
      have H4 := Lib.hid (fun w' (hb : Below w.heap.size w w') => stree_v hv4 A cap w' (hp.kept hb (Nat.le_refl _)) hg)
      rw [hv4]
      cases v4 with
      | false =>
        clear hp hd hv1 hv3 hv5 hg hv4
        go_enter Try.func61, Try.ntmps61
        go_wp2_with (first
          | (go_at_call 72; refine (H1.out _ ((Below.refl _ _).alloc (Nat.le_refl _) _)).mono ?_; rintro e w1 ⟨rfl, hb1⟩; have HX1 := Lib.hid (show Below (w.heap.size + 1) (w.alloc (nb N A ps.length cap)) w1 by simpa using hb1); obtain ⟨b0, b1⟩ := box2 HX1.out; have hy1 := box_lt HX1.out; clear hb1)
          | (go_at_call 86; refine (H3.out _ (below_box HX1.out)).mono ?_; rintro e w3 ⟨rfl, hb3⟩; have HX3 := Lib.hid (on_call HX1.out hb3); clear b0 b1; obtain ⟨b0, b1⟩ := box2 HX3.out; have hy3 := box_lt HX3.out; clear hb3)
          | (go_at_call 87; refine (H4.out _ (below_box HX3.out)).mono ?_; rintro e w4 ⟨rfl, hb4⟩; have HX4 := Lib.hid (on_call HX3.out hb4)))
        go_ret
        exact ⟨rfl, below_box HX4.out⟩
      | true =>
        clear hp hd hv1 hv3 hv5 hg hv4
        go_enter Try.func61, Try.ntmps61
        go_wp2_with (first
          | (go_at_call 72; refine (H1.out _ ((Below.refl _ _).alloc (Nat.le_refl _) _)).mono ?_; rintro e w1 ⟨rfl, hb1⟩; have HX1 := Lib.hid (show Below (w.heap.size + 1) (w.alloc (nb N A ps.length cap)) w1 by simpa using hb1); obtain ⟨b0, b1⟩ := box2 HX1.out; have hy1 := box_lt HX1.out; clear hb1)
          | (go_at_call 86; refine (H3.out _ (below_box HX1.out)).mono ?_; rintro e w3 ⟨rfl, hb3⟩; have HX3 := Lib.hid (on_call HX1.out hb3); clear b0 b1; obtain ⟨b0, b1⟩ := box2 HX3.out; have hy3 := box_lt HX3.out; clear hb3)
          | (go_at_call 87; refine (H4.out _ (below_box HX3.out)).mono ?_; rintro e w4 ⟨rfl, hb4⟩; have HX4 := Lib.hid (on_call HX3.out hb4))
          | (go_at_call 69; refine (H5.out _).mono ?_; rintro e w5 ⟨rfl, hw⟩; replace hw := hw.symm; subst hw))
        go_ret
        exact ⟨by simp, below_box HX4.out⟩
theorem ask_v {n : Int} {ps : List Pp} {x : Int} {dm : List Int} {h : Int} {v : Bool} (hv : askH n ps x dm h = v) (A : Option Addr) (cap : Nat) (AD : Option Addr) (dc : Nat) (w : World) (hp : PAt w A ps) (hm : ps.length ≤ maxLen) (hd : IAt w AD dm) (hdl : dm.length ≤ 1048576) :
    Calls Try.prog 61 #[nv n A ps.length cap, .int .i64 x, .slice AD dm.length dc, .int .i64 h] w fun e w' => e = .returned (.bool v) ∧ Below w.heap.size w w' := by
  rw [← hv]; exact ask_any n A cap ps x AD dc dm h w hp hm hd hdl

set_option maxHeartbeats 3000000 in
set_option maxRecDepth 100000 in
theorem shds_any (N s : Nat) (A : Option Addr) (cap : Nat) (ps : List Pp) (AD : Option Addr) (dc : Nat) (dm : List Int) (h : Int) (w : World) (hp : PAt w A ps) (hc : ps.length = cap) (hd : IAt w AD dm) (hn : nodeB N ps s = true) (ht : treeB N ps = true) (hv : demB N ps dm = true) (hh : hdR h = true) :
    Calls Try.prog 62 #[nv N A ps.length cap, .int .i64 (s : Int), .slice AD dm.length dc, .int .i64 h] w (GivesL w (hdL N ps s dm h)) := by
  obtain ⟨hg, hdn, hr⟩ := demB_of hv
  obtain ⟨_, hs1, hs2⟩ := nodeB_of hn
  have hN8 := hg.2.1
  have hl10 := hg.2.2.1
  obtain ⟨hh1, hh2⟩ := hdR_of hh
  have H := Lib.hid (fun w' (hb : Below w.heap.size w w') => stf_any N s A cap ps AD dc dm w' (hp.kept hb (Nat.le_refl _)) hc (hd.kept hb (Nat.le_refl _)) hg (by omega) (by omega) hr hdn)
  have hflo := tfl_flo (s := s) hg hr hdn
  have HAL := Lib.hid (fun (AF : Option Addr) (cF : Nat) (k : Nat) (hk : k < N) w' (hb : Below w.heap.size w w') (hf : IAt w' AF (tfL N ps s dm)) => sal_any N A cap ps AF cF (tfL N ps s dm) s ((k : Int) + 1) (wyA ps s ((k : Int) + 1)) w' (hp.kept hb (Nat.le_refl _)) hf hflo (wy_ok hg ht (by omega) (by omega) (by omega) (by omega)) (fun w'' hb2 => by
    have hy := l2way_any N s (k + 1) A cap ps w'' (hp.kept (hb.trans (hb2.mono hb.size)) (Nat.le_refl _)) hg (by omega) (by omega) (by omega) (by omega) _ (tree_dist hg ht (by omega) (by omega) (v := ((k + 1 : Nat) : Int)) (by omega) (by omega))
    exact hy))
  have HFI := Lib.hid (fun k (hk : k < N) => fall_in hg ht hr hdn (s := s) (by omega) (by omega) (v := (k : Int) + 1) (by omega) (by omega))
  have HFL := Lib.hid (tfL_len N ps s dm)
  have HL := Lib.hid (show hdL N ps s dm h = hdTo N ps s dm h N from rfl)
  have HTS := Lib.hid (fun k => (show hdTo N ps s dm h (k + 1) = hdTo N ps s dm h k ++ [h - fallA N ps s dm ((k : Int) + 1)] from hdTo_snoc N ps s dm h k))
  have HTL := Lib.hid (hdTo_len N ps s dm h)
  obtain ⟨i0, hi, hz0, hz1, hz2⟩ := info_parts infoI
  rw [HFL.out] at HAL
  clear hp hd hn ht hv hh hg hdn hr hflo hc
  go_enter Try.func62, Try.ntmps62
  go_wp2_with (go_at_call 88; refine (H.out _ ((Below.refl _ _).alloc (Nat.le_refl _) _)).mono ?_; rintro e w2 ⟨gF, cF, rfl, hgF, hOF, hb1⟩; refine Hid.out ?_)
  have HX2 := Lib.hid (show Below (w.heap.size + 1) (w.alloc (nb N A ps.length cap)) w2 by simpa using hb1)
  have HB2 := Lib.hid (below_box HX2.out)
  have HF2 := Lib.hid hOF.iat
  obtain ⟨b0, b1⟩ := box2 HX2.out
  have hy2 := box_lt HX2.out
  have HFK := Lib.hid (fun w' (hb : Below w2.heap.size w2 w') => HF2.out.kept hb (Nat.le_refl _))
  have HO0 := Lib.hid (own_empty w2 w2.heap.size (Nat.le_refl _))
  have HB0 := Lib.hid (show Below w2.heap.size w2 (w2.alloc (.cells #[] 3)) from (Below.refl _ _).alloc (Nat.le_refl _) _)
  clear hb1 H HF2 hOF
  rw [HFL.out]
  refine Lib.hid ?_
  go_wp2
  go_loopw [10, 11] (fun v i wr => ∃ k : Nat, k ≤ N ∧ i = .int .i64 ((k : Int) + 1) ∧ Hid (IOwn wr w2.heap.size v (hdTo N ps s dm h k)) ∧ Hid (v ≠ .slice none 0 0) ∧ Hid (Below w2.heap.size w2 wr)) (fun _ i _ => N + 1 - (intOf i).toNat)
  case atStart => exact ⟨0, Nat.zero_le _, rfl, HO0, Lib.hid (by simp), HB0⟩
  case round =>
    clear HO0 HB0
    obtain ⟨k, hk, rfl, hown, hvn, hB⟩ := hrel
    have c0 := (hB.out.cell (p := ⟨w.heap.size, 0, none⟩) hy2).trans b0
    have c1 := (hB.out.cell (p := ⟨w.heap.size, 1, none⟩) hy2).trans b1
    have hzr : w.heap.size < wr.heap.size := by have := hB.out.size; omega
    by_cases hlt : k < N
    · have hk0 : (k : Int) + 1 ≤ (N : Int) := by omega
      have HK := Lib.hid (HAL.out (some ⟨gF, 0, none⟩) cF k hlt wr (HB2.out.trans (hB.out.mono HB2.out.size)) (HFK.out _ hB.out))
      have hfi := HFI.out k hlt
      have hsn := HTS.out k
      have hdl := HTL.out k
      have hF : alongA ps (tfL N ps s dm) (wyA ps s ((k : Int) + 1)) s = fallA N ps s dm ((k : Int) + 1) := rfl
      rw [hF] at HK
      clear hF
      have HSN := Lib.hid hsn
      clear hsn
      generalize fallA N ps s dm ((k : Int) + 1) = F at *
      have wS : IntKind.i64.wrap (h - F) = h - F := w64 _ (by omega)
      go_wp2_with (go_at_call 75; refine HK.out.mono ?_; rintro e w3 ⟨rfl, hb3⟩; refine Hid.out ?_)
      have hO3 := Lib.hid (hown.out.on hb3)
      have HB3 := Lib.hid (hB.out.trans (hb3.mono hB.out.size))
      have ho := hO3.out
      unfold IOwn at ho
      clear hb3 c0 c1
      refine Lib.hid ?_
      go_wp2_with (at_builtin; go_must (refine wpList_append_own _ rfl _ _ 25 rfl w2.heap.size 3 i0 (.int .i64 0) 1 8 Try.underlying25 hi hz0 hz1 hz2 rfl (by decide) _ _ _ rfl (ho.alloc _) ⟨w3.heap.size, 0, none⟩ 1 1 [iv (h - F)] rfl rfl (cell_one_new _ _ _) (by intro u hu; simp at hu; subst hu; rfl) (by unfold maxLen; omega) (by omega) (by have := HB3.out.size; simp; omega) ?_); intro v' w7 hown' hgrow hnil)
      have hown3 := Lib.hid (IOwn.push hown')
      rw [← HSN.out] at hown3
      have hB7 := Lib.hid ((HB3.out.alloc HB3.out.size (.cells #[iv (h - F)] 3)).grown hgrow (by have := HB3.out.size; simp; omega) (fun g hg => (ho.lt g hg).1))
      have hnil3 := Lib.hid (show v' ≠ .slice none 0 0 from fun e => by simp [e] at hnil)
      clear hown' hgrow hnil ho
      go_wp2
      go_roundw
      case rel => exact ⟨k + 1, by omega, by go_num, hown3, hnil3, hB7⟩
      case measure => simp [intOf]; omega
    · have hkN : k = N := by omega
      have hown2 := hown.out
      rw [hkN, ← HL.out] at hown2
      obtain ⟨g', capg, rfl, hg'⟩ := own_slice hown2 hvn.out
      have HO := Lib.hid hown2
      have hkn : ¬ (k : Int) + 1 ≤ (N : Int) := by omega
      clear hkN hown2
      go_wp2
      go_ret
      exact ⟨g', capg, rfl, by omega, own_lower HO.out, HB2.out.trans (hB.out.mono HB2.out.size)⟩

set_option maxHeartbeats 1000000 in
theorem shd_no (n : Int) (A : Option Addr) (cap : Nat) (ps : List Pp) (x : Int) (AD : Option Addr) (dc : Nat) (dm : List Int) (h : Int) (w : World) (hp : PAt w A ps) (hm : ps.length ≤ maxLen) (hd : IAt w AD dm) (hdl : dm.length ≤ 1048576) (hv : askH n ps x dm h = false) :
    Calls Try.prog 22 #[nv n A ps.length cap, .int .i64 x, .slice AD dm.length dc, .int .i64 h] w (GivesA w [] false) := by
  have H := Lib.hid (fun w' (hb : Below w.heap.size w w') => ask_v hv A cap AD dc w' (hp.kept hb (Nat.le_refl _)) hm (hd.kept hb (Nat.le_refl _)) hdl)
  clear hp hd hv
  go_enter Try.func22, Try.ntmps22
  go_wp2_with (go_at_call 61; refine (H.out _ ((Below.refl _ _).alloc (Nat.le_refl _) _)).mono ?_; rintro e w1 ⟨rfl, hb1⟩)
  go_ret2
  exact gives_noneA (below_alloc_call hb1)
set_option maxHeartbeats 1000000 in
theorem shd_yes (N s : Nat) (A : Option Addr) (cap : Nat) (ps : List Pp) (AD : Option Addr) (dc : Nat) (dm : List Int) (h : Int) (w : World) (hp : PAt w A ps) (hm : ps.length ≤ maxLen) (hc : ps.length = cap) (hd : IAt w AD dm) (hdl : dm.length ≤ 1048576) (ha : askH N ps s dm h = true) (hn : nodeB N ps s = true) (ht : treeB N ps = true) (hv : demB N ps dm = true) (hh : hdR h = true) :
    Calls Try.prog 22 #[nv N A ps.length cap, .int .i64 (s : Int), .slice AD dm.length dc, .int .i64 h] w (GivesA w (hdL N ps s dm h) true) := by
  have H := Lib.hid (fun w' (hb : Below w.heap.size w w') => ask_v ha A cap AD dc w' (hp.kept hb (Nat.le_refl _)) hm (hd.kept hb (Nat.le_refl _)) hdl)
  have H2 := Lib.hid (fun w' (hb : Below w.heap.size w w') => shds_any N s A cap ps AD dc dm h w' (hp.kept hb (Nat.le_refl _)) hc (hd.kept hb (Nat.le_refl _)) hn ht hv hh)
  clear hp hd hv ha hn ht hh hc
  generalize hdL N ps s dm h = L at *
  go_enter Try.func22, Try.ntmps22
  go_wp2_with (first
    | (go_at_call 61; refine (H.out _ ((Below.refl _ _).alloc (Nat.le_refl _) _)).mono ?_; rintro e w1 ⟨rfl, hb1⟩; have HX1 := Lib.hid (show Below (w.heap.size + 1) (w.alloc (nb N A ps.length cap)) w1 by simpa using hb1); obtain ⟨b0, b1⟩ := box2 HX1.out; have hy1 := box_lt HX1.out; clear hb1)
    | (go_at_call 62; refine (H2.out _ (below_box HX1.out)).mono ?_; rintro e w2 ⟨g, c, rfl, hg2, hO, hb2⟩))
  go_ret2
  have hz := (below_box HX1.out).size
  exact ⟨g, 0, c, rfl, by omega, hO.iat, (below_box HX1.out).trans (hb2.mono hz), iown_lt' hO⟩
end Go.Proofs.Ytpldbakllegheaa.S2

namespace Go.Proofs.Ytpldbakllegheaa.S2
open Go.RowKit P2
/-- HeadsOf of the program where something is asked that is not there. -/
theorem hd_bad (n : Int) (A : Option Addr) (cap : Nat) (ps : List Pp) (x : Int) (AD : Option Addr) (dc : Nat) (dm : List Int) (h : Int) (w : World) (hp : PAt w A ps) (hm : ps.length ≤ maxLen) (hd : IAt w AD dm) (hdl : dm.length ≤ 1048576) (hv : askH n ps x dm h = false) :
    Calls Try.prog 23 #[nv n A ps.length cap, .int .i64 x, .slice AD dm.length dc, .int .i64 h] w (GivesI w [] false) := by
  cases hv1 : nodeB n ps x with
  | false => exact hd_no1 n A cap ps x AD dc dm h w (fun w' hb => tfl_no1 n A cap ps x AD dc dm w' (fun w'' hb2 => tf_node hv1 A cap w'' (hp.kept (hb.trans (hb2.mono hb.size)) (Nat.le_refl _)) hm))
  | true =>
    obtain ⟨hg, hx1, hx2⟩ := nodeB_of hv1
    obtain ⟨N, rfl⟩ := good_nat hg
    obtain ⟨X, rfl⟩ : ∃ X : Nat, x = X := ⟨x.toNat, by omega⟩
    cases ht : treeB N ps with
    | false => exact hd_no1 N A cap ps X AD dc dm h w (fun w' hb => tfl_no1 N A cap ps X AD dc dm w' (fun w'' hb2 => tf_tree hv1 ht A cap w'' (hp.kept (hb.trans (hb2.mono hb.size)) (Nat.le_refl _)) hm))
    | true =>
      cases hv2 : demB N ps dm with
      | false => exact hd_no1 N A cap ps X AD dc dm h w (fun w' hb => tfl_no2 N X A cap ps AD dc dm w' (hp.kept hb (Nat.le_refl _)) hm (hd.kept hb (Nat.le_refl _)) hdl hv2 (fun w'' hb2 => tf_ok hv1 ht (tree_full hg ht).1 A cap w'' (hp.kept (hb.trans (hb2.mono hb.size)) (Nat.le_refl _)) hm))
      | true =>
        have hh : hdR h = false := by
          unfold askH at hv
          unfold demB at hv2
          rw [Bool.and_eq_true] at hv2
          rw [hv1, hv2.2, Int.toNat_natCast, ht] at hv
          simpa using hv
        have hdm2 : demB N ps dm = true := by unfold demB; exact hv2
        exact hd_no2 N A cap ps X AD dc dm h _ w hh (fun w' hb => tfl_yes N X A cap ps AD dc dm w' (hp.kept hb (Nat.le_refl _)) hm (hd.kept hb (Nat.le_refl _)) hdl hv1 ht hdm2)
end Go.Proofs.Ytpldbakllegheaa.S2
