/- FewestLevels and BestLevel of the program: contracts. Conditions: each theorem's own premises. -/
import Derived.Test.YtjfpimldiokpbaaZnRd
import Derived.Test.YtjfpimldiokpbaaZnLow
namespace Go.Proofs.Ytjfpimldiokpbaa.S12
open Go.RowKit Go.Sort P12

theorem IAt.farA {w w' : World} {A : Option Addr} {r : Option Nat} {l : List Int} (h : IAt w A l) (hb : w.grownBy w' r) (hg : ∀ b o, A = some ⟨b, o, none⟩ → r ≠ some b) : IAt w' A l := by
  rcases h with h | ⟨b, off, rfl, hlt, h⟩
  · exact .inl h
  · exact .inr ⟨b, off, rfl, Nat.lt_of_lt_of_le hlt hb.size, fun i hi => (World.cell?_of_block (hb.block b hlt (fun e => hg b off rfl e.symm))).trans (h i hi)⟩
theorem IAt.ltA {w : World} {A : Option Addr} {l : List Int} (h : IAt w A l) (h0 : 0 < l.length) : ∃ b o, A = some ⟨b, o, none⟩ ∧ b < w.heap.size := by
  rcases h with h | ⟨b, off, rfl, hlt, _⟩
  · subst h; simp at h0
  · exact ⟨b, off, rfl, hlt⟩
theorem lastB_at {a b x : Int} {out : List Int} {m : Nat} (hm : out.length = m + 1) : lastB a b out x = suB x a b (out.getD m 0) := by
  have e : out.getLast? = some (out.getD m 0) := by
    rw [List.getLast?_eq_getElem?, hm, Nat.add_sub_cancel]
    simp [List.getD, show m < out.length by omega]
  unfold lastB
  rw [e]
theorem lastB_nil {a b x : Int} {out : List Int} (hm : out.length = 0) : lastB a b out x = false := by
  rw [List.length_eq_zero_iff.1 hm]; rfl
set_option maxHeartbeats 1000000 in
theorem fw_no (A : Option Addr) (cap : Nat) (l : List Int) (a b : Int) (w : World) (hI : IAt w A l) (hl : l.length ≤ 1048576) (hv : askB l a b = false) :
    Calls Try.prog 26 #[.slice A l.length cap, rv a b] w (GivesI w [] false) := by
  have HB0 := Lib.hid (alloc_below w (rb 25 a b))
  have HA := Lib.hid (fun w' (hb : Below w.heap.size w w') => ask_v hv A cap w' (hI.kept hb (Nat.le_refl _)) hl)
  have HT0 := Lib.hid (BT.new w 25 a b)
  clear hI hv
  go_enter Try.func26, Try.ntmps26
  refine Hid.out ?_
  obtain ⟨_, q0, q1⟩ := HT0.out
  refine Lib.hid ?_
  go_wp2_with (go_at_call 49; refine (HA.out _ HB0.out).mono ?_; rintro e w1 ⟨rfl, hb1⟩; have HB1 := Lib.hid (HB0.out.trans (hb1.mono HB0.out.size)); clear hb1)
  go_ret2
  exact gives_none HB1.out
set_option maxHeartbeats 4000000 in
set_option maxRecDepth 100000 in
theorem fw_yes (A : Option Addr) (cap : Nat) (l : List Int) (a b : Int) (w : World) (hI : IAt w A l) (hl : l.length ≤ 1048576) (hq : ZAsk l a b) :
    Calls Try.prog 26 #[.slice A l.length cap, rv a b] w (GivesI w (fewL l a b) true) := by
  have HB0 := Lib.hid (alloc_below w (rb 25 a b))
  have HA := Lib.hid (fun w' (hb : Below w.heap.size w w') => ask_v (askB_iff.2 hq) A cap w' (hI.kept hb (Nat.le_refl _)) hl)
  have HT0 := Lib.hid (BT.new w 25 a b)
  have HLW := Lib.hid (fun w' (hb : Below w.heap.size w w') => low_any cap A l hl w' (hI.kept hb (Nat.le_refl _)))
  have ha1 := hq.a1
  have hab := hq.ab
  have hb1 := hq.b1
  have hn12 := hq.n
  have HAT := Lib.hid (fun (i : Nat) (hi : i < (sL l).length) => hq.toPl.mem ((sL_perm l).mem_iff.1 (getD_mem hi)))
  have HSL := Lib.hid (sL_len l)
  have HEND := Lib.hid (fun out (h : PI l a b (sL l) (sL l).length out) => (show fewL l a b = out from by
    obtain ⟨h1, h2⟩ := pin_end (sL_perm l) h
    exact few_is h1 h2))
  have HMORE := Lib.hid (fun j out (h : PI l a b (sL l) j out) (hj : j < (sL l).length) => pi_more hab (sL_asc l) (sL_perm l) h hj)
  have HSKIP := Lib.hid (fun j out (h : PI l a b (sL l) j out) (hj : j < (sL l).length) => pi_skip (sL_asc l) h hj)
  have HLEN := Lib.hid (fun j out (h : PI l a b (sL l) j out) => gs_len hab h.gs)
  obtain ⟨i0, hi, hz0, hz1, hz2⟩ := info_parts infoI
  clear hI hq
  generalize fewL l a b = R at *
  go_enter Try.func26, Try.ntmps26
  refine Hid.out ?_
  obtain ⟨_, q0, q1⟩ := HT0.out
  refine Lib.hid ?_
  go_upto_region 3 with (first
    | (go_at_call 49; refine (HA.out _ HB0.out).mono ?_; rintro e w1 ⟨rfl, hb1⟩; have HB1 := Lib.hid (HB0.out.trans (hb1.mono HB0.out.size)); have HT1 := Lib.hid (HT0.out.kept hb1); clear hb1)
    | fail)
  have HO1 := Lib.hid (own_empty w1 w1.heap.size (Nat.le_refl _))
  have HBA := Lib.hid (alloc_below w1 (.cells #[] 3))
  clear q0 q1 HT0 HA HB0
  go_wp2_with (first
    | (go_at_call 58; refine (HLW.out _ (HB1.out.trans (HBA.out.mono HB1.out.size))).mono ?_; rintro e w2 ⟨A2, c2, rfl, hP, hfr, hb2⟩; have HP2 := Lib.hid hP; have HF2 := Lib.hid (show ∀ bb o, A2 = some ⟨bb, o, none⟩ → w1.heap.size < bb from fun bb o e => by have := hfr bb o e; simp at this; omega); have HO2 := Lib.hid (HO1.out.on hb2); have HB2 := Lib.hid (HBA.out.trans (hb2.mono (by simp))); have hzz2 := hb2.size; clear hP hfr hb2; refine Hid.out ?_)
    | fail)
  simp only [World.size_alloc] at hzz2
  clear HO1 HBA HLW
  obtain ⟨n, hn⟩ : ∃ n, n = l.length := ⟨_, rfl⟩
  have HN := Lib.hid hn
  rw [← hn]
  have hn12' : n ≤ 12 := by omega
  clear hn
  refine Lib.hid ?_
  go_wp2_with fail
  go_loopw [6, 19] (fun v i wr => ∃ (k : Nat) (out : List Int), k ≤ n ∧ i = .int .i64 (k : Int) ∧ Hid (PI l a b (sL l) k out) ∧ Hid (IOwn wr w1.heap.size v out) ∧ Hid (v ≠ .slice none 0 0) ∧ Hid (∀ bb o, A2 = some ⟨bb, o, none⟩ → v.ownBlock ≠ some bb) ∧ Hid (IAt wr A2 (sL l)) ∧ Hid (Below w1.heap.size w1 wr)) (fun _ i _ => n - (intOf i).toNat)
  case atStart => exact ⟨0, [], Nat.zero_le _, rfl, Lib.hid (pi_zero l a b (sL l)), HO2, Lib.hid (by simp), Lib.hid (fun bb o e => by have := HF2.out bb o e; simp [Value.ownBlock]; omega), HP2, HB2⟩
  case round =>
    clear HO2 HP2 HB2
    obtain ⟨k, out, hk, rfl, hPI, hown, hvn, hfar, hia, hB⟩ := hrel
    have hlout := HLEN.out k out hPI.out
    rw [← HN.out] at hlout
    have hzB := hB.out.size
    by_cases hlt : k < n
    · have hks : k < (sL l).length := by rw [HSL.out, ← HN.out]; exact hlt
      obtain ⟨bb, off, hA2, hbl, p0⟩ := hia.out.at_ hks
      obtain ⟨x0, x1⟩ := HAT.out k hks
      have HFF := Lib.hid (hfar.out bb off hA2)
      subst hA2
      obtain ⟨q9, q0, q1⟩ := HT1.out.keep hB.out HT1.out.1
      have HPK := Lib.hid (fun hlb => HMORE.out k out hPI.out hks hlb)
      have HPS := Lib.hid (fun hlb => HSKIP.out k out hPI.out hks hlb)
      have HLB := Lib.hid (fun (m : Nat) (hm : out.length = m + 1) => lastB_at (a := a) (b := b) (x := (sL l).getD k 0) hm)
      have HLN := Lib.hid (fun (hm : out.length = 0) => lastB_nil (a := a) (b := b) (x := (sL l).getD k 0) hm)
      have hk0 : (0 : Int) ≤ (k : Int) := by omega
      have hkn : (k : Int) < (n : Int) := by omega
      generalize hlbv : lastB a b out ((sL l).getD k 0) = lb at *
      generalize (sL l).getD k 0 = x at *
      clear hlbv hks hPI
      have HC := Lib.hid (fun w' => lev_lit x a b w' ⟨x0, x1⟩ (by omega) (by omega))
      obtain ⟨g, c, rfl, hg⟩ := own_slice hown.out hvn.out
      have hglt := iown_lt' hown.out
      clear hvn
      by_cases hm0 : out.length = 0
      · have hlb := HLN.out hm0
        have HPM := Lib.hid (HPK.out hlb)
        subst hlb
        have g0 : ((out.length : Int) == 0) = true := by rw [hm0]; rfl
        clear HLN HLB HPK HPS hm0
        refine Hid.out ?_
        refine Lib.hid ?_
        go_upto_region 8 with (first
          | (go_at_call 54; refine (HC.out _).mono ?_; rintro e wx ⟨rfl, hbx⟩; have HBR := Lib.hid hbx; have hzx := hbx.size; clear hbx)
          | fail)
        have HBX := Lib.hid ((hB.out.trans (HBR.out.mono hzB)).alloc (by omega) (rb 59 (x + a) (x + b)))
        have HBRX := Lib.hid (HBR.out.alloc hzx (rb 59 (x + a) (x + b)))
        obtain ⟨d9, d0, d1⟩ := BT.new wx 59 (x + a) (x + b)
        have hG := @cell_g
        generalize wx.alloc (rb 59 (x + a) (x + b)) = wa at *
        go_wp2_with fail
        refine region_below (by kernel_rfl) (by kernel_rfl) ?_
        repeat (first | go_big_quiet_step (fail))
        refine wpQuiet_nil ?_
        intro wy hby
        have d1' := (hby.cell (p := ⟨wx.heap.size, 1, none⟩) d9).trans d1
        have d9' := Nat.lt_of_lt_of_le d9 hby.size
        have HBW := Lib.hid hby
        have HRY := Lib.hid (HBRX.out.trans (hby.mono HBRX.out.size))
        clear hby d0 d1 d9 hG q9 q0 q1 p0 HBRX HBR
        have hBy := Lib.hid (HBX.out.trans (HBW.out.mono HBX.out.size))
        have ho := hown.out.on HRY.out
        unfold IOwn at ho
        have hia9 := Lib.hid (hia.out.kept HRY.out (Nat.le_refl _))
        have hblY : bb < wy.heap.size := Nat.lt_of_lt_of_le hbl HRY.out.size
        have hzy := hBy.out.size
        clear HRY HBW HBX hB
        refine Lib.hid ?_
        go_wp2_with (at_builtin; go_must (refine wpList_append_lies _ rfl _ _ 28 rfl w1.heap.size 3 i0 (.int .i64 0) 1 8 Try.underlying28 hi hz0 hz1 hz2 rfl (by decide) _ _ _ rfl (ho.alloc _) ⟨wy.heap.size, 0, none⟩ 1 1 [iv (x + b)] rfl rfl (cell_one_new _ _ _) (by intro u hu; simp at hu; subst hu; rfl) (by omega) (by unfold maxLen; omega) (by omega) (by simp; omega) (wy.heap.size + 1) (by simp) ?_); intro gg cap' w7 hown' hgrow hat hlt1)
        have hown3 := Lib.hid (IOwn.push hown')
        have hB7 := Lib.hid ((hBy.out.alloc (by omega) (.cells #[iv (x + b)] 3)).grown hgrow (by simp; omega) (fun g hg => (ho.lt g hg).1))
        have hia7 := Lib.hid (IAt.farA (hia9.out.kept (alloc_below wy (.cells #[iv (x + b)] 3)) (Nat.le_refl _)) hgrow (fun b9 o9 e9 => by simp only [Option.some.injEq, Addr.mk.injEq, and_true] at e9; obtain ⟨rfl, rfl⟩ := e9; exact HFF.out))
        have hf7 : Hid (∀ b9 o9, (some ⟨bb, off, none⟩ : Option Addr) = some ⟨b9, o9, none⟩ → (Value.slice (some ⟨gg, 0, none⟩) (out.length + 1) cap').ownBlock ≠ some b9) := Lib.hid (by
          intro b9 o9 e9 e
          simp only [Option.some.injEq, Addr.mk.injEq, and_true] at e9
          obtain ⟨rfl, rfl⟩ := e9
          have hgb : gg = bb := by simpa [Value.ownBlock] using e
          subst hgb
          rcases hat with hat | hat
          · exact HFF.out hat
          · omega)
        have hlo : (out ++ [x + b]).length = out.length + 1 := by simp
        have hvs : Hid (IOwn w7 w1.heap.size (.slice (some ⟨gg, 0, none⟩) (out.length + 1) cap') (out ++ [x + b])) := hown3
        clear hown' hgrow ho hat hown3 hia9
        go_wp2
        go_roundw
        case rel => exact ⟨k + 1, out ++ [x + b], by omega, by go_num, HPM, hvs, Lib.hid (by simp), hf7, hia7, hB7⟩
        case measure => simp [intOf]; omega
      · obtain ⟨m, hm⟩ : ∃ m, out.length = m + 1 := ⟨out.length - 1, by omega⟩
        have hlb := HLB.out m hm
        have hcell := hown.out.cellAt m (by omega)
        have hcm : (out.map iv)[m]? = some (iv (out.getD m 0)) := by simp [List.getD, show m < out.length by omega]
        rw [hcm] at hcell
        have HCH := Lib.hid (fun w' => has_su x a b (out.getD m 0) w')
        rw [← hlb] at HCH
        have g0 : ((out.length : Int) == 0) = false := by rw [beq_eq_false_iff_ne]; omega
        have e1 : IntKind.i64.wrap ((out.length : Int) - 1) = (m : Int) := by rw [IntWalk.i64_in _ (by omega)]; omega
        have e2 : (m : Int) < (out.length : Int) := by omega
        have e3 : (0 : Int) ≤ (m : Int) := by omega
        have HMM := Lib.hid hm
        clear hm hm0 hcm HLN HLB hlb
        generalize out.getD m 0 = y at *
        cases lb with
        | false =>
          have HPM := Lib.hid (HPK.out rfl)
          clear HPK HPS
          refine Hid.out ?_
          refine Lib.hid ?_
          go_upto_region 8 with (first
            | (go_at_call 54; refine (HC.out _).mono ?_; rintro e wx ⟨rfl, hbx⟩; have HBR := Lib.hid hbx; have hzx := hbx.size; clear hbx)
            | fail)
          have HBX := Lib.hid ((hB.out.trans (HBR.out.mono hzB)).alloc (by omega) (rb 59 (x + a) (x + b)))
          have HBRX := Lib.hid (HBR.out.alloc hzx (rb 59 (x + a) (x + b)))
          obtain ⟨d9, d0, d1⟩ := BT.new wx 59 (x + a) (x + b)
          have r0 := (HBRX.out.cell (p := ⟨g, m, none⟩) hglt).trans hcell
          have r9 := Nat.lt_of_lt_of_le hglt HBRX.out.size
          have hG := @cell_g
          generalize wx.alloc (rb 59 (x + a) (x + b)) = wa at *
          clear hcell
          go_wp2_with fail
          refine region_below (by kernel_rfl) (by kernel_rfl) ?_
          repeat (first | go_big_quiet_step ((go_at_call 59; exact met HCH.out)))
          refine wpQuiet_nil ?_
          intro wy hby
          have d1' := (hby.cell (p := ⟨wx.heap.size, 1, none⟩) d9).trans d1
          have d9' := Nat.lt_of_lt_of_le d9 hby.size
          have HBW := Lib.hid hby
          have HRY := Lib.hid (HBRX.out.trans (hby.mono HBRX.out.size))
          clear hby d0 d1 d9 hG q9 q0 q1 p0 r0 r9 HBRX HBR e1 e2 e3
          have hBy := Lib.hid (HBX.out.trans (HBW.out.mono HBX.out.size))
          have ho := hown.out.on HRY.out
          unfold IOwn at ho
          have hia9 := Lib.hid (hia.out.kept HRY.out (Nat.le_refl _))
          have hblY : bb < wy.heap.size := Nat.lt_of_lt_of_le hbl HRY.out.size
          have hzy := hBy.out.size
          clear HRY HBW HBX hB
          refine Lib.hid ?_
          go_wp2_with (at_builtin; go_must (refine wpList_append_lies _ rfl _ _ 28 rfl w1.heap.size 3 i0 (.int .i64 0) 1 8 Try.underlying28 hi hz0 hz1 hz2 rfl (by decide) _ _ _ rfl (ho.alloc _) ⟨wy.heap.size, 0, none⟩ 1 1 [iv (x + b)] rfl rfl (cell_one_new _ _ _) (by intro u hu; simp at hu; subst hu; rfl) (by omega) (by unfold maxLen; omega) (by omega) (by simp; omega) (wy.heap.size + 1) (by simp) ?_); intro gg cap' w7 hown' hgrow hat hlt1)
          have hown3 := Lib.hid (IOwn.push hown')
          have hB7 := Lib.hid ((hBy.out.alloc (by omega) (.cells #[iv (x + b)] 3)).grown hgrow (by simp; omega) (fun g hg => (ho.lt g hg).1))
          have hia7 := Lib.hid (IAt.farA (hia9.out.kept (alloc_below wy (.cells #[iv (x + b)] 3)) (Nat.le_refl _)) hgrow (fun b9 o9 e9 => by simp only [Option.some.injEq, Addr.mk.injEq, and_true] at e9; obtain ⟨rfl, rfl⟩ := e9; exact HFF.out))
          have hf7 : Hid (∀ b9 o9, (some ⟨bb, off, none⟩ : Option Addr) = some ⟨b9, o9, none⟩ → (Value.slice (some ⟨gg, 0, none⟩) (out.length + 1) cap').ownBlock ≠ some b9) := Lib.hid (by
            intro b9 o9 e9 e
            simp only [Option.some.injEq, Addr.mk.injEq, and_true] at e9
            obtain ⟨rfl, rfl⟩ := e9
            have hgb : gg = bb := by simpa [Value.ownBlock] using e
            subst hgb
            rcases hat with hat | hat
            · exact HFF.out hat
            · omega)
          have hlo : (out ++ [x + b]).length = out.length + 1 := by simp
          have hvs : Hid (IOwn w7 w1.heap.size (.slice (some ⟨gg, 0, none⟩) (out.length + 1) cap') (out ++ [x + b])) := hown3
          clear hown' hgrow ho hat hown3 hia9
          go_wp2
          go_roundw
          case rel => exact ⟨k + 1, out ++ [x + b], by omega, by go_num, HPM, hvs, Lib.hid (by simp), hf7, hia7, hB7⟩
          case measure => simp [intOf]; omega
        | true =>
          have HPM := Lib.hid (HPS.out rfl)
          clear HPK HPS
          refine Hid.out ?_
          refine Lib.hid ?_
          go_upto_region 8 with (first
            | (go_at_call 54; refine (HC.out _).mono ?_; rintro e wx ⟨rfl, hbx⟩; have HBR := Lib.hid hbx; have hzx := hbx.size; clear hbx)
            | fail)
          have HBX := Lib.hid ((hB.out.trans (HBR.out.mono hzB)).alloc (by omega) (rb 59 (x + a) (x + b)))
          have HBRX := Lib.hid (HBR.out.alloc hzx (rb 59 (x + a) (x + b)))
          obtain ⟨d9, d0, d1⟩ := BT.new wx 59 (x + a) (x + b)
          have r0 := (HBRX.out.cell (p := ⟨g, m, none⟩) hglt).trans hcell
          have r9 := Nat.lt_of_lt_of_le hglt HBRX.out.size
          have hG := @cell_g
          generalize wx.alloc (rb 59 (x + a) (x + b)) = wa at *
          clear hcell
          go_wp2_with fail
          refine region_below (by kernel_rfl) (by kernel_rfl) ?_
          repeat (first | go_big_quiet_step ((go_at_call 59; exact met HCH.out)))
          refine wpQuiet_nil ?_
          intro wy hby
          have d1' := (hby.cell (p := ⟨wx.heap.size, 1, none⟩) d9).trans d1
          have d9' := Nat.lt_of_lt_of_le d9 hby.size
          have HBW := Lib.hid hby
          have HRY := Lib.hid (HBRX.out.trans (hby.mono HBRX.out.size))
          clear hby d0 d1 d9 hG q9 q0 q1 p0 r0 r9 HBRX HBR e1 e2 e3
          have hBy := Lib.hid (HBX.out.trans (HBW.out.mono HBX.out.size))
          have ho := Lib.hid (hown.out.on HRY.out)
          have hia9 := Lib.hid (hia.out.kept HRY.out (Nat.le_refl _))
          clear HRY HBW HBX hB
          refine Lib.hid ?_
          go_wp2
          go_roundw
          case rel => exact ⟨k + 1, out, by omega, by go_num, HPM, ho, Lib.hid (by simp), hfar, hia9, hBy⟩
          case measure => simp [intOf]; omega
    · have hkN : k = (sL l).length := by rw [HSL.out, ← HN.out]; omega
      have hP := hPI.out
      rw [hkN] at hP
      have hR := HEND.out out hP
      subst hR
      obtain ⟨g', capg, rfl, hg'⟩ := own_slice hown.out hvn.out
      have hs1 := HB1.out.size
      clear hkN hP
      go_wp2
      go_ret2
      exact ⟨g', capg, rfl, by omega, own_lower hown.out hs1, HB1.out.trans (hB.out.mono hs1)⟩
end Go.Proofs.Ytjfpimldiokpbaa.S12
