/- An hour of a tank and the days of the model: what the model returns: contracts. Conditions: each theorem's own premises. -/
import Derived.Test.YtikppgbipdflbaaDoorTkStep
namespace Go.Proofs.YtikppgbipdflbaaDoor.S11
open Go.RowKit P11

/-- A call's two boxes: its tank and its result. -/
structure TwoT (w w' : World) (L a b : Int) : Prop where
  bt : BT w' w.heap.size L a b
  br : BT w' (w.heap.size + 1) 0 0 0
  ft : FZ w' w.heap.size
  fr : FZ w' (w.heap.size + 1)
  bw : Below w.heap.size w w'
theorem two_tk (w : World) (L a b : Int) : TwoT w ((w.alloc (tb 27 L a b)).alloc (tb 27 0 0 0)) L a b := by
  have hz : (w.alloc (tb 27 L a b)).heap.size = w.heap.size + 1 := by simp
  have hr := BT.new (w.alloc (tb 27 L a b)) 27 0 0 0
  have hf := FZ.new (w.alloc (tb 27 L a b)) #[.int .i64 0, .int .i64 0, .int .i64 0] 27
  rw [hz] at hr hf
  exact ⟨(BT.new w _ L a b).kept (alloc_below _ _), hr, (FZ.new w _ _).kept (alloc_below _ _) (by simp), hf, two_below _ _ _⟩
theorem TwoT.kept {w w' w2 : World} {L a b : Int} (h : TwoT w w' L a b) (hb : Below w'.heap.size w' w2) : TwoT w w2 L a b :=
  ⟨h.bt.kept hb, h.br.kept hb, h.ft.kept hb h.bt.1, h.fr.kept hb h.br.1, h.bw.trans (hb.mono h.bw.size)⟩
theorem most_any (x y : Int) (w : World) : Calls Tryd.prog 60 #[.int .i64 x, .int .i64 y] w fun e w' => e = .returned (.int .i64 (if x > y then x else y)) ∧ w' = w := by
  by_cases h : x > y
  · rw [if_pos h]
    go_enter Tryd.func60, Tryd.ntmps60
    go_wp2
    go_ret
    exact ⟨rfl, rfl⟩
  · rw [if_neg h]
    go_enter Tryd.func60, Tryd.ntmps60
    go_wp2
    go_ret
    exact ⟨rfl, rfl⟩
theorem most_v {x y z : Int} (h : (if x > y then x else y) = z) (w : World) : Calls Tryd.prog 60 #[.int .i64 x, .int .i64 y] w fun e w' => e = .returned (.int .i64 z) ∧ w' = w := by
  rw [← h]; exact most_any x y w
def SStepIs (w : World) (L a b x y : Int) (e : Ending) (w' : World) : Prop :=
  e = .returned (.tuple #[.int .i64 (nxt a b L x y), .int .i64 (spl b L x), .int .i64 (mis a b L x y)]) ∧ Below w.heap.size w w'
set_option maxHeartbeats 2000000 in
theorem lstep_any (L0 L a b x y : Int) (w : World) (h : stB L a b x y = true) :
    Calls Tryd.prog 47 #[tv L0 a b, .int .i64 L, .int .i64 x, .int .i64 y] w (SStepIs w L a b x y) := by
  obtain ⟨ht, ⟨hx0, hx1⟩, hy0, hy1⟩ := stB_iff.1 h
  obtain ⟨⟨hs0, hs1⟩, ⟨hm0, hm1⟩, hn0, hn1⟩ := step_in ht ⟨hx0, hx1⟩ ⟨hy0, hy1⟩
  obtain ⟨a0, a1, a2, a3⟩ := tkB_iff.1 ht
  have H1 := Lib.hid (fun w => most_v (x := 0) (y := L + x - b) (z := spl b L x) (by unfold spl; split <;> split <;> omega) w)
  have H2 := Lib.hid (fun w => most_v (x := 0) (y := a - (L + x - spl b L x - y)) (z := mis a b L x y) (by unfold mis; split <;> split <;> omega) w)
  have HN := Lib.hid (show L + x - spl b L x - y + mis a b L x y = nxt a b L x y from rfl)
  have HB := Lib.hid (alloc_below w (tb 27 L0 a b))
  clear h ht
  unfold SStepIs
  generalize spl b L x = s at *
  generalize mis a b L x y = m at *
  generalize nxt a b L x y = z at *
  go_enter Tryd.func47, Tryd.ntmps47
  go_wp2_with (first | (go_at_call 60; refine (H1.out _).mono ?_; rintro e w1 ⟨rfl, hw⟩; replace hw := hw.symm; subst hw; refine Hid.out ?_) | fail)
  refine Lib.hid ?_
  go_wp2_with (first | (go_at_call 60; refine (H2.out _).mono ?_; rintro e w1 ⟨rfl, hw⟩; replace hw := hw.symm; subst hw; refine Hid.out ?_) | fail)
  refine Lib.hid ?_
  go_wp2_with fail
  go_ret3
  exact ⟨by rw [HN.out]; rfl, HB.out⟩
set_option maxHeartbeats 2000000 in
theorem sstep_yes (L a b x y : Int) (w : World) (h : stB L a b x y = true) :
    Calls Tryd.prog 27 #[tv L a b, .int .i64 x, .int .i64 y] w (StepIs w L a b x y) := by
  obtain ⟨ht, hx, hy⟩ := stB_iff.1 h
  have hvx : volB x = true := by simp [volB, hx]
  have hvy : volB y = true := by simp [volB, hy]
  have HG := Lib.hid (fun w => sgood_v ht w)
  have HVX := Lib.hid (fun w => svol_v hvx w)
  have HVY := Lib.hid (fun w => svol_v hvy w)
  have HS := Lib.hid (fun w => lstep_any L L a b x y w h)
  clear h ht hx hy hvx hvy
  unfold SStepIs at HS
  unfold StepIs
  generalize spl b L x = s at *
  generalize mis a b L x y = m at *
  generalize nxt a b L x y = z at *
  have HWF := Lib.hid (two_tk w L a b)
  go_enter Tryd.func27, Tryd.ntmps27
  go_wp2_with (first | (go_at_call 44; refine (HG.out _).mono ?_; rintro e w1 ⟨rfl, hb1⟩; have HT1 := Lib.hid (HWF.out.kept hb1); clear HWF hb1; obtain ⟨c0, c1, c2⟩ := HT1.out.bt.out; refine Hid.out ?_) | fail)
  refine Lib.hid ?_
  go_wp2_with (first | (go_at_call_of 46 (Value.int IntKind.i64 x); refine (HVX.out _).mono ?_; rintro e w2 ⟨rfl, hw⟩; replace hw := hw.symm; subst hw; refine Hid.out ?_) | fail)
  refine Lib.hid ?_
  go_wp2_with (first | (go_at_call_of 46 (Value.int IntKind.i64 y); refine (HVY.out _).mono ?_; rintro e w2 ⟨rfl, hw⟩; replace hw := hw.symm; subst hw; refine Hid.out ?_) | fail)
  refine Lib.hid ?_
  go_wp2_with (first | (go_at_call 47; refine (HS.out _).mono ?_; rintro e w2 ⟨rfl, hb2⟩; have HT2 := Lib.hid (HT1.out.kept hb2); clear HT1 hb2 c0 c1 c2; obtain ⟨c0, c1, c2⟩ := HT2.out.bt.out; obtain ⟨d0, d1, d2⟩ := HT2.out.br.out; obtain ⟨f1, f1a, f1b⟩ := HT2.out.fr.out; refine Hid.out ?_) | fail)
  refine Lib.hid ?_
  go_wp2_with fail
  refine bodyPost_ret (v := .tuple #[tv z a b, .int .i64 s, .int .i64 m, .bool true]) (by simp [results, Tryd.results27, go_sem, d0, d1, d2]) rfl ⟨rfl, ?_⟩
  exact ((HT2.out.bw.setCell (p := ⟨w.heap.size + 1, 0, none⟩) (Nat.le_succ _) _).setCell (p := ⟨w.heap.size + 1, 1, none⟩) (Nat.le_succ _) _).setCell (p := ⟨w.heap.size + 1, 2, none⟩) (Nat.le_succ _) _
set_option maxHeartbeats 2000000 in
theorem sstep_no (L a b x y : Int) (w : World) (h : stB L a b x y = false) :
    Calls Tryd.prog 27 #[tv L a b, .int .i64 x, .int .i64 y] w (StepNo w) := by
  have HG := Lib.hid (fun w => sgood_any L a b w)
  have HVX := Lib.hid (fun w => svol_any x w)
  have HVY := Lib.hid (fun w => svol_any y w)
  unfold stB at h
  unfold StepNo
  have HWF := Lib.hid (two_tk w L a b)
  generalize tkB L a b = v1 at *
  generalize volB x = v2 at *
  generalize volB y = v3 at *
  cases v1
  · clear h
    go_enter Tryd.func27, Tryd.ntmps27
    go_wp2_with (first | (go_at_call 44; refine (HG.out _).mono ?_; rintro e w1 ⟨rfl, hb1⟩; have HT1 := Lib.hid (HWF.out.kept hb1); clear HWF hb1; obtain ⟨c0, c1, c2⟩ := HT1.out.bt.out; refine Hid.out ?_) | fail)
    obtain ⟨d0, d1, d2⟩ := HT1.out.br.out
    obtain ⟨f1, f1a, f1b⟩ := HT1.out.fr.out
    refine Lib.hid ?_
    go_wp2_with fail
    refine bodyPost_ret (v := .tuple #[tv 0 0 0, .int .i64 0, .int .i64 0, .bool false]) (by simp [results, Tryd.results27, go_sem, d0, d1, d2]) rfl ⟨rfl, ?_⟩
    exact ((HT1.out.bw.setCell (p := ⟨w.heap.size + 1, 0, none⟩) (Nat.le_succ _) _).setCell (p := ⟨w.heap.size + 1, 1, none⟩) (Nat.le_succ _) _).setCell (p := ⟨w.heap.size + 1, 2, none⟩) (Nat.le_succ _) _
  · cases v2
    · clear h
      go_enter Tryd.func27, Tryd.ntmps27
      go_wp2_with (first | (go_at_call 44; refine (HG.out _).mono ?_; rintro e w1 ⟨rfl, hb1⟩; have HT1 := Lib.hid (HWF.out.kept hb1); clear HWF hb1; obtain ⟨c0, c1, c2⟩ := HT1.out.bt.out; refine Hid.out ?_) | fail)
      refine Lib.hid ?_
      go_wp2_with (first | (go_at_call 46; refine (HVX.out _).mono ?_; rintro e w2 ⟨rfl, hw⟩; replace hw := hw.symm; subst hw; refine Hid.out ?_) | fail)
      obtain ⟨d0, d1, d2⟩ := HT1.out.br.out
      obtain ⟨f1, f1a, f1b⟩ := HT1.out.fr.out
      refine Lib.hid ?_
      go_wp2_with fail
      refine bodyPost_ret (v := .tuple #[tv 0 0 0, .int .i64 0, .int .i64 0, .bool false]) (by simp [results, Tryd.results27, go_sem, d0, d1, d2]) rfl ⟨rfl, ?_⟩
      exact ((HT1.out.bw.setCell (p := ⟨w.heap.size + 1, 0, none⟩) (Nat.le_succ _) _).setCell (p := ⟨w.heap.size + 1, 1, none⟩) (Nat.le_succ _) _).setCell (p := ⟨w.heap.size + 1, 2, none⟩) (Nat.le_succ _) _
    · cases v3
      · clear h
        go_enter Tryd.func27, Tryd.ntmps27
        go_wp2_with (first | (go_at_call 44; refine (HG.out _).mono ?_; rintro e w1 ⟨rfl, hb1⟩; have HT1 := Lib.hid (HWF.out.kept hb1); clear HWF hb1; obtain ⟨c0, c1, c2⟩ := HT1.out.bt.out; refine Hid.out ?_) | fail)
        refine Lib.hid ?_
        go_wp2_with (first | (go_at_call 46; refine (HVX.out _).mono ?_; rintro e w2 ⟨rfl, hw⟩; replace hw := hw.symm; subst hw; refine Hid.out ?_) | fail)
        refine Lib.hid ?_
        go_wp2_with (first | (go_at_call 46; refine (HVY.out _).mono ?_; rintro e w2 ⟨rfl, hw⟩; replace hw := hw.symm; subst hw; refine Hid.out ?_) | fail)
        obtain ⟨d0, d1, d2⟩ := HT1.out.br.out
        obtain ⟨f1, f1a, f1b⟩ := HT1.out.fr.out
        refine Lib.hid ?_
        go_wp2_with fail
        refine bodyPost_ret (v := .tuple #[tv 0 0 0, .int .i64 0, .int .i64 0, .bool false]) (by simp [results, Tryd.results27, go_sem, d0, d1, d2]) rfl ⟨rfl, ?_⟩
        exact ((HT1.out.bw.setCell (p := ⟨w.heap.size + 1, 0, none⟩) (Nat.le_succ _) _).setCell (p := ⟨w.heap.size + 1, 1, none⟩) (Nat.le_succ _) _).setCell (p := ⟨w.heap.size + 1, 2, none⟩) (Nat.le_succ _) _
      · cases h

set_option maxHeartbeats 4000000 in
theorem sday_any (L a b : Int) (A : Option Addr) (cap : Nat) (xs : List Int) (AU : Option Addr) (cc : Nat) (ys : List Int) (w : World) (hx : IAt w A xs) (hxl : xs.length ≤ 1048576) (hy : IAt w AU ys) (_hyl : ys.length ≤ 1048576) :
    Calls Tryd.prog 34 #[tv L a b, .slice A xs.length cap, .slice AU ys.length cc] w fun e w' => e = .returned (.bool (dayB L a b xs ys)) ∧ Below w.heap.size w w' := by
  unfold dayB
  have HB0 := Lib.hid (alloc_below w (tb 27 L a b))
  have HG := Lib.hid (fun w => sgood_any L a b w)
  obtain ⟨d1, h1⟩ : ∃ d, decide (1 ≤ xs.length ∧ xs.length ≤ 12) = d := ⟨_, rfl⟩
  have HI := Lib.hid (fun w => in_eq (xs.length : Int) 1 12 d1 (by rw [← h1]; exact decide_eq_decide.2 (by omega)) w)
  rw [h1]
  generalize tkB L a b = v1 at *
  cases v1
  · rw [Bool.false_and]
    clear h1
    go_enter Tryd.func34, Tryd.ntmps34
    go_wp2_with (first | (go_at_call 44; refine (HG.out _).mono ?_; rintro e w1 ⟨rfl, hb1⟩; have HB1 := Lib.hid (HB0.out.trans (hb1.mono HB0.out.size)); clear hb1; refine Hid.out ?_) | fail)
    refine Lib.hid ?_
    go_wp2_with fail
    go_ret
    exact ⟨rfl, HB1.out⟩
  · rw [Bool.true_and]
    cases d1
    · rw [Bool.false_and]
      clear h1
      go_enter Tryd.func34, Tryd.ntmps34
      go_wp2_with (first | (go_at_call 44; refine (HG.out _).mono ?_; rintro e w1 ⟨rfl, hb1⟩; have HB1 := Lib.hid (HB0.out.trans (hb1.mono HB0.out.size)); clear hb1; refine Hid.out ?_) | fail)
      refine Lib.hid ?_
      go_wp2_with (first | (go_at_call 51; refine (HI.out _).mono ?_; rintro e w2 ⟨rfl, hw⟩; replace hw := hw.symm; subst hw; refine Hid.out ?_) | fail)
      refine Lib.hid ?_
      go_wp2_with fail
      go_ret
      exact ⟨rfl, HB1.out⟩
    · rw [Bool.true_and]
      obtain ⟨hn1, hn12⟩ := of_decide_eq_true h1
      clear h1
      by_cases he : ys.length = xs.length
      · rw [decide_eq_true he, Bool.true_and]
        have hne : (((ys.length : Int)) != (xs.length : Int)) = false := by simp [he]
        have HX := Lib.hid (fun w' (hb : Below w.heap.size w w') => hx.kept hb (Nat.le_refl _))
        have HY := Lib.hid (fun w' (hb : Below w.heap.size w w') => hy.kept hb (Nat.le_refl _))
        have HE := Lib.hid he
        clear hx hy he hn1
        go_enter Tryd.func34, Tryd.ntmps34
        go_wp2_with (first | (go_at_call 44; refine (HG.out _).mono ?_; rintro e w1 ⟨rfl, hb1⟩; have HB1 := Lib.hid (HB0.out.trans (hb1.mono HB0.out.size)); clear hb1; refine Hid.out ?_) | fail)
        refine Lib.hid ?_
        go_wp2_with (first | (go_at_call 51; refine (HI.out _).mono ?_; rintro e w2 ⟨rfl, hw⟩; replace hw := hw.symm; subst hw; refine Hid.out ?_) | fail)
        refine Lib.hid ?_
        go_wp2_with fail
        go_loopw [7] (fun i wr => ∃ k : Nat, k ≤ xs.length ∧ i = .int .i64 (k : Int) ∧ Hid (∀ j, j < k → volB (xs.getD j 0) = true ∧ volB (ys.getD j 0) = true) ∧ Below w.heap.size w wr) (fun i _ => xs.length - (intOf i).toNat)
        case atStart => exact ⟨0, Nat.zero_le _, rfl, Lib.hid (fun j hj => absurd hj (by omega)), HB1.out⟩
        case round =>
          obtain ⟨k, hk, rfl, hno, hb⟩ := hrel
          have HB := Lib.hid hb
          by_cases hlt : k < xs.length
          · obtain ⟨bb, off, hA, hbl, h0⟩ := (HX.out wr hb).at_ hlt
            obtain ⟨bb2, off2, hA2, hbl2, h02⟩ := (HY.out wr hb).at_ (i := k) (by rw [HE.out]; exact hlt)
            subst hA hA2
            have hk0 : (0 : Int) ≤ (k : Int) := by omega
            have hkn : (k : Int) < (xs.length : Int) := by omega
            have hkm : (k : Int) < (ys.length : Int) := by rw [HE.out]; omega
            have HVX := Lib.hid (fun w => svol_any (xs.getD k 0) w)
            have HVY := Lib.hid (fun w => svol_any (ys.getD k 0) w)
            cases hvx : volB (xs.getD k 0) with
            | false =>
              have HR := Lib.hid (show (volsB xs && volsB ys) = false by rw [vols_no hlt hvx, Bool.false_and])
              rw [hvx] at HVX
              clear hvx hno HX HY
              generalize xs.getD k 0 = x at *
              generalize ys.getD k 0 = y at *
              go_wp2_with (first | (go_at_call 46; refine (HVX.out _).mono ?_; rintro e w2 ⟨rfl, hw⟩; replace hw := hw.symm; subst hw; refine Hid.out ?_) | fail)
              refine Lib.hid ?_
              go_wp2_with fail
              go_ret
              exact ⟨by rw [HR.out]; rfl, HB.out⟩
            | true =>
              cases hvy : volB (ys.getD k 0) with
              | false =>
                have HR := Lib.hid (show (volsB xs && volsB ys) = false by rw [vols_no (l := ys) (by rw [HE.out]; exact hlt) hvy, Bool.and_false])
                rw [hvx] at HVX
                rw [hvy] at HVY
                clear hvx hvy hno HX HY
                generalize xs.getD k 0 = x at *
                generalize ys.getD k 0 = y at *
                go_wp2_with (first | (go_at_call 46; refine (HVX.out _).mono ?_; rintro e w2 ⟨rfl, hw⟩; replace hw := hw.symm; subst hw; refine Hid.out ?_) | fail)
                refine Lib.hid ?_
                go_wp2_with (first | (go_at_call 46; refine (HVY.out _).mono ?_; rintro e w2 ⟨rfl, hw⟩; replace hw := hw.symm; subst hw; refine Hid.out ?_) | fail)
                refine Lib.hid ?_
                go_wp2_with fail
                go_ret
                exact ⟨by rw [HR.out]; rfl, HB.out⟩
              | true =>
                have hno2 : Hid (∀ j, j < k + 1 → volB (xs.getD j 0) = true ∧ volB (ys.getD j 0) = true) := Lib.hid (by
                  intro j hj
                  by_cases e : j = k
                  · subst e; exact ⟨hvx, hvy⟩
                  · exact hno.out j (by omega))
                rw [hvx] at HVX
                rw [hvy] at HVY
                clear hvx hvy hno HX HY
                generalize xs.getD k 0 = x at *
                generalize ys.getD k 0 = y at *
                go_wp2_with (first | (go_at_call 46; refine (HVX.out _).mono ?_; rintro e w2 ⟨rfl, hw⟩; replace hw := hw.symm; subst hw; refine Hid.out ?_) | fail)
                refine Lib.hid ?_
                go_wp2_with (first | (go_at_call 46; refine (HVY.out _).mono ?_; rintro e w2 ⟨rfl, hw⟩; replace hw := hw.symm; subst hw; refine Hid.out ?_) | fail)
                refine Lib.hid ?_
                go_wp2_with fail
                go_roundw
                case rel => exact ⟨k + 1, by omega, by go_num, hno2, HB.out⟩
                case measure => simp [intOf]; omega
          · have HR := Lib.hid (show (volsB xs && volsB ys) = true by rw [vols_mk (fun i hi => (hno.out i (by omega)).1), vols_mk (fun i hi => (hno.out i (by have := HE.out; omega)).2)]; rfl)
            go_wp2_with fail
            go_ret
            exact ⟨by rw [HR.out]; rfl, HB.out⟩
      · rw [decide_eq_false he, Bool.false_and]
        have hne : (((ys.length : Int)) != (xs.length : Int)) = true := by simp; omega
        clear hn1 hn12 he
        go_enter Tryd.func34, Tryd.ntmps34
        go_wp2_with (first | (go_at_call 44; refine (HG.out _).mono ?_; rintro e w1 ⟨rfl, hb1⟩; have HB1 := Lib.hid (HB0.out.trans (hb1.mono HB0.out.size)); clear hb1; refine Hid.out ?_) | fail)
        refine Lib.hid ?_
        go_wp2_with (first | (go_at_call 51; refine (HI.out _).mono ?_; rintro e w2 ⟨rfl, hw⟩; replace hw := hw.symm; subst hw; refine Hid.out ?_) | fail)
        refine Lib.hid ?_
        go_wp2_with fail
        go_ret
        exact ⟨rfl, HB1.out⟩
theorem sday_v {L a b : Int} {xs ys : List Int} {v : Bool} (hv : dayB L a b xs ys = v) (A : Option Addr) (cap : Nat) (AU : Option Addr) (cc : Nat) (w : World) (hx : IAt w A xs) (hxl : xs.length ≤ 1048576) (hy : IAt w AU ys) (hyl : ys.length ≤ 1048576) :
    Calls Tryd.prog 34 #[tv L a b, .slice A xs.length cap, .slice AU ys.length cc] w fun e w' => e = .returned (.bool v) ∧ Below w.heap.size w w' := by
  rw [← hv]; exact sday_any L a b A cap xs AU cc ys w hx hxl hy hyl
end Go.Proofs.YtikppgbipdflbaaDoor.S11
