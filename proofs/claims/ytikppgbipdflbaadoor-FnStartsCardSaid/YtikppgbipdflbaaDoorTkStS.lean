/- Levels that suit, of the model: contracts. Conditions: each theorem's own premises. -/
import Derived.Test.YtikppgbipdflbaaDoorTkSt
namespace Go.Proofs.YtikppgbipdflbaaDoor.S11
open Go.RowKit P11

set_option maxHeartbeats 2000000 in
theorem sst_no (L a b : Int) (A : Option Addr) (cap : Nat) (xs : List Int) (AU : Option Addr) (cc : Nat) (ys : List Int) (w : World) (hx : IAt w A xs) (hxl : xs.length ≤ 1048576) (hy : IAt w AU ys) (hyl : ys.length ≤ 1048576) (h : dayB L a b xs ys = false) :
    Calls Tryd.prog 30 #[tv L a b, .slice A xs.length cap, .slice AU ys.length cc] w (LowPost none w) := by
  have HX := Lib.hid (fun w' (hb : Below w.heap.size w w') => hx.kept hb (Nat.le_refl _))
  have HY := Lib.hid (fun w' (hb : Below w.heap.size w w') => hy.kept hb (Nat.le_refl _))
  have HD := Lib.hid (fun w' (hb : Below w.heap.size w w') => sday_v h A cap AU cc w' (HX.out w' hb) hxl (HY.out w' hb) hyl)
  have HB0 := Lib.hid (alloc_below w (tb 27 L a b))
  have HT0 := Lib.hid (BT.new w 27 L a b)
  clear hx hy h
  go_enter Tryd.func30, Tryd.ntmps30
  go_wp2_with (first | (go_at_call 34; refine (HD.out _ HB0.out).mono ?_; rintro e w1 ⟨rfl, hb1⟩; have HB1 := Lib.hid (HB0.out.trans (hb1.mono HB0.out.size)); have HT1 := Lib.hid (HT0.out.kept hb1); obtain ⟨_, b0, b1, b2⟩ := HT1.out; clear hb1; refine Hid.out ?_) | fail)
  refine Lib.hid ?_
  go_wp2_with fail
  refine bodyPost_ret (v := .tuple #[.int .i64 0, .bool false]) (by simp [results, Tryd.results30, go_sem]) rfl ⟨rfl, HB1.out⟩
set_option maxHeartbeats 4000000 in
theorem sst_yes (L a b : Int) (A : Option Addr) (cap : Nat) (xs : List Int) (AU : Option Addr) (cc : Nat) (ys : List Int) (w : World) (hx : IAt w A xs) (hxl : xs.length ≤ 1048576) (hy : IAt w AU ys) (hyl : ys.length ≤ 1048576) (h : Day L a b xs ys) :
    Calls Tryd.prog 30 #[tv L a b, .slice A xs.length cap, .slice AU ys.length cc] w (LowPost (lowI (stdB a b xs ys) a b) w) := by
  have HX := Lib.hid (fun w' (hb : Below w.heap.size w w') => hx.kept hb (Nat.le_refl _))
  have HY := Lib.hid (fun w' (hb : Below w.heap.size w w') => hy.kept hb (Nat.le_refl _))
  have HD := Lib.hid (fun w' (hb : Below w.heap.size w w') => sday_v (dayB_iff.2 h) A cap AU cc w' (HX.out w' hb) hxl (HY.out w' hb) hyl)
  have HB0 := Lib.hid (alloc_below w (tb 27 L a b))
  have HT0 := Lib.hid (BT.new w 27 L a b)
  have HDay := Lib.hid h
  obtain ⟨a0, a1, a2, a3⟩ := tkB_iff.1 h.tk
  have HOT := Lib.hid (fun l (h1 : a ≤ l) (h2 : l ≤ b) => h.other (L' := l) (tkB_iff.2 (by omega)))
  clear hx hy h
  go_enter Tryd.func30, Tryd.ntmps30
  go_wp2_with (first | (go_at_call 34; refine (HD.out _ HB0.out).mono ?_; rintro e w1 ⟨rfl, hb1⟩; have HB1 := Lib.hid (HB0.out.trans (hb1.mono HB0.out.size)); have HT1 := Lib.hid (HT0.out.kept hb1); obtain ⟨_, b0, b1, b2⟩ := HT1.out; clear hb1; refine Hid.out ?_) | fail)
  refine Lib.hid ?_
  go_wp2_with fail
  go_loopw [8] (fun i wr => ∃ l : Int, i = .int .i64 l ∧ a ≤ l ∧ l ≤ b + 1 ∧ Hid (∀ j, a ≤ j → j < l → stdB a b xs ys j = false) ∧ Hid (BT wr w.heap.size L a b) ∧ Hid (Below w.heap.size w wr)) (fun i _ => (b + 1 - intOf i).toNat)
  case atStart => exact ⟨a, rfl, by omega, by omega, Lib.hid (fun j h1 h2 => absurd h2 (by omega)), HT1, HB1⟩
  case round =>
    clear b0 b1 b2
    obtain ⟨l, rfl, hl0, hl1, hno, hbt, hbw⟩ := hrel
    obtain ⟨_, c0, c1, c2⟩ := hbt.out
    by_cases hlt : l ≤ b
    · have d1 : decide (l ≤ b) = true := decide_eq_true hlt
      have HDl := Lib.hid (HOT.out l hl0 hlt)
      have HA := Lib.hid (fun w' (hb : Below w.heap.size w w') => lafter_any L l a b A cap xs AU cc ys w' (HX.out w' hb) (HY.out w' hb) HDl.out)
      cases hp : stdB a b xs ys l with
      | true =>
        have HLO := Lib.hid (low_some hl0 hlt hno.out hp)
        have hpe : (aft a b xs ys l == l) = true := by rw [← hp]; unfold stdB; rw [Bool.eq_iff_iff]; simp
        clear hp hno
        go_wp2_with (first | (go_at_call 50; refine (HA.out _ hbw.out).mono ?_; rintro e w3 ⟨rfl, hb3⟩; have HT3 := Lib.hid (hbt.out.kept hb3); have HB3 := Lib.hid (hbw.out.trans (hb3.mono hbw.out.size)); clear hb3; refine Hid.out ?_) | fail)
        clear c0 c1 c2
        obtain ⟨_, c0, c1, c2⟩ := HT3.out
        refine Lib.hid ?_
        go_wp2_with fail
        refine bodyPost_ret (v := .tuple #[.int .i64 l, .bool true]) (by simp [results, Tryd.results30, go_sem]) rfl ⟨by rw [HLO.out]; rfl, HB3.out⟩
      | false =>
        have hno2 : Hid (∀ j, a ≤ j → j < l + 1 → stdB a b xs ys j = false) := Lib.hid (by
          intro j h1 h2
          by_cases e : j = l
          · subst e; exact hp
          · exact hno.out j h1 (by omega))
        have hpe : (aft a b xs ys l == l) = false := by rw [← hp]; unfold stdB; rw [Bool.eq_iff_iff]; simp
        clear hp hno
        go_wp2_with (first | (go_at_call 50; refine (HA.out _ hbw.out).mono ?_; rintro e w3 ⟨rfl, hb3⟩; have HT3 := Lib.hid (hbt.out.kept hb3); have HB3 := Lib.hid (hbw.out.trans (hb3.mono hbw.out.size)); clear hb3; refine Hid.out ?_) | fail)
        clear c0 c1 c2
        obtain ⟨_, c0, c1, c2⟩ := HT3.out
        refine Lib.hid ?_
        go_wp2_with fail
        go_roundw
        case rel => exact ⟨l + 1, rfl, by omega, by omega, hno2, HT3, HB3⟩
        case measure => simp [intOf]; omega
    · have d1 : decide (l ≤ b) = false := decide_eq_false hlt
      have HLO := Lib.hid (low_none (p := stdB a b xs ys) (a := a) (b := b) (fun j h1 h2 => hno.out j h1 (by omega)))
      clear hno
      go_wp2_with fail
      refine bodyPost_ret (v := .tuple #[.int .i64 0, .bool false]) (by simp [results, Tryd.results30, go_sem]) rfl ⟨by rw [HLO.out]; rfl, hbw.out⟩
set_option maxHeartbeats 2000000 in
theorem sls_no (L a b : Int) (A : Option Addr) (cap : Nat) (xs : List Int) (AU : Option Addr) (cc : Nat) (ys : List Int) (w : World) (hx : IAt w A xs) (hxl : xs.length ≤ 1048576) (hy : IAt w AU ys) (hyl : ys.length ≤ 1048576) (h : dayB L a b xs ys = false) :
    Calls Tryd.prog 7 #[tv L a b, .slice A xs.length cap, .slice AU ys.length cc] w (LowPost none w) := by
  have HX := Lib.hid (fun w' (hb : Below w.heap.size w w') => hx.kept hb (Nat.le_refl _))
  have HY := Lib.hid (fun w' (hb : Below w.heap.size w w') => hy.kept hb (Nat.le_refl _))
  have HD := Lib.hid (fun w' (hb : Below w.heap.size w w') => sday_v h A cap AU cc w' (HX.out w' hb) hxl (HY.out w' hb) hyl)
  have HB0 := Lib.hid (alloc_below w (tb 27 L a b))
  have HT0 := Lib.hid (BT.new w 27 L a b)
  clear hx hy h
  go_enter Tryd.func7, Tryd.ntmps7
  go_wp2_with (first | (go_at_call 34; refine (HD.out _ HB0.out).mono ?_; rintro e w1 ⟨rfl, hb1⟩; have HB1 := Lib.hid (HB0.out.trans (hb1.mono HB0.out.size)); have HT1 := Lib.hid (HT0.out.kept hb1); obtain ⟨_, b0, b1, b2⟩ := HT1.out; clear hb1; refine Hid.out ?_) | fail)
  refine Lib.hid ?_
  go_wp2_with fail
  refine bodyPost_ret (v := .tuple #[.int .i64 0, .bool false]) (by simp [results, Tryd.results7, go_sem]) rfl ⟨rfl, HB1.out⟩
set_option maxHeartbeats 4000000 in
theorem sls_yes (L a b : Int) (A : Option Addr) (cap : Nat) (xs : List Int) (AU : Option Addr) (cc : Nat) (ys : List Int) (w : World) (hx : IAt w A xs) (hxl : xs.length ≤ 1048576) (hy : IAt w AU ys) (hyl : ys.length ≤ 1048576) (h : Day L a b xs ys) :
    Calls Tryd.prog 7 #[tv L a b, .slice A xs.length cap, .slice AU ys.length cc] w (LowPost (lowI (okSt a b xs ys) a b) w) := by
  have HX := Lib.hid (fun w' (hb : Below w.heap.size w w') => hx.kept hb (Nat.le_refl _))
  have HY := Lib.hid (fun w' (hb : Below w.heap.size w w') => hy.kept hb (Nat.le_refl _))
  have HD := Lib.hid (fun w' (hb : Below w.heap.size w w') => sday_v (dayB_iff.2 h) A cap AU cc w' (HX.out w' hb) hxl (HY.out w' hb) hyl)
  have HB0 := Lib.hid (alloc_below w (tb 27 L a b))
  have HT0 := Lib.hid (BT.new w 27 L a b)
  have HDay := Lib.hid h
  obtain ⟨a0, a1, a2, a3⟩ := tkB_iff.1 h.tk
  have HOT := Lib.hid (fun l (h1 : a ≤ l) (h2 : l ≤ b) => h.other (L' := l) (tkB_iff.2 (by omega)))
  clear hx hy h
  go_enter Tryd.func7, Tryd.ntmps7
  go_wp2_with (first | (go_at_call 34; refine (HD.out _ HB0.out).mono ?_; rintro e w1 ⟨rfl, hb1⟩; have HB1 := Lib.hid (HB0.out.trans (hb1.mono HB0.out.size)); have HT1 := Lib.hid (HT0.out.kept hb1); obtain ⟨_, b0, b1, b2⟩ := HT1.out; clear hb1; refine Hid.out ?_) | fail)
  refine Lib.hid ?_
  go_wp2_with fail
  go_loopw [8] (fun i wr => ∃ l : Int, i = .int .i64 l ∧ a ≤ l ∧ l ≤ b + 1 ∧ Hid (∀ j, a ≤ j → j < l → okSt a b xs ys j = false) ∧ Hid (BT wr w.heap.size L a b) ∧ Hid (Below w.heap.size w wr)) (fun i _ => (b + 1 - intOf i).toNat)
  case atStart => exact ⟨a, rfl, by omega, by omega, Lib.hid (fun j h1 h2 => absurd h2 (by omega)), HT1, HB1⟩
  case round =>
    clear b0 b1 b2
    obtain ⟨l, rfl, hl0, hl1, hno, hbt, hbw⟩ := hrel
    obtain ⟨_, c0, c1, c2⟩ := hbt.out
    by_cases hlt : l ≤ b
    · have d1 : decide (l ≤ b) = true := decide_eq_true hlt
      have HDl := Lib.hid (HOT.out l hl0 hlt)
      have HR := Lib.hid (fun w' (hb : Below w.heap.size w w') => lrun_any L l a b A cap xs AU cc ys w' (HX.out w' hb) (HY.out w' hb) HDl.out)
      cases hp : okSt a b xs ys l with
      | true =>
        have HLO := Lib.hid (low_some hl0 hlt hno.out hp)
        have hpe : (misS a b xs ys l == 0) = true := by rw [← hp]; unfold okSt; rw [Bool.eq_iff_iff]; simp
        clear hp hno
        go_wp2_with (first | (go_at_call 35; refine (HR.out _ hbw.out).mono ?_; rintro e w3 ⟨r1, k1, r2, k2, r3, k3, rfl, hr1, l1, l2, l3, a1', a2', a3', hb3⟩; have HI := Lib.hid a3'; have HT3 := Lib.hid (hbt.out.kept hb3); have HB3 := Lib.hid (hbw.out.trans (hb3.mono hbw.out.size)); clear hb3 a1' a2' a3' hr1; refine Hid.out ?_) | fail)
        clear c0 c1 c2
        obtain ⟨_, c0, c1, c2⟩ := HT3.out
        refine Lib.hid ?_
        go_wp2_with (first | (go_at_call 36; refine (mi_any HDl.out _ _ _ HI.out).mono ?_; rintro e ws ⟨rfl, hw⟩; replace hw := hw.symm; subst hw; refine Hid.out ?_) | fail)
        refine Lib.hid ?_
        go_wp2_with fail
        refine bodyPost_ret (v := .tuple #[.int .i64 l, .bool true]) (by simp [results, Tryd.results7, go_sem]) rfl ⟨by rw [HLO.out]; rfl, HB3.out⟩
      | false =>
        have hno2 : Hid (∀ j, a ≤ j → j < l + 1 → okSt a b xs ys j = false) := Lib.hid (by
          intro j h1 h2
          by_cases e : j = l
          · subst e; exact hp
          · exact hno.out j h1 (by omega))
        have hpe : (misS a b xs ys l == 0) = false := by rw [← hp]; unfold okSt; rw [Bool.eq_iff_iff]; simp
        clear hp hno
        go_wp2_with (first | (go_at_call 35; refine (HR.out _ hbw.out).mono ?_; rintro e w3 ⟨r1, k1, r2, k2, r3, k3, rfl, hr1, l1, l2, l3, a1', a2', a3', hb3⟩; have HI := Lib.hid a3'; have HT3 := Lib.hid (hbt.out.kept hb3); have HB3 := Lib.hid (hbw.out.trans (hb3.mono hbw.out.size)); clear hb3 a1' a2' a3' hr1; refine Hid.out ?_) | fail)
        clear c0 c1 c2
        obtain ⟨_, c0, c1, c2⟩ := HT3.out
        refine Lib.hid ?_
        go_wp2_with (first | (go_at_call 36; refine (mi_any HDl.out _ _ _ HI.out).mono ?_; rintro e ws ⟨rfl, hw⟩; replace hw := hw.symm; subst hw; refine Hid.out ?_) | fail)
        refine Lib.hid ?_
        go_wp2_with fail
        go_roundw
        case rel => exact ⟨l + 1, rfl, by omega, by omega, hno2, HT3, HB3⟩
        case measure => simp [intOf]; omega
    · have d1 : decide (l ≤ b) = false := decide_eq_false hlt
      have HLO := Lib.hid (low_none (p := okSt a b xs ys) (a := a) (b := b) (fun j h1 h2 => hno.out j h1 (by omega)))
      clear hno
      go_wp2_with fail
      refine bodyPost_ret (v := .tuple #[.int .i64 0, .bool false]) (by simp [results, Tryd.results7, go_sem]) rfl ⟨by rw [HLO.out]; rfl, hbw.out⟩
end Go.Proofs.YtikppgbipdflbaaDoor.S11
