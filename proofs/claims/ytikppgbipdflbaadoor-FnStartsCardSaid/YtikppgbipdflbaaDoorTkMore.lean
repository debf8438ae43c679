/- Days of a tank, what the program returns; repeated days and steady levels of both: contracts. Conditions: each theorem's own premises. -/
import Derived.Test.YtikppgbipdflbaaDoorTkMoreS
namespace Go.Proofs.YtikppgbipdflbaaDoor.S11
open Go.RowKit P11

theorem runI_a {w : World} {l : List Int} {s m : Int} {ok : Bool} {e : Ending} {w' : World} (h : RunI w l s m ok e w') : RunA w l s m ok e w' := by
  obtain ⟨g, cap, he, hg, ho, hb⟩ := h
  exact ⟨g, 0, cap, he, hg, ho.iat, hb, (World.ownsRow.lt ho g rfl).2⟩
set_option maxHeartbeats 2000000 in
theorem calm_no (L a b : Int) (A : Option Addr) (cap : Nat) (xs : List Int) (AU : Option Addr) (cc : Nat) (ys : List Int) (w : World) (hx : IAt w A xs) (hxl : xs.length ≤ 1048576) (hy : IAt w AU ys) (hyl : ys.length ≤ 1048576) (h : dayB L a b xs ys = false) :
    Calls Tryd.prog 23 #[tv L a b, .slice A xs.length cap, .slice AU ys.length cc] w (fun e w' => e = .returned (.tuple #[.bool false, .bool false]) ∧ Below w.heap.size w w') := by
  have HX := Lib.hid (fun w' (hb : Below w.heap.size w w') => hx.kept hb (Nat.le_refl _))
  have HY := Lib.hid (fun w' (hb : Below w.heap.size w w') => hy.kept hb (Nat.le_refl _))
  have HR := Lib.hid (fun w' (hb : Below w.heap.size w w') => run_no L a b A cap xs AU cc ys w' (HX.out w' hb) hxl (HY.out w' hb) hyl h)
  have HB0 := Lib.hid (alloc_below w (tb 27 L a b))
  clear hx hy h
  go_enter Tryd.func23, Tryd.ntmps23
  go_wp2_with (first | (go_at_call 16; refine (HR.out _ HB0.out).mono ?_; rintro e w1 ⟨rg, rk, rfl, hr1, ho, hb1⟩; have HB1 := Lib.hid (HB0.out.trans (hb1.mono HB0.out.size)); clear hb1 ho hr1; refine Hid.out ?_) | fail)
  refine Lib.hid ?_
  go_wp2_with fail
  refine bodyPost_ret (v := .tuple #[.bool false, .bool false]) (by simp [results, Tryd.results23, go_sem]) rfl ⟨rfl, HB1.out⟩
set_option maxHeartbeats 4000000 in
theorem calm_yes (L a b : Int) (A : Option Addr) (cap : Nat) (xs : List Int) (AU : Option Addr) (cc : Nat) (ys : List Int) (w : World) (hx : IAt w A xs) (hxl : xs.length ≤ 1048576) (hy : IAt w AU ys) (hyl : ys.length ≤ 1048576) (h : Day L a b xs ys) :
    Calls Tryd.prog 23 #[tv L a b, .slice A xs.length cap, .slice AU ys.length cc] w (fun e w' => e = .returned (.tuple #[.bool (calmB L a b xs ys), .bool true]) ∧ Below w.heap.size w w') := by
  have HX := Lib.hid (fun w' (hb : Below w.heap.size w w') => hx.kept hb (Nat.le_refl _))
  have HY := Lib.hid (fun w' (hb : Below w.heap.size w w') => hy.kept hb (Nat.le_refl _))
  have HR := Lib.hid (fun w' (hb : Below w.heap.size w w') => run_yes L a b A cap xs AU cc ys w' (HX.out w' hb) hxl (HY.out w' hb) hyl h)
  have HB0 := Lib.hid (alloc_below w (tb 27 L a b))
  have HDay := Lib.hid h
  have hsb := h.spS (Nat.le_refl _)
  have hmb := h.miS (Nat.le_refl _)
  have hsb0 : 0 ≤ spiS a b xs ys L := hsb.1
  have hsb1 : spiS a b xs ys L ≤ 1920 := hsb.2
  have hmb0 : 0 ≤ misS a b xs ys L := hmb.1
  have hmb1 : misS a b xs ys L ≤ 1920 := hmb.2
  clear hsb hmb
  clear hx hy h
  unfold calmB
  by_cases h1 : spiS a b xs ys L = 0
  · have e1 : (spiS a b xs ys L == 0) = true := by simp [h1]
    by_cases h2 : misS a b xs ys L = 0
    · have e2 : (misS a b xs ys L == 0) = true := by simp [h2]
      rw [decide_eq_true ⟨h1, h2⟩]
      clear h1 h2
      go_enter Tryd.func23, Tryd.ntmps23
      go_wp2_with (first | (go_at_call 16; refine (HR.out _ HB0.out).mono ?_; rintro e w1 ⟨rg, rk, rfl, hr1, ho, hb1⟩; have HB1 := Lib.hid (HB0.out.trans (hb1.mono HB0.out.size)); clear hb1 ho hr1; refine Hid.out ?_) | fail)
      refine Lib.hid ?_
      go_wp2_with fail
      refine bodyPost_ret (v := .tuple #[.bool true, .bool true]) (by simp [results, Tryd.results23, go_sem]) rfl ⟨rfl, HB1.out⟩
    · have e2 : (misS a b xs ys L == 0) = false := by simp [h2]
      rw [decide_eq_false (fun h => h2 h.2)]
      clear h1 h2
      go_enter Tryd.func23, Tryd.ntmps23
      go_wp2_with (first | (go_at_call 16; refine (HR.out _ HB0.out).mono ?_; rintro e w1 ⟨rg, rk, rfl, hr1, ho, hb1⟩; have HB1 := Lib.hid (HB0.out.trans (hb1.mono HB0.out.size)); clear hb1 ho hr1; refine Hid.out ?_) | fail)
      refine Lib.hid ?_
      go_wp2_with fail
      refine bodyPost_ret (v := .tuple #[.bool false, .bool true]) (by simp [results, Tryd.results23, go_sem]) rfl ⟨rfl, HB1.out⟩
  · have e1 : (spiS a b xs ys L == 0) = false := by simp [h1]
    rw [decide_eq_false (fun h => h1 h.1)]
    clear h1
    go_enter Tryd.func23, Tryd.ntmps23
    go_wp2_with (first | (go_at_call 16; refine (HR.out _ HB0.out).mono ?_; rintro e w1 ⟨rg, rk, rfl, hr1, ho, hb1⟩; have HB1 := Lib.hid (HB0.out.trans (hb1.mono HB0.out.size)); clear hb1 ho hr1; refine Hid.out ?_) | fail)
    refine Lib.hid ?_
    go_wp2_with fail
    refine bodyPost_ret (v := .tuple #[.bool false, .bool true]) (by simp [results, Tryd.results23, go_sem]) rfl ⟨rfl, HB1.out⟩
set_option maxHeartbeats 2000000 in
theorem wat_no (L a b : Int) (A : Option Addr) (cap : Nat) (xs : List Int) (AU : Option Addr) (cc : Nat) (ys : List Int) (w : World) (hx : IAt w A xs) (hxl : xs.length ≤ 1048576) (hy : IAt w AU ys) (hyl : ys.length ≤ 1048576) (h : dayB L a b xs ys = false) :
    Calls Tryd.prog 21 #[tv L a b, .slice A xs.length cap, .slice AU ys.length cc] w (fun e w' => e = .returned (.tuple #[.int .i64 0, .bool false]) ∧ Below w.heap.size w w') := by
  have HX := Lib.hid (fun w' (hb : Below w.heap.size w w') => hx.kept hb (Nat.le_refl _))
  have HY := Lib.hid (fun w' (hb : Below w.heap.size w w') => hy.kept hb (Nat.le_refl _))
  have HR := Lib.hid (fun w' (hb : Below w.heap.size w w') => run_no L a b A cap xs AU cc ys w' (HX.out w' hb) hxl (HY.out w' hb) hyl h)
  have HB0 := Lib.hid (alloc_below w (tb 27 L a b))
  clear hx hy h
  go_enter Tryd.func21, Tryd.ntmps21
  go_wp2_with (first | (go_at_call 16; refine (HR.out _ HB0.out).mono ?_; rintro e w1 ⟨rg, rk, rfl, hr1, ho, hb1⟩; have HB1 := Lib.hid (HB0.out.trans (hb1.mono HB0.out.size)); clear hb1 ho hr1; refine Hid.out ?_) | fail)
  refine Lib.hid ?_
  go_wp2_with fail
  refine bodyPost_ret (v := .tuple #[.int .i64 0, .bool false]) (by simp [results, Tryd.results21, go_sem]) rfl ⟨rfl, HB1.out⟩
set_option maxHeartbeats 4000000 in
theorem wat_yes (L a b : Int) (A : Option Addr) (cap : Nat) (xs : List Int) (AU : Option Addr) (cc : Nat) (ys : List Int) (w : World) (hx : IAt w A xs) (hxl : xs.length ≤ 1048576) (hy : IAt w AU ys) (hyl : ys.length ≤ 1048576) (h : Day L a b xs ys) :
    Calls Tryd.prog 21 #[tv L a b, .slice A xs.length cap, .slice AU ys.length cc] w (fun e w' => e = .returned (.tuple #[.int .i64 (outS ys - misS a b xs ys L), .bool true]) ∧ Below w.heap.size w w') := by
  have HX := Lib.hid (fun w' (hb : Below w.heap.size w w') => hx.kept hb (Nat.le_refl _))
  have HY := Lib.hid (fun w' (hb : Below w.heap.size w w') => hy.kept hb (Nat.le_refl _))
  have HR := Lib.hid (fun w' (hb : Below w.heap.size w w') => run_yes L a b A cap xs AU cc ys w' (HX.out w' hb) hxl (HY.out w' hb) hyl h)
  have HB0 := Lib.hid (alloc_below w (tb 27 L a b))
  have HDay := Lib.hid h
  have hsb := h.spS (Nat.le_refl _)
  have hmb := h.miS (Nat.le_refl _)
  have hsb0 : 0 ≤ spiS a b xs ys L := hsb.1
  have hsb1 : spiS a b xs ys L ≤ 1920 := hsb.2
  have hmb0 : 0 ≤ misS a b xs ys L := hmb.1
  have hmb1 : misS a b xs ys L ≤ 1920 := hmb.2
  clear hsb hmb
  have HVS := Lib.hid (show ∀ k, k ≤ ys.length → 0 ≤ sumF (vl ys) k ∧ sumF (vl ys) k ≤ 1300 from fun k hk => vol_sum h.yv (by have := h.n1; have := h.eq; omega) hk)
  have hyn := h.n1
  clear hx hy h
  go_enter Tryd.func21, Tryd.ntmps21
  go_wp2_with (first | (go_at_call 16; refine (HR.out _ HB0.out).mono ?_; rintro e w1 ⟨rg, rk, rfl, hr1, ho, hb1⟩; have HB1 := Lib.hid (HB0.out.trans (hb1.mono HB0.out.size)); clear hb1 ho hr1; refine Hid.out ?_) | fail)
  refine Lib.hid ?_
  go_wp2_with fail
  go_loopw [30, 12] (fun i s wr => ∃ k : Nat, k ≤ ys.length ∧ i = .int .i64 (k : Int) ∧ s = .int .i64 (-misS a b xs ys L + sumF (vl ys) k) ∧ wr = w1) (fun i _ _ => ys.length - (intOf i).toNat)
  case atStart => exact ⟨0, Nat.zero_le _, rfl, by simp [sumF], by first | rfl | trivial⟩
  case round =>
    obtain ⟨k, hk, rfl, rfl, hw⟩ := hrel
    subst hw
    have hs := HVS.out k hk
    by_cases hlt : k < ys.length
    · obtain ⟨bb, off, hA, hbl, h0⟩ := (HY.out _ HB1.out).at_ hlt
      subst hA
      have hk0 : (0 : Int) ≤ (k : Int) := by omega
      have hkn : (k : Int) < (ys.length : Int) := by omega
      have hy := vols_at HDay.out.yv hlt
      have hsn := Lib.hid (show sumF (vl ys) (k + 1) = sumF (vl ys) k + ys.getD k 0 from rfl)
      generalize ys.getD k 0 = y at *
      generalize sumF (vl ys) k = s at *
      generalize misS a b xs ys L = m at *
      go_wp2_with fail
      go_roundw
      case rel => exact ⟨k + 1, by omega, by go_num, by rw [hsn.out]; congr 1; omega, by first | rfl | trivial⟩
      case measure => simp [intOf]; omega
    · have hkk : k = ys.length := by omega
      have hf := Lib.hid (show -misS a b xs ys L + sumF (vl ys) k = outS ys - misS a b xs ys L by rw [hkk]; unfold outS; omega)
      rw [hf.out]
      clear hkk hf
      go_wp2_with fail
      refine bodyPost_ret (v := .tuple #[.int .i64 (outS ys - misS a b xs ys L), .bool true]) (by simp [results, Tryd.results21, go_sem]) rfl ⟨rfl, HB1.out⟩
/-- Repeated days. -/
def repB (L a b : Int) (xs ys : List Int) (d : Int) : Bool := dayB L a b xs ys && decide (0 ≤ d ∧ d ≤ 20)
set_option maxHeartbeats 2000000 in
theorem rep_no (L a b : Int) (A : Option Addr) (cap : Nat) (xs : List Int) (AU : Option Addr) (cc : Nat) (ys : List Int) (d : Int) (w : World) (hx : IAt w A xs) (hxl : xs.length ≤ 1048576) (hy : IAt w AU ys) (hyl : ys.length ≤ 1048576) (h : repB L a b xs ys d = false) :
    Calls Tryd.prog 22 #[tv L a b, .slice A xs.length cap, .slice AU ys.length cc, .int .i64 d] w (fun e w' => e = .returned (.tuple #[tv 0 0 0, .bool false]) ∧ Below w.heap.size w w') := by
  have HX := Lib.hid (fun w' (hb : Below w.heap.size w w') => hx.kept hb (Nat.le_refl _))
  have HY := Lib.hid (fun w' (hb : Below w.heap.size w w') => hy.kept hb (Nat.le_refl _))
  have HD := Lib.hid (fun w' (hb : Below w.heap.size w w') => day_any L a b A cap xs AU cc ys w' (HX.out w' hb) hxl (HY.out w' hb) hyl)
  have HT0 := Lib.hid (two_tk w L a b)
  clear hx hy
  unfold repB at h
  generalize dayB L a b xs ys = v at *
  cases v
  · clear h
    go_enter Tryd.func22, Tryd.ntmps22
    go_wp2_with (first | (go_at_call 43; refine (HD.out _ HT0.out.bw).mono ?_; rintro e w1 ⟨rfl, hb1⟩; have HT1 := Lib.hid (HT0.out.kept hb1); clear hb1; refine Hid.out ?_) | fail)
    obtain ⟨_, d0, d1, d2⟩ := HT1.out.br
    obtain ⟨f0, f1, f2⟩ := HT1.out.fr.out
    refine Lib.hid ?_
    go_wp2_with fail
    refine bodyPost_ret (v := .tuple #[tv 0 0 0, .bool false]) (by simp [results, Tryd.results22, go_sem, d0, d1, d2]) rfl ⟨rfl, put_below HT1.out.bw (Nat.le_succ _) _ _ _⟩
  · rw [Bool.true_and] at h
    have h2 := of_decide_eq_false h
    by_cases h3 : d < 0
    · have e1 : decide (d < 0) = true := decide_eq_true h3
      clear h h2 h3
      go_enter Tryd.func22, Tryd.ntmps22
      go_wp2_with (first | (go_at_call 43; refine (HD.out _ HT0.out.bw).mono ?_; rintro e w1 ⟨rfl, hb1⟩; have HT1 := Lib.hid (HT0.out.kept hb1); clear hb1; refine Hid.out ?_) | fail)
      obtain ⟨_, d0, d1, d2⟩ := HT1.out.br
      obtain ⟨f0, f1, f2⟩ := HT1.out.fr.out
      refine Lib.hid ?_
      go_wp2_with fail
      refine bodyPost_ret (v := .tuple #[tv 0 0 0, .bool false]) (by simp [results, Tryd.results22, go_sem, d0, d1, d2]) rfl ⟨rfl, put_below HT1.out.bw (Nat.le_succ _) _ _ _⟩
    · have e1 : decide (d < 0) = false := decide_eq_false h3
      have e2 : decide (d > 20) = true := decide_eq_true (by omega)
      have e3 : decide (20 < d) = true := decide_eq_true (by omega)
      clear h h2 h3
      go_enter Tryd.func22, Tryd.ntmps22
      go_wp2_with (first | (go_at_call 43; refine (HD.out _ HT0.out.bw).mono ?_; rintro e w1 ⟨rfl, hb1⟩; have HT1 := Lib.hid (HT0.out.kept hb1); clear hb1; refine Hid.out ?_) | fail)
      obtain ⟨_, d0, d1, d2⟩ := HT1.out.br
      obtain ⟨f0, f1, f2⟩ := HT1.out.fr.out
      refine Lib.hid ?_
      go_wp2_with fail
      refine bodyPost_ret (v := .tuple #[tv 0 0 0, .bool false]) (by simp [results, Tryd.results22, go_sem, d0, d1, d2]) rfl ⟨rfl, put_below HT1.out.bw (Nat.le_succ _) _ _ _⟩
set_option maxHeartbeats 2000000 in
theorem srep_no (L a b : Int) (A : Option Addr) (cap : Nat) (xs : List Int) (AU : Option Addr) (cc : Nat) (ys : List Int) (d : Int) (w : World) (hx : IAt w A xs) (hxl : xs.length ≤ 1048576) (hy : IAt w AU ys) (hyl : ys.length ≤ 1048576) (h : repB L a b xs ys d = false) :
    Calls Tryd.prog 32 #[tv L a b, .slice A xs.length cap, .slice AU ys.length cc, .int .i64 d] w (fun e w' => e = .returned (.tuple #[tv 0 0 0, .bool false]) ∧ Below w.heap.size w w') := by
  have HX := Lib.hid (fun w' (hb : Below w.heap.size w w') => hx.kept hb (Nat.le_refl _))
  have HY := Lib.hid (fun w' (hb : Below w.heap.size w w') => hy.kept hb (Nat.le_refl _))
  have HD := Lib.hid (fun w' (hb : Below w.heap.size w w') => sday_any L a b A cap xs AU cc ys w' (HX.out w' hb) hxl (HY.out w' hb) hyl)
  have HT0 := Lib.hid (two_tk w L a b)
  clear hx hy
  unfold repB at h
  generalize dayB L a b xs ys = v at *
  cases v
  · clear h
    go_enter Tryd.func32, Tryd.ntmps32
    go_wp2_with (first | (go_at_call 34; refine (HD.out _ HT0.out.bw).mono ?_; rintro e w1 ⟨rfl, hb1⟩; have HT1 := Lib.hid (HT0.out.kept hb1); clear hb1; refine Hid.out ?_) | fail)
    obtain ⟨_, d0, d1, d2⟩ := HT1.out.br
    obtain ⟨f0, f1, f2⟩ := HT1.out.fr.out
    refine Lib.hid ?_
    go_wp2_with fail
    refine bodyPost_ret (v := .tuple #[tv 0 0 0, .bool false]) (by simp [results, Tryd.results32, go_sem, d0, d1, d2]) rfl ⟨rfl, put_below HT1.out.bw (Nat.le_succ _) _ _ _⟩
  · rw [Bool.true_and] at h
    have HI := Lib.hid (fun w => in_eq d 0 20 false h w)
    clear h
    go_enter Tryd.func32, Tryd.ntmps32
    go_wp2_with (first | (go_at_call 34; refine (HD.out _ HT0.out.bw).mono ?_; rintro e w1 ⟨rfl, hb1⟩; have HT1 := Lib.hid (HT0.out.kept hb1); clear hb1; refine Hid.out ?_) | fail)
    refine Lib.hid ?_
    go_wp2_with (first | (go_at_call 51; refine (HI.out _).mono ?_; rintro e w2 ⟨rfl, hw⟩; replace hw := hw.symm; subst hw; refine Hid.out ?_) | fail)
    obtain ⟨_, d0, d1, d2⟩ := HT1.out.br
    obtain ⟨f0, f1, f2⟩ := HT1.out.fr.out
    refine Lib.hid ?_
    go_wp2_with fail
    refine bodyPost_ret (v := .tuple #[tv 0 0 0, .bool false]) (by simp [results, Tryd.results32, go_sem, d0, d1, d2]) rfl ⟨rfl, put_below HT1.out.bw (Nat.le_succ _) _ _ _⟩
set_option maxHeartbeats 4000000 in
theorem srep_yes (L a b : Int) (A : Option Addr) (cap : Nat) (xs : List Int) (AU : Option Addr) (cc : Nat) (ys : List Int) (d : Int) (w : World) (hx : IAt w A xs) (hxl : xs.length ≤ 1048576) (hy : IAt w AU ys) (hyl : ys.length ≤ 1048576) (h : Day L a b xs ys) (hd0 : 0 ≤ d) (hd1 : d ≤ 20) :
    Calls Tryd.prog 32 #[tv L a b, .slice A xs.length cap, .slice AU ys.length cc, .int .i64 d] w (fun e w' => e = .returned (.tuple #[tv (P11.rep a b xs ys L d.toNat) a b, .bool true]) ∧ Below w.heap.size w w') := by
  have HX := Lib.hid (fun w' (hb : Below w.heap.size w w') => hx.kept hb (Nat.le_refl _))
  have HY := Lib.hid (fun w' (hb : Below w.heap.size w w') => hy.kept hb (Nat.le_refl _))
  have HD := Lib.hid (fun w' (hb : Below w.heap.size w w') => sday_v (dayB_iff.2 h) A cap AU cc w' (HX.out w' hb) hxl (HY.out w' hb) hyl)
  have HI := Lib.hid (fun w => in_eq d 0 20 true (decide_eq_true ⟨hd0, hd1⟩) w)
  have HA := Lib.hid (fun k w' (hb : Below w.heap.size w w') => lafter_any L (P11.rep a b xs ys L k) a b A cap xs AU cc ys w' (HX.out w' hb) (HY.out w' hb) (h.rep k))
  obtain ⟨n, hn⟩ : ∃ n : Nat, d = (n : Int) := ⟨d.toNat, by omega⟩
  subst hn
  rw [show ((n : Int)).toNat = n by omega]
  have HT0 := Lib.hid (two_tk w L a b)
  clear hx hy h hd0
  go_enter Tryd.func32, Tryd.ntmps32
  go_wp2_with (first | (go_at_call 34; refine (HD.out _ HT0.out.bw).mono ?_; rintro e w1 ⟨rfl, hb1⟩; have HT1 := Lib.hid (HT0.out.kept hb1); clear hb1; refine Hid.out ?_) | fail)
  refine Lib.hid ?_
  go_wp2_with (first | (go_at_call 51; refine (HI.out _).mono ?_; rintro e w2 ⟨rfl, hw⟩; replace hw := hw.symm; subst hw; refine Hid.out ?_) | fail)
  obtain ⟨_, c0, c1, c2⟩ := HT1.out.bt
  refine Lib.hid ?_
  go_wp2_with fail
  go_loopw [11, 10] (fun i l wr => ∃ k : Nat, k ≤ n ∧ i = .int .i64 (k : Int) ∧ l = .int .i64 (P11.rep a b xs ys L k) ∧ Hid (TwoT w wr L a b)) (fun i _ _ => n - (intOf i).toNat)
  case atStart => exact ⟨0, Nat.zero_le _, rfl, rfl, HT1⟩
  case round =>
    clear c0 c1 c2
    obtain ⟨k, hk, rfl, rfl, ht⟩ := hrel
    obtain ⟨_, c0, c1, c2⟩ := ht.out.bt
    by_cases hlt : k < n
    · have hkn : (k : Int) < (n : Int) := by omega
      have HA2 := Lib.hid (show ∀ w', Below w.heap.size w w' → Calls Tryd.prog 50 #[tv L a b, .int .i64 (P11.rep a b xs ys L k), .slice A xs.length cap, .slice AU ys.length cc] w' fun e w'' => e = .returned (.int .i64 (P11.rep a b xs ys L (k + 1))) ∧ Below w'.heap.size w' w'' from fun w' hb => HA.out k w' hb)
      clear HA
      go_wp2_with (first | (go_at_call 50; refine (HA2.out _ ht.out.bw).mono ?_; rintro e w3 ⟨rfl, hb3⟩; have HT3 := Lib.hid (ht.out.kept hb3); clear hb3; refine Hid.out ?_) | fail)
      refine Lib.hid ?_
      go_wp2_with fail
      go_roundw
      case rel => exact ⟨k + 1, by omega, by go_num, rfl, HT3⟩
      case measure => simp [intOf]; omega
    · have e : k = n := by omega
      subst e
      obtain ⟨_, d0, d1, d2⟩ := ht.out.br
      obtain ⟨f0, f1, f2⟩ := ht.out.fr.out
      go_wp2_with fail
      refine bodyPost_ret (v := .tuple #[tv (P11.rep a b xs ys L k) a b, .bool true]) (by simp [results, Tryd.results32, go_sem, d0, d1, d2]) rfl ⟨rfl, put_below ht.out.bw (Nat.le_succ _) _ _ _⟩
theorem TwoT.lev {w w' : World} {L a b : Int} (h : TwoT w w' L a b) (z : Int) : TwoT w (w'.setCell ⟨w.heap.size, 0, none⟩ (.int .i64 z)) z a b := by
  obtain ⟨h0, c0, c1, c2⟩ := h.bt
  refine ⟨⟨by simpa using h0, by simp [go_sem, c0], by simp [go_sem, c1], by simp [go_sem, c2]⟩, h.br.set_far 0 _ (by omega), h.ft.set _ _, h.fr.set _ _, h.bw.setCell (p := ⟨w.heap.size, 0, none⟩) (Nat.le_refl _) _⟩
set_option maxHeartbeats 4000000 in
theorem rep_yes (L a b : Int) (A : Option Addr) (cap : Nat) (xs : List Int) (AU : Option Addr) (cc : Nat) (ys : List Int) (d : Int) (w : World) (hx : IAt w A xs) (hxl : xs.length ≤ 1048576) (hy : IAt w AU ys) (hyl : ys.length ≤ 1048576) (h : Day L a b xs ys) (hd0 : 0 ≤ d) (hd1 : d ≤ 20) :
    Calls Tryd.prog 22 #[tv L a b, .slice A xs.length cap, .slice AU ys.length cc, .int .i64 d] w (fun e w' => e = .returned (.tuple #[tv (P11.rep a b xs ys L d.toNat) a b, .bool true]) ∧ Below w.heap.size w w') := by
  have HX := Lib.hid (fun w' (hb : Below w.heap.size w w') => hx.kept hb (Nat.le_refl _))
  have HY := Lib.hid (fun w' (hb : Below w.heap.size w w') => hy.kept hb (Nat.le_refl _))
  have HD := Lib.hid (fun w' (hb : Below w.heap.size w w') => day_v (dayB_iff.2 h) A cap AU cc w' (HX.out w' hb) hxl (HY.out w' hb) hyl)
  have e1 : decide (d < 0) = false := decide_eq_false (by omega)
  have e2 : decide (20 < d) = false := decide_eq_false (by omega)
  have HA := Lib.hid (fun k w' (hb : Below w.heap.size w w') => run_yes (P11.rep a b xs ys L k) a b A cap xs AU cc ys w' (HX.out w' hb) hxl (HY.out w' hb) hyl (h.rep k))
  obtain ⟨n, hn⟩ : ∃ n : Nat, d = (n : Int) := ⟨d.toNat, by omega⟩
  subst hn
  rw [show ((n : Int)).toNat = n by omega]
  have hx0 := h.n0
  have hx12 := h.n1
  have HT0 := Lib.hid (two_tk w L a b)
  clear hx hy h hd0
  go_enter Tryd.func22, Tryd.ntmps22
  go_wp2_with (first | (go_at_call 43; refine (HD.out _ HT0.out.bw).mono ?_; rintro e w1 ⟨rfl, hb1⟩; have HT1 := Lib.hid (HT0.out.kept hb1); clear hb1; refine Hid.out ?_) | fail)
  refine Lib.hid ?_
  go_wp2_with fail
  go_loopw [29] (fun i wr => ∃ k : Nat, k ≤ n ∧ i = .int .i64 (k : Int) ∧ Hid (TwoT w wr (P11.rep a b xs ys L k) a b)) (fun i _ => n - (intOf i).toNat)
  case atStart => exact ⟨0, Nat.zero_le _, rfl, HT1⟩
  case round =>
    obtain ⟨k, hk, rfl, ht⟩ := hrel
    by_cases hlt : k < n
    · obtain ⟨_, c0, c1, c2⟩ := ht.out.bt
      have hkn : (k : Int) < (n : Int) := by omega
      have HLEN := Lib.hid (levL_len a b (P11.rep a b xs ys L k) xs ys xs.length)
      have HLAST := Lib.hid (show (levL a b (P11.rep a b xs ys L k) xs ys xs.length).getD (xs.length - 1) 0 = P11.rep a b xs ys L (k + 1) by
        rw [levL_at a b _ xs ys (by omega)]
        show lev a b (P11.rep a b xs ys L k) xs ys (xs.length - 1 + 1) = lev a b (P11.rep a b xs ys L k) xs ys xs.length
        rw [show xs.length - 1 + 1 = xs.length by omega])
      obtain ⟨z, hz⟩ : ∃ z, P11.rep a b xs ys L (k + 1) = z := ⟨_, rfl⟩
      rw [hz] at HLAST
      have HZ := Lib.hid hz
      clear hz
      go_wp2_with (first | (go_at_call 16; refine (HA.out k _ ht.out.bw).mono ?_; rintro e w3 ⟨rg, rk, rfl, hr1, ho, hb3⟩; have HT3 := Lib.hid (ht.out.kept hb3); have HI := Lib.hid ho.iat; clear hb3 ho hr1; refine Hid.out ?_) | fail)
      obtain ⟨bb, off, hA, hbl, h0⟩ := HI.out.at_ (i := xs.length - 1) (by rw [HLEN.out]; omega)
      injection hA with hA
      injection hA with q1 q2 _
      subst q1 q2
      rw [HLAST.out, Nat.zero_add] at h0
      rw [HLEN.out]
      clear HI HLEN HLAST c0 c1 c2
      obtain ⟨_, c0, c1, c2⟩ := HT3.out.bt
      obtain ⟨f0, _, _⟩ := HT3.out.ft.out
      have hcast : (xs.length : Int) - 1 = ((xs.length - 1 : Nat) : Int) := by omega
      have hml : ((xs.length - 1 : Nat) : Int) < (xs.length : Int) := by omega
      have hmg : (0 : Int) ≤ ((xs.length - 1 : Nat) : Int) := by omega
      refine Lib.hid ?_
      go_wp2_with fail
      have HT4 := Lib.hid (HT3.out.lev z)
      go_roundw
      case rel => exact ⟨k + 1, by omega, by go_num, by rw [HZ.out]; exact HT4⟩
      case measure => simp [intOf]; omega
    · have e : k = n := by omega
      subst e
      obtain ⟨_, c0, c1, c2⟩ := ht.out.bt
      obtain ⟨_, d0, d1, d2⟩ := ht.out.br
      obtain ⟨f0, f1, f2⟩ := ht.out.fr.out
      go_wp2_with fail
      refine bodyPost_ret (v := .tuple #[tv (P11.rep a b xs ys L k) a b, .bool true]) (by simp [results, Tryd.results22, go_sem, d0, d1, d2]) rfl ⟨rfl, put_below ht.out.bw (Nat.le_succ _) _ _ _⟩
end Go.Proofs.YtikppgbipdflbaaDoor.S11
