/- The first hour in which something is missing, of the program and the model: contracts. Conditions: each theorem's own premises. -/
import Derived.Test.YtikppgbipdflbaaDoorTkLs
import Derived.Test.YtikppgbipdflbaaDoorTkAs
namespace Go.Proofs.YtikppgbipdflbaaDoor.S11
open Go.RowKit P11

def FmPost (o : Option Nat) (w : World) (e : Ending) (w' : World) : Prop := e = .returned (.tuple #[.int .i64 ((o.getD 0 : Nat) : Int), .bool o.isSome]) ∧ Below w.heap.size w w'
theorem four_below (w : World) (o1 o2 o3 o4 : Obj) : Below w.heap.size w ((((w.alloc o1).alloc o2).alloc o3).alloc o4) := ((two_below w o1 o2).trans ((alloc_below _ o3).mono (by simp; omega))).trans ((alloc_below _ o4).mono (by simp; omega))
theorem fm_boxes (w : World) (L a b : Int) : (BT ((w.alloc (tb 27 L a b)).alloc (.cells #[.int .i64 0] 58)) w.heap.size L a b) ∧ ((w.alloc (tb 27 L a b)).alloc (.cells #[.int .i64 0] 58)).cell? ⟨w.heap.size + 1, 0, none⟩ = some (.int .i64 0) ∧ FZ ((w.alloc (tb 27 L a b)).alloc (.cells #[.int .i64 0] 58)) (w.heap.size + 1) ∧ ((w.alloc (tb 27 L a b)).alloc (.cells #[.int .i64 0] 58)).heap.size = w.heap.size + 2 := by
  have z1 : (w.alloc (tb 27 L a b)).heap.size = w.heap.size + 1 := by simp
  have h1 := CS.new (w.alloc (tb 27 L a b)) (.int .i64 0) 58
  have h2 := FZ.new (w.alloc (tb 27 L a b)) #[.int .i64 0] 58
  rw [z1] at h1 h2
  exact ⟨(BT.new w _ L a b).kept (alloc_below _ _), h1.2, h2, by simp⟩
set_option maxHeartbeats 4000000 in
theorem fm_no (L a b : Int) (A : Option Addr) (cap : Nat) (xs : List Int) (AU : Option Addr) (cc : Nat) (ys : List Int) (ea : Addr) (w : World) (hE : Er w (noV ea)) (hT : Et w) (hx : IAt w A xs) (hxl : xs.length ≤ 1048576) (hy : IAt w AU ys) (hyl : ys.length ≤ 1048576) (h : dayB L a b xs ys = false) :
    Calls Tryd.prog 13 #[tv L a b, .slice A xs.length cap, .slice AU ys.length cc] w (FmPost none w) := by
  have HS := Lib.hid (fun w' (hb : Below w.heap.size w w') => sup_no L a b A cap xs AU cc ys (noV ea) w' (hE.kept hb) (hx.kept hb (Nat.le_refl _)) hxl (hy.kept hb (Nat.le_refl _)) hyl h)
  have HB0 := Lib.hid (two_below w (tb 27 L a b) (.cells #[.int .i64 0] 58))
  have HM := Lib.hid (fun w' (hb : Below w.heap.size w w') => as_miss ea (w.heap.size + 1) w' (hT.kept hb))
  clear hx hy h hE hT
  go_enter Tryd.func13, Tryd.ntmps13
  go_wp2_with (first | (go_at_call 39; refine (HS.out _ HB0.out).mono ?_; rintro e w1 ⟨rfl, hb1⟩; have HB1 := Lib.hid (HB0.out.trans (hb1.mono HB0.out.size)); clear hb1; refine Hid.out ?_) | fail)
  refine Lib.hid ?_
  go_wp2_with (first | (go_at_call 40; refine (HM.out _ HB1.out).mono ?_; rintro e w2 ⟨rfl, hw2⟩; have HB2 := Lib.hid (show Below w.heap.size w w2 by rw [hw2]; exact HB1.out.trans (((two_below w1 _ _).trans ((alloc_below _ _).mono (by simp; omega))).mono HB1.out.size)); clear hw2; refine Hid.out ?_) | fail)
  refine Lib.hid ?_
  go_wp2_with fail
  refine bodyPost_ret (v := .tuple #[.int .i64 0, .bool false]) (by simp [results, Tryd.results13, go_sem]) rfl ⟨rfl, HB2.out⟩
set_option maxHeartbeats 4000000 in
theorem fm_none (L a b : Int) (A : Option Addr) (cap : Nat) (xs : List Int) (AU : Option Addr) (cc : Nat) (ys : List Int) (w : World) (hx : IAt w A xs) (hxl : xs.length ≤ 1048576) (hy : IAt w AU ys) (hyl : ys.length ≤ 1048576) (h : Day L a b xs ys) (hf : firM a b xs ys L = none) :
    Calls Tryd.prog 13 #[tv L a b, .slice A xs.length cap, .slice AU ys.length cc] w (FmPost none w) := by
  have HS0 := fun w' (hb : Below w.heap.size w w') => sup_yes L a b A cap xs AU cc ys w' (hx.kept hb (Nat.le_refl _)) hxl (hy.kept hb (Nat.le_refl _)) hyl h
  rw [hf] at HS0
  have HS : Hid (∀ w', Below w.heap.size w w' → Calls Tryd.prog 39 #[tv L a b, .slice A xs.length cap, .slice AU ys.length cc] w' fun e w'' => e = .returned .nilIface ∧ Below w'.heap.size w' w'') := Lib.hid HS0
  have HB0 := Lib.hid (two_below w (tb 27 L a b) (.cells #[.int .i64 0] 58))
  have HM := Lib.hid (fun t w' => as_nil t w')
  clear hx hy h HS0
  go_enter Tryd.func13, Tryd.ntmps13
  go_wp2_with (first | (go_at_call 39; refine (HS.out _ HB0.out).mono ?_; rintro e w1 ⟨rfl, hb1⟩; have HB1 := Lib.hid (HB0.out.trans (hb1.mono HB0.out.size)); clear hb1; refine Hid.out ?_) | fail)
  refine Lib.hid ?_
  go_wp2_with (first | (go_at_call 40; refine (HM.out _ _).mono ?_; rintro e w2 ⟨rfl, hw⟩; replace hw := hw.symm; subst hw; refine Hid.out ?_) | fail)
  refine Lib.hid ?_
  go_wp2_with fail
  refine bodyPost_ret (v := .tuple #[.int .i64 0, .bool false]) (by simp [results, Tryd.results13, go_sem]) rfl ⟨rfl, HB1.out⟩
set_option maxHeartbeats 4000000 in
theorem fm_some (L a b : Int) (A : Option Addr) (cap : Nat) (xs : List Int) (AU : Option Addr) (cc : Nat) (ys : List Int) (k : Nat) (w : World) (hT : Et w) (hx : IAt w A xs) (hxl : xs.length ≤ 1048576) (hy : IAt w AU ys) (hyl : ys.length ≤ 1048576) (h : Day L a b xs ys) (hf : firM a b xs ys L = some k) :
    Calls Tryd.prog 13 #[tv L a b, .slice A xs.length cap, .slice AU ys.length cc] w (FmPost (some k) w) := by
  have HS0 := fun w' (hb : Below w.heap.size w w') => sup_yes L a b A cap xs AU cc ys w' (hx.kept hb (Nat.le_refl _)) hxl (hy.kept hb (Nat.le_refl _)) hyl h
  rw [hf] at HS0
  have HS : Hid (∀ w', Below w.heap.size w w' → Calls Tryd.prog 39 #[tv L a b, .slice A xs.length cap, .slice AU ys.length cc] w' fun e w'' => e = .returned (.iface 58 (.agg #[.int .i64 (k : Int)])) ∧ Below w'.heap.size w' w'') := Lib.hid HS0
  have HB0 := Lib.hid (two_below w (tb 27 L a b) (.cells #[.int .i64 0] 58))
  obtain ⟨_, hl0, hf0, hz0⟩ := fm_boxes w L a b
  have HL0 := Lib.hid hl0
  have HF0 := Lib.hid hf0
  have HM := Lib.hid (fun w' (hb : Below w.heap.size w w') h1 h2 h3 => as_hit (k : Int) (w.heap.size + 1) (.int .i64 0) w' (hT.kept hb) h1 h2 h3)
  clear hx hy h HS0 hT hl0 hf0
  go_enter Tryd.func13, Tryd.ntmps13
  go_wp2_with (first | (go_at_call 39; refine (HS.out _ HB0.out).mono ?_; rintro e w1 ⟨rfl, hb1⟩; have HB1 := Lib.hid (HB0.out.trans (hb1.mono HB0.out.size)); have HL1 := Lib.hid ((hb1.cell (p := ⟨w.heap.size + 1, 0, none⟩) (by simp)).trans HL0.out); have HF1 := Lib.hid (HF0.out.kept hb1 (by simp)); have hz1 := hb1.size; rw [hz0] at hz1; clear hb1; refine Hid.out ?_) | fail)
  refine Lib.hid ?_
  go_wp2_with (first | (go_at_call 40; refine (HM.out _ HB1.out HL1.out (by omega) (HF1.out 0)).mono ?_; rintro e w2 ⟨rfl, hw2⟩; have HW2 := Lib.hid hw2; clear hw2; refine Hid.out ?_) | fail)
  obtain ⟨w3, hw3⟩ : ∃ w3, w2 = w3.setCell ⟨w.heap.size + 1, 0, none⟩ (.int .i64 (k : Int)) ∧ Below w1.heap.size w1 w3 := ⟨_, HW2.out, four_below _ _ _ _ _⟩
  obtain ⟨hw3, hb3⟩ := hw3
  have HB2 := Lib.hid (show Below w.heap.size w w2 by
    rw [hw3]
    exact (HB1.out.trans (hb3.mono HB1.out.size)).setCell (p := ⟨w.heap.size + 1, 0, none⟩) (Nat.le_succ _) _)
  have c0 : w2.cell? ⟨w.heap.size + 1, 0, none⟩ = some (.int .i64 (k : Int)) := by
    rw [hw3]
    have := (hb3.cell (p := ⟨w.heap.size + 1, 0, none⟩) (by show w.heap.size + 1 < w1.heap.size; omega)).trans HL1.out
    simp [go_sem, this]
  clear hw3 hb3 HW2
  refine Lib.hid ?_
  go_wp2_with fail
  refine bodyPost_ret (v := .tuple #[.int .i64 (k : Int), .bool true]) (by simp [results, Tryd.results13, go_sem]) rfl ⟨rfl, HB2.out⟩
set_option maxHeartbeats 2000000 in
theorem sfm_no (L a b : Int) (A : Option Addr) (cap : Nat) (xs : List Int) (AU : Option Addr) (cc : Nat) (ys : List Int) (w : World) (hx : IAt w A xs) (hxl : xs.length ≤ 1048576) (hy : IAt w AU ys) (hyl : ys.length ≤ 1048576) (h : dayB L a b xs ys = false) :
    Calls Tryd.prog 12 #[tv L a b, .slice A xs.length cap, .slice AU ys.length cc] w (FmPost none w) := by
  have HD := Lib.hid (fun w' (hb : Below w.heap.size w w') => sday_v h A cap AU cc w' (hx.kept hb (Nat.le_refl _)) hxl (hy.kept hb (Nat.le_refl _)) hyl)
  have HB0 := Lib.hid (alloc_below w (tb 27 L a b))
  clear hx hy h
  go_enter Tryd.func12, Tryd.ntmps12
  go_wp2_with (first | (go_at_call 34; refine (HD.out _ HB0.out).mono ?_; rintro e w1 ⟨rfl, hb1⟩; have HB1 := Lib.hid (HB0.out.trans (hb1.mono HB0.out.size)); clear hb1; refine Hid.out ?_) | fail)
  refine Lib.hid ?_
  go_wp2_with fail
  refine bodyPost_ret (v := .tuple #[.int .i64 0, .bool false]) (by simp [results, Tryd.results12, go_sem]) rfl ⟨rfl, HB1.out⟩
set_option maxHeartbeats 4000000 in
theorem sfm_yes (L a b : Int) (A : Option Addr) (cap : Nat) (xs : List Int) (AU : Option Addr) (cc : Nat) (ys : List Int) (w : World) (hx : IAt w A xs) (hxl : xs.length ≤ 1048576) (hy : IAt w AU ys) (hyl : ys.length ≤ 1048576) (h : Day L a b xs ys) :
    Calls Tryd.prog 12 #[tv L a b, .slice A xs.length cap, .slice AU ys.length cc] w (FmPost (firM a b xs ys L) w) := by
  have HX := Lib.hid (fun w' (hb : Below w.heap.size w w') => hx.kept hb (Nat.le_refl _))
  have HY := Lib.hid (fun w' (hb : Below w.heap.size w w') => hy.kept hb (Nat.le_refl _))
  have HD := Lib.hid (fun w' (hb : Below w.heap.size w w') => sday_v (dayB_iff.2 h) A cap AU cc w' (HX.out w' hb) hxl (HY.out w' hb) hyl)
  have HB0 := Lib.hid (alloc_below w (tb 27 L a b))
  have HT0 := Lib.hid (BT.new w 27 L a b)
  have HR := Lib.hid (fun w' (hb : Below w.heap.size w w') => lrun_any L L a b A cap xs AU cc ys w' (HX.out w' hb) (HY.out w' hb) h)
  have HDay := Lib.hid h
  have hn12 := h.n1
  have HLEN := Lib.hid (miL_len a b L xs ys xs.length)
  clear hx hy h
  go_enter Tryd.func12, Tryd.ntmps12
  go_wp2_with (first | (go_at_call 34; refine (HD.out _ HB0.out).mono ?_; rintro e w1 ⟨rfl, hb1⟩; have HB1 := Lib.hid (HB0.out.trans (hb1.mono HB0.out.size)); have HT1 := Lib.hid (HT0.out.kept hb1); obtain ⟨_, b0, b1, b2⟩ := HT1.out; clear hb1; refine Hid.out ?_) | fail)
  refine Lib.hid ?_
  go_wp2_with (first | (go_at_call 35; refine (HR.out _ HB1.out).mono ?_; rintro e w2 ⟨r1, k1, r2, k2, r3, k3, rfl, hr1, l1, l2, l3, a1, a2, a3, hb2⟩; have HB2 := Lib.hid (HB1.out.trans (hb2.mono HB1.out.size)); have HI := Lib.hid a3; clear hb2 a1 a2 a3 hr1; refine Hid.out ?_) | fail)
  rw [HLEN.out]
  refine Lib.hid ?_
  go_wp2_with fail
  go_loopw [11] (fun i wr => ∃ k : Nat, k ≤ xs.length ∧ i = .int .i64 (k : Int) ∧ Hid (∀ j, j < k → ¬ 0 < miA a b L xs ys j) ∧ wr = w2) (fun i _ => xs.length - (intOf i).toNat)
  case atStart => exact ⟨0, Nat.zero_le _, rfl, Lib.hid (fun j hj => absurd hj (by omega)), by first | rfl | trivial⟩
  case round =>
    obtain ⟨k, hk, rfl, hno, hw⟩ := hrel
    subst hw
    by_cases hlt : k < xs.length
    · obtain ⟨bb, off, hA, hbl, h0⟩ := HI.out.at_ (i := k) (by rw [HLEN.out]; exact hlt)
      injection hA with hA
      injection hA with q1 q2 _
      subst q1 q2
      rw [miL_at a b L xs ys hlt, Nat.zero_add] at h0
      have hk0 : (0 : Int) ≤ (k : Int) := by omega
      have hkn : (k : Int) < (xs.length : Int) := by omega
      by_cases hp : 0 < miA a b L xs ys k
      · have hpd : decide (0 < miA a b L xs ys k) = true := decide_eq_true hp
        have HS := Lib.hid (HDay.out.fir_some hlt hno.out hp).1
        generalize miA a b L xs ys k = mk at *
        go_wp2_with fail
        refine bodyPost_ret (v := .tuple #[.int .i64 (k : Int), .bool true]) (by simp [results, Tryd.results12, go_sem]) rfl ⟨by rw [HS.out]; rfl, HB2.out⟩
      · have hpd : decide (0 < miA a b L xs ys k) = false := decide_eq_false hp
        have hno2 : Hid (∀ j, j < k + 1 → ¬ 0 < miA a b L xs ys j) := Lib.hid (by
          intro j hj
          by_cases e : j = k
          · subst e; exact hp
          · exact hno.out j (by omega))
        generalize miA a b L xs ys k = mk at *
        go_wp2_with fail
        go_roundw
        case rel => exact ⟨k + 1, by omega, by go_num, hno2, by first | rfl | trivial⟩
        case measure => simp [intOf]; omega
    · have HS := Lib.hid (HDay.out.fir_none (fun j hj => hno.out j (by omega))).1
      go_wp2_with fail
      refine bodyPost_ret (v := .tuple #[.int .i64 0, .bool false]) (by simp [results, Tryd.results12, go_sem]) rfl ⟨by rw [HS.out]; rfl, HB2.out⟩
/-- Both sides. -/
noncomputable def fmO (L a b : Int) (xs ys : List Int) : Option Nat := if dayB L a b xs ys then firM a b xs ys L else none
theorem ifm_any (L a b : Int) (A : Option Addr) (cap : Nat) (xs : List Int) (AU : Option Addr) (cc : Nat) (ys : List Int) (ea : Addr) (w : World) (hE : Er w (noV ea)) (hT : Et w) (hx : IAt w A xs) (hxl : xs.length ≤ 1048576) (hy : IAt w AU ys) (hyl : ys.length ≤ 1048576) :
    Calls Tryd.prog 13 #[tv L a b, .slice A xs.length cap, .slice AU ys.length cc] w (FmPost (fmO L a b xs ys) w) := by
  unfold fmO
  cases h : dayB L a b xs ys with
  | false => exact fm_no L a b A cap xs AU cc ys ea w hE hT hx hxl hy hyl h
  | true =>
    rw [if_pos rfl]
    cases hf : firM a b xs ys L with
    | none => exact fm_none L a b A cap xs AU cc ys w hx hxl hy hyl (dayB_iff.1 h) hf
    | some k => exact fm_some L a b A cap xs AU cc ys k w hT hx hxl hy hyl (dayB_iff.1 h) hf
theorem sfm_any (L a b : Int) (A : Option Addr) (cap : Nat) (xs : List Int) (AU : Option Addr) (cc : Nat) (ys : List Int) (w : World) (hx : IAt w A xs) (hxl : xs.length ≤ 1048576) (hy : IAt w AU ys) (hyl : ys.length ≤ 1048576) :
    Calls Tryd.prog 12 #[tv L a b, .slice A xs.length cap, .slice AU ys.length cc] w (FmPost (fmO L a b xs ys) w) := by
  unfold fmO
  cases h : dayB L a b xs ys with
  | false => exact sfm_no L a b A cap xs AU cc ys w hx hxl hy hyl h
  | true => exact sfm_yes L a b A cap xs AU cc ys w hx hxl hy hyl (dayB_iff.1 h)
end Go.Proofs.YtikppgbipdflbaaDoor.S11
