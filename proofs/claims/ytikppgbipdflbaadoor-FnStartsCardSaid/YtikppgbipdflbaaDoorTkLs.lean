/- The smallest start, of the program: contracts. Conditions: each theorem's own premises. -/
import Derived.Test.YtikppgbipdflbaaDoorTkSup
namespace Go.Proofs.YtikppgbipdflbaaDoor.S11
open Go.RowKit P11

/-- The smallest level that suits. -/
theorem lsm_bad (L a b : Int) (p1 p2 : Addr) (w : World) (h : tkB L a b = false) :
    Calls Tryd.prog 37 #[tv L a b, .func (.func 38) #[] #[.pointer (some p1), .pointer (some p2)]] w (fun e w' => e = .returned (.tuple #[.int .i64 0, .bool false]) ∧ Below w.heap.size w w') := by
  have HV := Lib.hid (fun w => valid_v h w)
  have HB0 := Lib.hid (alloc_below w (tb 27 L a b))
  clear h
  go_enter Tryd.func37, Tryd.ntmps37
  go_wp2_with (first | (go_at_call 19; refine (HV.out _).mono ?_; rintro e w1 ⟨rfl, hb1⟩; have HB1 := Lib.hid (HB0.out.trans (hb1.mono HB0.out.size)); clear hb1; refine Hid.out ?_) | fail)
  refine Lib.hid ?_
  go_wp2_with fail
  refine bodyPost_ret (v := .tuple #[.int .i64 0, .bool false]) (by simp [results, Tryd.results37, go_sem]) rfl ⟨rfl, HB1.out⟩
set_option maxHeartbeats 4000000 in
theorem lsm_any (L a b : Int) (p : Int → Bool) (p1 p2 : Addr) (w : World) (h : tkB L a b = true)
    (HF : ∀ l w', a ≤ l → l ≤ b → Below w.heap.size w w' → Calls Tryd.prog 38 #[tv l a b, .pointer (some p1), .pointer (some p2)] w' fun e w2 => e = .returned (.bool (p l)) ∧ Below w'.heap.size w' w2) :
    Calls Tryd.prog 37 #[tv L a b, .func (.func 38) #[] #[.pointer (some p1), .pointer (some p2)]] w (LowPost (lowI p a b) w) := by
  have HV := Lib.hid (fun w => valid_v h w)
  have HB0 := Lib.hid (alloc_below w (tb 27 L a b))
  have HT0 := Lib.hid (BT.new w 27 L a b)
  have HF0 := Lib.hid (FZ.new w #[.int .i64 L, .int .i64 a, .int .i64 b] 27)
  have HFF := Lib.hid HF
  obtain ⟨a0, a1, a2, a3⟩ := tkB_iff.1 h
  clear h HF
  go_enter Tryd.func37, Tryd.ntmps37
  go_wp2_with (first | (go_at_call 19; refine (HV.out _).mono ?_; rintro e w1 ⟨rfl, hb1⟩; have HB1 := Lib.hid (HB0.out.trans (hb1.mono HB0.out.size)); have HT1 := Lib.hid (HT0.out.kept hb1); have HF1 := Lib.hid (HF0.out.kept hb1 (by simp)); clear hb1 HT0 HF0; refine Hid.out ?_) | fail)
  obtain ⟨_, c0, c1, c2⟩ := HT1.out
  obtain ⟨f0, _, _⟩ := HF1.out.out
  refine Lib.hid ?_
  go_wp2_with fail
  go_loopw [] (fun wr => ∃ l : Int, a ≤ l ∧ l ≤ b + 1 ∧ Hid (∀ j, a ≤ j → j < l → p j = false) ∧ Hid (BT wr w.heap.size l a b) ∧ Hid (FZ wr w.heap.size) ∧ Hid (Below w.heap.size w wr)) (fun wr => (b + 1 - intOf ((wr.cell? ⟨w.heap.size, 0, none⟩).getD undef)).toNat)
  case atStart =>
    refine ⟨a, by omega, by omega, Lib.hid (fun j h1 h2 => absurd h2 (by omega)), Lib.hid (HT1.out.set_lev a), Lib.hid (HF1.out.set _ _), Lib.hid (HB1.out.setCell (p := ⟨w.heap.size, 0, none⟩) (Nat.le_refl _) _)⟩
  case round =>
    clear c0 c1 c2 f0
    obtain ⟨l, hl0, hl1, hno, hbt, hfz, hbw⟩ := hrel
    obtain ⟨_, c0, c1, c2⟩ := hbt.out
    obtain ⟨f0, _, _⟩ := hfz.out.out
    by_cases hlt : l ≤ b
    · have d1 : decide (l ≤ b) = true := decide_eq_true hlt
      have HC := Lib.hid (fun w' hb => HFF.out l w' hl0 hlt hb)
      cases hp : p l with
      | true =>
        have HLO := Lib.hid (low_some hl0 hlt hno.out hp)
        rw [hp] at HC
        clear hp hno
        go_wp2_with (first | (go_at_call 38; refine (HC.out _ hbw.out).mono ?_; rintro e w3 ⟨rfl, hb3⟩; have HT3 := Lib.hid (hbt.out.kept hb3); have HB3 := Lib.hid (hbw.out.trans (hb3.mono hbw.out.size)); clear hb3; refine Hid.out ?_) | fail)
        clear c0 c1 c2
        obtain ⟨_, c0, c1, c2⟩ := HT3.out
        refine Lib.hid ?_
        go_wp2_with fail
        refine bodyPost_ret (v := .tuple #[.int .i64 l, .bool true]) (by simp [results, Tryd.results37, go_sem]) rfl ?_
        exact ⟨by rw [HLO.out]; rfl, HB3.out⟩
      | false =>
        have hno2 : Hid (∀ j, a ≤ j → j < l + 1 → p j = false) := Lib.hid (by
          intro j h1 h2
          by_cases e : j = l
          · subst e; exact hp
          · exact hno.out j h1 (by omega))
        rw [hp] at HC
        clear hp hno
        go_wp2_with (first | (go_at_call 38; refine (HC.out _ hbw.out).mono ?_; rintro e w3 ⟨rfl, hb3⟩; have HT3 := Lib.hid (hbt.out.kept hb3); have HF3 := Lib.hid (hfz.out.kept hb3 hbt.out.1); have HB3 := Lib.hid (hbw.out.trans (hb3.mono hbw.out.size)); clear hb3; refine Hid.out ?_) | fail)
        have HM := Lib.hid (show (wr.cell? ⟨w.heap.size, 0, none⟩) = some (.int .i64 l) from c0)
        clear c0 c1 c2 f0
        obtain ⟨_, c0, c1, c2⟩ := HT3.out
        obtain ⟨f0, _, _⟩ := HF3.out.out
        refine Lib.hid ?_
        go_wp2_with fail
        have HT4 := Lib.hid (HT3.out.set_lev (l + 1))
        have HM4 := Lib.hid HT4.out.2.1
        go_roundw
        case rel => exact ⟨l + 1, by omega, by omega, hno2, HT4, Lib.hid (HF3.out.set _ _), Lib.hid (HB3.out.setCell (p := ⟨w.heap.size, 0, none⟩) (Nat.le_refl _) _)⟩
        case measure => rw [HM.out, HM4.out]; simp [intOf]; omega
    · have d1 : decide (l ≤ b) = false := decide_eq_false hlt
      have HLO := Lib.hid (low_none (p := p) (a := a) (b := b) (fun j h1 h2 => hno.out j h1 (by omega)))
      clear hno
      go_wp2_with fail
      refine bodyPost_ret (v := .tuple #[.int .i64 0, .bool false]) (by simp [results, Tryd.results37, go_sem]) rfl ?_
      exact ⟨by rw [HLO.out]; rfl, hbw.out⟩
/-- The value of errNoTankDay. -/
abbrev noV (ea : Addr) : Value := .iface 108 (.pointer (some ea))
set_option maxHeartbeats 4000000 in
theorem lsc_any (L a b : Int) (A : Option Addr) (cap : Nat) (xs : List Int) (AU : Option Addr) (cc : Nat) (ys : List Int) (g1 g2 : Nat) (w : World) (hx : IAt w A xs) (hy : IAt w AU ys) (h : Day L a b xs ys) (h1 : CS w g1 (.slice A xs.length cap)) (h2 : CS w g2 (.slice AU ys.length cc)) :
    Calls Tryd.prog 38 #[tv L a b, .pointer (some ⟨g1, 0, none⟩), .pointer (some ⟨g2, 0, none⟩)] w fun e w' => e = .returned (.bool (okSt a b xs ys L)) ∧ Below w.heap.size w w' := by
  have hn := h.n1
  have he := h.eq
  have HR := Lib.hid (fun w' (hb : Below w.heap.size w w') => sup_yes L a b A cap xs AU cc ys w' (hx.kept hb (Nat.le_refl _)) (by omega) (hy.kept hb (Nat.le_refl _)) (by omega) h)
  have HB0 := Lib.hid (alloc_below w (tb 27 L a b))
  obtain ⟨q1, s1⟩ := h1.kept HB0.out
  obtain ⟨q2, s2⟩ := h2.kept HB0.out
  have HV : (firM a b xs ys L = none ∧ okSt a b xs ys L = true) ∨ (∃ k, firM a b xs ys L = some k ∧ okSt a b xs ys L = false) := by
    by_cases hm : ∃ k, k < xs.length ∧ 0 < miA a b L xs ys k
    · have hw : ∃ k, (k < xs.length ∧ 0 < miA a b L xs ys k) ∧ ∀ j, j < k → ¬ (j < xs.length ∧ 0 < miA a b L xs ys j) := by
        obtain ⟨k, hk⟩ := hm
        induction k using Nat.strongRecOn with
        | ind k ih =>
          by_cases hj : ∃ j, j < k ∧ (j < xs.length ∧ 0 < miA a b L xs ys j)
          · obtain ⟨j, hjk, hj2⟩ := hj
            exact ih j hjk hj2
          · exact ⟨k, hk, fun j h1 h2 => hj ⟨j, h1, h2⟩⟩
      obtain ⟨k, ⟨hk, hp⟩, hno⟩ := hw
      obtain ⟨f1, f2⟩ := h.fir_some hk (fun j hj hpj => hno j hj ⟨by omega, hpj⟩) hp
      exact .inr ⟨k, f1, decide_eq_false (by omega)⟩
    · obtain ⟨f1, f2⟩ := h.fir_none (fun j hj hp => hm ⟨j, hj, hp⟩)
      exact .inl ⟨f1, decide_eq_true f2⟩
  generalize okSt a b xs ys L = v at *
  generalize firM a b xs ys L = f at *
  clear hx hy h h1 h2 he
  rcases HV with ⟨rfl, rfl⟩ | ⟨k, rfl, rfl⟩
  · have HR2 : Hid (∀ w', Below w.heap.size w w' → Calls Tryd.prog 39 #[tv L a b, .slice A xs.length cap, .slice AU ys.length cc] w' fun e w'' => e = .returned .nilIface ∧ Below w'.heap.size w' w'') := HR
    clear HR
    go_enter Tryd.func38, Tryd.ntmps38
    go_wp2_with (first | (go_at_call 39; refine (HR2.out _ HB0.out).mono ?_; rintro e w1 ⟨rfl, hb1⟩; have HB1 := Lib.hid (HB0.out.trans (hb1.mono HB0.out.size)); clear hb1; refine Hid.out ?_) | fail)
    refine Lib.hid ?_
    go_wp2_with fail
    refine bodyPost_ret (v := .bool true) (by simp [results, Tryd.results38, go_sem]) rfl ⟨rfl, HB1.out⟩
  · have HR2 : Hid (∀ w', Below w.heap.size w w' → Calls Tryd.prog 39 #[tv L a b, .slice A xs.length cap, .slice AU ys.length cc] w' fun e w'' => e = .returned (.iface 58 (.agg #[.int .i64 (k : Int)])) ∧ Below w'.heap.size w' w'') := HR
    clear HR
    go_enter Tryd.func38, Tryd.ntmps38
    go_wp2_with (first | (go_at_call 39; refine (HR2.out _ HB0.out).mono ?_; rintro e w1 ⟨rfl, hb1⟩; have HB1 := Lib.hid (HB0.out.trans (hb1.mono HB0.out.size)); clear hb1; refine Hid.out ?_) | fail)
    refine Lib.hid ?_
    go_wp2_with fail
    refine bodyPost_ret (v := .bool false) (by simp [results, Tryd.results38, go_sem]) rfl ⟨rfl, HB1.out⟩
set_option maxHeartbeats 4000000 in
theorem lsc_no (L a b : Int) (A : Option Addr) (cap : Nat) (xs : List Int) (AU : Option Addr) (cc : Nat) (ys : List Int) (g1 g2 : Nat) (ea : Addr) (w : World) (hE : Er w (noV ea)) (hx : IAt w A xs) (hxl : xs.length ≤ 1048576) (hy : IAt w AU ys) (hyl : ys.length ≤ 1048576) (h : dayB L a b xs ys = false) (h1 : CS w g1 (.slice A xs.length cap)) (h2 : CS w g2 (.slice AU ys.length cc)) :
    Calls Tryd.prog 38 #[tv L a b, .pointer (some ⟨g1, 0, none⟩), .pointer (some ⟨g2, 0, none⟩)] w fun e w' => e = .returned (.bool false) ∧ Below w.heap.size w w' := by
  have HR := Lib.hid (fun w' (hb : Below w.heap.size w w') => sup_no L a b A cap xs AU cc ys (noV ea) w' (hE.kept hb) (hx.kept hb (Nat.le_refl _)) hxl (hy.kept hb (Nat.le_refl _)) hyl h)
  have HB0 := Lib.hid (alloc_below w (tb 27 L a b))
  obtain ⟨q1, s1⟩ := h1.kept HB0.out
  obtain ⟨q2, s2⟩ := h2.kept HB0.out
  clear hx hy h h1 h2 hE
  go_enter Tryd.func38, Tryd.ntmps38
  go_wp2_with (first | (go_at_call 39; refine (HR.out _ HB0.out).mono ?_; rintro e w1 ⟨rfl, hb1⟩; have HB1 := Lib.hid (HB0.out.trans (hb1.mono HB0.out.size)); clear hb1; refine Hid.out ?_) | fail)
  refine Lib.hid ?_
  go_wp2_with fail
  refine bodyPost_ret (v := .bool false) (by simp [results, Tryd.results38, go_sem]) rfl ⟨rfl, HB1.out⟩
set_option maxHeartbeats 2000000 in
theorem ls_bad (L a b : Int) (A : Option Addr) (cap : Nat) (xs : List Int) (AU : Option Addr) (cc : Nat) (ys : List Int) (w : World) (h : tkB L a b = false) :
    Calls Tryd.prog 10 #[tv L a b, .slice A xs.length cap, .slice AU ys.length cc] w (LowPost none w) := by
  have HS := Lib.hid (fun w' => lsm_bad L a b ⟨w.heap.size + 1, 0, none⟩ ⟨w.heap.size + 2, 0, none⟩ w' h)
  obtain ⟨hbt, hc1, hc2, hbw⟩ := three_cs w L a b (.slice A xs.length cap) (.slice AU ys.length cc) 24
  have HBW := Lib.hid hbw
  clear hbt hc1 hc2 hbw h
  go_enter Tryd.func10, Tryd.ntmps10
  go_wp2_with (first | (go_at_call 37; refine (HS.out _).mono ?_; rintro e w1 ⟨rfl, hb1⟩; have HB1 := Lib.hid (HBW.out.trans (hb1.mono HBW.out.size)); clear hb1; refine Hid.out ?_) | fail)
  refine Lib.hid ?_
  go_wp2_with fail
  refine bodyPost_ret (v := .tuple #[.int .i64 0, .bool false]) (by simp [results, Tryd.results10, go_sem]) rfl ⟨rfl, HB1.out⟩
set_option maxHeartbeats 2000000 in
theorem ls_ok (L a b : Int) (A : Option Addr) (cap : Nat) (xs : List Int) (AU : Option Addr) (cc : Nat) (ys : List Int) (w : World) (h : tkB L a b = true) (p : Int → Bool)
    (HP : ∀ l w', a ≤ l → l ≤ b → Below w.heap.size w w' → CS w' (w.heap.size + 1) (.slice A xs.length cap) → CS w' (w.heap.size + 2) (.slice AU ys.length cc) → Calls Tryd.prog 38 #[tv l a b, .pointer (some ⟨w.heap.size + 1, 0, none⟩), .pointer (some ⟨w.heap.size + 2, 0, none⟩)] w' fun e w2 => e = .returned (.bool (p l)) ∧ Below w'.heap.size w' w2) :
    Calls Tryd.prog 10 #[tv L a b, .slice A xs.length cap, .slice AU ys.length cc] w (LowPost (lowI p a b) w) := by
  obtain ⟨hbt, hc1, hc2, hbw⟩ := three_cs w L a b (.slice A xs.length cap) (.slice AU ys.length cc) 24
  obtain ⟨W, hW⟩ : ∃ W, W = ((w.alloc (tb 27 L a b)).alloc (.cells #[.slice A xs.length cap] 24)).alloc (.cells #[.slice AU ys.length cc] 24) := ⟨_, rfl⟩
  rw [← hW] at hbt hc1 hc2 hbw
  have HS := Lib.hid (lsm_any L a b p ⟨w.heap.size + 1, 0, none⟩ ⟨w.heap.size + 2, 0, none⟩ W h (fun l w' h1 h2 hb => HP l w' h1 h2 (hbw.trans (hb.mono hbw.size)) (hc1.kept hb) (hc2.kept hb)))
  have HW := Lib.hid hW
  have HBW := Lib.hid hbw
  generalize lowI p a b = o at *
  clear hbt hc1 hc2 hbw h HP hW
  go_enter Tryd.func10, Tryd.ntmps10
  go_wp2_with (first | (go_at_call 37; rw [← HW.out]; refine HS.out.mono ?_; rintro e w1 ⟨rfl, hb1⟩; have HB1 := Lib.hid (HBW.out.trans (hb1.mono HBW.out.size)); clear hb1; refine Hid.out ?_) | fail)
  refine Lib.hid ?_
  go_wp2_with fail
  refine bodyPost_ret (v := .tuple #[.int .i64 (o.getD 0), .bool o.isSome]) (by simp [results, Tryd.results10, go_sem]) rfl ⟨rfl, HB1.out⟩
theorem ils_any (L a b : Int) (A : Option Addr) (cap : Nat) (xs : List Int) (AU : Option Addr) (cc : Nat) (ys : List Int) (ea : Addr) (w : World) (hE : Er w (noV ea)) (hx : IAt w A xs) (hxl : xs.length ≤ 1048576) (hy : IAt w AU ys) (hyl : ys.length ≤ 1048576) :
    Calls Tryd.prog 10 #[tv L a b, .slice A xs.length cap, .slice AU ys.length cc] w (LowPost (if dayB L a b xs ys then lowI (okSt a b xs ys) a b else none) w) := by
  cases ht : tkB L a b with
  | false =>
    have h : dayB L a b xs ys = false := by unfold dayB; rw [ht, Bool.false_and]
    rw [h]
    exact ls_bad L a b A cap xs AU cc ys w ht
  | true =>
    obtain ⟨a0, a1, a2, a3⟩ := tkB_iff.1 ht
    have hl : ∀ l, a ≤ l → l ≤ b → tkB l a b = true := fun l h1 h2 => tkB_iff.2 (by omega)
    cases h : dayB L a b xs ys with
    | false =>
      have hno : ∀ l, a ≤ l → l ≤ b → dayB l a b xs ys = false := fun l h1 h2 => by
        unfold dayB at h ⊢
        rw [ht, Bool.true_and] at h
        rw [h, Bool.and_false]
      have H := ls_ok L a b A cap xs AU cc ys w ht (fun _ => false) (fun l w' h1 h2 hb hc1 hc2 => lsc_no l a b A cap xs AU cc ys (w.heap.size + 1) (w.heap.size + 2) ea w' (hE.kept hb) (hx.kept hb (Nat.le_refl _)) hxl (hy.kept hb (Nat.le_refl _)) hyl (hno l h1 h2) hc1 hc2)
      rw [low_none (p := fun _ => false) (fun _ _ _ => rfl)] at H
      exact H
    | true =>
      have hd := dayB_iff.1 h
      exact ls_ok L a b A cap xs AU cc ys w ht (okSt a b xs ys) (fun l w' h1 h2 hb hc1 hc2 => lsc_any l a b A cap xs AU cc ys (w.heap.size + 1) (w.heap.size + 2) w' (hx.kept hb (Nat.le_refl _)) (hy.kept hb (Nat.le_refl _)) (hd.other (hl l h1 h2)) hc1 hc2)
theorem sls_any (L a b : Int) (A : Option Addr) (cap : Nat) (xs : List Int) (AU : Option Addr) (cc : Nat) (ys : List Int) (w : World) (hx : IAt w A xs) (hxl : xs.length ≤ 1048576) (hy : IAt w AU ys) (hyl : ys.length ≤ 1048576) :
    Calls Tryd.prog 7 #[tv L a b, .slice A xs.length cap, .slice AU ys.length cc] w (LowPost (if dayB L a b xs ys then lowI (okSt a b xs ys) a b else none) w) := by
  cases h : dayB L a b xs ys with
  | false => exact sls_no L a b A cap xs AU cc ys w hx hxl hy hyl h
  | true => exact sls_yes L a b A cap xs AU cc ys w hx hxl hy hyl (dayB_iff.1 h)
end Go.Proofs.YtikppgbipdflbaaDoor.S11
