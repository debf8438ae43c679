/- Levels that suit: the smallest one, and steady levels, of the program and the model: contracts. Conditions: each theorem's own premises. -/
import Derived.Test.YtikppgbipdflbaaDoorTkMore
import Derived.LaidEql
namespace Go.Proofs.YtikppgbipdflbaaDoor.S11
open Go.RowKit P11

theorem BT.set_lev {w : World} {g : Nat} {L a b : Int} (h : BT w g L a b) (z : Int) : BT (w.setCell ⟨g, 0, none⟩ (.int .i64 z)) g z a b := by
  obtain ⟨h0, c0, c1, c2⟩ := h
  exact ⟨by simpa using h0, by simp [go_sem, c0], by simp [go_sem, c1], by simp [go_sem, c2]⟩
/-- What a search for a level gives. -/
def LowPost (o : Option Int) (w : World) (e : Ending) (w' : World) : Prop := e = .returned (.tuple #[.int .i64 (o.getD 0), .bool o.isSome]) ∧ Below w.heap.size w w'
section
variable {o : Oper} {a : Act} {w : World} {rest : List Oper} {ops : Array Oper} {Q : Exit → Act → World → Prop}
theorem eql_tk (w : World) (z L a b : Int) : (binOp .eql 27 (tv z a b) (tv L a b)).run Tryd.prog w = .ok (.bool (decide (z = L))) w := by
  have hS : Tryd.prog.underlying 27 = some (.struct (Tryd.prog.fieldsOf 27)) := by kernel_rfl
  have hp : Tryd.prog.stoodInHeld 27 = false := by kernel_rfl
  rw [run_eql_struct, show (10000 : Nat) = 9999 + 1 from rfl, run_equalIn_agg w 9999 27 _ _ hS hp]
  simp only [Program.fieldsOf, Tryd.underlying27, Op.eqFields]
  by_cases h1 : z = L <;> simp [go_sem, h1]
theorem wpT_eql (hgd : o.guard = none) (x y : Operand) (ho : o.op = .binOp .eql 27 x y 27) (z L c d : Int) (v : Bool) (hx : a.eval x = tv z c d) (hy : a.eval y = tv L c d) (hv : decide (z = L) = v)
    (h : wpList Tryd.prog ops Q rest (a.put o.dst (.bool v)) w) : wpList Tryd.prog ops Q (o :: rest) a w :=
  wpList_plain hgd fun _ hK => by
    have hz := eql_tk w z L c d
    rw [hv] at hz
    have hg := run_eqGuard_agg (P := Tryd.prog) w .eql 27 x y #[.int .i64 z, .int .i64 c, .int .i64 d] #[.int .i64 L, .int .i64 c, .int .i64 d] (by kernel_rfl)
    unfold Oper.wp execOp
    simp [ho, hx, hy, Sem.run_bind, hz, hg, Result.andThen]
    exact hK _ _ h
end
/-- The smallest level that suits. -/
theorem sml_bad (L a b : Int) (p1 p2 : Addr) (w : World) (h : tkB L a b = false) :
    Calls Tryd.prog 37 #[tv L a b, .func (.func 49) #[] #[.pointer (some p1), .pointer (some p2)]] w (fun e w' => e = .returned (.tuple #[.int .i64 0, .bool false]) ∧ Below w.heap.size w w') := by
  have HV := Lib.hid (fun w => valid_v h w)
  have HB0 := Lib.hid (alloc_below w (tb 27 L a b))
  clear h
  go_enter Tryd.func37, Tryd.ntmps37
  go_wp2_with (first | (go_at_call 19; refine (HV.out _).mono ?_; rintro e w1 ⟨rfl, hb1⟩; have HB1 := Lib.hid (HB0.out.trans (hb1.mono HB0.out.size)); clear hb1; refine Hid.out ?_) | fail)
  refine Lib.hid ?_
  go_wp2_with fail
  refine bodyPost_ret (v := .tuple #[.int .i64 0, .bool false]) (by simp [results, Tryd.results37, go_sem]) rfl ⟨rfl, HB1.out⟩
set_option maxHeartbeats 4000000 in
theorem sml_any (L a b : Int) (p : Int → Bool) (p1 p2 : Addr) (w : World) (h : tkB L a b = true)
    (HF : ∀ l w', a ≤ l → l ≤ b → Below w.heap.size w w' → Calls Tryd.prog 49 #[tv l a b, .pointer (some p1), .pointer (some p2)] w' fun e w2 => e = .returned (.bool (p l)) ∧ Below w'.heap.size w' w2) :
    Calls Tryd.prog 37 #[tv L a b, .func (.func 49) #[] #[.pointer (some p1), .pointer (some p2)]] w (LowPost (lowI p a b) w) := by
  have HV := Lib.hid (fun w => valid_v h w)
  have HB0 := Lib.hid (alloc_below w (tb 27 L a b))
  have HT0 := Lib.hid (BT.new w 27 L a b)
  have HF0 := Lib.hid (FZ.new w #[.int .i64 L, .int .i64 a, .int .i64 b] 27)
  have HFF := Lib.hid HF
  obtain ⟨a0, a1, a2, a3⟩ := tkB_iff.1 h
  clear h HF
  go_enter Tryd.func37, Tryd.ntmps37
  go_wp2_with (first | (go_at_call 19; refine (HV.out _).mono ?_; rintro e w1 ⟨rfl, hb1⟩; have HB1 := Lib.hid (HB0.out.trans (hb1.mono HB0.out.size)); have HT1 := Lib.hid (HT0.out.kept hb1); have HF1 := Lib.hid (HF0.out.kept hb1 (by simp)); clear hb1 HT0 HF0; refine Hid.out ?_) | fail)
  obtain ⟨_, c0, c1, c2⟩ := HT1.out
  obtain ⟨f0, _, _⟩ := HF1.out.out
  refine Lib.hid ?_
  go_wp2_with fail
  go_loopw [] (fun wr => ∃ l : Int, a ≤ l ∧ l ≤ b + 1 ∧ Hid (∀ j, a ≤ j → j < l → p j = false) ∧ Hid (BT wr w.heap.size l a b) ∧ Hid (FZ wr w.heap.size) ∧ Hid (Below w.heap.size w wr)) (fun wr => (b + 1 - intOf ((wr.cell? ⟨w.heap.size, 0, none⟩).getD undef)).toNat)
  case atStart =>
    refine ⟨a, by omega, by omega, Lib.hid (fun j h1 h2 => absurd h2 (by omega)), Lib.hid (HT1.out.set_lev a), Lib.hid (HF1.out.set _ _), Lib.hid (HB1.out.setCell (p := ⟨w.heap.size, 0, none⟩) (Nat.le_refl _) _)⟩
  case round =>
    clear c0 c1 c2 f0
    obtain ⟨l, hl0, hl1, hno, hbt, hfz, hbw⟩ := hrel
    obtain ⟨_, c0, c1, c2⟩ := hbt.out
    obtain ⟨f0, _, _⟩ := hfz.out.out
    by_cases hlt : l ≤ b
    · have d1 : decide (l ≤ b) = true := decide_eq_true hlt
      have HC := Lib.hid (fun w' hb => HFF.out l w' hl0 hlt hb)
      cases hp : p l with
      | true =>
        have HLO := Lib.hid (low_some hl0 hlt hno.out hp)
        rw [hp] at HC
        clear hp hno
        go_wp2_with (first | (go_at_call 49; refine (HC.out _ hbw.out).mono ?_; rintro e w3 ⟨rfl, hb3⟩; have HT3 := Lib.hid (hbt.out.kept hb3); have HB3 := Lib.hid (hbw.out.trans (hb3.mono hbw.out.size)); clear hb3; refine Hid.out ?_) | fail)
        clear c0 c1 c2
        obtain ⟨_, c0, c1, c2⟩ := HT3.out
        refine Lib.hid ?_
        go_wp2_with fail
        refine bodyPost_ret (v := .tuple #[.int .i64 l, .bool true]) (by simp [results, Tryd.results37, go_sem]) rfl ?_
        exact ⟨by rw [HLO.out]; rfl, HB3.out⟩
      | false =>
        have hno2 : Hid (∀ j, a ≤ j → j < l + 1 → p j = false) := Lib.hid (by
          intro j h1 h2
          by_cases e : j = l
          · subst e; exact hp
          · exact hno.out j h1 (by omega))
        rw [hp] at HC
        clear hp hno
        go_wp2_with (first | (go_at_call 49; refine (HC.out _ hbw.out).mono ?_; rintro e w3 ⟨rfl, hb3⟩; have HT3 := Lib.hid (hbt.out.kept hb3); have HF3 := Lib.hid (hfz.out.kept hb3 hbt.out.1); have HB3 := Lib.hid (hbw.out.trans (hb3.mono hbw.out.size)); clear hb3; refine Hid.out ?_) | fail)
        have HM := Lib.hid (show (wr.cell? ⟨w.heap.size, 0, none⟩) = some (.int .i64 l) from c0)
        clear c0 c1 c2 f0
        obtain ⟨_, c0, c1, c2⟩ := HT3.out
        obtain ⟨f0, _, _⟩ := HF3.out.out
        refine Lib.hid ?_
        go_wp2_with fail
        have HT4 := Lib.hid (HT3.out.set_lev (l + 1))
        have HM4 := Lib.hid HT4.out.2.1
        go_roundw
        case rel => exact ⟨l + 1, by omega, by omega, hno2, HT4, Lib.hid (HF3.out.set _ _), Lib.hid (HB3.out.setCell (p := ⟨w.heap.size, 0, none⟩) (Nat.le_refl _) _)⟩
        case measure => rw [HM.out, HM4.out]; simp [intOf]; omega
    · have d1 : decide (l ≤ b) = false := decide_eq_false hlt
      have HLO := Lib.hid (low_none (p := p) (a := a) (b := b) (fun j h1 h2 => hno.out j h1 (by omega)))
      clear hno
      go_wp2_with fail
      refine bodyPost_ret (v := .tuple #[.int .i64 0, .bool false]) (by simp [results, Tryd.results37, go_sem]) rfl ?_
      exact ⟨by rw [HLO.out]; rfl, hbw.out⟩
/-- A cell that holds a slice. -/
def CS (w : World) (g : Nat) (v : Value) : Prop := g < w.heap.size ∧ w.cell? ⟨g, 0, none⟩ = some v
theorem CS.kept {w w' : World} {g : Nat} {v : Value} (h : CS w g v) (hb : Below w.heap.size w w') : CS w' g v := ⟨Nat.lt_of_lt_of_le h.1 hb.size, (hb.cell (p := ⟨g, 0, none⟩) h.1).trans h.2⟩
theorem CS.new (w : World) (v : Value) (t : TypeId) : CS (w.alloc (.cells #[v] t)) w.heap.size v := ⟨by simp, by rw [World.cell?_alloc_at _ _ _ _ rfl]; rfl⟩
set_option maxHeartbeats 4000000 in
theorem stc_any (L a b : Int) (A : Option Addr) (cap : Nat) (xs : List Int) (AU : Option Addr) (cc : Nat) (ys : List Int) (g1 g2 : Nat) (w : World) (hx : IAt w A xs) (hy : IAt w AU ys) (h : Day L a b xs ys) (h1 : CS w g1 (.slice A xs.length cap)) (h2 : CS w g2 (.slice AU ys.length cc)) :
    Calls Tryd.prog 49 #[tv L a b, .pointer (some ⟨g1, 0, none⟩), .pointer (some ⟨g2, 0, none⟩)] w fun e w' => e = .returned (.bool (stdB a b xs ys L)) ∧ Below w.heap.size w w' := by
  have hn := h.n1
  have he := h.eq
  have HR := Lib.hid (fun w' (hb : Below w.heap.size w w') => rep_yes L a b A cap xs AU cc ys 1 w' (hx.kept hb (Nat.le_refl _)) (by omega) (hy.kept hb (Nat.le_refl _)) (by omega) h (by omega) (by omega))
  have HB0 := Lib.hid (alloc_below w (tb 27 L a b))
  have HT0 := Lib.hid (BT.new w 27 L a b)
  obtain ⟨q1, s1⟩ := h1.kept HB0.out
  obtain ⟨q2, s2⟩ := h2.kept HB0.out
  have HV : Hid (decide (P11.rep a b xs ys L ((1 : Int)).toNat = L) = stdB a b xs ys L) := Lib.hid rfl
  generalize stdB a b xs ys L = v at *
  generalize P11.rep a b xs ys L ((1 : Int)).toNat = z at *
  clear hx hy h h1 h2 he
  by_cases hzl : z = L
  · have HZL := Lib.hid (show decide (z = L) = true from decide_eq_true hzl)
    rw [← HV.out, HZL.out]
    clear HV HZL
    subst hzl
    go_enter Tryd.func49, Tryd.ntmps49
    go_wp2_with (first | (go_at_call 22; refine (HR.out _ HB0.out).mono ?_; rintro e w1 ⟨rfl, hb1⟩; have HB1 := Lib.hid (HB0.out.trans (hb1.mono HB0.out.size)); have HT1 := Lib.hid (HT0.out.kept hb1); clear hb1 HT0; refine Hid.out ?_) | fail)
    obtain ⟨hq, c0, c1, c2⟩ := HT1.out
    have HB2 := Lib.hid (HB1.out.trans ((alloc_below w1 (tb 27 z a b)).mono HB1.out.size))
    refine Lib.hid ?_
    go_wp2_with fail
    refine bodyPost_ret (v := .bool true) (by simp [results, Tryd.results49, go_sem]) rfl ⟨rfl, HB2.out⟩
  · have HZL := Lib.hid (show decide (z = L) = false from decide_eq_false hzl)
    rw [← HV.out, HZL.out]
    clear HV HZL
    have hzb : (z == L) = false := by simp [hzl]
    go_enter Tryd.func49, Tryd.ntmps49
    go_wp2_with (first | (go_at_call 22; refine (HR.out _ HB0.out).mono ?_; rintro e w1 ⟨rfl, hb1⟩; have HB1 := Lib.hid (HB0.out.trans (hb1.mono HB0.out.size)); have HT1 := Lib.hid (HT0.out.kept hb1); clear hb1 HT0; refine Hid.out ?_) | fail)
    obtain ⟨hq, c0, c1, c2⟩ := HT1.out
    have HB2 := Lib.hid (HB1.out.trans ((alloc_below w1 (tb 27 z a b)).mono HB1.out.size))
    refine Lib.hid ?_
    go_wp2_with fail
    refine bodyPost_ret (v := .bool false) (by simp [results, Tryd.results49, go_sem]) rfl ⟨rfl, HB2.out⟩
set_option maxHeartbeats 4000000 in
theorem stc_no (L a b : Int) (A : Option Addr) (cap : Nat) (xs : List Int) (AU : Option Addr) (cc : Nat) (ys : List Int) (g1 g2 : Nat) (w : World) (hx : IAt w A xs) (hxl : xs.length ≤ 1048576) (hy : IAt w AU ys) (hyl : ys.length ≤ 1048576) (h : dayB L a b xs ys = false) (h1 : CS w g1 (.slice A xs.length cap)) (h2 : CS w g2 (.slice AU ys.length cc)) :
    Calls Tryd.prog 49 #[tv L a b, .pointer (some ⟨g1, 0, none⟩), .pointer (some ⟨g2, 0, none⟩)] w fun e w' => e = .returned (.bool false) ∧ Below w.heap.size w w' := by
  have hr : repB L a b xs ys 1 = false := by unfold repB; rw [h, Bool.false_and]
  have HR := Lib.hid (fun w' (hb : Below w.heap.size w w') => rep_no L a b A cap xs AU cc ys 1 w' (hx.kept hb (Nat.le_refl _)) hxl (hy.kept hb (Nat.le_refl _)) hyl hr)
  have HB0 := Lib.hid (alloc_below w (tb 27 L a b))
  obtain ⟨q1, s1⟩ := h1.kept HB0.out
  obtain ⟨q2, s2⟩ := h2.kept HB0.out
  clear hx hy h h1 h2 hr
  go_enter Tryd.func49, Tryd.ntmps49
  go_wp2_with (first | (go_at_call 22; refine (HR.out _ HB0.out).mono ?_; rintro e w1 ⟨rfl, hb1⟩; have HB1 := Lib.hid (HB0.out.trans (hb1.mono HB0.out.size)); clear hb1; refine Hid.out ?_) | fail)
  have HB2 := Lib.hid (HB1.out.trans ((alloc_below w1 (tb 27 0 0 0)).mono HB1.out.size))
  refine Lib.hid ?_
  go_wp2_with fail
  refine bodyPost_ret (v := .bool false) (by simp [results, Tryd.results49, go_sem]) rfl ⟨rfl, HB2.out⟩
/-- Three boxes: the tank and two slices. -/
theorem three_cs (w : World) (L a b : Int) (v1 v2 : Value) (t : TypeId) : BT (((w.alloc (tb 27 L a b)).alloc (.cells #[v1] t)).alloc (.cells #[v2] t)) w.heap.size L a b ∧ CS (((w.alloc (tb 27 L a b)).alloc (.cells #[v1] t)).alloc (.cells #[v2] t)) (w.heap.size + 1) v1 ∧ CS (((w.alloc (tb 27 L a b)).alloc (.cells #[v1] t)).alloc (.cells #[v2] t)) (w.heap.size + 2) v2 ∧ Below w.heap.size w (((w.alloc (tb 27 L a b)).alloc (.cells #[v1] t)).alloc (.cells #[v2] t)) := by
  have z1 : (w.alloc (tb 27 L a b)).heap.size = w.heap.size + 1 := by simp
  have z2 : ((w.alloc (tb 27 L a b)).alloc (.cells #[v1] t)).heap.size = w.heap.size + 2 := by simp
  have h1 := CS.new (w.alloc (tb 27 L a b)) v1 t
  have h2 := CS.new ((w.alloc (tb 27 L a b)).alloc (.cells #[v1] t)) v2 t
  rw [z1] at h1
  rw [z2] at h2
  exact ⟨((BT.new w _ L a b).kept (alloc_below _ _)).kept (alloc_below _ _), h1.kept (alloc_below _ _), h2, (two_below w _ _).trans ((alloc_below _ _).mono (by omega))⟩
set_option maxHeartbeats 2000000 in
theorem st_bad (L a b : Int) (A : Option Addr) (cap : Nat) (xs : List Int) (AU : Option Addr) (cc : Nat) (ys : List Int) (w : World) (h : tkB L a b = false) :
    Calls Tryd.prog 29 #[tv L a b, .slice A xs.length cap, .slice AU ys.length cc] w (LowPost none w) := by
  have HS := Lib.hid (fun w' => sml_bad L a b ⟨w.heap.size + 1, 0, none⟩ ⟨w.heap.size + 2, 0, none⟩ w' h)
  obtain ⟨hbt, hc1, hc2, hbw⟩ := three_cs w L a b (.slice A xs.length cap) (.slice AU ys.length cc) 24
  have HBW := Lib.hid hbw
  clear hbt hc1 hc2 hbw h
  go_enter Tryd.func29, Tryd.ntmps29
  go_wp2_with (first | (go_at_call 37; refine (HS.out _).mono ?_; rintro e w1 ⟨rfl, hb1⟩; have HB1 := Lib.hid (HBW.out.trans (hb1.mono HBW.out.size)); clear hb1; refine Hid.out ?_) | fail)
  refine Lib.hid ?_
  go_wp2_with fail
  refine bodyPost_ret (v := .tuple #[.int .i64 0, .bool false]) (by simp [results, Tryd.results29, go_sem]) rfl ⟨rfl, HB1.out⟩
set_option maxHeartbeats 2000000 in
theorem st_ok (L a b : Int) (A : Option Addr) (cap : Nat) (xs : List Int) (AU : Option Addr) (cc : Nat) (ys : List Int) (w : World) (h : tkB L a b = true) (p : Int → Bool)
    (HP : ∀ l w', a ≤ l → l ≤ b → Below w.heap.size w w' → CS w' (w.heap.size + 1) (.slice A xs.length cap) → CS w' (w.heap.size + 2) (.slice AU ys.length cc) → Calls Tryd.prog 49 #[tv l a b, .pointer (some ⟨w.heap.size + 1, 0, none⟩), .pointer (some ⟨w.heap.size + 2, 0, none⟩)] w' fun e w2 => e = .returned (.bool (p l)) ∧ Below w'.heap.size w' w2) :
    Calls Tryd.prog 29 #[tv L a b, .slice A xs.length cap, .slice AU ys.length cc] w (LowPost (lowI p a b) w) := by
  obtain ⟨hbt, hc1, hc2, hbw⟩ := three_cs w L a b (.slice A xs.length cap) (.slice AU ys.length cc) 24
  obtain ⟨W, hW⟩ : ∃ W, W = ((w.alloc (tb 27 L a b)).alloc (.cells #[.slice A xs.length cap] 24)).alloc (.cells #[.slice AU ys.length cc] 24) := ⟨_, rfl⟩
  rw [← hW] at hbt hc1 hc2 hbw
  have HS := Lib.hid (sml_any L a b p ⟨w.heap.size + 1, 0, none⟩ ⟨w.heap.size + 2, 0, none⟩ W h (fun l w' h1 h2 hb => HP l w' h1 h2 (hbw.trans (hb.mono hbw.size)) (hc1.kept hb) (hc2.kept hb)))
  have HW := Lib.hid hW
  have HBW := Lib.hid hbw
  generalize lowI p a b = o at *
  clear hbt hc1 hc2 hbw h HP hW
  go_enter Tryd.func29, Tryd.ntmps29
  go_wp2_with (first | (go_at_call 37; rw [← HW.out]; refine HS.out.mono ?_; rintro e w1 ⟨rfl, hb1⟩; have HB1 := Lib.hid (HBW.out.trans (hb1.mono HBW.out.size)); clear hb1; refine Hid.out ?_) | fail)
  refine Lib.hid ?_
  go_wp2_with fail
  refine bodyPost_ret (v := .tuple #[.int .i64 (o.getD 0), .bool o.isSome]) (by simp [results, Tryd.results29, go_sem]) rfl ⟨rfl, HB1.out⟩
end Go.Proofs.YtikppgbipdflbaaDoor.S11
