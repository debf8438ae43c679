/- The cost to go: plain facts; what the program returns: contract. Conditions: each theorem's own premises. -/
import Derived.Test.YtlkomipjamelkaaPuFrS
import Derived.Test.YtlkomipjamelkaaPuCostS
import Derived.Deep.RegionLaw
import Derived.Deep.DeepCutAuto
namespace Go.Proofs.Ytlkomipjamelkaa.S13
open Go.RowKit Go.Sort Go.ChangeShapes Go.WideShapes Go.Deep Go.Joins P11 S11 P13

def askB (p : Pg) (hr lv : Int) : Bool := pgB p && (decide (0 ≤ hr ∧ hr ≤ p.xs.length) && decide (p.a ≤ lv ∧ lv ≤ p.b))
/-- What is asked of the cost to go. -/
def ctg (p : Pg) (hr lv : Int) : Pl := if askB p hr lv then plan p (p.xs.length - hr.toNat) lv else ⟨false, 0, 0⟩
theorem ask_eq (p : Pg) (hr lv : Int) : askB p hr lv = (pgB p && (tkB lv p.a p.b && (decide (0 ≤ hr) && decide (hr ≤ (p.ys.length : Int))))) := by
  unfold askB
  cases hp : pgB p with
  | false => rfl
  | true =>
    have hg := pgB_iff.1 hp
    have ht := tkB_iff.1 hg.day.tk
    have heq := hg.day.eq
    rw [Bool.eq_iff_iff]
    simp only [Bool.and_eq_true, decide_eq_true_eq, tkB_iff, true_and]
    omega
/-- A fresh table of plans. -/
theorem Ot.new {w : World} {p : Pg} {A : Option Addr} {c : Nat} {A2 : Option Addr} {c2 : Nat} (h : PAt w p A A2) (hx : p.xs ≠ []) (hy : p.ys ≠ []) (t : TypeId) :
    Ot (w.alloc (.cells (olL (.int .i64 p.L) (.int .i64 p.a) (.int .i64 p.b) (.int .i64 p.pm) (.slice A p.xs.length c) (.slice A2 p.ys.length c2)).toArray t)) w.heap.size p A c A2 c2 := by
  have hb := alloc_below w (.cells (olL (.int .i64 p.L) (.int .i64 p.a) (.int .i64 p.b) (.int .i64 p.pm) (.slice A p.xs.length c) (.slice A2 p.ys.length c2)).toArray t)
  have hcell : ∀ j, (w.alloc (.cells (olL (.int .i64 p.L) (.int .i64 p.a) (.int .i64 p.b) (.int .i64 p.pm) (.slice A p.xs.length c) (.slice A2 p.ys.length c2)).toArray t)).cell? ⟨w.heap.size, j, none⟩ = (olL (.int .i64 p.L) (.int .i64 p.a) (.int .i64 p.b) (.int .i64 p.pm) (.slice A p.xs.length c) (.slice A2 p.ys.length c2))[j]? := fun j => by
    rw [World.cell?_alloc_at _ _ _ _ rfl]
    show (olL _ _ _ _ _ _).toArray[j]? = _
    simp
  have hfz := FZ.new w (olL (.int .i64 p.L) (.int .i64 p.a) (.int .i64 p.b) (.int .i64 p.pm) (.slice A p.xs.length c) (.slice A2 p.ys.length c2)).toArray t
  have hlt := new_lt w (.cells (olL (.int .i64 p.L) (.int .i64 p.a) (.int .i64 p.b) (.int .i64 p.pm) (.slice A p.xs.length c) (.slice A2 p.ys.length c2)).toArray t)
  generalize w.alloc (.cells (olL (.int .i64 p.L) (.int .i64 p.a) (.int .i64 p.b) (.int .i64 p.pm) (.slice A p.xs.length c) (.slice A2 p.ys.length c2)).toArray t) = w1 at *
  have lt_of : ∀ {B : Option Addr} {l : List Int}, IAt w B l → l ≠ [] → ∀ b o, B = some ⟨b, o, none⟩ → b < w.heap.size := fun {B l} hi hne b o e => by
    rcases hi with hi | ⟨b', o', hB, hl, _⟩
    · exact absurd hi hne
    · rw [hB] at e
      injection e with e
      injection e with e1
      omega
  refine ⟨⟨hlt, ?_, ?_, ?_, ?_, ?_, ?_⟩, hfz, h.kept hb, lt_of h.x hx, lt_of h.y hy, fun i l hi hl => ?_⟩
  · exact (hcell 0).trans rfl
  · exact (hcell _).trans rfl
  · exact (hcell _).trans rfl
  · exact (hcell _).trans rfl
  · exact (hcell _).trans rfl
  · exact (hcell _).trans rfl
  · have e := olL_at (.int .i64 p.L) (.int .i64 p.a) (.int .i64 p.b) (.int .i64 p.pm) (.slice A p.xs.length c) (.slice A2 p.ys.length c2) (i * 61 + l) (by omega)
    have eE : 6 + (i * 61 + l) * 4 = eI i l := by unfold eI; omega
    rw [eE] at e
    exact ⟨false, ⟨false, 0, 0⟩, ⟨(hcell _).trans e.1, (hcell _).trans e.2.1, (hcell _).trans e.2.2.1, (hcell _).trans e.2.2.2⟩, fun hh => by cases hh⟩
theorem ol_build (v0 v1 v2 v3 v4 v5 : Value) (w : World) : (Instr.build 64 #[(0, .agg #[v0, v1, v2, v3, v4, v5])]).run Try.prog w = .ok (.agg (olL v0 v1 v2 v3 v4 v5).toArray) w :=
  run_build w _ _ _ (built_ol v0 v1 v2 v3 v4 v5)
theorem ol_zero (w : World) : (zeroValue 64).run Try.prog w = .ok (.agg (zHead ++ zTab).toArray) w := (zero_of_info info_ol).1 w
theorem ol_size : (Try.prog.info? 64).map (·.size) = some 3178 := (zero_of_info info_ol).2
theorem ol_store (v0 v1 v2 v3 v4 v5 : Value) (h0 : v0.oneCell' = true) (h1 : v1.oneCell' = true) (h2 : v2.oneCell' = true) (h3 : v3.oneCell' = true) (h4 : v4.oneCell' = true) (h5 : v5.oneCell' = true) (w : World) :
    (Instr.storeAt 64 (.pointer (some ⟨w.heap.size, 0, none⟩)) (.agg (olL v0 v1 v2 v3 v4 v5).toArray)).run Try.prog (w.alloc (.cells (zHead ++ zTab).toArray 64)) = .ok () (w.alloc (.cells (olL v0 v1 v2 v3 v4 v5).toArray 64)) := by
  refine run_storeAt_new w _ _ _ ?_ ?_ ?_
  · rw [ol_size]; simp [olL_len]
  · simp [olL_len, zTab_len, zHead]
  · simp [olL, h0, h1, h2, h3, h4, h5]
    have := zTab_one
    simpa [List.all_eq_true] using this
abbrev setL (v0 v1 v2 v3 v4 v5 : Value) : List Value := ((((((zHead ++ zTab).set 0 v0).set 1 v1).set 2 v2).set 3 v3).set 4 v4).set 5 v5
theorem setL_eq (v0 v1 v2 v3 v4 v5 : Value) : setL v0 v1 v2 v3 v4 v5 = olL v0 v1 v2 v3 v4 v5 := rfl
theorem ol_cells (v0 v1 v2 v3 v4 v5 : Value) (h0 : v0.oneCell' = true) (h1 : v1.oneCell' = true) (h2 : v2.oneCell' = true) (h3 : v3.oneCell' = true) (h4 : v4.oneCell' = true) (h5 : v5.oneCell' = true) (w : World) :
    (storeCells ⟨w.heap.size, 0, none⟩ (setL v0 v1 v2 v3 v4 v5)).run Try.prog (w.alloc (.cells (zHead ++ zTab).toArray 64)) = .ok () (w.alloc (.cells (olL v0 v1 v2 v3 v4 v5).toArray 64)) := by
  rw [setL_eq]
  have := run_storeCells_new (P := Try.prog) w 64 (zHead ++ zTab).toArray (olL v0 v1 v2 v3 v4 v5).toArray (by rw [ol_size]; simp [olL_len]) (by simp [olL_len, zTab_len, zHead]) (by
    simp [olL, h0, h1, h2, h3, h4, h5]
    have := zTab_one
    simpa [List.all_eq_true] using this)
  simpa using this
set_option maxRecDepth 100000 in
set_option maxHeartbeats 1000000 in
theorem ctg_yes (p : Pg) (A : Option Addr) (c : Nat) (A2 : Option Addr) (c2 : Nat) (kh l : Nat) (w : World) (hp : PAt w p A A2) (hg : P13.Good p) (hh : kh ≤ p.xs.length) (ht : tkB (l : Int) p.a p.b = true)
    (HFR : ∀ (O : Nat) (w : World), Ot w O p A c A2 c2 → Calls Try.prog 46 #[.pointer (some ⟨O, 0, none⟩), .int .i64 kh, tv (l : Int) p.a p.b] w (FromIs w O p A c A2 c2 (plan p (p.xs.length - kh) l))) :
    Calls Try.prog 23 #[pv p A c A2 c2, .int .i64 kh, .int .i64 l] w (OneN w (plan p (p.xs.length - kh) l).cost (plan p (p.xs.length - kh) l).ex) := by
  have HI := Lib.hid (fun w' hb => ivp_v (pgB_iff.2 hg) A c A2 c2 w' (hp.kept (w' := w') hb))
  have HT := Lib.hid (fun w => valid_v ht w)
  have HF := Lib.hid HFR
  have HPA := Lib.hid (fun w' hb => hp.kept (w' := w') hb)
  have hx0 : p.xs ≠ [] := by intro e; have := hg.day.n0; rw [e] at this; simp at this
  have hy0 : p.ys ≠ [] := by intro e; have := hg.day.n0; have := hg.day.eq; rw [e] at this; simp at this; omega
  have heq := hg.day.eq
  have hn1 := hg.day.n0
  have hhi : ¬ (kh : Int) > (p.ys.length : Int) := by omega
  have hh0 : ¬ (kh : Int) < 0 := by omega
  have hzr := ol_zero
  have hst := ol_cells (.int .i64 p.L) (.int .i64 p.a) (.int .i64 p.b) (.int .i64 p.pm) (.slice A p.xs.length c) (.slice A2 p.ys.length c2) rfl rfl rfl rfl rfl rfl
  have HBX := Lib.hid (boxB w 31 p A c A2 c2)
  have H60 := B6.new w 31 p A c A2 c2
  have hs0 := alloc_size w (po 31 p A c A2 c2)
  have HB0 := Lib.hid (HBX.out.trans ((alloc_below (w.alloc (po 31 p A c A2 c2)) (tb 29 l p.a p.b)).mono (by omega)))
  have H61 := Lib.hid (H60.kept (alloc_below _ (tb 29 l p.a p.b)))
  have hb8 := BT.new (w.alloc (po 31 p A c A2 c2)) 29 l p.a p.b
  rw [hs0] at hb8
  have HB8 := Lib.hid hb8
  clear heq hp hg ht HFR H60 hb8 hs0
  go_enter Try.func23, Try.ntmps23
  go_wp2_with (first | (go_at_call 14; refine (HI.out _ HB0.out).mono ?_; rintro e w1 ⟨rfl, hb1⟩; refine Hid.out ?_) | fail)
  have HB1 := Lib.hid (HB0.out.trans (hb1.mono HB0.out.size))
  have H62 := Lib.hid (H61.out.kept hb1)
  have HB82 := Lib.hid (HB8.out.kept hb1)
  obtain ⟨a0, a1, a2, a3, a4, a5⟩ := H62.out.out
  obtain ⟨_, b0, b1, b2⟩ := HB82.out
  clear hb1 H61 HB8 HB0
  refine Lib.hid ?_
  go_wp2_with (first | (go_at_call 38; refine (HT.out _).mono ?_; rintro e w2 ⟨rfl, hb2⟩; refine Hid.out ?_) | fail)
  have HB2 := Lib.hid (HB1.out.trans (hb2.mono HB1.out.size))
  have H63 := Lib.hid (H62.out.kept hb2)
  have HB83 := Lib.hid (HB82.out.kept hb2)
  clear a0 a1 a2 a3 a4 a5 b0 b1 b2
  obtain ⟨a0, a1, a2, a3, a4, a5⟩ := H63.out.out
  obtain ⟨_, b0, b1, b2⟩ := HB83.out
  clear hb2 H62 HB82 HB1
  have hlt2 := new_lt w2 (.cells (olL (.int .i64 p.L) (.int .i64 p.a) (.int .i64 p.b) (.int .i64 p.pm) (.slice A p.xs.length c) (.slice A2 p.ys.length c2)).toArray 64)
  have HB3 := Lib.hid (HB2.out.trans ((alloc_below w2 (.cells (olL (.int .i64 p.L) (.int .i64 p.a) (.int .i64 p.b) (.int .i64 p.pm) (.slice A p.xs.length c) (.slice A2 p.ys.length c2)).toArray 64)).mono HB2.out.size))
  have hbb := (alloc_below w2 (.cells (olL (.int .i64 p.L) (.int .i64 p.a) (.int .i64 p.b) (.int .i64 p.pm) (.slice A p.xs.length c) (.slice A2 p.ys.length c2)).toArray 64))
  have HB84 := Lib.hid (HB83.out.kept hbb)
  have HO := Lib.hid (Ot.new (c := c) (c2 := c2) (HPA.out w2 HB2.out) hx0 hy0 64)
  clear hbb
  refine Lib.hid ?_
  go_wp2_with (first | (go_at_call 46; refine (HF.out w2.heap.size _ HO.out).mono ?_; rintro e w3 ⟨rfl, hg3, ho3⟩; refine Hid.out ?_) | fail)
  have HB4 := Lib.hid (HB3.out.grown hg3 HB3.out.size (fun k hk => by have : k = w2.heap.size := by simpa using hk.symm
                                                                      have := HB2.out.size
                                                                      omega))
  clear hg3 ho3 HO HB84 HB83 H63 a0 a1 a2 a3 a4 a5 b0 b1 b2 hst hzr
  generalize plan p (p.xs.length - kh) l = q at *
  obtain ⟨qx, qc, qv⟩ := q
  refine Lib.hid ?_
  go_wp2_with fail
  have hG := @cell_g
  refine region_below (by kernel_rfl) (by kernel_rfl) ?_
  repeat (first | go_big_quiet_step (fail))
  refine wpQuiet_nil ?_
  intro w5 hb5
  have HB5 := Lib.hid ((HB4.out.trans ((alloc_below w3 (.cells #[.bool true, .bool qx, .int .i64 qc, .int .i64 qv] 60)).mono HB4.out.size)).trans (hb5.mono (Nat.le_trans HB4.out.size (alloc_below w3 (.cells #[.bool true, .bool qx, .int .i64 qc, .int .i64 qv] 60)).size)))
  go_wp2_with fail
  go_ret2
  exact ⟨rfl, HB5.out⟩
theorem from_any (p : Pg) (A : Option Addr) (c : Nat) (A2 : Option Addr) (c2 O : Nat) (hg : P13.Good p) : ∀ (r h l : Nat) (w : World), h + r = p.xs.length → tkB (l : Int) p.a p.b = true → Ot w O p A c A2 c2 →
    Calls Try.prog 46 #[.pointer (some ⟨O, 0, none⟩), .int .i64 h, tv (l : Int) p.a p.b] w (FromIs w O p A c A2 c2 (plan p r l))
  | 0, h, l, w, hh, ht, ho => from_zero p A c A2 c2 O h l w hg (by have := hg.day.eq; omega) ht ho
  | r + 1, h, l, w, hh, ht, ho => from_succ p A c A2 c2 O h l w hg r hh (fun l' w' ht' ho' => by
      have := from_any p A c A2 c2 O hg r (h + 1) l' w' (by omega) ht' ho'
      rw [show ((h + 1 : Nat) : Int) = (h : Int) + 1 by omega] at this
      exact this) ht ho
end Go.Proofs.Ytlkomipjamelkaa.S13
