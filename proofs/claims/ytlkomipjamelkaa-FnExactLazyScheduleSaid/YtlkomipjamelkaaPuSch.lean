/- Good schedules and their costs: plain facts; what the model returns: contracts. Conditions: each theorem's own premises. -/
import Derived.Test.YtlkomipjamelkaaPuGood
import Derived.Deep.DeepCutAuto
namespace Go.Proofs.Ytlkomipjamelkaa.S13
open Go.RowKit Go.Sort Go.ChangeShapes Go.WideShapes Go.Deep Go.Joins P11 S11 P13

/-- The level before hour k of a schedule. -/
def lvS (p : Pg) (vs : List Int) (k : Nat) : Int := lev p.a p.b p.L vs p.ys k
theorem lvS_succ (p : Pg) (vs : List Int) (k : Nat) : lvS p vs (k + 1) = nx p k (lvS p vs k) (vs.getD k 0) := rfl
/-- An hour of a schedule is as it must be. -/
def hrB (p : Pg) (vs : List Int) (k : Nat) : Bool := inR 0 p.pm (vs.getD k 0) && okS p k (lvS p vs k) (vs.getD k 0)
def gsB (p : Pg) (vs : List Int) : Bool := pgB p && (decide (vs.length = p.xs.length) && ((List.range vs.length).all (hrB p vs) && decide (p.L ≤ lvS p vs vs.length)))
theorem gs_no {p : Pg} {vs : List Int} {k : Nat} (hk : k < vs.length) (h : hrB p vs k = false) : (List.range vs.length).all (hrB p vs) = false := by
  rw [List.all_eq_false]
  exact ⟨k, by simpa using hk, by rw [h]; simp⟩
theorem gs_mk {p : Pg} {vs : List Int} (h : ∀ j, j < vs.length → hrB p vs j = true) : (List.range vs.length).all (hrB p vs) = true := by
  rw [List.all_eq_true]
  intro x hx
  exact h x (by simpa using hx)
theorem hr_in {p : Pg} {vs : List Int} {k : Nat} (h : hrB p vs k = true) : (0 ≤ vs.getD k 0 ∧ vs.getD k 0 ≤ p.pm) ∧ okS p k (lvS p vs k) (vs.getD k 0) = true := by
  unfold hrB at h
  rw [Bool.and_eq_true] at h
  exact ⟨by simpa [inR] using h.1, h.2⟩
theorem lvS_tk {p : Pg} (hg : P13.Good p) {vs : List Int} {n : Nat} (hn : n ≤ p.xs.length) (h : ∀ j, j < n → hrB p vs j = true) : ∀ {k : Nat}, k ≤ n → tkB (lvS p vs k) p.a p.b = true
  | 0, _ => hg.day.tk
  | k + 1, hk => by
    rw [lvS_succ]
    have h1 := (hr_in (h k (by omega))).1
    exact hg.nx (by omega) (lvS_tk hg hn h (k := k) (by omega)) h1.1 h1.2
theorem good_st {p : Pg} (hg : P13.Good p) {k : Nat} (hk : k < p.xs.length) {L v : Int} (ht : tkB L p.a p.b = true) (h0 : 0 ≤ v) (h1 : v ≤ p.pm) : stB L p.a p.b v (p.ys.getD k 0) = true :=
  stB_iff.2 ⟨ht, hg.vol h0 h1, hg.out hk⟩
/-- A callee whose contract holds behind this world and ends in Below, met inside. -/
theorem met_at {P : Program} {f : FuncId} {args : Array Value} {w : World} {d : Nat} {os : Array Obj} {v : Value}
    (h : ∀ w', Below w.heap.size w w' → Calls P f args w' fun e w'' => e = .returned v ∧ Below w'.heap.size w' w'') : Calls P f args (grow (redrawn w d) os) fun e w'' => e = .returned v ∧ ∃ p : Regrown, w'' = grow (redrawn w p.d) p.os :=
  Calls.regrown_of (h _ (below_regrown w d os))
/-- An hour of the model. -/
def NextIs (w : World) (p : Pg) (k : Nat) (L v : Int) (e : Ending) (w' : World) : Prop :=
  e = .returned (.tuple #[.int .i64 (nx p k L v), .bool (okS p k L v)]) ∧ Below w.heap.size w w'
set_option maxHeartbeats 2000000 in
theorem lnext_any (p : Pg) (A : Option Addr) (c : Nat) (A2 : Option Addr) (c2 : Nat) (k : Nat) (L v : Int) (w : World) (h : PAt w p A A2) (hk : k < p.ys.length) (hs : stB L p.a p.b v (p.ys.getD k 0) = true) :
    Calls Try.prog 50 #[pv p A c A2 c2, .int .i64 k, .int .i64 L, .int .i64 v] w (NextIs w p k L v) := by
  obtain ⟨ht, hv, hy⟩ := stB_iff.1 hs
  obtain ⟨⟨hs0, hs1⟩, ⟨hm0, hm1⟩, _, _⟩ := step_in ht hv hy
  have HST : Hid (∀ w, Calls Try.prog 58 #[tv p.L p.a p.b, .int .i64 L, .int .i64 v, .int .i64 (p.ys.getD k 0)] w fun e w' => e = .returned (.tuple #[.int .i64 (nx p k L v), .int .i64 (spl p.b L v), .int .i64 (mis p.a p.b L v (p.ys.getD k 0))]) ∧ Below w.heap.size w w') := Lib.hid (fun w => lstep_any p.L L p.a p.b v (p.ys.getD k 0) w hs)
  have HB0 := Lib.hid (boxB w 31 p A c A2 c2)
  have HQ := Lib.hid (show (spl p.b L v + mis p.a p.b L v (p.ys.getD k 0) == 0) = okS p k L v by
    unfold okS
    rw [Bool.eq_iff_iff, beq_iff_eq, decide_eq_true_eq]
    omega)
  obtain ⟨a0, a1, a2, a3, a4, a5⟩ := (B6.new w 31 p A c A2 c2).out
  obtain ⟨by_, oy, hAy, hby, hcy⟩ := (h.y.kept HB0.out (Nat.le_refl _)).at_ hk
  subst hAy
  have hkl : (k : Int) < (p.ys.length : Int) := by omega
  have hk0 : (0 : Int) ≤ (k : Int) := by omega
  have hyl := h.yl
  clear h ht hv hy hs
  unfold NextIs
  generalize okS p k L v = ok at *
  generalize nx p k L v = z at *
  generalize p.ys.getD k 0 = y at *
  generalize spl p.b L v = s at *
  generalize mis p.a p.b L v y = m at *
  go_enter Try.func50, Try.ntmps50
  go_wp2_with fail
  have hG := @cell_g
  have hwl := new_lt w (po 31 p A c (some ⟨by_, oy, none⟩) c2)
  generalize (w.alloc (po 31 p A c (some ⟨by_, oy, none⟩) c2)) = wa at *
  refine region_below (by kernel_rfl) (by kernel_rfl) ?_
  repeat (first | go_big_quiet_step ((go_at_call 58; exact met HST.out)))
  refine wpQuiet_nil ?_
  intro w2 hb2
  have HB2 := Lib.hid (HB0.out.trans (hb2.mono HB0.out.size))
  clear hb2 hG
  go_wp2_with fail
  go_ret2
  exact ⟨by rw [← HQ.out]; rfl, HB2.out⟩
theorem lnext_v {p : Pg} {A : Option Addr} {c : Nat} {A2 : Option Addr} {c2 : Nat} {k : Nat} {L v z : Int} {ok : Bool} (hz : nx p k L v = z) (ho : okS p k L v = ok) (w : World) (h : PAt w p A A2) (hk : k < p.ys.length) (hs : stB L p.a p.b v (p.ys.getD k 0) = true) :
    Calls Try.prog 50 #[pv p A c A2 c2, .int .i64 k, .int .i64 L, .int .i64 v] w fun e w' => e = .returned (.tuple #[.int .i64 z, .bool ok]) ∧ Below w.heap.size w w' := by
  subst hz ho; exact lnext_any p A c A2 c2 k L v w h hk hs
end Go.Proofs.Ytlkomipjamelkaa.S13
