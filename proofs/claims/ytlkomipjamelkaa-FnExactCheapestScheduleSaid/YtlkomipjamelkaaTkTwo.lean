/- A day of a tank is valid; an hour of a tank: what the program and the model return: contracts. Conditions: each theorem's own premises. -/
import Derived.Test.YtlkomipjamelkaaTkOne
namespace Go.Proofs.Ytlkomipjamelkaa.S11
open Go.RowKit P11

theorem day_eq (L a b : Int) (xs ys : List Int) : dayB L a b xs ys = (tkB L a b && (decide (1 ≤ (xs.length : Int)) && (decide ((xs.length : Int) ≤ 12) && (amtB xs xs.length 0 100 && amtB ys xs.length 0 100)))) := by
  unfold dayB amtB
  rw [allR_vols, allR_vols]
  cases tkB L a b
  · rfl
  · have e1 : decide (1 ≤ xs.length ∧ xs.length ≤ 12) = (decide (1 ≤ (xs.length : Int)) && decide ((xs.length : Int) ≤ 12)) := by
      rw [← Bool.decide_and]
      exact decide_eq_decide.2 (by omega)
    have e2 : decide (ys.length = xs.length) = decide ((ys.length : Int) = (xs.length : Int)) := decide_eq_decide.2 (by omega)
    rw [e1, e2]
    generalize decide (1 ≤ (xs.length : Int)) = p1
    generalize decide ((xs.length : Int) ≤ 12) = p2
    generalize decide ((ys.length : Int) = (xs.length : Int)) = p3
    simp
    cases p1 <;> cases p2 <;> cases p3 <;> cases volsB xs <;> cases volsB ys <;> rfl
def dayPost (w : World) (v : Bool) (e : Ending) (w' : World) : Prop := e = .returned (.bool v) ∧ Below w.heap.size w w'
set_option maxHeartbeats 1000000 in
theorem day_any (L a b : Int) (A : Option Addr) (cap : Nat) (xs : List Int) (AU : Option Addr) (cc : Nat) (ys : List Int) (w : World) (hx : IAt w A xs) (hxl : xs.length ≤ 1048576) (hy : IAt w AU ys) (hyl : ys.length ≤ 1048576) :
    Calls Try.prog 56 #[tv L a b, .slice A xs.length cap, .slice AU ys.length cc] w fun e w' => e = .returned (.bool (dayB L a b xs ys)) ∧ Below w.heap.size w w' := by
  rw [day_eq]
  have hB0 := alloc_below w (tb 29 L a b)
  have HV := Lib.hid (fun w => valid_any L a b w)
  have HX := Lib.hid (fun w' (hb : Below w.heap.size w w') => am_any A cap xs xs.length 0 100 w' (hx.kept hb (Nat.le_refl _)) hxl)
  have HY := Lib.hid (fun w' (hb : Below w.heap.size w w') => am_any AU cc ys xs.length 0 100 w' (hy.kept hb (Nat.le_refl _)) hyl)
  clear hx hy
  generalize tkB L a b = v1 at *
  generalize amtB xs xs.length 0 100 = v2 at *
  generalize amtB ys xs.length 0 100 = v3 at *
  obtain ⟨d1, h1⟩ : ∃ d, decide (1 ≤ (xs.length : Int)) = d := ⟨_, rfl⟩
  obtain ⟨d2, h2⟩ : ∃ d, decide ((xs.length : Int) ≤ 12) = d := ⟨_, rfl⟩
  rw [h1, h2]
  have HB0 := Lib.hid hB0
  clear hB0
  cases v1
  · rw [Bool.false_and]
    go_enter Try.func56, Try.ntmps56
    go_wp2_with (first | (go_at_call 38; refine (HV.out _).mono ?_; rintro e w1 ⟨rfl, hb1⟩; have hB1 := HB0.out.trans (hb1.mono HB0.out.size); clear hb1; refine Hid.out ?_) | fail)
    refine Lib.hid ?_
    go_wp2_with fail
    go_ret
    exact ⟨rfl, hB1⟩
  · rw [Bool.true_and]
    cases d1
    · rw [Bool.false_and]
      go_enter Try.func56, Try.ntmps56
      go_wp2_with (first | (go_at_call 38; refine (HV.out _).mono ?_; rintro e w1 ⟨rfl, hb1⟩; have hB1 := HB0.out.trans (hb1.mono HB0.out.size); clear hb1; refine Hid.out ?_) | fail)
      refine Lib.hid ?_
      go_wp2_with fail
      go_ret
      exact ⟨rfl, hB1⟩
    · rw [Bool.true_and]
      cases d2
      · rw [Bool.false_and]
        go_enter Try.func56, Try.ntmps56
        go_wp2_with (first | (go_at_call 38; refine (HV.out _).mono ?_; rintro e w1 ⟨rfl, hb1⟩; have hB1 := HB0.out.trans (hb1.mono HB0.out.size); clear hb1; refine Hid.out ?_) | fail)
        refine Lib.hid ?_
        go_wp2_with fail
        go_ret
        exact ⟨rfl, hB1⟩
      · rw [Bool.true_and]
        cases v2
        · rw [Bool.false_and]
          go_enter Try.func56, Try.ntmps56
          go_wp2_with (first | (go_at_call 38; refine (HV.out _).mono ?_; rintro e w1 ⟨rfl, hb1⟩; have hB1 := HB0.out.trans (hb1.mono HB0.out.size); clear hb1; refine Hid.out ?_) | fail)
          refine Lib.hid ?_
          go_wp2_with (first | (go_at_call 39; refine (HX.out _ hB1).mono ?_; rintro e w2 ⟨rfl, hb2⟩; have hB2 := hB1.trans (hb2.mono hB1.size); clear hb2; refine Hid.out ?_) | fail)
          refine Lib.hid ?_
          go_wp2_with fail
          go_ret
          exact ⟨rfl, hB2⟩
        · rw [Bool.true_and]
          go_enter Try.func56, Try.ntmps56
          go_wp2_with (first | (go_at_call 38; refine (HV.out _).mono ?_; rintro e w1 ⟨rfl, hb1⟩; have hB1 := HB0.out.trans (hb1.mono HB0.out.size); clear hb1; refine Hid.out ?_) | fail)
          refine Lib.hid ?_
          go_wp2_with (first | (go_at_call 39; refine (HX.out _ hB1).mono ?_; rintro e w2 ⟨rfl, hb2⟩; have hB2 := hB1.trans (hb2.mono hB1.size); clear hb2; refine Hid.out ?_) | fail)
          refine Lib.hid ?_
          go_wp2_with (first | (go_at_call 39; refine (HY.out _ hB2).mono ?_; rintro e w3 ⟨rfl, hb3⟩; have hB3 := hB2.trans (hb3.mono hB2.size); clear hb3; refine Hid.out ?_) | fail)
          refine Lib.hid ?_
          go_wp2_with fail
          go_ret
          exact ⟨rfl, hB3⟩
theorem day_v {L a b : Int} {xs ys : List Int} {v : Bool} (hv : dayB L a b xs ys = v) (A : Option Addr) (cap : Nat) (AU : Option Addr) (cc : Nat) (w : World) (hx : IAt w A xs) (hxl : xs.length ≤ 1048576) (hy : IAt w AU ys) (hyl : ys.length ≤ 1048576) :
    Calls Try.prog 56 #[tv L a b, .slice A xs.length cap, .slice AU ys.length cc] w fun e w' => e = .returned (.bool v) ∧ Below w.heap.size w w' := by
  rw [← hv]; exact day_any L a b A cap xs AU cc ys w hx hxl hy hyl

/-! ### An hour -/
def stB (L a b x y : Int) : Bool := tkB L a b && (volB x && volB y)
theorem stB_day (L a b x y : Int) : dayB L a b [x] [y] = stB L a b x y := by
  unfold dayB stB volsB
  simp
theorem row_iat (w : World) (x : Int) (t : TypeId) : IAt (w.alloc (.cells #[.int .i64 x] t)) (some ⟨w.heap.size, 0, none⟩) [x] := by
  refine .inr ⟨w.heap.size, 0, rfl, by simp, fun i hi => ?_⟩
  have : i = 0 := by simp at hi; omega
  subst this
  rw [World.cell?_alloc_at _ _ _ _ rfl]
  rfl
end Go.Proofs.Ytlkomipjamelkaa.S11
