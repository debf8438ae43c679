/- An hour of a tank and the days of the model: what the model returns: contracts. Conditions: each theorem's own premises. -/
import Derived.Test.YtlkomipjamelkaaTkStep
namespace Go.Proofs.Ytlkomipjamelkaa.S11
open Go.RowKit P11

/-- A call's two boxes: its tank and its result. -/
structure TwoT (w w' : World) (L a b : Int) : Prop where
  bt : BT w' w.heap.size L a b
  br : BT w' (w.heap.size + 1) 0 0 0
  ft : FZ w' w.heap.size
  fr : FZ w' (w.heap.size + 1)
  bw : Below w.heap.size w w'
theorem two_tk (w : World) (L a b : Int) : TwoT w ((w.alloc (tb 29 L a b)).alloc (tb 29 0 0 0)) L a b := by
  have hz : (w.alloc (tb 29 L a b)).heap.size = w.heap.size + 1 := by simp
  have hr := BT.new (w.alloc (tb 29 L a b)) 29 0 0 0
  have hf := FZ.new (w.alloc (tb 29 L a b)) #[.int .i64 0, .int .i64 0, .int .i64 0] 29
  rw [hz] at hr hf
  exact ⟨(BT.new w _ L a b).kept (alloc_below _ _), hr, (FZ.new w _ _).kept (alloc_below _ _) (by simp), hf, two_below _ _ _⟩
theorem TwoT.kept {w w' w2 : World} {L a b : Int} (h : TwoT w w' L a b) (hb : Below w'.heap.size w' w2) : TwoT w w2 L a b :=
  ⟨h.bt.kept hb, h.br.kept hb, h.ft.kept hb h.bt.1, h.fr.kept hb h.br.1, h.bw.trans (hb.mono h.bw.size)⟩
theorem most_any (x y : Int) (w : World) : Calls Try.prog 60 #[.int .i64 x, .int .i64 y] w fun e w' => e = .returned (.int .i64 (if x > y then x else y)) ∧ w' = w := by
  by_cases h : x > y
  · rw [if_pos h]
    go_enter Try.func60, Try.ntmps60
    go_wp2
    go_ret
    exact ⟨rfl, rfl⟩
  · rw [if_neg h]
    go_enter Try.func60, Try.ntmps60
    go_wp2
    go_ret
    exact ⟨rfl, rfl⟩
theorem most_v {x y z : Int} (h : (if x > y then x else y) = z) (w : World) : Calls Try.prog 60 #[.int .i64 x, .int .i64 y] w fun e w' => e = .returned (.int .i64 z) ∧ w' = w := by
  rw [← h]; exact most_any x y w
def SStepIs (w : World) (L a b x y : Int) (e : Ending) (w' : World) : Prop :=
  e = .returned (.tuple #[.int .i64 (nxt a b L x y), .int .i64 (spl b L x), .int .i64 (mis a b L x y)]) ∧ Below w.heap.size w w'
set_option maxHeartbeats 2000000 in
theorem lstep_any (L0 L a b x y : Int) (w : World) (h : stB L a b x y = true) :
    Calls Try.prog 58 #[tv L0 a b, .int .i64 L, .int .i64 x, .int .i64 y] w (SStepIs w L a b x y) := by
  obtain ⟨ht, ⟨hx0, hx1⟩, hy0, hy1⟩ := stB_iff.1 h
  obtain ⟨⟨hs0, hs1⟩, ⟨hm0, hm1⟩, hn0, hn1⟩ := step_in ht ⟨hx0, hx1⟩ ⟨hy0, hy1⟩
  obtain ⟨a0, a1, a2, a3⟩ := tkB_iff.1 ht
  have H1 := Lib.hid (fun w => most_v (x := 0) (y := L + x - b) (z := spl b L x) (by unfold spl; split <;> split <;> omega) w)
  have H2 := Lib.hid (fun w => most_v (x := 0) (y := a - (L + x - spl b L x - y)) (z := mis a b L x y) (by unfold mis; split <;> split <;> omega) w)
  have HN := Lib.hid (show L + x - spl b L x - y + mis a b L x y = nxt a b L x y from rfl)
  have HB := Lib.hid (alloc_below w (tb 29 L0 a b))
  clear h ht
  unfold SStepIs
  generalize spl b L x = s at *
  generalize mis a b L x y = m at *
  generalize nxt a b L x y = z at *
  go_enter Try.func58, Try.ntmps58
  go_wp2_with (first | (go_at_call 60; refine (H1.out _).mono ?_; rintro e w1 ⟨rfl, hw⟩; replace hw := hw.symm; subst hw; refine Hid.out ?_) | fail)
  refine Lib.hid ?_
  go_wp2_with (first | (go_at_call 60; refine (H2.out _).mono ?_; rintro e w1 ⟨rfl, hw⟩; replace hw := hw.symm; subst hw; refine Hid.out ?_) | fail)
  refine Lib.hid ?_
  go_wp2_with fail
  go_ret3
  exact ⟨by rw [HN.out]; rfl, HB.out⟩

end Go.Proofs.Ytlkomipjamelkaa.S11
