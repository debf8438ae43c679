/- An hour of a tank: what the program returns: contracts. Conditions: each theorem's own premises. -/
import Derived.Test.YtlkomipjamelkaaTkTwo
import Derived.Lib.MinMax
namespace Go.Proofs.Ytlkomipjamelkaa.S11
open Go.RowKit P11

/-- A box that may be written. -/
def FZ (w : World) (g : Nat) : Prop := ∀ j, w.frozen? ⟨g, j, none⟩ = false
theorem FZ.new (w : World) (c : Array Value) (t : TypeId) : FZ (w.alloc (.cells c t)) w.heap.size := fun j => by simp
theorem FZ.kept {w w' : World} {g : Nat} (h : FZ w g) (hb : Below w.heap.size w w') (hg : g < w.heap.size) : FZ w' g := fun j => (hb.frozen (p := ⟨g, j, none⟩) hg).trans (h j)
theorem FZ.out {w : World} {g : Nat} (h : FZ w g) : w.frozen? ⟨g, 0, none⟩ = false ∧ w.frozen? ⟨g, 1, none⟩ = false ∧ w.frozen? ⟨g, 2, none⟩ = false := ⟨h 0, h 1, h 2⟩
theorem stB_iff {L a b x y : Int} : stB L a b x y = true ↔ tkB L a b = true ∧ (0 ≤ x ∧ x ≤ 100) ∧ (0 ≤ y ∧ y ≤ 100) := by
  unfold stB volB
  simp
/-- What an hour gives. -/
def StepIs (w : World) (L a b x y : Int) (e : Ending) (w' : World) : Prop :=
  e = .returned (.tuple #[tv (nxt a b L x y) a b, .int .i64 (spl b L x), .int .i64 (mis a b L x y), .bool true]) ∧ Below w.heap.size w w'
def StepNo (w : World) (e : Ending) (w' : World) : Prop :=
  e = .returned (.tuple #[tv 0 0 0, .int .i64 0, .int .i64 0, .bool false]) ∧ Below w.heap.size w w'
set_option maxHeartbeats 2000000 in
theorem step_yes (L a b x y : Int) (w : World) (h : stB L a b x y = true) :
    Calls Try.prog 48 #[tv L a b, .int .i64 x, .int .i64 y] w (StepIs w L a b x y) := by
  obtain ⟨ht, ⟨hx0, hx1⟩, hy0, hy1⟩ := stB_iff.1 h
  obtain ⟨⟨hs0, hs1⟩, ⟨hm0, hm1⟩, hn0, hn1⟩ := step_in ht ⟨hx0, hx1⟩ ⟨hy0, hy1⟩
  obtain ⟨a0, a1, a2, a3⟩ := tkB_iff.1 ht
  have hday := (stB_day L a b x y).trans h
  have HS : max (L + x - b) 0 = spl b L x := by unfold spl; split <;> omega
  have HM : max (a - (L + (x - spl b L x)) + y) 0 = mis a b L x y := by unfold mis; split <;> omega
  have HN := Lib.hid (show L + (x - spl b L x) - (y - mis a b L x y) = nxt a b L x y by unfold nxt; omega)
  have HB0 := two_below w (tb 29 L a b) (tb 29 0 0 0)
  obtain ⟨W, hW⟩ : ∃ W, W = (((w.alloc (tb 29 L a b)).alloc (tb 29 0 0 0)).alloc (.cells #[.int .i64 x] 3)).alloc (.cells #[.int .i64 y] 3) := ⟨_, rfl⟩
  have HW := Lib.hid hW
  have hWs : W.heap.size = w.heap.size + 4 := by rw [hW]; simp
  have HX : IAt W (some ⟨w.heap.size + 2, 0, none⟩) [x] := by
    rw [hW]
    have := row_iat ((w.alloc (tb 29 L a b)).alloc (tb 29 0 0 0)) x 3
    rw [show ((w.alloc (tb 29 L a b)).alloc (tb 29 0 0 0)).heap.size = w.heap.size + 2 by simp] at this
    exact this.kept (alloc_below _ _) (Nat.le_refl _)
  have HY : IAt W (some ⟨w.heap.size + 3, 0, none⟩) [y] := by
    rw [hW]
    have := row_iat (((w.alloc (tb 29 L a b)).alloc (tb 29 0 0 0)).alloc (.cells #[.int .i64 x] 3)) y 3
    rwa [show (((w.alloc (tb 29 L a b)).alloc (tb 29 0 0 0)).alloc (.cells #[.int .i64 x] 3)).heap.size = w.heap.size + 3 by simp] at this
  have hBW : Below w.heap.size w W := by
    rw [hW]
    exact (HB0.trans ((alloc_below _ _).mono (by simp; omega))).trans ((alloc_below _ _).mono (by simp; omega))
  have HT : BT W w.heap.size L a b := by
    rw [hW]
    exact ((((BT.new w _ L a b).kept (alloc_below _ _)).kept (alloc_below _ _)).kept (alloc_below _ _))
  have HR : BT W (w.heap.size + 1) 0 0 0 := by
    rw [hW]
    have := BT.new (w.alloc (tb 29 L a b)) 29 0 0 0
    rw [show (w.alloc (tb 29 L a b)).heap.size = w.heap.size + 1 by simp] at this
    exact (this.kept (alloc_below _ _)).kept (alloc_below _ _)
  have hf1 : FZ W (w.heap.size + 1) := by
    rw [hW]
    have := FZ.new (w.alloc (tb 29 L a b)) #[.int .i64 0, .int .i64 0, .int .i64 0] 29
    rw [show (w.alloc (tb 29 L a b)).heap.size = w.heap.size + 1 by simp] at this
    exact (this.kept (alloc_below _ _) (by simp)).kept (alloc_below _ _) (by simp; try omega)
  have hf0 : FZ W w.heap.size := by
    rw [hW]
    exact (((FZ.new w _ _).kept (alloc_below _ _) (by simp)).kept (alloc_below _ _) (by simp; try omega)).kept (alloc_below _ _) (by simp; try omega)
  have HD := Lib.hid (fun (c1 c2 : Nat) => day_v hday (some ⟨w.heap.size + 2, 0, none⟩) c1 (some ⟨w.heap.size + 3, 0, none⟩) c2 W HX (by simp) HY (by simp))
  have HWF := Lib.hid (⟨HT, HR, hf0, hf1, hBW, hWs⟩ : BT W w.heap.size L a b ∧ BT W (w.heap.size + 1) 0 0 0 ∧ FZ W w.heap.size ∧ FZ W (w.heap.size + 1) ∧ Below w.heap.size w W ∧ W.heap.size = w.heap.size + 4)
  clear h ht hday HB0 HX HY hBW HT HR hf0 hf1 hWs hW
  unfold StepIs
  generalize spl b L x = s at *
  generalize mis a b L x y = m at *
  generalize nxt a b L x y = z at *
  go_enter Try.func48, Try.ntmps48
  go_wp2_with (go_at_call 56; rw [← HW.out]; refine (HD.out _ _).mono ?_; rintro e w1 ⟨rfl, hb1⟩; refine Hid.out ?_)
  obtain ⟨hT, hR, hf0, hf1, hBW, hWs⟩ := HWF.out
  obtain ⟨_, c0, c1, c2⟩ := hT.kept hb1
  obtain ⟨_, d0, d1, d2⟩ := hR.kept hb1
  obtain ⟨f0, f0a, f0b⟩ := (hf0.kept hb1 (by omega)).out
  obtain ⟨f1, f1a, f1b⟩ := (hf1.kept hb1 (by omega)).out
  have HB1 := Lib.hid (hBW.trans (hb1.mono (by omega)))
  clear hT hR hf0 hf1 hBW hWs hb1 HW HWF HD
  refine Lib.hid ?_
  go_wp2_with fail
  rw [HN.out]
  refine bodyPost_ret (v := .tuple #[tv z a b, .int .i64 s, .int .i64 m, .bool true]) (by simp [results, Try.results48, go_sem, d0, d1, d2]) rfl ⟨rfl, ?_⟩
  exact ((((HB1.out.setCell (p := ⟨w.heap.size, 0, none⟩) (Nat.le_refl _) _).setCell (p := ⟨w.heap.size, 0, none⟩) (Nat.le_refl _) _).setCell (p := ⟨w.heap.size + 1, 0, none⟩) (Nat.le_succ _) _).setCell (p := ⟨w.heap.size + 1, 1, none⟩) (Nat.le_succ _) _).setCell (p := ⟨w.heap.size + 1, 2, none⟩) (Nat.le_succ _) _
set_option maxHeartbeats 2000000 in
theorem step_no (L a b x y : Int) (w : World) (h : stB L a b x y = false) :
    Calls Try.prog 48 #[tv L a b, .int .i64 x, .int .i64 y] w (StepNo w) := by
  have hday := (stB_day L a b x y).trans h
  have HB0 := two_below w (tb 29 L a b) (tb 29 0 0 0)
  obtain ⟨W, hW⟩ : ∃ W, W = (((w.alloc (tb 29 L a b)).alloc (tb 29 0 0 0)).alloc (.cells #[.int .i64 x] 3)).alloc (.cells #[.int .i64 y] 3) := ⟨_, rfl⟩
  have HW := Lib.hid hW
  have hWs : W.heap.size = w.heap.size + 4 := by rw [hW]; simp
  have HX : IAt W (some ⟨w.heap.size + 2, 0, none⟩) [x] := by
    rw [hW]
    have := row_iat ((w.alloc (tb 29 L a b)).alloc (tb 29 0 0 0)) x 3
    rw [show ((w.alloc (tb 29 L a b)).alloc (tb 29 0 0 0)).heap.size = w.heap.size + 2 by simp] at this
    exact this.kept (alloc_below _ _) (Nat.le_refl _)
  have HY : IAt W (some ⟨w.heap.size + 3, 0, none⟩) [y] := by
    rw [hW]
    have := row_iat (((w.alloc (tb 29 L a b)).alloc (tb 29 0 0 0)).alloc (.cells #[.int .i64 x] 3)) y 3
    rwa [show (((w.alloc (tb 29 L a b)).alloc (tb 29 0 0 0)).alloc (.cells #[.int .i64 x] 3)).heap.size = w.heap.size + 3 by simp] at this
  have hBW : Below w.heap.size w W := by
    rw [hW]
    exact (HB0.trans ((alloc_below _ _).mono (by simp; omega))).trans ((alloc_below _ _).mono (by simp; omega))
  have HR : BT W (w.heap.size + 1) 0 0 0 := by
    rw [hW]
    have := BT.new (w.alloc (tb 29 L a b)) 29 0 0 0
    rw [show (w.alloc (tb 29 L a b)).heap.size = w.heap.size + 1 by simp] at this
    exact (this.kept (alloc_below _ _)).kept (alloc_below _ _)
  have hf1 : FZ W (w.heap.size + 1) := by
    rw [hW]
    have := FZ.new (w.alloc (tb 29 L a b)) #[.int .i64 0, .int .i64 0, .int .i64 0] 29
    rw [show (w.alloc (tb 29 L a b)).heap.size = w.heap.size + 1 by simp] at this
    exact (this.kept (alloc_below _ _) (by simp)).kept (alloc_below _ _) (by simp; try omega)
  have HD := Lib.hid (fun (c1 c2 : Nat) => day_v hday (some ⟨w.heap.size + 2, 0, none⟩) c1 (some ⟨w.heap.size + 3, 0, none⟩) c2 W HX (by simp) HY (by simp))
  have HWF := Lib.hid (⟨HR, hf1, hBW, hWs⟩ : BT W (w.heap.size + 1) 0 0 0 ∧ FZ W (w.heap.size + 1) ∧ Below w.heap.size w W ∧ W.heap.size = w.heap.size + 4)
  clear h hday HB0 HX HY hBW HR hf1 hWs hW
  unfold StepNo
  go_enter Try.func48, Try.ntmps48
  go_wp2_with (go_at_call 56; rw [← HW.out]; refine (HD.out _ _).mono ?_; rintro e w1 ⟨rfl, hb1⟩; refine Hid.out ?_)
  obtain ⟨hR, hf1, hBW, hWs⟩ := HWF.out
  obtain ⟨_, d0, d1, d2⟩ := hR.kept hb1
  obtain ⟨f1, f1a, f1b⟩ := (hf1.kept hb1 (by omega)).out
  have HB1 := Lib.hid (hBW.trans (hb1.mono (by omega)))
  clear hR hf1 hBW hWs hb1 HW HWF HD
  refine Lib.hid ?_
  go_wp2_with fail
  refine bodyPost_ret (v := .tuple #[tv 0 0 0, .int .i64 0, .int .i64 0, .bool false]) (by simp [results, Try.results48, go_sem, d0, d1, d2]) rfl ⟨rfl, ?_⟩
  exact ((HB1.out.setCell (p := ⟨w.heap.size + 1, 0, none⟩) (Nat.le_succ _) _).setCell (p := ⟨w.heap.size + 1, 1, none⟩) (Nat.le_succ _) _).setCell (p := ⟨w.heap.size + 1, 2, none⟩) (Nat.le_succ _) _
end Go.Proofs.Ytlkomipjamelkaa.S11
