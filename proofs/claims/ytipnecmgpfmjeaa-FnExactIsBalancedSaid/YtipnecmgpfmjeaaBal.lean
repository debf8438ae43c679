/- IsBalanced of the program and of the model: contracts. Conditions: each theorem's own premises. -/
import Derived.Test.YtipnecmgpfmjeaaImB
import Derived.Laws.StructEq
import Derived.Laws.Rows
namespace Go.Proofs.Ytipnecmgpfmjeaa.S2
open Go.RowKit P2

/-- Do they balance? -/
def balB (S : Nat → Int) : Bool := (List.range 9).all fun v => S v == 0
theorem balB_of {S : Nat → Int} (h : balB S = true) {v : Nat} (hv : v < 9) : S v = 0 := by
  unfold balB at h
  rw [List.all_eq_true] at h
  simpa using h v (List.mem_range.2 hv)
theorem balB_mk {S : Nat → Int} (h : ∀ v, v < 9 → S v = 0) : balB S = true := by
  unfold balB
  rw [List.all_eq_true]
  intro v hv
  simpa using h v (List.mem_range.1 hv)
theorem balB_no {S : Nat → Int} {v : Nat} (hv : v < 9) (h : S v ≠ 0) : balB S = false := by
  rw [← Bool.not_eq_true]
  exact fun hb => h (balB_of hb hv)
section
variable {P : Program} (w : World)
theorem run_equalIn_ints (d : Nat) (t e : TypeId) (n : Nat) (ht : P.underlying t = some (.array n e)) (he : P.underlying e = some (.int .i64)) (hsz : ∀ w, (sizeOf e).run P w = .ok 1 w)
    (xs ys : Array Value) (f g : Nat → Int) (hx : ∀ i, i < n → xs[i]? = some (.int .i64 (f i))) (hy : ∀ i, i < n → ys[i]? = some (.int .i64 (g i))) :
    (Op.equalIn (d + 2) t (.agg xs) (.agg ys)).run P w = .ok ((List.range n).all fun i => f i == g i) w := by
  rw [List.range_eq_range', Op.equalIn]
  simp only [Sem.run_bind, run_underlying ht, Result.andThen_ok, hsz, Std.Legacy.Range.forIn_eq_forIn_range', Std.Legacy.Range.size, Nat.sub_zero, Nat.add_sub_cancel, Nat.div_one]
  have hl : ∀ i ∈ List.range' 0 n 1, i < n := fun i hi => by simpa using (List.mem_range'_1.1 hi).2
  generalize List.range' 0 n 1 = l at hl ⊢
  induction l with
  | nil => simp
  | cons i l ih =>
    have hi : i < n := hl i (by simp)
    have px : (part e xs (i * 1)).run P w = .ok (.int .i64 (f i)) w := by
      simp [part, isAgg, run_underlying he, hx i hi]
    have py : (part e ys (i * 1)).run P w = .ok (.int .i64 (g i)) w := by
      simp [part, isAgg, run_underlying he, hy i hi]
    have pe : (Op.equalIn (d + 1) e (.int .i64 (f i)) (.int .i64 (g i))).run P w = .ok (f i == g i) w := run_equalIn_int w d e _ _ _ _ he
    simp only [List.forIn_cons, Sem.run_bind, px, py, pe, Result.andThen_ok, List.all_cons]
    cases hb : (f i == g i)
    · simp
    · simp only [Bool.not_true, Bool.false_eq_true, if_false, Sem.run_pure, Result.andThen_ok, Bool.true_and]
      exact ih fun j hj => hl j (by simp [hj])
end
theorem nine_get (S : Nat → Int) (i : Nat) (hi : i < 9) : (#[iv (S 0), iv (S 1), iv (S 2), iv (S 3), iv (S 4), iv (S 5), iv (S 6), iv (S 7), iv (S 8)] : Array Value)[i]? = some (.int .i64 (S i)) := by
  match i, hi with
  | 0, _ => rfl
  | 1, _ => rfl
  | 2, _ => rfl
  | 3, _ => rfl
  | 4, _ => rfl
  | 5, _ => rfl
  | 6, _ => rfl
  | 7, _ => rfl
  | 8, _ => rfl
theorem eq_nine (S : Nat → Int) (w : World) : (Op.equalIn 10000 90 (.agg #[.int .i64 (S 0), .int .i64 (S 1), .int .i64 (S 2), .int .i64 (S 3), .int .i64 (S 4), .int .i64 (S 5), .int .i64 (S 6), .int .i64 (S 7), .int .i64 (S 8)])
    (.agg #[.int .i64 0, .int .i64 0, .int .i64 0, .int .i64 0, .int .i64 0, .int .i64 0, .int .i64 0, .int .i64 0, .int .i64 0])).run Try.prog w = .ok (balB S) w :=
  run_equalIn_ints (P := Try.prog) w 9998 90 3 9 Try.underlying90 Try.underlying3 Try.sizeOf3 _ _ S (fun _ => 0) (nine_get S) (nine_get (fun _ => 0))
set_option maxHeartbeats 1000000 in
theorem bal_no (n : Int) (A : Option Addr) (cap : Nat) (ps : List Pp) (s : Int) (AD : Option Addr) (dc : Nat) (dm : List Int) (AF : Option Addr) (fc : Nat) (fl : List Int) (w : World) (h : PAt w A ps) (hm : ps.length ≤ maxLen)
    (hd : IAt w AD dm) (hdl : dm.length ≤ 1048576) (hf : IAt w AF fl) (hfl : fl.length ≤ 1048576) (hv : askB n ps s dm fl = false) :
    Calls Try.prog 19 #[nv n A ps.length cap, .int .i64 s, .slice AD dm.length dc, .slice AF fl.length fc] w fun e w' => e = .returned (.tuple #[.bool false, .bool false]) ∧ Below w.heap.size w w' := by
  have H1 := Lib.hid (fun w' (hb : Below w.heap.size w w') => imb_no n A cap ps s AD dc dm AF fc fl w' (h.kept hb (Nat.le_refl _)) hm (hd.kept hb (Nat.le_refl _)) hdl (hf.kept hb (Nat.le_refl _)) hfl hv)
  clear h hd hf hv
  go_enter Try.func19, Try.ntmps19
  go_wp2_with (go_at_call 61; refine (H1.out _ ((Below.refl _ _).alloc (Nat.le_refl _) _)).mono ?_; rintro e w1 ⟨rfl, hb1⟩)
  go_ret2
  have hb2 := below_alloc_call hb1
  exact ⟨rfl, hb2.alloc hb2.size _⟩
set_option maxHeartbeats 1000000 in
set_option maxRecDepth 100000 in
theorem bal_yes (N s : Nat) (A : Option Addr) (cap : Nat) (ps : List Pp) (AD : Option Addr) (dc : Nat) (dm : List Int) (AF : Option Addr) (fc : Nat) (fl : List Int) (w : World) (h : PAt w A ps) (hm : ps.length ≤ maxLen)
    (hd : IAt w AD dm) (hdl : dm.length ≤ 1048576) (hf : IAt w AF fl) (hfl : fl.length ≤ 1048576) (hv : askB N ps s dm fl = true) :
    Calls Try.prog 19 #[nv N A ps.length cap, .int .i64 (s : Int), .slice AD dm.length dc, .slice AF fl.length fc] w fun e w' => e = .returned (.tuple #[.bool (balB (imbA s dm ps fl)), .bool true]) ∧ Below w.heap.size w w' := by
  have H1 := Lib.hid (fun w' (hb : Below w.heap.size w w') => imb_yes N s A cap ps AD dc dm AF fc fl w' (h.kept hb (Nat.le_refl _)) hm (hd.kept hb (Nat.le_refl _)) hdl (hf.kept hb (Nat.le_refl _)) hfl hv)
  clear h hd hf hv hm hdl hfl
  generalize imbA s dm ps fl = S at *
  have hE := eq_nine S
  generalize balB S = bb at *
  go_enter Try.func19, Try.ntmps19
  go_wp2_with (go_at_call 61; refine (H1.out _ ((Below.refl _ _).alloc (Nat.le_refl _) _)).mono ?_; rintro e w1 ⟨rfl, hb1⟩)
  go_ret2
  have hb2 := below_alloc_call hb1
  exact ⟨rfl, hb2.alloc hb2.size _⟩
end Go.Proofs.Ytipnecmgpfmjeaa.S2
