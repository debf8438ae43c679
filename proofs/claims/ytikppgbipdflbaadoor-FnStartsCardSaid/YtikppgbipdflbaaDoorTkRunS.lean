/- A day of a tank of the model: what it returns: contracts. Conditions: each theorem's own premises. -/
import Derived.Test.YtikppgbipdflbaaDoorTkRun
import Derived.OwnWalk
namespace Go.Proofs.YtikppgbipdflbaaDoor.S11
open Go.RowKit Go.Sort P11

/-- Three rows of the call's own beside its tank. -/
structure R3 (w wr : World) (L a b : Int) (g1 c1 : Nat) (l1 : List Int) (g2 c2 : Nat) (l2 : List Int) (g3 c3 : Nat) (l3 : List Int) : Prop where
  o1 : IOwn wr (w.heap.size + 1) (.slice (some ⟨g1, 0, none⟩) l1.length c1) l1
  o2 : IOwn wr (w.heap.size + 1) (.slice (some ⟨g2, 0, none⟩) l2.length c2) l2
  o3 : IOwn wr (w.heap.size + 1) (.slice (some ⟨g3, 0, none⟩) l3.length c3) l3
  d12 : g1 ≠ g2
  d13 : g1 ≠ g3
  d23 : g2 ≠ g3
  bt : BT wr w.heap.size L a b
  bw : Below w.heap.size w wr
theorem R3.rot {w wr : World} {L a b : Int} {g1 c1 : Nat} {l1 : List Int} {g2 c2 : Nat} {l2 : List Int} {g3 c3 : Nat} {l3 : List Int} (h : R3 w wr L a b g1 c1 l1 g2 c2 l2 g3 c3 l3) : R3 w wr L a b g2 c2 l2 g3 c3 l3 g1 c1 l1 :=
  ⟨h.o2, h.o3, h.o1, h.d23, h.d12.symm, h.d13.symm, h.bt, h.bw⟩
theorem R3.call {w wr w2 : World} {L a b : Int} {g1 c1 : Nat} {l1 : List Int} {g2 c2 : Nat} {l2 : List Int} {g3 c3 : Nat} {l3 : List Int} (h : R3 w wr L a b g1 c1 l1 g2 c2 l2 g3 c3 l3) (hb : Below wr.heap.size wr w2) : R3 w w2 L a b g1 c1 l1 g2 c2 l2 g3 c3 l3 :=
  ⟨h.o1.on hb, h.o2.on hb, h.o3.on hb, h.d12, h.d13, h.d23, h.bt.kept hb, h.bw.trans (hb.mono h.bw.size)⟩
/-- A number is appended to the first row. -/
theorem R3.push {w wr w2 : World} {L a b x : Int} {g1 c1 : Nat} {l1 : List Int} {g2 c2 : Nat} {l2 : List Int} {g3 c3 : Nat} {l3 : List Int} {v' : Value} (h : R3 w wr L a b g1 c1 l1 g2 c2 l2 g3 c3 l3) (hg : wr.grownBy w2 (some g1)) (ho : w2.ownsRow (w.heap.size + 1) 3 1 v' (l1.length + 1) (l1.map iv ++ [iv x]))
    (hbl : v'.ownBlock = some g1 ∨ v'.ownBlock = some wr.heap.size) : ∃ g1' c1', v' = .slice (some ⟨g1', 0, none⟩) (l1.length + 1) c1' ∧ R3 w w2 L a b g1' c1' (l1 ++ [x]) g2 c2 l2 g3 c3 l3 := by
  have hq := World.ownsRow.lt h.o1 g1 rfl
  have h2 := World.ownsRow.lt h.o2 g2 rfl
  have h3 := World.ownsRow.lt h.o3 g3 rfl
  obtain ⟨g1', c1', hv, _, _⟩ := ho.form (by omega)
  subst hv
  have hgg : g1' = g1 ∨ g1' = wr.heap.size := by
    rcases hbl with e | e
    · left; simpa [Value.ownBlock] using e
    · right; simpa [Value.ownBlock] using e
  have hl : (l1 ++ [x]).length = l1.length + 1 := by simp
  refine ⟨g1', c1', rfl, ⟨?_, h.o2.far hg (fun e => h.d12 e.symm), h.o3.far hg (fun e => h.d13 e.symm), ?_, ?_, h.d23, h.bt.far hg (by omega), ?_⟩⟩
  · rw [hl]; exact IOwn.push ho
  · rcases hgg with e | e
    · rw [e]; exact h.d12
    · omega
  · rcases hgg with e | e
    · rw [e]; exact h.d13
    · omega
  · exact h.bw.grown hg (Nat.le_trans (Nat.le_refl _) h.bw.size) (fun k hk => by have : k = g1 := by simpa using hk.symm
                                                                                 omega)
theorem R3.new (w : World) (L a b : Int) : R3 w ((((w.alloc (tb 27 L a b)).alloc (.cells #[] 3)).alloc (.cells #[] 3)).alloc (.cells #[] 3)) L a b (w.heap.size + 1) 0 [] (w.heap.size + 2) 0 [] (w.heap.size + 3) 0 [] := by
  have z1 : (w.alloc (tb 27 L a b)).heap.size = w.heap.size + 1 := by simp
  have z2 : ((w.alloc (tb 27 L a b)).alloc (.cells #[] 3)).heap.size = w.heap.size + 2 := by simp
  have z3 : (((w.alloc (tb 27 L a b)).alloc (.cells #[] 3)).alloc (.cells #[] 3)).heap.size = w.heap.size + 3 := by simp
  have o1 := own_empty (w.alloc (tb 27 L a b)) (w.heap.size + 1) (by omega)
  have o2 := own_empty ((w.alloc (tb 27 L a b)).alloc (.cells #[] 3)) (w.heap.size + 1) (by omega)
  have o3 := own_empty (((w.alloc (tb 27 L a b)).alloc (.cells #[] 3)).alloc (.cells #[] 3)) (w.heap.size + 1) (by omega)
  rw [z1] at o1
  rw [z2] at o2
  rw [z3] at o3
  refine ⟨(o1.on (alloc_below _ _)).on (alloc_below _ _), o2.on (alloc_below _ _), o3, by omega, by omega, by omega, (((BT.new w _ L a b).kept (alloc_below _ _)).kept (alloc_below _ _)).kept (alloc_below _ _), ?_⟩
  exact ((two_below w _ _).trans ((alloc_below _ _).mono (by omega))).trans ((alloc_below _ _).mono (by omega))
/-- The model's three lists. -/
def Run3 (w : World) (l1 l2 l3 : List Int) (e : Ending) (w' : World) : Prop :=
  ∃ g1 c1 g2 c2 g3 c3, e = .returned (.tuple #[.slice (some ⟨g1, 0, none⟩) l1.length c1, .slice (some ⟨g2, 0, none⟩) l2.length c2, .slice (some ⟨g3, 0, none⟩) l3.length c3]) ∧ w.heap.size ≤ g1 ∧ g1 < w'.heap.size ∧ g2 < w'.heap.size ∧ g3 < w'.heap.size ∧ IAt w' (some ⟨g1, 0, none⟩) l1 ∧ IAt w' (some ⟨g2, 0, none⟩) l2 ∧ IAt w' (some ⟨g3, 0, none⟩) l3 ∧ Below w.heap.size w w'
theorem R3.post {w wr : World} {L a b : Int} {g1 c1 : Nat} {l1 : List Int} {g2 c2 : Nat} {l2 : List Int} {g3 c3 : Nat} {l3 : List Int} {n : Nat} (h : R3 w wr L a b g1 c1 l1 g2 c2 l2 g3 c3 l3) (h1 : l1.length = n) (h2 : l2.length = n) (h3 : l3.length = n) : Run3 w l1 l2 l3 (.returned (.tuple #[.slice (some ⟨g1, 0, none⟩) n c1, .slice (some ⟨g2, 0, none⟩) n c2, .slice (some ⟨g3, 0, none⟩) n c3])) wr := by
  have b1 := World.ownsRow.lt h.o1 g1 rfl
  exact ⟨g1, c1, g2, c2, g3, c3, by rw [h1, h2, h3], by omega, b1.2, (World.ownsRow.lt h.o2 g2 rfl).2, (World.ownsRow.lt h.o3 g3 rfl).2, h.o1.iat, h.o2.iat, h.o3.iat, h.bw⟩
set_option maxHeartbeats 8000000 in
theorem lrun_any (L0 L a b : Int) (A : Option Addr) (cap : Nat) (xs : List Int) (AU : Option Addr) (cc : Nat) (ys : List Int) (w : World) (hx : IAt w A xs) (hy : IAt w AU ys) (h : Day L a b xs ys) :
    Calls Tryd.prog 35 #[tv L0 a b, .int .i64 L, .slice A xs.length cap, .slice AU ys.length cc] w (Run3 w (levL a b L xs ys xs.length) (spL a b L xs ys xs.length) (miL a b L xs ys xs.length)) := by
  have HX := Lib.hid (fun w' (hb : Below w.heap.size w w') => hx.kept hb (Nat.le_refl _))
  have HY := Lib.hid (fun w' (hb : Below w.heap.size w w') => hy.kept hb (Nat.le_refl _))
  have HDay := Lib.hid h
  have HR0 := Lib.hid (R3.new w L0 a b)
  have hn12 := h.n1
  have HEQ := Lib.hid h.eq
  obtain ⟨i0, hi, hz0, hz1, hz2⟩ := info_parts infoI
  clear hx hy h
  go_enter Tryd.func35, Tryd.ntmps35
  go_wp2_with fail
  go_loopw [14, 1, 11, 12, 13] (fun i l v1 v2 v3 wr => ∃ k g1 c1 g2 c2 g3 c3 : Nat, k ≤ xs.length ∧ i = .int .i64 (k : Int) ∧ l = .int .i64 (lev a b L xs ys k) ∧ v1 = .slice (some ⟨g1, 0, none⟩) k c1 ∧ v2 = .slice (some ⟨g2, 0, none⟩) k c2 ∧ v3 = .slice (some ⟨g3, 0, none⟩) k c3 ∧ Hid (R3 w wr L0 a b g1 c1 (levL a b L xs ys k) g2 c2 (spL a b L xs ys k) g3 c3 (miL a b L xs ys k))) (fun i _ _ _ _ _ => xs.length - (intOf i).toNat)
  case atStart => exact ⟨0, _, 0, _, 0, _, 0, Nat.zero_le _, rfl, rfl, rfl, rfl, rfl, HR0⟩
  case round =>
    obtain ⟨k, g1, c1, g2, c2, g3, c3, hk, rfl, rfl, rfl, rfl, rfl, hr⟩ := hrel
    clear HR0
    have hbw := hr.out.bw
    by_cases hlt : k < xs.length
    · obtain ⟨bb, off, hA, hbl, h0⟩ := (HX.out wr hbw).at_ hlt
      obtain ⟨bb2, off2, hA2, hbl2, h02⟩ := (HY.out wr hbw).at_ (i := k) (by rw [HEQ.out]; exact hlt)
      subst hA hA2
      have hk0 : (0 : Int) ≤ (k : Int) := by omega
      have hkn : (k : Int) < (xs.length : Int) := by omega
      have hkm : (k : Int) < (ys.length : Int) := by rw [HEQ.out]; omega
      have hst : stB (lev a b L xs ys k) a b (xs.getD k 0) (ys.getD k 0) = true := stB_iff.2 ⟨HDay.out.lev hk, vols_at HDay.out.xv hlt, vols_at HDay.out.yv (by rw [HEQ.out]; exact hlt)⟩
      have HST2 : Hid (∀ w, Calls Tryd.prog 47 #[tv L0 a b, .int .i64 (lev a b L xs ys k), .int .i64 (xs.getD k 0), .int .i64 (ys.getD k 0)] w fun e w' => e = .returned (.tuple #[.int .i64 (lev a b L xs ys (k + 1)), .int .i64 (spA a b L xs ys k), .int .i64 (miA a b L xs ys k)]) ∧ Below w.heap.size w w') := Lib.hid (fun w => lstep_any L0 (lev a b L xs ys k) a b (xs.getD k 0) (ys.getD k 0) w hst)
      have S1 := Lib.hid (levL_snoc a b L xs ys k)
      have S2 := Lib.hid (spL_snoc a b L xs ys k)
      have S3 := Lib.hid (miL_snoc a b L xs ys k)
      have n1 := Lib.hid (levL_len a b L xs ys k)
      have n2 := Lib.hid (spL_len a b L xs ys k)
      have n3 := Lib.hid (miL_len a b L xs ys k)
      obtain ⟨hq, d0, d1, d2⟩ := hr.out.bt
      clear hst hbw
      obtain ⟨z, hz⟩ : ∃ z, lev a b L xs ys (k + 1) = z := ⟨_, rfl⟩
      rw [hz] at HST2 S1
      have HZ := Lib.hid hz
      clear hz
      generalize lev a b L xs ys k = l0 at *
      generalize spA a b L xs ys k = sk at *
      generalize miA a b L xs ys k = mk at *
      generalize levL a b L xs ys k = q1 at *
      generalize spL a b L xs ys k = q2 at *
      generalize miL a b L xs ys k = q3 at *
      generalize xs.getD k 0 = x at *
      generalize ys.getD k 0 = y at *
      go_wp2_with fail
      have hG := @cell_g
      refine region_below (by kernel_rfl) (by kernel_rfl) ?_
      repeat (first | go_big_quiet_step ((go_at_call 47; exact met HST2.out)))
      refine wpQuiet_nil ?_
      intro w2 hb2
      have HR := Lib.hid (hr.out.call hb2)
      clear hb2 hr d0 d1 d2 h0 h02
      have ho := HR.out.o1
      unfold IOwn at ho
      rw [n1.out] at ho
      have hbs := HR.out.bw.size
      have hqs := HR.out.bt.1
      go_wp2_with (first
        | (at_builtin; go_must (refine wpList_append_own_at _ rfl _ _ 24 rfl (w.heap.size + 1) 3 i0 (.int .i64 0) 1 8 Tryd.underlying24 hi hz0 hz1 hz2 rfl (by decide) _ _ _ rfl (ho.alloc _) ⟨w2.heap.size, 0, none⟩ 1 1 [iv z] rfl rfl (cell_one_new _ _ _) (by intro u hu; simp at hu; subst hu; rfl) (by unfold maxLen; omega) (by omega) (by simp; omega) ?_); intro v' w5 hown' hgrow hnil hbl'; refine Hid.out ?_)
        | fail)
      obtain ⟨g1, c1, hv', hR'⟩ := (HR.out.call (alloc_below w2 (.cells #[iv z] 3))).push hgrow (by rw [n1.out]; exact hown') hbl'
      rw [n1.out] at hv'
      subst hv'
      have HR := Lib.hid hR'
      clear hown' hgrow hnil hbl' ho hbs hqs hR'
      have HRX := Lib.hid (HR.out.rot)
      clear HR
      have HR := HRX
      clear HRX
      refine Lib.hid ?_
      have ho := HR.out.o1
      unfold IOwn at ho
      rw [n2.out] at ho
      have hbs := HR.out.bw.size
      have hqs := HR.out.bt.1
      go_wp2_with (first
        | (at_builtin; go_must (refine wpList_append_own_at _ rfl _ _ 24 rfl (w.heap.size + 1) 3 i0 (.int .i64 0) 1 8 Tryd.underlying24 hi hz0 hz1 hz2 rfl (by decide) _ _ _ rfl (ho.alloc _) ⟨w5.heap.size, 0, none⟩ 1 1 [iv sk] rfl rfl (cell_one_new _ _ _) (by intro u hu; simp at hu; subst hu; rfl) (by unfold maxLen; omega) (by omega) (by simp; omega) ?_); intro v' w6 hown' hgrow hnil hbl'; refine Hid.out ?_)
        | fail)
      obtain ⟨g2, c2, hv', hR'⟩ := (HR.out.call (alloc_below w5 (.cells #[iv sk] 3))).push hgrow (by rw [n2.out]; exact hown') hbl'
      rw [n2.out] at hv'
      subst hv'
      have HR := Lib.hid hR'
      clear hown' hgrow hnil hbl' ho hbs hqs hR'
      have HRX := Lib.hid (HR.out.rot)
      clear HR
      have HR := HRX
      clear HRX
      refine Lib.hid ?_
      have ho := HR.out.o1
      unfold IOwn at ho
      rw [n3.out] at ho
      have hbs := HR.out.bw.size
      have hqs := HR.out.bt.1
      go_wp2_with (first
        | (at_builtin; go_must (refine wpList_append_own_at _ rfl _ _ 24 rfl (w.heap.size + 1) 3 i0 (.int .i64 0) 1 8 Tryd.underlying24 hi hz0 hz1 hz2 rfl (by decide) _ _ _ rfl (ho.alloc _) ⟨w6.heap.size, 0, none⟩ 1 1 [iv mk] rfl rfl (cell_one_new _ _ _) (by intro u hu; simp at hu; subst hu; rfl) (by unfold maxLen; omega) (by omega) (by simp; omega) ?_); intro v' w7 hown' hgrow hnil hbl'; refine Hid.out ?_)
        | fail)
      obtain ⟨g3, c3, hv', hR'⟩ := (HR.out.call (alloc_below w6 (.cells #[iv mk] 3))).push hgrow (by rw [n3.out]; exact hown') hbl'
      rw [n3.out] at hv'
      subst hv'
      have HR := Lib.hid hR'
      clear hown' hgrow hnil hbl' ho hbs hqs hR'
      have HRR := Lib.hid (HR.out.rot)
      clear HR
      refine Lib.hid ?_
      go_wp2_with fail
      go_roundw
      case rel => exact ⟨k + 1, g1, c1, g2, c2, g3, c3, by omega, by go_num, by rw [HZ.out], rfl, rfl, rfl, by rw [S1.out, S2.out, S3.out]; exact HRR⟩
      case measure => simp [intOf]; omega
    · have e : k = xs.length := by omega
      subst e
      have HP := Lib.hid (hr.out.post (levL_len a b L xs ys xs.length) (spL_len a b L xs ys xs.length) (miL_len a b L xs ys xs.length))
      clear hr
      go_wp2_with fail
      go_ret3
      exact HP.out

/-! ### Sums -/
def vl (l : List Int) (i : Nat) : Int := l.getD i 0
set_option maxHeartbeats 1000000 in
theorem sum_any (AU : Option Addr) (cc : Nat) (l : List Int) (w : World) (h : IAt w AU l) (hB : ∀ k, k ≤ l.length → 0 ≤ sumF (vl l) k ∧ sumF (vl l) k ≤ 100000) (hl : l.length ≤ 1048576) (hv : ∀ i, i < l.length → 0 ≤ l.getD i 0 ∧ l.getD i 0 ≤ 1000) :
    Calls Tryd.prog 36 #[.slice AU l.length cc] w fun e w' => e = .returned (.int .i64 (sumF (vl l) l.length)) ∧ w' = w := by
  have HA := Lib.hid h
  have HB := Lib.hid hB
  have HE := Lib.hid hv
  clear h hB hv
  go_enter Tryd.func36, Tryd.ntmps36
  go_wp2
  go_loop [3, 4] (fun s i => ∃ k : Nat, k ≤ l.length ∧ i = .int .i64 (k : Int) ∧ s = .int .i64 (sumF (vl l) k)) (fun _ i => l.length - (intOf i).toNat)
  case atStart => exact ⟨0, Nat.zero_le _, rfl, rfl⟩
  case round =>
    obtain ⟨k, hk, rfl, rfl⟩ := hrel
    obtain ⟨hs0, hs1⟩ := HB.out k hk
    by_cases hlt : k < l.length
    · obtain ⟨bb, off, hA, hbl, h0⟩ := HA.out.at_ hlt
      subst hA
      have hk0 : (0 : Int) ≤ (k : Int) := by omega
      have hkn : (k : Int) < (l.length : Int) := by omega
      obtain ⟨hy0, hy1⟩ := HE.out k hlt
      have hsn := Lib.hid (show sumF (vl l) (k + 1) = sumF (vl l) k + l.getD k 0 from rfl)
      generalize l.getD k 0 = y at *
      generalize sumF (vl l) k = s at *
      go_wp2
      go_round
      case rel => exact ⟨k + 1, by omega, by go_num, by rw [hsn.out]⟩
      case measure => simp [intOf]; omega
    · have hkk : k = l.length := by omega
      have hf := Lib.hid (show sumF (vl l) k = sumF (vl l) l.length by rw [hkk])
      clear hkk
      go_wp2
      go_ret
      exact ⟨by rw [← hf.out]; rfl, rfl⟩
end Go.Proofs.YtikppgbipdflbaaDoor.S11
