/- The search for a lack, of the program: contracts. Conditions: each theorem's own premises. -/
import Derived.Test.YtikppgbipdflbaaDoorTkStS
import Derived.Deep.RegionHeld
namespace Go.Proofs.YtikppgbipdflbaaDoor.S11
open Go.RowKit P11

/-- What no valid day answers is there. -/
def Er (w : World) (v : Value) : Prop := 0 < w.heap.size ∧ w.cell? ⟨0, 0, none⟩ = some v
theorem Er.kept {w w' : World} {v : Value} (h : Er w v) (hb : Below w.heap.size w w') : Er w' v := ⟨Nat.lt_of_lt_of_le h.1 hb.size, (hb.cell (p := ⟨0, 0, none⟩) h.1).trans h.2⟩
/-- A lack, or none. -/
def lackV : Option Nat → Value
  | none => .nilIface
  | some k => .iface 58 (.agg #[.int .i64 (k : Int)])
set_option maxHeartbeats 2000000 in
theorem sup_no (L a b : Int) (A : Option Addr) (cap : Nat) (xs : List Int) (AU : Option Addr) (cc : Nat) (ys : List Int) (v : Value) (w : World) (he : Er w v) (hx : IAt w A xs) (hxl : xs.length ≤ 1048576) (hy : IAt w AU ys) (hyl : ys.length ≤ 1048576) (h : dayB L a b xs ys = false) :
    Calls Tryd.prog 39 #[tv L a b, .slice A xs.length cap, .slice AU ys.length cc] w fun e w' => e = .returned v ∧ Below w.heap.size w w' := by
  have HD := Lib.hid (fun w' (hb : Below w.heap.size w w') => day_v h A cap AU cc w' (hx.kept hb (Nat.le_refl _)) hxl (hy.kept hb (Nat.le_refl _)) hyl)
  have HB0 := Lib.hid (alloc_below w (tb 27 L a b))
  clear hx hy h
  go_enter Tryd.func39, Tryd.ntmps39
  go_wp2_with (first | (go_at_call 43; refine (HD.out _ HB0.out).mono ?_; rintro e w1 ⟨rfl, hb1⟩; have HB1 := Lib.hid (HB0.out.trans (hb1.mono HB0.out.size)); clear hb1; refine Hid.out ?_) | fail)
  obtain ⟨e0, e1⟩ := he.kept HB1.out
  refine Lib.hid ?_
  go_wp2_with fail
  refine bodyPost_ret (v := v) (by simp [results, Tryd.results39, go_sem]) rfl ⟨rfl, HB1.out⟩
set_option maxHeartbeats 8000000 in
theorem sup_yes (L a b : Int) (A : Option Addr) (cap : Nat) (xs : List Int) (AU : Option Addr) (cc : Nat) (ys : List Int) (w : World) (hx : IAt w A xs) (hxl : xs.length ≤ 1048576) (hy : IAt w AU ys) (hyl : ys.length ≤ 1048576) (h : Day L a b xs ys) :
    Calls Tryd.prog 39 #[tv L a b, .slice A xs.length cap, .slice AU ys.length cc] w fun e w' => e = .returned (lackV (firM a b xs ys L)) ∧ Below w.heap.size w w' := by
  have HD := Lib.hid (fun w' (hb : Below w.heap.size w w') => day_v (dayB_iff.2 h) A cap AU cc w' (hx.kept hb (Nat.le_refl _)) hxl (hy.kept hb (Nat.le_refl _)) hyl)
  have HB0 := Lib.hid (alloc_below w (tb 27 L a b))
  have HT0 := Lib.hid (BT.new w 27 L a b)
  have HF0 := Lib.hid (FZ.new w #[.int .i64 L, .int .i64 a, .int .i64 b] 27)
  have HX := Lib.hid (fun w' (hb : Below w.heap.size w w') => hx.kept hb (Nat.le_refl _))
  have HY := Lib.hid (fun w' (hb : Below w.heap.size w w') => hy.kept hb (Nat.le_refl _))
  have HDay := Lib.hid h
  have hn12 := h.n1
  clear hx hy h
  go_enter Tryd.func39, Tryd.ntmps39
  go_wp2_with (first | (go_at_call 43; refine (HD.out _ HB0.out).mono ?_; rintro e w1 ⟨rfl, hb1⟩; have HB1 := Lib.hid (HB0.out.trans (hb1.mono HB0.out.size)); have HT1 := Lib.hid (HT0.out.kept hb1); have HF1 := Lib.hid (HF0.out.kept hb1 (by simp)); clear hb1 HT0 HF0 HD; refine Hid.out ?_) | fail)
  refine Lib.hid ?_
  go_wp2_with fail
  go_loopw [21] (fun i wr => ∃ k : Nat, k ≤ xs.length ∧ i = .int .i64 (k : Int) ∧ Hid (∀ j, j < k → ¬ 0 < miA a b L xs ys j) ∧ Hid (BT wr w.heap.size (lev a b L xs ys k) a b) ∧ Hid (FZ wr w.heap.size) ∧ Hid (Below w.heap.size w wr)) (fun i _ => xs.length - (intOf i).toNat)
  case atStart => exact ⟨0, Nat.zero_le _, rfl, Lib.hid (fun j hj => absurd hj (by omega)), HT1, HF1, HB1⟩
  case round =>
    obtain ⟨k, hk, rfl, hno, hbt, hfz, hb⟩ := hrel
    by_cases hlt : k < xs.length
    · obtain ⟨bb, off, hA, hbl, h0⟩ := (HX.out wr hb.out).at_ hlt
      obtain ⟨bb2, off2, hA2, hbl2, h02⟩ := (HY.out wr hb.out).at_ (i := k) (by rw [HDay.out.eq]; exact hlt)
      subst hA hA2
      have hk0 : (0 : Int) ≤ (k : Int) := by omega
      have hkn : (k : Int) < (xs.length : Int) := by omega
      have hkm : (k : Int) < (ys.length : Int) := by rw [HDay.out.eq]; omega
      have hst : stB (lev a b L xs ys k) a b (xs.getD k 0) (ys.getD k 0) = true := stB_iff.2 ⟨HDay.out.lev hk, vols_at HDay.out.xv hlt, vols_at HDay.out.yv (by rw [HDay.out.eq]; exact hlt)⟩
      have HST2 : Hid (∀ w, Calls Tryd.prog 26 #[tv (lev a b L xs ys k) a b, .int .i64 (xs.getD k 0), .int .i64 (ys.getD k 0)] w fun e w' => e = .returned (.tuple #[tv (lev a b L xs ys (k + 1)) a b, .int .i64 (spA a b L xs ys k), .int .i64 (miA a b L xs ys k), .bool true]) ∧ Below w.heap.size w w') := Lib.hid (fun w => step_yes (lev a b L xs ys k) a b (xs.getD k 0) (ys.getD k 0) w hst)
      have HSOME := Lib.hid (fun (hp : 0 < miA a b L xs ys k) => (HDay.out.fir_some hlt hno.out hp).1)
      have HNO2 : Hid (¬ 0 < miA a b L xs ys k → ∀ j, j < k + 1 → ¬ 0 < miA a b L xs ys j) := Lib.hid (fun hp j hj => by
        by_cases e : j = k
        · subst e; exact hp
        · exact hno.out j (by omega))
      obtain ⟨hq, c0, c1, c2⟩ := hbt.out
      obtain ⟨z, hz⟩ : ∃ z, lev a b L xs ys (k + 1) = z := ⟨_, rfl⟩
      rw [hz] at HST2
      have HZ := Lib.hid hz
      clear hz hst hbt hno
      generalize lev a b L xs ys k = l0 at *
      generalize spA a b L xs ys k = sk at *
      generalize miA a b L xs ys k = mk at *
      generalize xs.getD k 0 = x at *
      generalize ys.getD k 0 = y at *
      go_upto_region 6 with (fail)
      go_cut [9, 11] (fun p q wx => ∃ G : Nat, p = .pointer (some ⟨G, 0, none⟩) ∧ q = .int .i64 mk ∧ Hid (BT wx G z a b ∧ wr.heap.size ≤ G) ∧ Hid (Below wr.heap.size wr wx))
      case first =>
        refine wp_region_held_drew (S := fun w' => w'.cell? ⟨w.heap.size, 0, none⟩ = some (.int .i64 l0) ∧ w'.cell? ⟨w.heap.size, 1, none⟩ = some (.int .i64 a) ∧ w'.cell? ⟨w.heap.size, 2, none⟩ = some (.int .i64 b) ∧ w'.cell? ⟨bb2, off2 + k, none⟩ = some (.int .i64 y)) (by kernel_rfl) (by exact ⟨c0, c1, c2, h02⟩) (fun hHeld => ?_)
        refine wpAnyH_take (i := 0) (v := tv l0 a b) rfl (by kernel_rfl) (by kernel_rfl) (by kernel_rfl) (fun _ _ _ h => h) (Or.inl ⟨by kernel_rfl, ?_⟩) (by assumption) ?_
        · (intro w hSw; (try dsimp only at hSw); go_simp)
        simp only [Act.put, List.setIfInBounds_toArray]
        refine wpAnyH_take (i := 1) (v := .int .i64 x) rfl (by kernel_rfl) (by kernel_rfl) (by kernel_rfl) (fun _ _ _ h => h) (Or.inl ⟨by kernel_rfl, ?_⟩) (by assumption) ?_
        · (intro w hSw; (try dsimp only at hSw); go_simp)
        simp only [Act.put]
        refine wpAnyH_take (i := 2) (v := .slice (some ⟨bb2, off2, none⟩) ys.length cc) rfl (by kernel_rfl) (by kernel_rfl) (by kernel_rfl) (fun _ _ _ h => h) (Or.inl ⟨by kernel_rfl, ?_⟩) (by assumption) ?_
        · (intro w hSw; (try dsimp only at hSw); go_simp)
        simp only [Act.put]
        refine wpAnyH_take (i := 3) (v := .int .i64 (k : Int)) rfl (by kernel_rfl) (by kernel_rfl) (by kernel_rfl) (fun _ _ _ h => h) (Or.inl ⟨by kernel_rfl, ?_⟩) (by assumption) ?_
        · (intro w hSw; (try dsimp only at hSw); go_simp)
        simp only [Act.put]
        refine wpAnyH_take (i := 4) (v := .pointer (some ⟨bb2, off2 + k, none⟩)) rfl (by kernel_rfl) (by kernel_rfl) (by kernel_rfl) (fun _ _ _ h => h) (Or.inl ⟨by kernel_rfl, ?_⟩) (by assumption) ?_
        · (intro w hSw; (try dsimp only at hSw); go_simp)
        simp only [Act.put]
        refine wpAnyH_take (i := 5) (v := .int .i64 y) rfl (by kernel_rfl) (by kernel_rfl) (by kernel_rfl) (fun _ _ _ h => h) (Or.inl ⟨by kernel_rfl, ?_⟩) (by assumption) ?_
        · (intro w hSw; (try dsimp only at hSw); go_simp)
        simp only [Act.put]
        refine wpAnyH_ready (rs := [6, 12]) (by kernel_rfl) (by simp) ?_
        refine AllReadyH.cons rfl (fun K hK => ?_) (AllReadyH.cons rfl (fun K hK => ?_) AllReadyH.nil)
        · go_simp
          go_at_call 26
          refine (HST2.out _).mono ?_
          rintro e w2 ⟨rfl, hb2⟩
          have hz2 := hb2.size
          simp at hz2
          have t0 := (hb2.cell (p := ⟨w.heap.size, 0, none⟩) (by first | (simp; omega) | omega)).trans c0
          have t1 := (hb2.cell (p := ⟨w.heap.size, 1, none⟩) (by first | (simp; omega) | omega)).trans c1
          have t2 := (hb2.cell (p := ⟨w.heap.size, 2, none⟩) (by first | (simp; omega) | omega)).trans c2
          have t3 := (hb2.cell (p := ⟨bb2, off2 + k, none⟩) (by first | (simp; omega) | omega)).trans h02
          refine hK.out _ _ (by exact ⟨t0, t1, t2, t3⟩) (fun hHeld => ?_)
          clear hK K
          refine wpAnyH_take (i := 7) (v := .tuple #[tv z a b, .int .i64 sk, .int .i64 mk, .bool true]) rfl (by kernel_rfl) (by kernel_rfl) (by kernel_rfl) (fun _ _ _ h => h) (Or.inl ⟨by kernel_rfl, ?_⟩) (by assumption) ?_
          · (intro w hSw; (try dsimp only at hSw); go_simp)
          simp only [Act.put]
          refine wpAnyH_take (i := 8) (v := tv z a b) rfl (by kernel_rfl) (by kernel_rfl) (by kernel_rfl) (fun _ _ _ h => h) (Or.inl ⟨by kernel_rfl, ?_⟩) (by assumption) ?_
          · (intro w hSw; (try dsimp only at hSw); go_simp)
          simp only [Act.put]
          refine wpAnyH_take (i := 9) (v := .int .i64 sk) rfl (by kernel_rfl) (by kernel_rfl) (by kernel_rfl) (fun _ _ _ h => h) (Or.inl ⟨by kernel_rfl, ?_⟩) (by assumption) ?_
          · (intro w hSw; (try dsimp only at hSw); go_simp)
          simp only [Act.put]
          refine wpAnyH_take (i := 10) (v := .int .i64 mk) rfl (by kernel_rfl) (by kernel_rfl) (by kernel_rfl) (fun _ _ _ h => h) (Or.inl ⟨by kernel_rfl, ?_⟩) (by assumption) ?_
          · (intro w hSw; (try dsimp only at hSw); go_simp)
          simp only [Act.put]
          refine wpAnyH_take (i := 11) (v := .bool true) rfl (by kernel_rfl) (by kernel_rfl) (by kernel_rfl) (fun _ _ _ h => h) (Or.inl ⟨by kernel_rfl, ?_⟩) (by assumption) ?_
          · (intro w hSw; (try dsimp only at hSw); go_simp)
          simp only [Act.put]
          refine wpAnyH_ready (rs := [12]) (by kernel_rfl) (by simp) ?_
          refine AllReadyH.cons rfl (fun K hK => ?_) AllReadyH.nil
          go_simp
          have hb3 := alloc_below w2 (tb 27 0 0 0)
          have HBT := Lib.hid (BT.new w2 27 0 0 0)
          have hfz3 := FZ.new w2 #[.int .i64 0, .int .i64 0, .int .i64 0] 27
          have hz3 := hb3.size
          obtain ⟨w3, hw3⟩ : ∃ w3, w3 = w2.alloc (tb 27 0 0 0) := ⟨_, rfl⟩
          rw [← hw3] at HBT hfz3 hb3 hz3
          have HW3 := Lib.hid hw3
          clear hw3
          rw [← HW3.out]
          have r0 := (hb3.cell (p := ⟨w.heap.size, 0, none⟩) (by first | (simp; omega) | omega)).trans t0
          have r1 := (hb3.cell (p := ⟨w.heap.size, 1, none⟩) (by first | (simp; omega) | omega)).trans t1
          have r2 := (hb3.cell (p := ⟨w.heap.size, 2, none⟩) (by first | (simp; omega) | omega)).trans t2
          have r3 := (hb3.cell (p := ⟨bb2, off2 + k, none⟩) (by first | (simp; omega) | omega)).trans t3
          refine hK.out _ _ (by exact ⟨r0, r1, r2, r3⟩) (fun hHeld => ?_)
          clear hK K
          have HBW := Lib.hid ((below_drew_trans hb2).trans (hb3.mono hz2))
          obtain ⟨hq3, n0, n1, n2⟩ := HBT.out
          obtain ⟨g0, g1, g2⟩ := hfz3.out
          clear hfz3 hb2 hb3
          refine wpAnyH_ready (rs := [13]) (by kernel_rfl) (by simp) ?_
          refine AllReadyH.cons rfl (fun K hK => ?_) AllReadyH.nil
          go_simp
          have v0 := (put_far w3 w2.heap.size (w.heap.size) (0) (.int .i64 z) (.int .i64 a) (.int .i64 b) (by omega)).trans r0
          have v1 := (put_far w3 w2.heap.size (w.heap.size) (1) (.int .i64 z) (.int .i64 a) (.int .i64 b) (by omega)).trans r1
          have v2 := (put_far w3 w2.heap.size (w.heap.size) (2) (.int .i64 z) (.int .i64 a) (.int .i64 b) (by omega)).trans r2
          have v3 := (put_far w3 w2.heap.size (bb2) (off2 + k) (.int .i64 z) (.int .i64 a) (.int .i64 b) (by omega)).trans r3
          refine hK.out _ _ (by exact ⟨v0, v1, v2, v3⟩) (fun hHeld => ?_)
          clear hK K
          refine wpAnyH_ready (rs := [14]) (by kernel_rfl) (by simp) ?_
          refine AllReadyH.cons rfl (fun K hK => ?_) AllReadyH.nil
          go_simp
          refine hK.out _ _ (by exact ⟨v0, v1, v2, v3⟩) (fun hHeld => ?_)
          clear hK K
          refine wpAnyH_ready (rs := [15]) (by kernel_rfl) (by simp) ?_
          refine AllReadyH.cons rfl (fun K hK => ?_) AllReadyH.nil
          go_simp
          refine hK.out _ _ (by exact ⟨v0, v1, v2, v3⟩) (fun hHeld => ?_)
          clear hK K
          refine wpAnyH_ready (rs := [16]) (by kernel_rfl) (by simp) ?_
          refine AllReadyH.cons rfl (fun K hK => ?_) AllReadyH.nil
          go_simp
          refine hK.out _ _ (by exact ⟨v0, v1, v2, v3⟩) (fun hHeld => ?_)
          clear hK K
          refine wpAnyH_done (by kernel_rfl) ?_ _
          go_wp2_with fail
          go_meet
          exact ⟨w2.heap.size, rfl, rfl, Lib.hid ⟨HBT.out.put _ _ _, by omega⟩, Lib.hid (put_below HBW.out (by omega) _ _ _)⟩
        · go_simp
          have hb3 : Below wr.heap.size wr (wr.alloc (tb 27 0 0 0)).drew := (alloc_below wr (tb 27 0 0 0)).drew
          have hbt3 : BT (wr.alloc (tb 27 0 0 0)).drew wr.heap.size 0 0 0 := BT.new wr 27 0 0 0
          have hfz3 : FZ (wr.alloc (tb 27 0 0 0)).drew wr.heap.size := FZ.new wr #[.int .i64 0, .int .i64 0, .int .i64 0] 27
          have hz3 := hb3.size
          obtain ⟨w3, hw3⟩ : ∃ w3, w3 = (wr.alloc (tb 27 0 0 0)).drew := ⟨_, rfl⟩
          rw [← hw3] at hbt3 hfz3 hb3 hz3
          have HW3 := Lib.hid hw3
          clear hw3
          rw [← HW3.out]
          have r0 := (hb3.cell (p := ⟨w.heap.size, 0, none⟩) (by first | (simp; omega) | omega)).trans c0
          have r1 := (hb3.cell (p := ⟨w.heap.size, 1, none⟩) (by first | (simp; omega) | omega)).trans c1
          have r2 := (hb3.cell (p := ⟨w.heap.size, 2, none⟩) (by first | (simp; omega) | omega)).trans c2
          have r3 := (hb3.cell (p := ⟨bb2, off2 + k, none⟩) (by first | (simp; omega) | omega)).trans h02
          refine hK.out _ _ (by exact ⟨r0, r1, r2, r3⟩) (fun hHeld => ?_)
          clear hK K
          refine wpAnyH_ready (rs := [6]) (by kernel_rfl) (by simp) ?_
          refine AllReadyH.cons rfl (fun K hK => ?_) AllReadyH.nil
          go_simp
          go_at_call 26
          refine (HST2.out _).mono ?_
          rintro e w2 ⟨rfl, hb2⟩
          have t0 := (hb2.cell (p := ⟨w.heap.size, 0, none⟩) (by first | (simp; omega) | omega)).trans r0
          have t1 := (hb2.cell (p := ⟨w.heap.size, 1, none⟩) (by first | (simp; omega) | omega)).trans r1
          have t2 := (hb2.cell (p := ⟨w.heap.size, 2, none⟩) (by first | (simp; omega) | omega)).trans r2
          have t3 := (hb2.cell (p := ⟨bb2, off2 + k, none⟩) (by first | (simp; omega) | omega)).trans r3
          refine hK.out _ _ (by exact ⟨t0, t1, t2, t3⟩) (fun hHeld => ?_)
          clear hK K
          have hz2 := hb2.size
          have HBT := Lib.hid (hbt3.kept hb2)
          have hfz2 := hfz3.kept hb2 hbt3.1
          have HBW := Lib.hid (hb3.trans (hb2.mono hz3))
          obtain ⟨hq3, n0, n1, n2⟩ := HBT.out
          obtain ⟨g0, g1, g2⟩ := hfz2.out
          clear hfz3 hfz2 hb2 hb3 hbt3
          refine wpAnyH_take (i := 7) (v := .tuple #[tv z a b, .int .i64 sk, .int .i64 mk, .bool true]) rfl (by kernel_rfl) (by kernel_rfl) (by kernel_rfl) (fun _ _ _ h => h) (Or.inl ⟨by kernel_rfl, ?_⟩) (by assumption) ?_
          · (intro w hSw; (try dsimp only at hSw); go_simp)
          simp only [Act.put]
          refine wpAnyH_take (i := 8) (v := tv z a b) rfl (by kernel_rfl) (by kernel_rfl) (by kernel_rfl) (fun _ _ _ h => h) (Or.inl ⟨by kernel_rfl, ?_⟩) (by assumption) ?_
          · (intro w hSw; (try dsimp only at hSw); go_simp)
          simp only [Act.put]
          refine wpAnyH_take (i := 9) (v := .int .i64 sk) rfl (by kernel_rfl) (by kernel_rfl) (by kernel_rfl) (fun _ _ _ h => h) (Or.inl ⟨by kernel_rfl, ?_⟩) (by assumption) ?_
          · (intro w hSw; (try dsimp only at hSw); go_simp)
          simp only [Act.put]
          refine wpAnyH_take (i := 10) (v := .int .i64 mk) rfl (by kernel_rfl) (by kernel_rfl) (by kernel_rfl) (fun _ _ _ h => h) (Or.inl ⟨by kernel_rfl, ?_⟩) (by assumption) ?_
          · (intro w hSw; (try dsimp only at hSw); go_simp)
          simp only [Act.put]
          refine wpAnyH_take (i := 11) (v := .bool true) rfl (by kernel_rfl) (by kernel_rfl) (by kernel_rfl) (fun _ _ _ h => h) (Or.inl ⟨by kernel_rfl, ?_⟩) (by assumption) ?_
          · (intro w hSw; (try dsimp only at hSw); go_simp)
          simp only [Act.put]
          refine wpAnyH_ready (rs := [13]) (by kernel_rfl) (by simp) ?_
          refine AllReadyH.cons rfl (fun K hK => ?_) AllReadyH.nil
          go_simp
          have v0 := (put_far w2 wr.heap.size (w.heap.size) (0) (.int .i64 z) (.int .i64 a) (.int .i64 b) (by omega)).trans t0
          have v1 := (put_far w2 wr.heap.size (w.heap.size) (1) (.int .i64 z) (.int .i64 a) (.int .i64 b) (by omega)).trans t1
          have v2 := (put_far w2 wr.heap.size (w.heap.size) (2) (.int .i64 z) (.int .i64 a) (.int .i64 b) (by omega)).trans t2
          have v3 := (put_far w2 wr.heap.size (bb2) (off2 + k) (.int .i64 z) (.int .i64 a) (.int .i64 b) (by omega)).trans t3
          refine hK.out _ _ (by exact ⟨v0, v1, v2, v3⟩) (fun hHeld => ?_)
          clear hK K
          refine wpAnyH_ready (rs := [14]) (by kernel_rfl) (by simp) ?_
          refine AllReadyH.cons rfl (fun K hK => ?_) AllReadyH.nil
          go_simp
          refine hK.out _ _ (by exact ⟨v0, v1, v2, v3⟩) (fun hHeld => ?_)
          clear hK K
          refine wpAnyH_ready (rs := [15]) (by kernel_rfl) (by simp) ?_
          refine AllReadyH.cons rfl (fun K hK => ?_) AllReadyH.nil
          go_simp
          refine hK.out _ _ (by exact ⟨v0, v1, v2, v3⟩) (fun hHeld => ?_)
          clear hK K
          refine wpAnyH_ready (rs := [16]) (by kernel_rfl) (by simp) ?_
          refine AllReadyH.cons rfl (fun K hK => ?_) AllReadyH.nil
          go_simp
          refine hK.out _ _ (by exact ⟨v0, v1, v2, v3⟩) (fun hHeld => ?_)
          clear hK K
          refine wpAnyH_done (by kernel_rfl) ?_ _
          go_wp2_with fail
          go_meet
          exact ⟨wr.heap.size, rfl, rfl, Lib.hid ⟨HBT.out.put _ _ _, by omega⟩, Lib.hid (put_below HBW.out (by omega) _ _ _)⟩
      case rest =>
        obtain ⟨G, rfl, rfl, hbg, hbw⟩ := hcut
        obtain ⟨hbg1, hGl⟩ := hbg.out
        have s0 := (hbw.out.cell (p := ⟨w.heap.size, 0, none⟩) hq).trans c0
        have s1 := (hbw.out.cell (p := ⟨w.heap.size, 1, none⟩) hq).trans c1
        have s2 := (hbw.out.cell (p := ⟨w.heap.size, 2, none⟩) hq).trans c2
        have HFZ := Lib.hid (hfz.out.kept hbw.out hq)
        obtain ⟨f0, f1, f2⟩ := HFZ.out.out
        obtain ⟨hGl2, n0, n1, n2⟩ := hbg1
        have HBC := Lib.hid (hb.out.trans (hbw.out.mono hb.out.size))
        have HBT := Lib.hid (show BT wc w.heap.size l0 a b from ⟨Nat.lt_of_lt_of_le hq hbw.out.size, s0, s1, s2⟩)
        clear hbg hbw hb c0 c1 c2 h0 h02 hfz HST2
        by_cases hp : 0 < mk
        · have hpd : decide (0 < mk) = true := decide_eq_true hp
          have HS := Lib.hid (HSOME.out hp)
          clear HSOME HNO2
          refine Lib.hid ?_
          go_wp2_with fail
          refine bodyPost_ret (v := .iface 58 (.agg #[.int .i64 (k : Int)])) (by simp [results, Tryd.results39, go_sem]) rfl ⟨by rw [HS.out]; rfl, HBC.out⟩
        · have hpd : decide (0 < mk) = false := decide_eq_false hp
          have HN := Lib.hid (HNO2.out hp)
          clear HSOME HNO2
          refine Lib.hid ?_
          go_wp2_with fail
          have HBT2 := Lib.hid (HBT.out.put z a b)
          have HFZ2 := Lib.hid (((HFZ.out.set ⟨w.heap.size, 0, none⟩ (.int .i64 z)).set ⟨w.heap.size, 1, none⟩ (.int .i64 a)).set ⟨w.heap.size, 2, none⟩ (.int .i64 b))
          have HBB2 := Lib.hid (put_below HBC.out (Nat.le_refl _) (.int .i64 z) (.int .i64 a) (.int .i64 b))
          go_roundw
          case rel => exact ⟨k + 1, by omega, by go_num, HN, by rw [HZ.out]; exact HBT2, HFZ2, HBB2⟩
          case measure => simp [intOf]; omega
    · have HS := Lib.hid (HDay.out.fir_none (fun j hj => hno.out j (by omega))).1
      go_wp2_with fail
      refine bodyPost_ret (v := .nilIface) (by simp [results, Tryd.results39, go_sem]) rfl ⟨by rw [HS.out]; rfl, hb.out⟩
end Go.Proofs.YtikppgbipdflbaaDoor.S11
