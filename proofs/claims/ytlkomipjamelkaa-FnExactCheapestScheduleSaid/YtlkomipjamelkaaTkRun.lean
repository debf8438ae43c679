/- A day of a tank: what the program returns: contracts. Conditions: each theorem's own premises. -/
import Derived.Test.YtlkomipjamelkaaTkStepS
import Derived.Deep.RegionHeld
namespace Go.Proofs.Ytlkomipjamelkaa.S11
open Go.RowKit P11

theorem FZ.set {w : World} {g : Nat} (h : FZ w g) (p : Addr) (v : Value) : FZ (w.setCell p v) g := fun j => by rw [World.frozen?_setCell]; exact h j
theorem BT.set_far {w : World} {g G : Nat} {L a b : Int} (h : BT w g L a b) (j : Nat) (v : Value) (hne : g ≠ G) : BT (w.setCell ⟨G, j, none⟩ v) g L a b := by
  obtain ⟨h0, c0, c1, c2⟩ := h
  refine ⟨by simpa using h0, ?_, ?_, ?_⟩ <;> (rw [World.cell?_setCell_far _ _ _ _ (by exact hne.symm)]; assumption)
theorem put_far (w : World) (G g j : Nat) (u v t : Value) (h : g ≠ G) : (((w.setCell ⟨G, 0, none⟩ u).setCell ⟨G, 1, none⟩ v).setCell ⟨G, 2, none⟩ t).cell? ⟨g, j, none⟩ = w.cell? ⟨g, j, none⟩ := by
  rw [World.cell?_setCell_far _ _ _ _ h.symm, World.cell?_setCell_far _ _ _ _ h.symm, World.cell?_setCell_far _ _ _ _ h.symm]
theorem BT.put {w : World} {G : Nat} {L a b : Int} (h : BT w G L a b) (u v t : Int) : BT (((w.setCell ⟨G, 0, none⟩ (.int .i64 u)).setCell ⟨G, 1, none⟩ (.int .i64 v)).setCell ⟨G, 2, none⟩ (.int .i64 t)) G u v t := by
  obtain ⟨h0, c0, c1, c2⟩ := h
  refine ⟨by simpa using h0, ?_, ?_, ?_⟩ <;> simp [go_sem, c0, c1, c2]
theorem put_below {w0 w : World} {S G : Nat} (h : Below S w0 w) (hG : S ≤ G) (u v t : Value) : Below S w0 (((w.setCell ⟨G, 0, none⟩ u).setCell ⟨G, 1, none⟩ v).setCell ⟨G, 2, none⟩ t) :=
  ((h.setCell (p := ⟨G, 0, none⟩) hG _).setCell (p := ⟨G, 1, none⟩) hG _).setCell (p := ⟨G, 2, none⟩) hG _
theorem below_drew_trans {w w' : World} (h : Below w.drew.heap.size w.drew w') : Below w.heap.size w w' := (Below.refl w.heap.size w).drew.trans h
/-- A fresh slice of levels beside two sums and a bool. -/
def RunI (w : World) (l : List Int) (s m : Int) (ok : Bool) (e : Ending) (w' : World) : Prop :=
  ∃ g cap, e = .returned (.tuple #[.slice (some ⟨g, 0, none⟩) l.length cap, .int .i64 s, .int .i64 m, .bool ok]) ∧ w.heap.size ≤ g ∧ IOwn w' w.heap.size (.slice (some ⟨g, 0, none⟩) l.length cap) l ∧ Below w.heap.size w w'
def RunA (w : World) (l : List Int) (s m : Int) (ok : Bool) (e : Ending) (w' : World) : Prop :=
  ∃ g o cap, e = .returned (.tuple #[.slice (some ⟨g, o, none⟩) l.length cap, .int .i64 s, .int .i64 m, .bool ok]) ∧ w.heap.size ≤ g ∧ IAt w' (some ⟨g, o, none⟩) l ∧ Below w.heap.size w w' ∧ g < w'.heap.size
theorem made_n (l : List Int) (n : Nat) (hl : l.length = n) (w : World) (hn : n ≤ 1048576) : (w.alloc (.cells (madeCells #[.int .i64 0] n) 3)).ownsRow w.heap.size 3 1 (.slice (some ⟨w.heap.size, 0, none⟩) n n) n (fiI l 0) := by
  subst hl; exact made_own l w hn
set_option maxHeartbeats 2000000 in
theorem run_no (L a b : Int) (A : Option Addr) (cap : Nat) (xs : List Int) (AU : Option Addr) (cc : Nat) (ys : List Int) (w : World) (hx : IAt w A xs) (hxl : xs.length ≤ 1048576) (hy : IAt w AU ys) (hyl : ys.length ≤ 1048576) (h : dayB L a b xs ys = false) :
    Calls Try.prog 42 #[tv L a b, .slice A xs.length cap, .slice AU ys.length cc] w (RunI w [] 0 0 false) := by
  have HD := Lib.hid (fun w' (hb : Below w.heap.size w w') => day_v h A cap AU cc w' (hx.kept hb (Nat.le_refl _)) hxl (hy.kept hb (Nat.le_refl _)) hyl)
  have HB0 := Lib.hid (alloc_below w (tb 29 L a b))
  clear hx hy h
  go_enter Try.func42, Try.ntmps42
  go_wp2_with (first | (go_at_call 56; refine (HD.out _ HB0.out).mono ?_; rintro e w1 ⟨rfl, hb1⟩; have HB1 := Lib.hid (HB0.out.trans (hb1.mono HB0.out.size)); clear hb1; refine Hid.out ?_) | fail)
  refine Lib.hid ?_
  go_wp2_with fail
  refine bodyPost_ret (v := .tuple #[.slice (some ⟨w1.heap.size, 0, none⟩) 0 0, .int .i64 0, .int .i64 0, .bool false]) (by simp [results, Try.results42, go_sem]) rfl ⟨w1.heap.size, 0, rfl, HB1.out.size, own_empty w1 _ HB1.out.size, HB1.out.trans ((alloc_below w1 _).mono HB1.out.size)⟩
set_option maxHeartbeats 8000000 in
theorem run_yes (L a b : Int) (A : Option Addr) (cap : Nat) (xs : List Int) (AU : Option Addr) (cc : Nat) (ys : List Int) (w : World) (hx : IAt w A xs) (hxl : xs.length ≤ 1048576) (hy : IAt w AU ys) (hyl : ys.length ≤ 1048576) (h : Day L a b xs ys) :
    Calls Try.prog 42 #[tv L a b, .slice A xs.length cap, .slice AU ys.length cc] w (RunI w (levL a b L xs ys xs.length) (spiS a b xs ys L) (misS a b xs ys L) true) := by
  have HD := Lib.hid (fun w' (hb : Below w.heap.size w w') => day_v (dayB_iff.2 h) A cap AU cc w' (hx.kept hb (Nat.le_refl _)) hxl (hy.kept hb (Nat.le_refl _)) hyl)
  have HB0 := Lib.hid (alloc_below w (tb 29 L a b))
  have HT0 := Lib.hid (BT.new w 29 L a b)
  have HF0 := Lib.hid (FZ.new w #[.int .i64 L, .int .i64 a, .int .i64 b] 29)
  have HX := Lib.hid (fun w' (hb : Below w.heap.size w w') => hx.kept hb (Nat.le_refl _))
  have HY := Lib.hid (fun w' (hb : Below w.heap.size w w') => hy.kept hb (Nat.le_refl _))
  have HDay := Lib.hid h
  obtain ⟨lv, hlv⟩ : ∃ lv, levL a b L xs ys xs.length = lv := ⟨_, rfl⟩
  have hll : lv.length = xs.length := by rw [← hlv]; exact levL_len ..
  have HLA := Lib.hid (show ∀ k, k < xs.length → lv.getD k 0 = lev a b L xs ys (k + 1) from fun k hk => by rw [← hlv]; exact levL_at a b L xs ys hk)
  have HLL := Lib.hid hll
  rw [hlv]
  have hn12 := h.n1
  clear hx hy h hlv hll
  go_enter Try.func42, Try.ntmps42
  go_wp2_with (first | (go_at_call 56; refine (HD.out _ HB0.out).mono ?_; rintro e w1 ⟨rfl, hb1⟩; have HB1 := Lib.hid (HB0.out.trans (hb1.mono HB0.out.size)); have HT1 := Lib.hid (HT0.out.kept hb1); have HF1 := Lib.hid (HF0.out.kept hb1 (by simp)); clear hb1 HT0 HF0 HD; refine Hid.out ?_) | fail)
  have hmk := run_make_row' (P := Try.prog) 24 3 (.int .i64 0) 8 Try.underlying24 infoI rfl .i64 .i64 xs.length (by omega) (by omega)
  refine Lib.hid ?_
  go_wp2_with fail
  clear hmk
  have HO := Lib.hid (made_n lv xs.length HLL.out w1 (by omega))
  have hw1 : w.heap.size < w1.heap.size := HT1.out.1
  go_loopw [30, 11, 12] (fun i s m wr => ∃ k : Nat, k ≤ xs.length ∧ i = .int .i64 (k : Int) ∧ s = .int .i64 (sumF (spA a b L xs ys) k) ∧ m = .int .i64 (sumF (miA a b L xs ys) k) ∧ Hid (wr.ownsRow w1.heap.size 3 1 (.slice (some ⟨w1.heap.size, 0, none⟩) xs.length xs.length) xs.length (fiI lv k)) ∧ Hid (BT wr w.heap.size (lev a b L xs ys k) a b) ∧ Hid (FZ wr w.heap.size) ∧ Hid (Below w.heap.size w wr)) (fun i _ _ _ => xs.length - (intOf i).toNat)
  case atStart => exact ⟨0, Nat.zero_le _, rfl, rfl, rfl, HO, Lib.hid (HT1.out.kept (alloc_below _ _)), Lib.hid (HF1.out.kept (alloc_below _ _) hw1), Lib.hid (HB1.out.trans ((alloc_below _ _).mono HB1.out.size))⟩
  case round =>
    obtain ⟨k, hk, rfl, rfl, rfl, hown, hbt, hfz, hb⟩ := hrel
    clear HO
    by_cases hlt : k < xs.length
    · obtain ⟨bb, off, hA, hbl, h0⟩ := (HX.out wr hb.out).at_ hlt
      obtain ⟨bb2, off2, hA2, hbl2, h02⟩ := (HY.out wr hb.out).at_ (i := k) (by rw [HDay.out.eq]; exact hlt)
      subst hA hA2
      have hk0 : (0 : Int) ≤ (k : Int) := by omega
      have hkn : (k : Int) < (xs.length : Int) := by omega
      have hkm : (k : Int) < (ys.length : Int) := by rw [HDay.out.eq]; omega
      have hs := HDay.out.spS hk
      have hm := HDay.out.miS hk
      have hs1 := HDay.out.sp hlt
      have hm1 := HDay.out.mi hlt
      have hst : stB (lev a b L xs ys k) a b (xs.getD k 0) (ys.getD k 0) = true := stB_iff.2 ⟨HDay.out.lev hk, vols_at HDay.out.xv hlt, vols_at HDay.out.yv (by rw [HDay.out.eq]; exact hlt)⟩
      have HST := Lib.hid (fun w => step_yes (lev a b L xs ys k) a b (xs.getD k 0) (ys.getD k 0) w hst)
      have HN : Hid (∀ e w w', StepIs w (lev a b L xs ys k) a b (xs.getD k 0) (ys.getD k 0) e w' → e = .returned (.tuple #[tv (lev a b L xs ys (k + 1)) a b, .int .i64 (spA a b L xs ys k), .int .i64 (miA a b L xs ys k), .bool true]) ∧ Below w.heap.size w w') := Lib.hid (fun _ _ _ h => h)
      have HsN := Lib.hid (show sumF (spA a b L xs ys) (k + 1) = sumF (spA a b L xs ys) k + spA a b L xs ys k from rfl)
      have HmN := Lib.hid (show sumF (miA a b L xs ys) (k + 1) = sumF (miA a b L xs ys) k + miA a b L xs ys k from rfl)
      have hLk := HLA.out k hlt
      obtain ⟨hq, c0, c1, c2⟩ := hbt.out
      have HST2 : Hid (∀ w, Calls Try.prog 48 #[tv (lev a b L xs ys k) a b, .int .i64 (xs.getD k 0), .int .i64 (ys.getD k 0)] w fun e w' => e = .returned (.tuple #[tv (lev a b L xs ys (k + 1)) a b, .int .i64 (spA a b L xs ys k), .int .i64 (miA a b L xs ys k), .bool true]) ∧ Below w.heap.size w w') := Lib.hid (fun w => (HST.out w).mono fun e w' h => HN.out e w w' h)
      clear HST HN hst hbt
      obtain ⟨z, hz⟩ : ∃ z, lev a b L xs ys (k + 1) = z := ⟨_, rfl⟩
      rw [hz] at hLk HST2
      have HZ := Lib.hid hz
      clear hz
      generalize lev a b L xs ys k = l0 at *
      generalize spA a b L xs ys k = sk at *
      generalize miA a b L xs ys k = mk at *
      generalize sumF (spA a b L xs ys) k = s at *
      generalize sumF (miA a b L xs ys) k = m at *
      generalize xs.getD k 0 = x at *
      generalize ys.getD k 0 = y at *
      go_upto_region 7 with (fail)
      go_cut [15, 16, 17] (fun p o q wx => ∃ G : Nat, p = .pointer (some ⟨G, 0, none⟩) ∧ o = .int .i64 sk ∧ q = .int .i64 mk ∧ Hid (BT wx G z a b ∧ wr.heap.size ≤ G) ∧ Hid (Below wr.heap.size wr wx))
      case first =>
        refine wp_region_held_drew (S := fun w' => w'.cell? ⟨w.heap.size, 0, none⟩ = some (.int .i64 l0) ∧ w'.cell? ⟨w.heap.size, 1, none⟩ = some (.int .i64 a) ∧ w'.cell? ⟨w.heap.size, 2, none⟩ = some (.int .i64 b) ∧ w'.cell? ⟨bb2, off2 + k, none⟩ = some (.int .i64 y)) (by kernel_rfl) (by exact ⟨c0, c1, c2, h02⟩) (fun hHeld => ?_)
        refine wpAnyH_take (i := 0) (v := tv l0 a b) rfl (by kernel_rfl) (by kernel_rfl) (by kernel_rfl) (fun _ _ _ h => h) (Or.inl ⟨by kernel_rfl, ?_⟩) (by assumption) ?_
        · (intro w hSw; (try dsimp only at hSw); go_simp)
        simp only [Act.put, List.setIfInBounds_toArray]
        refine wpAnyH_take (i := 1) (v := .int .i64 x) rfl (by kernel_rfl) (by kernel_rfl) (by kernel_rfl) (fun _ _ _ h => h) (Or.inl ⟨by kernel_rfl, ?_⟩) (by assumption) ?_
        · (intro w hSw; (try dsimp only at hSw); go_simp)
        simp only [Act.put]
        refine wpAnyH_take (i := 2) (v := .slice (some ⟨bb2, off2, none⟩) ys.length cc) rfl (by kernel_rfl) (by kernel_rfl) (by kernel_rfl) (fun _ _ _ h => h) (Or.inl ⟨by kernel_rfl, ?_⟩) (by assumption) ?_
        · (intro w hSw; (try dsimp only at hSw); go_simp)
        simp only [Act.put]
        refine wpAnyH_take (i := 3) (v := .int .i64 (k : Int)) rfl (by kernel_rfl) (by kernel_rfl) (by kernel_rfl) (fun _ _ _ h => h) (Or.inl ⟨by kernel_rfl, ?_⟩) (by assumption) ?_
        · (intro w hSw; (try dsimp only at hSw); go_simp)
        simp only [Act.put]
        refine wpAnyH_take (i := 4) (v := .pointer (some ⟨bb2, off2 + k, none⟩)) rfl (by kernel_rfl) (by kernel_rfl) (by kernel_rfl) (fun _ _ _ h => h) (Or.inl ⟨by kernel_rfl, ?_⟩) (by assumption) ?_
        · (intro w hSw; (try dsimp only at hSw); go_simp)
        simp only [Act.put]
        refine wpAnyH_take (i := 5) (v := .int .i64 y) rfl (by kernel_rfl) (by kernel_rfl) (by kernel_rfl) (fun _ _ _ h => h) (Or.inl ⟨by kernel_rfl, ?_⟩) (by assumption) ?_
        · (intro w hSw; (try dsimp only at hSw); go_simp)
        simp only [Act.put]
        refine wpAnyH_ready (rs := [6, 12]) (by kernel_rfl) (by simp) ?_
        refine AllReadyH.cons rfl (fun K hK => ?_) (AllReadyH.cons rfl (fun K hK => ?_) AllReadyH.nil)
        · go_simp
          go_at_call 48
          refine (HST2.out _).mono ?_
          rintro e w2 ⟨rfl, hb2⟩
          have hz2 := hb2.size
          simp at hz2
          have t0 := (hb2.cell (p := ⟨w.heap.size, 0, none⟩) (by first | (simp; omega) | omega)).trans c0
          have t1 := (hb2.cell (p := ⟨w.heap.size, 1, none⟩) (by first | (simp; omega) | omega)).trans c1
          have t2 := (hb2.cell (p := ⟨w.heap.size, 2, none⟩) (by first | (simp; omega) | omega)).trans c2
          have t3 := (hb2.cell (p := ⟨bb2, off2 + k, none⟩) (by first | (simp; omega) | omega)).trans h02
          refine hK.out _ _ (by exact ⟨t0, t1, t2, t3⟩) (fun hHeld => ?_)
          clear hK K
          refine wpAnyH_take (i := 7) (v := .tuple #[tv z a b, .int .i64 sk, .int .i64 mk, .bool true]) rfl (by kernel_rfl) (by kernel_rfl) (by kernel_rfl) (fun _ _ _ h => h) (Or.inl ⟨by kernel_rfl, ?_⟩) (by assumption) ?_
          · (intro w hSw; (try dsimp only at hSw); go_simp)
          simp only [Act.put]
          refine wpAnyH_take (i := 8) (v := tv z a b) rfl (by kernel_rfl) (by kernel_rfl) (by kernel_rfl) (fun _ _ _ h => h) (Or.inl ⟨by kernel_rfl, ?_⟩) (by assumption) ?_
          · (intro w hSw; (try dsimp only at hSw); go_simp)
          simp only [Act.put]
          refine wpAnyH_take (i := 9) (v := .int .i64 sk) rfl (by kernel_rfl) (by kernel_rfl) (by kernel_rfl) (fun _ _ _ h => h) (Or.inl ⟨by kernel_rfl, ?_⟩) (by assumption) ?_
          · (intro w hSw; (try dsimp only at hSw); go_simp)
          simp only [Act.put]
          refine wpAnyH_take (i := 10) (v := .int .i64 mk) rfl (by kernel_rfl) (by kernel_rfl) (by kernel_rfl) (fun _ _ _ h => h) (Or.inl ⟨by kernel_rfl, ?_⟩) (by assumption) ?_
          · (intro w hSw; (try dsimp only at hSw); go_simp)
          simp only [Act.put]
          refine wpAnyH_take (i := 11) (v := .bool true) rfl (by kernel_rfl) (by kernel_rfl) (by kernel_rfl) (fun _ _ _ h => h) (Or.inl ⟨by kernel_rfl, ?_⟩) (by assumption) ?_
          · (intro w hSw; (try dsimp only at hSw); go_simp)
          simp only [Act.put]
          refine wpAnyH_ready (rs := [12]) (by kernel_rfl) (by simp) ?_
          refine AllReadyH.cons rfl (fun K hK => ?_) AllReadyH.nil
          go_simp
          have hb3 := alloc_below w2 (tb 29 0 0 0)
          have HBT := Lib.hid (BT.new w2 29 0 0 0)
          have hfz3 := FZ.new w2 #[.int .i64 0, .int .i64 0, .int .i64 0] 29
          have hz3 := hb3.size
          obtain ⟨w3, hw3⟩ : ∃ w3, w3 = w2.alloc (tb 29 0 0 0) := ⟨_, rfl⟩
          rw [← hw3] at HBT hfz3 hb3 hz3
          have HW3 := Lib.hid hw3
          clear hw3
          rw [← HW3.out]
          have r0 := (hb3.cell (p := ⟨w.heap.size, 0, none⟩) (by first | (simp; omega) | omega)).trans t0
          have r1 := (hb3.cell (p := ⟨w.heap.size, 1, none⟩) (by first | (simp; omega) | omega)).trans t1
          have r2 := (hb3.cell (p := ⟨w.heap.size, 2, none⟩) (by first | (simp; omega) | omega)).trans t2
          have r3 := (hb3.cell (p := ⟨bb2, off2 + k, none⟩) (by first | (simp; omega) | omega)).trans t3
          refine hK.out _ _ (by exact ⟨r0, r1, r2, r3⟩) (fun hHeld => ?_)
          clear hK K
          have HBW := Lib.hid ((below_drew_trans hb2).trans (hb3.mono hz2))
          obtain ⟨hq3, n0, n1, n2⟩ := HBT.out
          obtain ⟨g0, g1, g2⟩ := hfz3.out
          clear hfz3 hb2 hb3
          refine wpAnyH_ready (rs := [13]) (by kernel_rfl) (by simp) ?_
          refine AllReadyH.cons rfl (fun K hK => ?_) AllReadyH.nil
          go_simp
          have v0 := (put_far w3 w2.heap.size (w.heap.size) (0) (.int .i64 z) (.int .i64 a) (.int .i64 b) (by omega)).trans r0
          have v1 := (put_far w3 w2.heap.size (w.heap.size) (1) (.int .i64 z) (.int .i64 a) (.int .i64 b) (by omega)).trans r1
          have v2 := (put_far w3 w2.heap.size (w.heap.size) (2) (.int .i64 z) (.int .i64 a) (.int .i64 b) (by omega)).trans r2
          have v3 := (put_far w3 w2.heap.size (bb2) (off2 + k) (.int .i64 z) (.int .i64 a) (.int .i64 b) (by omega)).trans r3
          refine hK.out _ _ (by exact ⟨v0, v1, v2, v3⟩) (fun hHeld => ?_)
          clear hK K
          refine wpAnyH_ready (rs := [14]) (by kernel_rfl) (by simp) ?_
          refine AllReadyH.cons rfl (fun K hK => ?_) AllReadyH.nil
          go_simp
          refine hK.out _ _ (by exact ⟨v0, v1, v2, v3⟩) (fun hHeld => ?_)
          clear hK K
          refine wpAnyH_ready (rs := [15]) (by kernel_rfl) (by simp) ?_
          refine AllReadyH.cons rfl (fun K hK => ?_) AllReadyH.nil
          go_simp
          refine hK.out _ _ (by exact ⟨v0, v1, v2, v3⟩) (fun hHeld => ?_)
          clear hK K
          refine wpAnyH_ready (rs := [16]) (by kernel_rfl) (by simp) ?_
          refine AllReadyH.cons rfl (fun K hK => ?_) AllReadyH.nil
          go_simp
          refine hK.out _ _ (by exact ⟨v0, v1, v2, v3⟩) (fun hHeld => ?_)
          clear hK K
          refine wpAnyH_done (by kernel_rfl) ?_ _
          go_wp2_with fail
          go_meet
          exact ⟨w2.heap.size, rfl, rfl, rfl, Lib.hid ⟨HBT.out.put _ _ _, by omega⟩, Lib.hid (put_below HBW.out (by omega) _ _ _)⟩
        · go_simp
          have hb3 : Below wr.heap.size wr (wr.alloc (tb 29 0 0 0)).drew := (alloc_below wr (tb 29 0 0 0)).drew
          have hbt3 : BT (wr.alloc (tb 29 0 0 0)).drew wr.heap.size 0 0 0 := BT.new wr 29 0 0 0
          have hfz3 : FZ (wr.alloc (tb 29 0 0 0)).drew wr.heap.size := FZ.new wr #[.int .i64 0, .int .i64 0, .int .i64 0] 29
          have hz3 := hb3.size
          obtain ⟨w3, hw3⟩ : ∃ w3, w3 = (wr.alloc (tb 29 0 0 0)).drew := ⟨_, rfl⟩
          rw [← hw3] at hbt3 hfz3 hb3 hz3
          have HW3 := Lib.hid hw3
          clear hw3
          rw [← HW3.out]
          have r0 := (hb3.cell (p := ⟨w.heap.size, 0, none⟩) (by first | (simp; omega) | omega)).trans c0
          have r1 := (hb3.cell (p := ⟨w.heap.size, 1, none⟩) (by first | (simp; omega) | omega)).trans c1
          have r2 := (hb3.cell (p := ⟨w.heap.size, 2, none⟩) (by first | (simp; omega) | omega)).trans c2
          have r3 := (hb3.cell (p := ⟨bb2, off2 + k, none⟩) (by first | (simp; omega) | omega)).trans h02
          refine hK.out _ _ (by exact ⟨r0, r1, r2, r3⟩) (fun hHeld => ?_)
          clear hK K
          refine wpAnyH_ready (rs := [6]) (by kernel_rfl) (by simp) ?_
          refine AllReadyH.cons rfl (fun K hK => ?_) AllReadyH.nil
          go_simp
          go_at_call 48
          refine (HST2.out _).mono ?_
          rintro e w2 ⟨rfl, hb2⟩
          have t0 := (hb2.cell (p := ⟨w.heap.size, 0, none⟩) (by first | (simp; omega) | omega)).trans r0
          have t1 := (hb2.cell (p := ⟨w.heap.size, 1, none⟩) (by first | (simp; omega) | omega)).trans r1
          have t2 := (hb2.cell (p := ⟨w.heap.size, 2, none⟩) (by first | (simp; omega) | omega)).trans r2
          have t3 := (hb2.cell (p := ⟨bb2, off2 + k, none⟩) (by first | (simp; omega) | omega)).trans r3
          refine hK.out _ _ (by exact ⟨t0, t1, t2, t3⟩) (fun hHeld => ?_)
          clear hK K
          have hz2 := hb2.size
          have HBT := Lib.hid (hbt3.kept hb2)
          have hfz2 := hfz3.kept hb2 hbt3.1
          have HBW := Lib.hid (hb3.trans (hb2.mono hz3))
          obtain ⟨hq3, n0, n1, n2⟩ := HBT.out
          obtain ⟨g0, g1, g2⟩ := hfz2.out
          clear hfz3 hfz2 hb2 hb3 hbt3
          refine wpAnyH_take (i := 7) (v := .tuple #[tv z a b, .int .i64 sk, .int .i64 mk, .bool true]) rfl (by kernel_rfl) (by kernel_rfl) (by kernel_rfl) (fun _ _ _ h => h) (Or.inl ⟨by kernel_rfl, ?_⟩) (by assumption) ?_
          · (intro w hSw; (try dsimp only at hSw); go_simp)
          simp only [Act.put]
          refine wpAnyH_take (i := 8) (v := tv z a b) rfl (by kernel_rfl) (by kernel_rfl) (by kernel_rfl) (fun _ _ _ h => h) (Or.inl ⟨by kernel_rfl, ?_⟩) (by assumption) ?_
          · (intro w hSw; (try dsimp only at hSw); go_simp)
          simp only [Act.put]
          refine wpAnyH_take (i := 9) (v := .int .i64 sk) rfl (by kernel_rfl) (by kernel_rfl) (by kernel_rfl) (fun _ _ _ h => h) (Or.inl ⟨by kernel_rfl, ?_⟩) (by assumption) ?_
          · (intro w hSw; (try dsimp only at hSw); go_simp)
          simp only [Act.put]
          refine wpAnyH_take (i := 10) (v := .int .i64 mk) rfl (by kernel_rfl) (by kernel_rfl) (by kernel_rfl) (fun _ _ _ h => h) (Or.inl ⟨by kernel_rfl, ?_⟩) (by assumption) ?_
          · (intro w hSw; (try dsimp only at hSw); go_simp)
          simp only [Act.put]
          refine wpAnyH_take (i := 11) (v := .bool true) rfl (by kernel_rfl) (by kernel_rfl) (by kernel_rfl) (fun _ _ _ h => h) (Or.inl ⟨by kernel_rfl, ?_⟩) (by assumption) ?_
          · (intro w hSw; (try dsimp only at hSw); go_simp)
          simp only [Act.put]
          refine wpAnyH_ready (rs := [13]) (by kernel_rfl) (by simp) ?_
          refine AllReadyH.cons rfl (fun K hK => ?_) AllReadyH.nil
          go_simp
          have v0 := (put_far w2 wr.heap.size (w.heap.size) (0) (.int .i64 z) (.int .i64 a) (.int .i64 b) (by omega)).trans t0
          have v1 := (put_far w2 wr.heap.size (w.heap.size) (1) (.int .i64 z) (.int .i64 a) (.int .i64 b) (by omega)).trans t1
          have v2 := (put_far w2 wr.heap.size (w.heap.size) (2) (.int .i64 z) (.int .i64 a) (.int .i64 b) (by omega)).trans t2
          have v3 := (put_far w2 wr.heap.size (bb2) (off2 + k) (.int .i64 z) (.int .i64 a) (.int .i64 b) (by omega)).trans t3
          refine hK.out _ _ (by exact ⟨v0, v1, v2, v3⟩) (fun hHeld => ?_)
          clear hK K
          refine wpAnyH_ready (rs := [14]) (by kernel_rfl) (by simp) ?_
          refine AllReadyH.cons rfl (fun K hK => ?_) AllReadyH.nil
          go_simp
          refine hK.out _ _ (by exact ⟨v0, v1, v2, v3⟩) (fun hHeld => ?_)
          clear hK K
          refine wpAnyH_ready (rs := [15]) (by kernel_rfl) (by simp) ?_
          refine AllReadyH.cons rfl (fun K hK => ?_) AllReadyH.nil
          go_simp
          refine hK.out _ _ (by exact ⟨v0, v1, v2, v3⟩) (fun hHeld => ?_)
          clear hK K
          refine wpAnyH_ready (rs := [16]) (by kernel_rfl) (by simp) ?_
          refine AllReadyH.cons rfl (fun K hK => ?_) AllReadyH.nil
          go_simp
          refine hK.out _ _ (by exact ⟨v0, v1, v2, v3⟩) (fun hHeld => ?_)
          clear hK K
          refine wpAnyH_done (by kernel_rfl) ?_ _
          go_wp2_with fail
          go_meet
          exact ⟨wr.heap.size, rfl, rfl, rfl, Lib.hid ⟨HBT.out.put _ _ _, by omega⟩, Lib.hid (put_below HBW.out (by omega) _ _ _)⟩
      case rest =>
        obtain ⟨G, rfl, rfl, rfl, hbg, hbw⟩ := hcut
        obtain ⟨hbg1, hGl⟩ := hbg.out
        have ho2 := own_on hown.out hbw.out
        have hg1 := (World.ownsRow.lt ho2 w1.heap.size rfl).2
        have hg0 := (World.ownsRow.lt hown.out w1.heap.size rfl).2
        obtain ⟨u, hu⟩ := fiI_has lv k (by rw [HLL.out]; exact hlt)
        have hcell := (ho2.cellAt k (by omega)).trans hu
        have hfzk := ho2.frozenAt k
        have hne1 : w1.heap.size ≠ w.heap.size := by omega
        have hne2 : w1.heap.size ≠ G := by omega
        have HSET := Lib.hid (fiI_set lv k (by rw [HLL.out]; exact hlt))
        rw [hLk] at HSET
        have hst0 := Lib.hid (ho2.stored k (iv z))
        have s0 := (hbw.out.cell (p := ⟨w.heap.size, 0, none⟩) hq).trans c0
        have s1 := (hbw.out.cell (p := ⟨w.heap.size, 1, none⟩) hq).trans c1
        have s2 := (hbw.out.cell (p := ⟨w.heap.size, 2, none⟩) hq).trans c2
        have HFZ := Lib.hid (hfz.out.kept hbw.out hq)
        obtain ⟨f0, f1, f2⟩ := HFZ.out.out
        obtain ⟨hGl2, n0, n1, n2⟩ := hbg1
        have HBC := Lib.hid (hb.out.trans (hbw.out.mono hb.out.size))
        have HBT := Lib.hid (show BT wc w.heap.size l0 a b from ⟨Nat.lt_of_lt_of_le hq hbw.out.size, s0, s1, s2⟩)
        clear hbg hown hbw hu hb ho2 c0 c1 c2 h0 h02 hfz hLk HST2
        refine Lib.hid ?_
        go_wp2_with fail
        have hst := hst0.out
        rw [HSET.out] at hst
        have HOW := Lib.hid (World.ownsRow.kept hst.1 (grown_set (grown_set (grown_set (grown_refl _ (some w.heap.size)) 0 (.int .i64 z)) 1 (.int .i64 a)) 2 (.int .i64 b)) (.inr (by simp [Value.ownBlock]; omega)))
        have HBT2 := Lib.hid ((HBT.out.set_far (G := w1.heap.size) k (iv z) (by omega)).put z a b)
        have HFZ2 := Lib.hid ((((HFZ.out.set ⟨w1.heap.size, k, none⟩ (iv z)).set ⟨w.heap.size, 0, none⟩ (.int .i64 z)).set ⟨w.heap.size, 1, none⟩ (.int .i64 a)).set ⟨w.heap.size, 2, none⟩ (.int .i64 b))
        have HBB2 := Lib.hid (put_below (HBC.out.setCell (p := ⟨w1.heap.size, k, none⟩) (by show w.heap.size ≤ w1.heap.size; omega) (iv z)) (Nat.le_refl _) (.int .i64 z) (.int .i64 a) (.int .i64 b))
        clear hst
        go_roundw
        case rel => exact ⟨k + 1, by omega, by go_num, by rw [HsN.out], by rw [HmN.out], HOW, by rw [HZ.out]; exact HBT2, HFZ2, HBB2⟩
        case measure => simp [intOf]; omega
    · have e : k = xs.length := by omega
      subst e
      have hown2 := hown.out
      have e2 := fiI_full lv
      rw [HLL.out] at e2
      rw [e2] at hown2
      have H2 := Lib.hid (show IOwn wr w1.heap.size (.slice (some ⟨w1.heap.size, 0, none⟩) lv.length xs.length) lv by unfold IOwn; rw [HLL.out]; exact hown2)
      clear hown hown2 e2
      go_wp2
      refine bodyPost_ret (v := .tuple #[.slice (some ⟨w1.heap.size, 0, none⟩) xs.length xs.length, .int .i64 (sumF (spA a b L xs ys) xs.length), .int .i64 (sumF (miA a b L xs ys) xs.length), .bool true]) (by simp [results, Try.results42, go_sem]) rfl ⟨w1.heap.size, xs.length, by rw [HLL.out]; rfl, by omega, own_lower H2.out (by omega), hb.out⟩
end Go.Proofs.Ytlkomipjamelkaa.S11
