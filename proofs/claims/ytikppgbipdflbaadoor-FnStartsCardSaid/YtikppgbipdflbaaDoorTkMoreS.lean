/- Days of a tank, what the model returns: contracts. Conditions: each theorem's own premises. -/
import Derived.Test.YtikppgbipdflbaaDoorTkRunS
namespace Go.Proofs.YtikppgbipdflbaaDoor.S11
open Go.RowKit P11

/-! ### The sums of a day -/
theorem vl_sp (a b L : Int) (xs ys : List Int) : sumF (vl (spL a b L xs ys xs.length)) (spL a b L xs ys xs.length).length = spiS a b xs ys L := by
  rw [spL_len]
  exact sumF_congr (fun i hi => spL_at a b L xs ys hi)
theorem vl_mi (a b L : Int) (xs ys : List Int) : sumF (vl (miL a b L xs ys xs.length)) (miL a b L xs ys xs.length).length = misS a b xs ys L := by
  rw [miL_len]
  exact sumF_congr (fun i hi => miL_at a b L xs ys hi)
theorem sp_any {L a b : Int} {xs ys : List Int} (h : Day L a b xs ys) (A : Option Addr) (c : Nat) (w : World) (ha : IAt w A (spL a b L xs ys xs.length)) :
    Calls Tryd.prog 36 #[.slice A (spL a b L xs ys xs.length).length c] w fun e w' => e = .returned (.int .i64 (spiS a b xs ys L)) ∧ w' = w := by
  rw [← vl_sp]
  have hn := h.n1
  refine sum_any A c _ w ha (fun k hk => ?_) (by rw [spL_len]; omega) (fun i hi => ?_)
  · rw [spL_len] at hk
    have e : sumF (vl (spL a b L xs ys xs.length)) k = sumF (spA a b L xs ys) k := sumF_congr (fun i hi => spL_at a b L xs ys (by omega))
    rw [e]
    have := h.spS hk
    omega
  · rw [spL_len] at hi
    rw [spL_at a b L xs ys hi]
    have := h.sp hi
    omega
theorem mi_any {L a b : Int} {xs ys : List Int} (h : Day L a b xs ys) (A : Option Addr) (c : Nat) (w : World) (ha : IAt w A (miL a b L xs ys xs.length)) :
    Calls Tryd.prog 36 #[.slice A (miL a b L xs ys xs.length).length c] w fun e w' => e = .returned (.int .i64 (misS a b xs ys L)) ∧ w' = w := by
  rw [← vl_mi]
  have hn := h.n1
  refine sum_any A c _ w ha (fun k hk => ?_) (by rw [miL_len]; omega) (fun i hi => ?_)
  · rw [miL_len] at hk
    have e : sumF (vl (miL a b L xs ys xs.length)) k = sumF (miA a b L xs ys) k := sumF_congr (fun i hi => miL_at a b L xs ys (by omega))
    rw [e]
    have := h.miS hk
    omega
  · rw [miL_len] at hi
    rw [miL_at a b L xs ys hi]
    have := h.mi hi
    omega
def outS (ys : List Int) : Int := sumF (vl ys) ys.length
theorem outs_any {L a b : Int} {xs ys : List Int} (h : Day L a b xs ys) (A : Option Addr) (c : Nat) (w : World) (ha : IAt w A ys) :
    Calls Tryd.prog 36 #[.slice A ys.length c] w fun e w' => e = .returned (.int .i64 (outS ys)) ∧ w' = w := by
  have hn := h.n1
  have he := h.eq
  refine sum_any A c _ w ha (fun k hk => ?_) (by omega) (fun i hi => ?_)
  · have := vol_sum h.yv (by omega) hk
    have e : sumF (vl ys) k = sumF (fun i => ys.getD i 0) k := sumF_congr (fun i _ => rfl)
    rw [e]
    omega
  · have := vols_at h.yv hi
    omega
theorem out_bd {L a b : Int} {xs ys : List Int} (h : Day L a b xs ys) : 0 ≤ outS ys ∧ outS ys ≤ 1300 := by
  have hn := h.n1
  have he := h.eq
  have := vol_sum h.yv (by omega) (Nat.le_refl _)
  have e : sumF (vl ys) ys.length = sumF (fun i => ys.getD i 0) ys.length := sumF_congr (fun i _ => rfl)
  unfold outS
  rw [e]
  omega
set_option maxHeartbeats 2000000 in
theorem srun_no (L a b : Int) (A : Option Addr) (cap : Nat) (xs : List Int) (AU : Option Addr) (cc : Nat) (ys : List Int) (w : World) (hx : IAt w A xs) (hxl : xs.length ≤ 1048576) (hy : IAt w AU ys) (hyl : ys.length ≤ 1048576) (h : dayB L a b xs ys = false) :
    Calls Tryd.prog 17 #[tv L a b, .slice A xs.length cap, .slice AU ys.length cc] w (RunA w [] 0 0 false) := by
  have HX := Lib.hid (fun w' (hb : Below w.heap.size w w') => hx.kept hb (Nat.le_refl _))
  have HY := Lib.hid (fun w' (hb : Below w.heap.size w w') => hy.kept hb (Nat.le_refl _))
  have HD := Lib.hid (fun w' (hb : Below w.heap.size w w') => sday_v h A cap AU cc w' (HX.out w' hb) hxl (HY.out w' hb) hyl)
  have HB0 := Lib.hid (alloc_below w (tb 27 L a b))
  have HT0 := Lib.hid (BT.new w 27 L a b)
  clear hx hy h
  go_enter Tryd.func17, Tryd.ntmps17
  go_wp2_with (first | (go_at_call 34; refine (HD.out _ HB0.out).mono ?_; rintro e w1 ⟨rfl, hb1⟩; have HB1 := Lib.hid (HB0.out.trans (hb1.mono HB0.out.size)); have HT1 := Lib.hid (HT0.out.kept hb1); obtain ⟨_, b0, b1, b2⟩ := HT1.out; clear hb1; refine Hid.out ?_) | fail)
  refine Lib.hid ?_
  go_wp2_with fail
  refine bodyPost_ret (v := .tuple #[.slice (some ⟨w1.heap.size, 0, none⟩) 0 0, .int .i64 0, .int .i64 0, .bool false]) (by simp [results, Tryd.results17, go_sem]) rfl ⟨w1.heap.size, 0, 0, rfl, HB1.out.size, (own_empty w1 _ HB1.out.size).iat, HB1.out.trans ((alloc_below w1 _).mono HB1.out.size), by simp⟩
set_option maxHeartbeats 4000000 in
theorem srun_yes (L a b : Int) (A : Option Addr) (cap : Nat) (xs : List Int) (AU : Option Addr) (cc : Nat) (ys : List Int) (w : World) (hx : IAt w A xs) (hxl : xs.length ≤ 1048576) (hy : IAt w AU ys) (hyl : ys.length ≤ 1048576) (h : Day L a b xs ys) :
    Calls Tryd.prog 17 #[tv L a b, .slice A xs.length cap, .slice AU ys.length cc] w (RunA w (levL a b L xs ys xs.length) (spiS a b xs ys L) (misS a b xs ys L) true) := by
  have HX := Lib.hid (fun w' (hb : Below w.heap.size w w') => hx.kept hb (Nat.le_refl _))
  have HY := Lib.hid (fun w' (hb : Below w.heap.size w w') => hy.kept hb (Nat.le_refl _))
  have HD := Lib.hid (fun w' (hb : Below w.heap.size w w') => sday_v (dayB_iff.2 h) A cap AU cc w' (HX.out w' hb) hxl (HY.out w' hb) hyl)
  have HB0 := Lib.hid (alloc_below w (tb 27 L a b))
  have HT0 := Lib.hid (BT.new w 27 L a b)
  have HR := Lib.hid (fun w' (hb : Below w.heap.size w w') => lrun_any L L a b A cap xs AU cc ys w' (HX.out w' hb) (HY.out w' hb) h)
  have HDay := Lib.hid h
  have hsb := h.spS (Nat.le_refl _)
  have hmb := h.miS (Nat.le_refl _)
  have hsb0 : 0 ≤ spiS a b xs ys L := hsb.1
  have hsb1 : spiS a b xs ys L ≤ 1920 := hsb.2
  have hmb0 : 0 ≤ misS a b xs ys L := hmb.1
  have hmb1 : misS a b xs ys L ≤ 1920 := hmb.2
  clear hsb hmb
  clear hx hy h
  go_enter Tryd.func17, Tryd.ntmps17
  go_wp2_with (first | (go_at_call 34; refine (HD.out _ HB0.out).mono ?_; rintro e w1 ⟨rfl, hb1⟩; have HB1 := Lib.hid (HB0.out.trans (hb1.mono HB0.out.size)); have HT1 := Lib.hid (HT0.out.kept hb1); obtain ⟨_, b0, b1, b2⟩ := HT1.out; clear hb1; refine Hid.out ?_) | fail)
  refine Lib.hid ?_
  go_wp2_with (first | (go_at_call 35; refine (HR.out _ HB1.out).mono ?_; rintro e w2 ⟨r1, k1, r2, k2, r3, k3, rfl, hr1, l1, l2, l3, a1, a2, a3, hb2⟩; have HB2 := Lib.hid (HB1.out.trans (hb2.mono HB1.out.size)); have HI := Lib.hid (⟨a1, a2, a3⟩ : IAt w2 (some ⟨r1, 0, none⟩) (levL a b L xs ys xs.length) ∧ IAt w2 (some ⟨r2, 0, none⟩) (spL a b L xs ys xs.length) ∧ IAt w2 (some ⟨r3, 0, none⟩) (miL a b L xs ys xs.length)); have HZ1 := Lib.hid (Nat.le_trans HB1.out.size hr1); clear hb2 a1 a2 a3 hr1; refine Hid.out ?_) | fail)
  refine Lib.hid ?_
  go_wp2_with (first | (go_at_call 36; refine (sp_any HDay.out _ _ _ HI.out.2.1).mono ?_; rintro e ws1 ⟨rfl, hw⟩; replace hw := hw.symm; subst hw; refine Hid.out ?_) | fail)
  refine Lib.hid ?_
  go_wp2_with (first | (go_at_call 36; refine (mi_any HDay.out _ _ _ HI.out.2.2).mono ?_; rintro e ws2 ⟨rfl, hw⟩; replace hw := hw.symm; subst hw; refine Hid.out ?_) | fail)
  refine Lib.hid ?_
  go_wp2_with fail
  refine bodyPost_ret (v := .tuple #[.slice (some ⟨r1, 0, none⟩) (levL a b L xs ys xs.length).length k1, .int .i64 (spiS a b xs ys L), .int .i64 (misS a b xs ys L), .bool true]) (by simp [results, Tryd.results17, go_sem]) rfl ⟨r1, 0, k1, rfl, HZ1.out, HI.out.1, HB2.out, l1⟩
/-- Nothing is spilled and nothing is missing. -/
def calmB (L a b : Int) (xs ys : List Int) : Bool := decide (spiS a b xs ys L = 0 ∧ misS a b xs ys L = 0)
set_option maxHeartbeats 2000000 in
theorem lafter_any (L0 L a b : Int) (A : Option Addr) (cap : Nat) (xs : List Int) (AU : Option Addr) (cc : Nat) (ys : List Int) (w : World) (hx : IAt w A xs) (hy : IAt w AU ys) (h : Day L a b xs ys) :
    Calls Tryd.prog 50 #[tv L0 a b, .int .i64 L, .slice A xs.length cap, .slice AU ys.length cc] w fun e w' => e = .returned (.int .i64 (aft a b xs ys L)) ∧ Below w.heap.size w w' := by
  have HR := Lib.hid (fun w' (hb : Below w.heap.size w w') => lrun_any L0 L a b A cap xs AU cc ys w' (hx.kept hb (Nat.le_refl _)) (hy.kept hb (Nat.le_refl _)) h)
  have HB1 := Lib.hid (alloc_below w (tb 27 L0 a b))
  have hn0 := h.n0
  have hn1 := h.n1
  obtain ⟨n, hn⟩ : ∃ n, xs.length = n := ⟨_, rfl⟩
  have HN := Lib.hid hn
  have HLEN := Lib.hid (show (levL a b L xs ys xs.length).length = n by rw [levL_len, hn])
  have HLAST := Lib.hid (show (levL a b L xs ys xs.length).getD (n - 1) 0 = aft a b xs ys L by
    rw [levL_at a b L xs ys (by omega)]
    unfold aft
    rw [show n - 1 + 1 = xs.length by omega])
  rw [hn] at hn0 hn1
  clear hx hy h hn
  go_enter Tryd.func50, Tryd.ntmps50
  go_wp2_with (first | (go_at_call 35; refine (HR.out _ HB1.out).mono ?_; rintro e w2 ⟨r1, k1, r2, k2, r3, k3, rfl, hr1, l1, l2, l3, a1, a2, a3, hb2⟩; have HB2 := Lib.hid (HB1.out.trans (hb2.mono HB1.out.size)); have HI := Lib.hid (⟨a1, a2, a3⟩ : IAt w2 (some ⟨r1, 0, none⟩) (levL a b L xs ys xs.length) ∧ IAt w2 (some ⟨r2, 0, none⟩) (spL a b L xs ys xs.length) ∧ IAt w2 (some ⟨r3, 0, none⟩) (miL a b L xs ys xs.length)); have HZ1 := Lib.hid (Nat.le_trans HB1.out.size hr1); clear hb2 a1 a2 a3 hr1; refine Hid.out ?_) | fail)
  obtain ⟨bb, off, hA, hbl, h0⟩ := HI.out.1.at_ (i := n - 1) (by rw [HLEN.out]; omega)
  injection hA with hA
  injection hA with e1 e2 _
  subst e1 e2
  rw [HLAST.out, Nat.zero_add] at h0
  rw [HLEN.out]
  have hcast : (n : Int) - 1 = ((n - 1 : Nat) : Int) := by omega
  have hlt : ((n - 1 : Nat) : Int) < (n : Int) := by omega
  have hge : (0 : Int) ≤ ((n - 1 : Nat) : Int) := by omega
  clear HI HR
  refine Lib.hid ?_
  go_wp2_with fail
  go_ret
  exact ⟨rfl, HB2.out⟩
end Go.Proofs.YtikppgbipdflbaaDoor.S11
