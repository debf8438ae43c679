/- The law FnDecimals walked, given what DrawVolumeIn draws: contracts. Conditions: each theorem's own premises. -/
import Derived.Test.YtpdkphokinhhdaaDoorDrawVol
import Derived.Test.YtpdkphokinhhdaaDoorDecThree
import Derived.Test.YtpdkphokinhhdaaDoorBarsOne
import Derived.Test.YtpdkphokinhhdaaDoorAddThree
namespace Go.Proofs.YtpdkphokinhhdaaDoor.S3
open Go.RowKit Go.Sort P1 P3 S1 S2
open Go.Lib hiding intOf

theorem rbig_no (a : Option Addr) (n cap : Nat) (w : World) (hn : n ≤ 65536) :
    Calls Tryd.prog 11 #[.slice a n cap] w fun e w' => e = .returned (.bool false) ∧ w' = w := by
  have hd : decide ((65536 : Int) < (n : Int)) = false := by simp; omega
  go_enter Tryd.func11, Tryd.ntmps11
  go_wp2
  go_ret
  exact ⟨rfl, rfl⟩
theorem rbig_yes (a : Option Addr) (n cap : Nat) (w : World) (hn : 65536 < n) :
    Calls Tryd.prog 11 #[.slice a n cap] w fun e w' => e = .returned (.bool true) ∧ w' = w := by
  have hd : decide ((65536 : Int) < (n : Int)) = true := by simp; omega
  go_enter Tryd.func11, Tryd.ntmps11
  go_wp2
  go_ret
  exact ⟨rfl, rfl⟩

/-- Where the point stands. -/
theorem point_at {N p : Nat} (hp : p ≠ 0) (hN : N ≤ 30000000000000000) : ∃ D, 1 ≤ D ∧ D ≤ 18 ∧ (ByteArray.mk (decL N p).toArray).size = D + 1 + p ∧ ∀ h : D < (ByteArray.mk (decL N p).toArray).size, (ByteArray.mk (decL N p).toArray)[D] = 46 := by
  have e : decL N p = decDigits (N / 10 ^ p) ++ 46 :: lowDig N p := by unfold decL; rw [if_neg hp]
  have hl := lowDig_len p N
  refine ⟨(decDigits (N / 10 ^ p)).length, dec_len_pos _, dec_len_le 17 _ (by have := Nat.div_le_self N (10 ^ p); omega), ?_, fun h => ?_⟩
  · rw [e]; simp [ByteArray.size, hl]; omega
  · show (decL N p).toArray[(decDigits (N / 10 ^ p)).length]'(by simpa [ByteArray.size] using h) = 46
    rw [List.getElem_toArray]
    simp only [e]
    rw [List.getElem_append_right (by omega)]
    simp
theorem vol_twice {x u m : Int} (h : okA x u = true) (h0 : 0 ≤ m) (h1 : 2 * m ≤ 10000) : lowN (volN x u (2 * m)) 36 * lowD (volN x u m) 36 = 2 * lowN (volN x u m) 36 * lowD (volN x u (2 * m)) 36 := by
  have a := (vol_facts h h0 (by omega)).1
  have b := (vol_facts h (show 0 ≤ 2 * m by omega) h1).1
  have c := low_cross (volN x u m) 36
  have d := low_cross (volN x u (2 * m)) 36
  have e : ((volN x u (2 * m) : Nat) : Int) = 2 * (volN x u m : Int) := by
    rw [← a, ← b, Int.mul_left_comm]
  rw [e] at d
  generalize lowN (volN x u (2 * m)) 36 = n2 at *
  generalize lowD (volN x u (2 * m)) 36 = d2 at *
  generalize lowN (volN x u m) 36 = n1 at *
  generalize lowD (volN x u m) 36 = d1 at *
  generalize (volN x u m : Int) = A at *
  have c' : n1 * 36 = d1 * A := c
  have d' : n2 * 36 = d2 * (2 * A) := d
  have key : (n2 * d1) * 36 = (2 * n1 * d2) * 36 := by
    calc (n2 * d1) * 36 = (n2 * 36) * d1 := by rw [Int.mul_right_comm]
      _ = d2 * (2 * A) * d1 := by rw [d']
      _ = 2 * (d1 * A) * d2 := by
        rw [Int.mul_comm d2, Int.mul_assoc, Int.mul_assoc 2, Int.mul_assoc 2, Int.mul_comm d1 A, Int.mul_assoc A, Int.mul_comm d1 d2]
      _ = 2 * (n1 * 36) * d2 := by rw [c']
      _ = (2 * n1 * d2) * 36 := by rw [← Int.mul_assoc, Int.mul_right_comm]
  exact Int.eq_of_mul_eq_mul_right (by decide) key

/-- The answers for whatever minutes. -/
theorem vol_ex (x u M : Int) : ∃ n d ok, (∀ w, Fu w → Calls Tryd.prog 16 #[av x u, .int .i64 M] w (Gives3 n d ok w)) := by
  obtain ⟨n, d, ok, h, _⟩ := vol_both x u M
  exact ⟨n, d, ok, h⟩

set_option maxHeartbeats 8000000 in
set_option maxRecDepth 100000 in
theorem decimals_small (a : Option Addr) (n cap : Nat) (w : World) (hc : Cd w.heap.size a n w) (hn : n ≤ 65536) (hT : Tab w) (hFu : Fu w)
    (hdv : ∀ w, Cd w.heap.size a n w → Calls Tryd.prog 15 #[.slice a n cap] w fun e w' => (∃ x u z : Int, e = .returned (.tuple #[av x u, .int .i64 z])) ∧ Below w.heap.size w w') :
    Calls Tryd.prog 3 #[.slice a n cap] w fun e w' => e = .returned (.bool true) ∧ Below w.heap.size w w' := by
  have HC := Lib.hid (fun w' (hb : Below w.heap.size w w') => hc.later hb (Nat.le_refl _))
  have HT := Lib.hid (fun w' (hb : Below w.heap.size w w') => hT.later hb)
  have HF := Lib.hid (fun w' (hb : Below w.heap.size w w') => hFu.later hb)
  have HV := Lib.hid hdv
  have HR := Lib.hid (fun w => rbig_no a n cap w hn)
  have HCW := Lib.hid hc
  clear hc hT hFu hdv
  go_enter Tryd.func3, Tryd.ntmps3
  go_wp2_with (first
    | (go_at_call 11; refine (HR.out _).mono ?_; rintro e w' ⟨rfl, rfl⟩)
    | (go_at_call 12; refine (ddec_any a n cap _ HCW.out hn).mono ?_; rintro e w1 ⟨⟨x, y, z, rfl⟩, hb1⟩; refine Hid.out ?_))
  obtain ⟨l, ok, hi0, hs0, hok0⟩ := dtext_both x y z
  have HI := Lib.hid hi0
  have HS := Lib.hid hs0
  have HOK := Lib.hid hok0
  have HB1 := Lib.hid hb1
  clear hi0 hs0 hok0 hb1
  cases ok
  · clear HOK
    refine Lib.hid ?_
    go_wp2_with (first
      | (go_at_call 13; refine (HI.out _ (HT.out _ HB1.out)).mono ?_; rintro e w2 ⟨rfl, hb2⟩; have HB2 := Lib.hid (HB1.out.trans (hb2.mono HB1.out.size)))
      | (go_at_call 14; refine (HS.out _).mono ?_; rintro e w3 ⟨rfl, hb3⟩; have HB3 := Lib.hid (HB2.out.trans (hb3.mono HB2.out.size)))
      | (go_at_call 15; refine (HV.out _ (HC.out _ HB3.out)).mono ?_; rintro e w4 ⟨⟨x2, u2, m, rfl⟩, hb4⟩; refine Hid.out ?_))
    have HB4 := Lib.hid (HB3.out.trans (hb4.mono HB3.out.size))
    obtain ⟨n1, d1, ok1, hvi, hvs, hvo⟩ := vol_both x2 u2 m
    have HVI := Lib.hid hvi
    have HVS := Lib.hid hvs
    have HVO := Lib.hid hvo
    have HX := Lib.hid (fun (M : Int) (w : World) (hF : Fu w) => show Calls Tryd.prog 16 #[av x2 u2, .int .i64 M] w (fun e w' => ∃ n d ok, e = .returned (ret3 n d ok) ∧ Below w.heap.size w w') from by
      obtain ⟨n, d, ok, h⟩ := vol_ex x2 u2 M
      exact (h w hF).mono fun e w' ⟨he, hb⟩ => ⟨n, d, ok, he, hb⟩)
    obtain ⟨S, hS⟩ : ∃ S, S = w4.heap.size + 1 := ⟨_, rfl⟩
    have hB : Below S (w4.alloc (.cells #[.int .i64 x2, .int .i64 u2] 29)) (w4.alloc (.cells #[.int .i64 x2, .int .i64 u2] 29)) := Below.refl _ _
    have HSS := Lib.hid hS
    have HSZ := Lib.hid (show S = (w4.alloc (.cells #[.int .i64 x2, .int .i64 u2] 29)).heap.size by simp [hS])
    have hBw := HB4.out.trans ((under_one hB HSS.out).mono (by have := HB4.out.size; omega))
    clear hb4 hvi hvs hvo hS
    cases ok1
    · refine Lib.hid ?_
      go_wp2_with (first
        | (go_at_call_of 16 (Value.int IntKind.i64 m); refine (HVI.out _ (HF.out _ hBw)).mono ?_; rintro e w5 ⟨rfl, hb⟩; have hB := on_base hB HSZ.out hb; obtain ⟨c0, c1⟩ := box_one hB HSS.out; have hBw := HB4.out.trans ((under_one hB HSS.out).mono (by have := HB4.out.size; omega)))
        | (go_at_call 17; refine (HVS.out _).mono ?_; rintro e w6 ⟨rfl, hb⟩; have hB := on_base hB HSZ.out hb; obtain ⟨c0, c1⟩ := box_one hB HSS.out; have hBw := HB4.out.trans ((under_one hB HSS.out).mono (by have := HB4.out.size; omega)))
        | (go_at_call 16; refine (HX.out _ _ (HF.out _ hBw)).mono ?_; rintro e w7 ⟨n2, d2, ok2, rfl, hb⟩; have hB := on_base hB HSZ.out hb; obtain ⟨c0, c1⟩ := box_one hB HSS.out; have hBw := HB4.out.trans ((under_one hB HSS.out).mono (by have := HB4.out.size; omega)))
        | (go_at_call 18; refine (dbars_any a n cap _ (HC.out _ hBw) hn).mono ?_; rintro e w8 ⟨⟨mm, rfl⟩, hb⟩; have hB := on_base hB HSZ.out hb; obtain ⟨c0, c1⟩ := box_one hB HSS.out; have hBw := HB4.out.trans ((under_one hB HSS.out).mono (by have := HB4.out.size; omega)); refine Hid.out ?_))
      obtain ⟨nb, db, okb, hbi, hbs, hbo⟩ := bars_both mm
      have HBI := Lib.hid hbi
      have HBS := Lib.hid hbs
      have HBW := Lib.hid hBw
      have hE : okb = true → 51 * nb = 5 * mm * db := fun h => by
        obtain ⟨h0, h1, e1, e2⟩ := hbo h
        have := low_cross (5 * mm.toNat) 51
        rw [← e1, ← e2] at this
        have e3 : ((5 * mm.toNat : Nat) : Int) = 5 * mm := by omega
        rw [e3] at this
        have e4 : nb * 51 = db * (5 * mm) := this
        rw [Int.mul_comm 51, e4, Int.mul_comm]
      have hEb : okb = true → (0 ≤ nb ∧ nb ≤ 5000 ∧ 0 ≤ mm ∧ mm ≤ 1000) := fun h => by
        obtain ⟨h0, h1, e1, e2⟩ := hbo h
        have a := lowN_nn (5 * mm.toNat) 51
        have b := lowN_le (5 * mm.toNat) 51
        rw [← e1] at a b
        omega
      clear hbi hbs hbo hBw c0 c1 hB hb
      cases okb
      · clear hE hEb
        refine Lib.hid ?_
        go_wp2_with (first
          | (go_at_call 19; refine (HBI.out _).mono ?_; rintro e w9 ⟨rfl, hb9⟩)
          | (go_at_call 20; refine (HBS.out _).mono ?_; rintro e w10 ⟨rfl, hb10⟩))
        go_ret
        exact ⟨rfl, HBW.out.trans ((hb9.trans (hb10.mono hb9.size)).mono HBW.out.size)⟩
      · have hE1 := hE rfl
        obtain ⟨b0, b1, b2, b3⟩ := hEb rfl
        have hw3 : IntKind.i64.wrap (5 * mm) = 5 * mm := IntWalk.i64_in _ (by omega)
        have hw4 : IntKind.i64.wrap (51 * nb) = 51 * nb := IntWalk.i64_in _ (by omega)
        have hw5 : IntKind.i64.wrap (5 * mm * db) = 51 * nb := by rw [← hE1]; exact hw4
        clear hE hEb hE1
        refine Lib.hid ?_
        go_wp2_with (first
          | (go_at_call 19; refine (HBI.out _).mono ?_; rintro e w9 ⟨rfl, hb9⟩)
          | (go_at_call 20; refine (HBS.out _).mono ?_; rintro e w10 ⟨rfl, hb10⟩))
        go_ret
        exact ⟨rfl, HBW.out.trans ((hb9.trans (hb10.mono hb9.size)).mono HBW.out.size)⟩
    · obtain ⟨hxo, hm0, hm1, hn1, hd1⟩ := HVO.out rfl
      obtain ⟨n2, d2, ok2, hvi2, _, hvo2⟩ := vol_both x2 u2 (2 * m)
      have HVI2 := Lib.hid hvi2
      have hmw : IntKind.i64.wrap (2 * m) = 2 * m := IntWalk.i64_in _ (by omega)
      cases ok2
      · clear hvi2 hvo2 hn1 hd1 hxo
        refine Lib.hid ?_
        go_wp2_with (first
          | (go_at_call_of 16 (Value.int IntKind.i64 m); refine (HVI.out _ (HF.out _ hBw)).mono ?_; rintro e w5 ⟨rfl, hb⟩; have hB := on_base hB HSZ.out hb; obtain ⟨c0, c1⟩ := box_one hB HSS.out; have hBw := HB4.out.trans ((under_one hB HSS.out).mono (by have := HB4.out.size; omega)))
          | (go_at_call 17; refine (HVS.out _).mono ?_; rintro e w6 ⟨rfl, hb⟩; have hB := on_base hB HSZ.out hb; obtain ⟨c0, c1⟩ := box_one hB HSS.out; have hBw := HB4.out.trans ((under_one hB HSS.out).mono (by have := HB4.out.size; omega)))
          | (go_at_call 16; refine (HVI2.out _ (HF.out _ hBw)).mono ?_; rintro e w7 ⟨rfl, hb⟩; have hB := on_base hB HSZ.out hb; obtain ⟨c0, c1⟩ := box_one hB HSS.out; have hBw := HB4.out.trans ((under_one hB HSS.out).mono (by have := HB4.out.size; omega)))
          | (go_at_call 18; refine (dbars_any a n cap _ (HC.out _ hBw) hn).mono ?_; rintro e w8 ⟨⟨mm, rfl⟩, hb⟩; have hB := on_base hB HSZ.out hb; obtain ⟨c0, c1⟩ := box_one hB HSS.out; have hBw := HB4.out.trans ((under_one hB HSS.out).mono (by have := HB4.out.size; omega)); refine Hid.out ?_))
        obtain ⟨nb, db, okb, hbi, hbs, hbo⟩ := bars_both mm
        have HBI := Lib.hid hbi
        have HBS := Lib.hid hbs
        have HBW := Lib.hid hBw
        have hE : okb = true → 51 * nb = 5 * mm * db := fun h => by
          obtain ⟨h0, h1, e1, e2⟩ := hbo h
          have := low_cross (5 * mm.toNat) 51
          rw [← e1, ← e2] at this
          have e3 : ((5 * mm.toNat : Nat) : Int) = 5 * mm := by omega
          rw [e3] at this
          have e4 : nb * 51 = db * (5 * mm) := this
          rw [Int.mul_comm 51, e4, Int.mul_comm]
        have hEb : okb = true → (0 ≤ nb ∧ nb ≤ 5000 ∧ 0 ≤ mm ∧ mm ≤ 1000) := fun h => by
          obtain ⟨h0, h1, e1, e2⟩ := hbo h
          have a := lowN_nn (5 * mm.toNat) 51
          have b := lowN_le (5 * mm.toNat) 51
          rw [← e1] at a b
          omega
        clear hbi hbs hbo hBw c0 c1 hB hb
        cases okb
        · clear hE hEb
          refine Lib.hid ?_
          go_wp2_with (first
            | (go_at_call 19; refine (HBI.out _).mono ?_; rintro e w9 ⟨rfl, hb9⟩)
            | (go_at_call 20; refine (HBS.out _).mono ?_; rintro e w10 ⟨rfl, hb10⟩))
          go_ret
          exact ⟨rfl, HBW.out.trans ((hb9.trans (hb10.mono hb9.size)).mono HBW.out.size)⟩
        · have hE1 := hE rfl
          obtain ⟨b0, b1, b2, b3⟩ := hEb rfl
          have hw3 : IntKind.i64.wrap (5 * mm) = 5 * mm := IntWalk.i64_in _ (by omega)
          have hw4 : IntKind.i64.wrap (51 * nb) = 51 * nb := IntWalk.i64_in _ (by omega)
          have hw5 : IntKind.i64.wrap (5 * mm * db) = 51 * nb := by rw [← hE1]; exact hw4
          clear hE hEb hE1
          refine Lib.hid ?_
          go_wp2_with (first
            | (go_at_call 19; refine (HBI.out _).mono ?_; rintro e w9 ⟨rfl, hb9⟩)
            | (go_at_call 20; refine (HBS.out _).mono ?_; rintro e w10 ⟨rfl, hb10⟩))
          go_ret
          exact ⟨rfl, HBW.out.trans ((hb9.trans (hb10.mono hb9.size)).mono HBW.out.size)⟩
      · obtain ⟨_, hk0, hk1, hn2, hd2⟩ := hvo2 rfl
        have htw := vol_twice hxo hm0 hk1
        rw [← hn1, ← hd1, ← hn2, ← hd2] at htw
        have hn1b : 0 ≤ n1 ∧ n1 ≤ 900000000000000 := by rw [hn1]; exact ⟨lowN_nn _ _, Int.le_trans (lowN_le _ _) (by have := (vol_facts hxo hm0 hm1).2.1; omega)⟩
        have hn2b : 0 ≤ n2 ∧ n2 ≤ 900000000000000 := by rw [hn2]; exact ⟨lowN_nn _ _, Int.le_trans (lowN_le _ _) (by have := (vol_facts hxo hk0 hk1).2.1; omega)⟩
        have hd1b : 0 ≤ d1 ∧ d1 ≤ 36 := by rw [hd1]; exact ⟨lowD_nn _ _, Int.le_trans (lowD_le _ _) (by omega)⟩
        have hp0 : 0 ≤ n2 * d1 ∧ n2 * d1 ≤ 32400000000000000 := ⟨Int.mul_nonneg hn2b.1 hd1b.1, by
          have := Int.mul_le_mul hn2b.2 hd1b.2 hd1b.1 (by omega)
          omega⟩
        have hw1 : IntKind.i64.wrap (n2 * d1) = n2 * d1 := IntWalk.i64_in _ (by omega)
        have hw2 : IntKind.i64.wrap (2 * n1 * d2) = n2 * d1 := by rw [← htw]; exact IntWalk.i64_in _ (by omega)
        have HTW := Lib.hid htw
        clear hvi2 hvo2 hn1 hd1 hn2 hd2 hxo htw
        skip
        refine Lib.hid ?_
        go_wp2_with (first
          | (go_at_call_of 16 (Value.int IntKind.i64 m); refine (HVI.out _ (HF.out _ hBw)).mono ?_; rintro e w5 ⟨rfl, hb⟩; have hB := on_base hB HSZ.out hb; obtain ⟨c0, c1⟩ := box_one hB HSS.out; have hBw := HB4.out.trans ((under_one hB HSS.out).mono (by have := HB4.out.size; omega)))
          | (go_at_call 17; refine (HVS.out _).mono ?_; rintro e w6 ⟨rfl, hb⟩; have hB := on_base hB HSZ.out hb; obtain ⟨c0, c1⟩ := box_one hB HSS.out; have hBw := HB4.out.trans ((under_one hB HSS.out).mono (by have := HB4.out.size; omega)))
          | (go_at_call 16; refine (HVI2.out _ (HF.out _ hBw)).mono ?_; rintro e w7 ⟨rfl, hb⟩; have hB := on_base hB HSZ.out hb; obtain ⟨c0, c1⟩ := box_one hB HSS.out; have hBw := HB4.out.trans ((under_one hB HSS.out).mono (by have := HB4.out.size; omega)))
          | (go_at_call 18; refine (dbars_any a n cap _ (HC.out _ hBw) hn).mono ?_; rintro e w8 ⟨⟨mm, rfl⟩, hb⟩; have hB := on_base hB HSZ.out hb; obtain ⟨c0, c1⟩ := box_one hB HSS.out; have hBw := HB4.out.trans ((under_one hB HSS.out).mono (by have := HB4.out.size; omega)); refine Hid.out ?_))
        obtain ⟨nb, db, okb, hbi, hbs, hbo⟩ := bars_both mm
        have HBI := Lib.hid hbi
        have HBS := Lib.hid hbs
        have HBW := Lib.hid hBw
        have hE : okb = true → 51 * nb = 5 * mm * db := fun h => by
          obtain ⟨h0, h1, e1, e2⟩ := hbo h
          have := low_cross (5 * mm.toNat) 51
          rw [← e1, ← e2] at this
          have e3 : ((5 * mm.toNat : Nat) : Int) = 5 * mm := by omega
          rw [e3] at this
          have e4 : nb * 51 = db * (5 * mm) := this
          rw [Int.mul_comm 51, e4, Int.mul_comm]
        have hEb : okb = true → (0 ≤ nb ∧ nb ≤ 5000 ∧ 0 ≤ mm ∧ mm ≤ 1000) := fun h => by
          obtain ⟨h0, h1, e1, e2⟩ := hbo h
          have a := lowN_nn (5 * mm.toNat) 51
          have b := lowN_le (5 * mm.toNat) 51
          rw [← e1] at a b
          omega
        clear hbi hbs hbo hBw c0 c1 hB hb
        cases okb
        · clear hE hEb
          refine Lib.hid ?_
          go_wp2_with (first
            | (go_at_call 19; refine (HBI.out _).mono ?_; rintro e w9 ⟨rfl, hb9⟩)
            | (go_at_call 20; refine (HBS.out _).mono ?_; rintro e w10 ⟨rfl, hb10⟩))
          go_ret
          exact ⟨rfl, HBW.out.trans ((hb9.trans (hb10.mono hb9.size)).mono HBW.out.size)⟩
        · have hE1 := hE rfl
          obtain ⟨b0, b1, b2, b3⟩ := hEb rfl
          have hw3 : IntKind.i64.wrap (5 * mm) = 5 * mm := IntWalk.i64_in _ (by omega)
          have hw4 : IntKind.i64.wrap (51 * nb) = 51 * nb := IntWalk.i64_in _ (by omega)
          have hw5 : IntKind.i64.wrap (5 * mm * db) = 51 * nb := by rw [← hE1]; exact hw4
          clear hE hEb hE1
          refine Lib.hid ?_
          go_wp2_with (first
            | (go_at_call 19; refine (HBI.out _).mono ?_; rintro e w9 ⟨rfl, hb9⟩)
            | (go_at_call 20; refine (HBS.out _).mono ?_; rintro e w10 ⟨rfl, hb10⟩))
          go_ret
          exact ⟨rfl, HBW.out.trans ((hb9.trans (hb10.mono hb9.size)).mono HBW.out.size)⟩
  · obtain ⟨N, hz0, hz4, hNb, hl⟩ := HOK.out rfl
    by_cases hzp : 0 < z
    · obtain ⟨p, rfl⟩ : ∃ p : Nat, z = (p : Int) := ⟨z.toNat, by omega⟩
      obtain ⟨D, hD1, hD18, hDs, hD46⟩ := point_at (N := N) (p := p) (by omega) hNb
      rw [Int.toNat_natCast] at hl
      rw [← hl] at hDs hD46
      have hlen : l.length = D + 1 + p := by simpa [ByteArray.size] using hDs
      have hDlt : D < (ByteArray.mk l.toArray).size := by rw [hDs]; omega
      have h46 := hD46 hDlt
      have h46i : (((ByteArray.mk l.toArray)[D].toNat : Int) != 46) = false := by rw [h46]; rfl
      clear HOK hl hD46 hNb
      refine Lib.hid ?_
      go_wp2_with (first
        | (go_at_call 13; refine (HI.out _ (HT.out _ HB1.out)).mono ?_; rintro e w2 ⟨rfl, hb2⟩; have HB2 := Lib.hid (HB1.out.trans (hb2.mono HB1.out.size)))
        | (go_at_call 14; refine (HS.out _).mono ?_; rintro e w3 ⟨rfl, hb3⟩; have HB3 := Lib.hid (HB2.out.trans (hb3.mono HB2.out.size)))
        | (go_at_call 15; refine (HV.out _ (HC.out _ HB3.out)).mono ?_; rintro e w4 ⟨⟨x2, u2, m, rfl⟩, hb4⟩; refine Hid.out ?_))
      have HB4 := Lib.hid (HB3.out.trans (hb4.mono HB3.out.size))
      obtain ⟨n1, d1, ok1, hvi, hvs, hvo⟩ := vol_both x2 u2 m
      have HVI := Lib.hid hvi
      have HVS := Lib.hid hvs
      have HVO := Lib.hid hvo
      have HX := Lib.hid (fun (M : Int) (w : World) (hF : Fu w) => show Calls Tryd.prog 16 #[av x2 u2, .int .i64 M] w (fun e w' => ∃ n d ok, e = .returned (ret3 n d ok) ∧ Below w.heap.size w w') from by
        obtain ⟨n, d, ok, h⟩ := vol_ex x2 u2 M
        exact (h w hF).mono fun e w' ⟨he, hb⟩ => ⟨n, d, ok, he, hb⟩)
      obtain ⟨S, hS⟩ : ∃ S, S = w4.heap.size + 1 := ⟨_, rfl⟩
      have hB : Below S (w4.alloc (.cells #[.int .i64 x2, .int .i64 u2] 29)) (w4.alloc (.cells #[.int .i64 x2, .int .i64 u2] 29)) := Below.refl _ _
      have HSS := Lib.hid hS
      have HSZ := Lib.hid (show S = (w4.alloc (.cells #[.int .i64 x2, .int .i64 u2] 29)).heap.size by simp [hS])
      have hBw := HB4.out.trans ((under_one hB HSS.out).mono (by have := HB4.out.size; omega))
      clear hb4 hvi hvs hvo hS
      cases ok1
      · refine Lib.hid ?_
        go_wp2_with (first
          | (go_at_call_of 16 (Value.int IntKind.i64 m); refine (HVI.out _ (HF.out _ hBw)).mono ?_; rintro e w5 ⟨rfl, hb⟩; have hB := on_base hB HSZ.out hb; obtain ⟨c0, c1⟩ := box_one hB HSS.out; have hBw := HB4.out.trans ((under_one hB HSS.out).mono (by have := HB4.out.size; omega)))
          | (go_at_call 17; refine (HVS.out _).mono ?_; rintro e w6 ⟨rfl, hb⟩; have hB := on_base hB HSZ.out hb; obtain ⟨c0, c1⟩ := box_one hB HSS.out; have hBw := HB4.out.trans ((under_one hB HSS.out).mono (by have := HB4.out.size; omega)))
          | (go_at_call 16; refine (HX.out _ _ (HF.out _ hBw)).mono ?_; rintro e w7 ⟨n2, d2, ok2, rfl, hb⟩; have hB := on_base hB HSZ.out hb; obtain ⟨c0, c1⟩ := box_one hB HSS.out; have hBw := HB4.out.trans ((under_one hB HSS.out).mono (by have := HB4.out.size; omega)))
          | (go_at_call 18; refine (dbars_any a n cap _ (HC.out _ hBw) hn).mono ?_; rintro e w8 ⟨⟨mm, rfl⟩, hb⟩; have hB := on_base hB HSZ.out hb; obtain ⟨c0, c1⟩ := box_one hB HSS.out; have hBw := HB4.out.trans ((under_one hB HSS.out).mono (by have := HB4.out.size; omega)); refine Hid.out ?_))
        obtain ⟨nb, db, okb, hbi, hbs, hbo⟩ := bars_both mm
        have HBI := Lib.hid hbi
        have HBS := Lib.hid hbs
        have HBW := Lib.hid hBw
        have hE : okb = true → 51 * nb = 5 * mm * db := fun h => by
          obtain ⟨h0, h1, e1, e2⟩ := hbo h
          have := low_cross (5 * mm.toNat) 51
          rw [← e1, ← e2] at this
          have e3 : ((5 * mm.toNat : Nat) : Int) = 5 * mm := by omega
          rw [e3] at this
          have e4 : nb * 51 = db * (5 * mm) := this
          rw [Int.mul_comm 51, e4, Int.mul_comm]
        have hEb : okb = true → (0 ≤ nb ∧ nb ≤ 5000 ∧ 0 ≤ mm ∧ mm ≤ 1000) := fun h => by
          obtain ⟨h0, h1, e1, e2⟩ := hbo h
          have a := lowN_nn (5 * mm.toNat) 51
          have b := lowN_le (5 * mm.toNat) 51
          rw [← e1] at a b
          omega
        clear hbi hbs hbo hBw c0 c1 hB hb
        cases okb
        · clear hE hEb
          refine Lib.hid ?_
          go_wp2_with (first
            | (go_at_call 19; refine (HBI.out _).mono ?_; rintro e w9 ⟨rfl, hb9⟩)
            | (go_at_call 20; refine (HBS.out _).mono ?_; rintro e w10 ⟨rfl, hb10⟩))
          go_ret
          exact ⟨rfl, HBW.out.trans ((hb9.trans (hb10.mono hb9.size)).mono HBW.out.size)⟩
        · have hE1 := hE rfl
          obtain ⟨b0, b1, b2, b3⟩ := hEb rfl
          have hw3 : IntKind.i64.wrap (5 * mm) = 5 * mm := IntWalk.i64_in _ (by omega)
          have hw4 : IntKind.i64.wrap (51 * nb) = 51 * nb := IntWalk.i64_in _ (by omega)
          have hw5 : IntKind.i64.wrap (5 * mm * db) = 51 * nb := by rw [← hE1]; exact hw4
          clear hE hEb hE1
          refine Lib.hid ?_
          go_wp2_with (first
            | (go_at_call 19; refine (HBI.out _).mono ?_; rintro e w9 ⟨rfl, hb9⟩)
            | (go_at_call 20; refine (HBS.out _).mono ?_; rintro e w10 ⟨rfl, hb10⟩))
          go_ret
          exact ⟨rfl, HBW.out.trans ((hb9.trans (hb10.mono hb9.size)).mono HBW.out.size)⟩
      · obtain ⟨hxo, hm0, hm1, hn1, hd1⟩ := HVO.out rfl
        obtain ⟨n2, d2, ok2, hvi2, _, hvo2⟩ := vol_both x2 u2 (2 * m)
        have HVI2 := Lib.hid hvi2
        have hmw : IntKind.i64.wrap (2 * m) = 2 * m := IntWalk.i64_in _ (by omega)
        cases ok2
        · clear hvi2 hvo2 hn1 hd1 hxo
          refine Lib.hid ?_
          go_wp2_with (first
            | (go_at_call_of 16 (Value.int IntKind.i64 m); refine (HVI.out _ (HF.out _ hBw)).mono ?_; rintro e w5 ⟨rfl, hb⟩; have hB := on_base hB HSZ.out hb; obtain ⟨c0, c1⟩ := box_one hB HSS.out; have hBw := HB4.out.trans ((under_one hB HSS.out).mono (by have := HB4.out.size; omega)))
            | (go_at_call 17; refine (HVS.out _).mono ?_; rintro e w6 ⟨rfl, hb⟩; have hB := on_base hB HSZ.out hb; obtain ⟨c0, c1⟩ := box_one hB HSS.out; have hBw := HB4.out.trans ((under_one hB HSS.out).mono (by have := HB4.out.size; omega)))
            | (go_at_call 16; refine (HVI2.out _ (HF.out _ hBw)).mono ?_; rintro e w7 ⟨rfl, hb⟩; have hB := on_base hB HSZ.out hb; obtain ⟨c0, c1⟩ := box_one hB HSS.out; have hBw := HB4.out.trans ((under_one hB HSS.out).mono (by have := HB4.out.size; omega)))
            | (go_at_call 18; refine (dbars_any a n cap _ (HC.out _ hBw) hn).mono ?_; rintro e w8 ⟨⟨mm, rfl⟩, hb⟩; have hB := on_base hB HSZ.out hb; obtain ⟨c0, c1⟩ := box_one hB HSS.out; have hBw := HB4.out.trans ((under_one hB HSS.out).mono (by have := HB4.out.size; omega)); refine Hid.out ?_))
          obtain ⟨nb, db, okb, hbi, hbs, hbo⟩ := bars_both mm
          have HBI := Lib.hid hbi
          have HBS := Lib.hid hbs
          have HBW := Lib.hid hBw
          have hE : okb = true → 51 * nb = 5 * mm * db := fun h => by
            obtain ⟨h0, h1, e1, e2⟩ := hbo h
            have := low_cross (5 * mm.toNat) 51
            rw [← e1, ← e2] at this
            have e3 : ((5 * mm.toNat : Nat) : Int) = 5 * mm := by omega
            rw [e3] at this
            have e4 : nb * 51 = db * (5 * mm) := this
            rw [Int.mul_comm 51, e4, Int.mul_comm]
          have hEb : okb = true → (0 ≤ nb ∧ nb ≤ 5000 ∧ 0 ≤ mm ∧ mm ≤ 1000) := fun h => by
            obtain ⟨h0, h1, e1, e2⟩ := hbo h
            have a := lowN_nn (5 * mm.toNat) 51
            have b := lowN_le (5 * mm.toNat) 51
            rw [← e1] at a b
            omega
          clear hbi hbs hbo hBw c0 c1 hB hb
          cases okb
          · clear hE hEb
            refine Lib.hid ?_
            go_wp2_with (first
              | (go_at_call 19; refine (HBI.out _).mono ?_; rintro e w9 ⟨rfl, hb9⟩)
              | (go_at_call 20; refine (HBS.out _).mono ?_; rintro e w10 ⟨rfl, hb10⟩))
            go_ret
            exact ⟨rfl, HBW.out.trans ((hb9.trans (hb10.mono hb9.size)).mono HBW.out.size)⟩
          · have hE1 := hE rfl
            obtain ⟨b0, b1, b2, b3⟩ := hEb rfl
            have hw3 : IntKind.i64.wrap (5 * mm) = 5 * mm := IntWalk.i64_in _ (by omega)
            have hw4 : IntKind.i64.wrap (51 * nb) = 51 * nb := IntWalk.i64_in _ (by omega)
            have hw5 : IntKind.i64.wrap (5 * mm * db) = 51 * nb := by rw [← hE1]; exact hw4
            clear hE hEb hE1
            refine Lib.hid ?_
            go_wp2_with (first
              | (go_at_call 19; refine (HBI.out _).mono ?_; rintro e w9 ⟨rfl, hb9⟩)
              | (go_at_call 20; refine (HBS.out _).mono ?_; rintro e w10 ⟨rfl, hb10⟩))
            go_ret
            exact ⟨rfl, HBW.out.trans ((hb9.trans (hb10.mono hb9.size)).mono HBW.out.size)⟩
        · obtain ⟨_, hk0, hk1, hn2, hd2⟩ := hvo2 rfl
          have htw := vol_twice hxo hm0 hk1
          rw [← hn1, ← hd1, ← hn2, ← hd2] at htw
          have hn1b : 0 ≤ n1 ∧ n1 ≤ 900000000000000 := by rw [hn1]; exact ⟨lowN_nn _ _, Int.le_trans (lowN_le _ _) (by have := (vol_facts hxo hm0 hm1).2.1; omega)⟩
          have hn2b : 0 ≤ n2 ∧ n2 ≤ 900000000000000 := by rw [hn2]; exact ⟨lowN_nn _ _, Int.le_trans (lowN_le _ _) (by have := (vol_facts hxo hk0 hk1).2.1; omega)⟩
          have hd1b : 0 ≤ d1 ∧ d1 ≤ 36 := by rw [hd1]; exact ⟨lowD_nn _ _, Int.le_trans (lowD_le _ _) (by omega)⟩
          have hp0 : 0 ≤ n2 * d1 ∧ n2 * d1 ≤ 32400000000000000 := ⟨Int.mul_nonneg hn2b.1 hd1b.1, by
            have := Int.mul_le_mul hn2b.2 hd1b.2 hd1b.1 (by omega)
            omega⟩
          have hw1 : IntKind.i64.wrap (n2 * d1) = n2 * d1 := IntWalk.i64_in _ (by omega)
          have hw2 : IntKind.i64.wrap (2 * n1 * d2) = n2 * d1 := by rw [← htw]; exact IntWalk.i64_in _ (by omega)
          have HTW := Lib.hid htw
          clear hvi2 hvo2 hn1 hd1 hn2 hd2 hxo htw
          skip
          refine Lib.hid ?_
          go_wp2_with (first
            | (go_at_call_of 16 (Value.int IntKind.i64 m); refine (HVI.out _ (HF.out _ hBw)).mono ?_; rintro e w5 ⟨rfl, hb⟩; have hB := on_base hB HSZ.out hb; obtain ⟨c0, c1⟩ := box_one hB HSS.out; have hBw := HB4.out.trans ((under_one hB HSS.out).mono (by have := HB4.out.size; omega)))
            | (go_at_call 17; refine (HVS.out _).mono ?_; rintro e w6 ⟨rfl, hb⟩; have hB := on_base hB HSZ.out hb; obtain ⟨c0, c1⟩ := box_one hB HSS.out; have hBw := HB4.out.trans ((under_one hB HSS.out).mono (by have := HB4.out.size; omega)))
            | (go_at_call 16; refine (HVI2.out _ (HF.out _ hBw)).mono ?_; rintro e w7 ⟨rfl, hb⟩; have hB := on_base hB HSZ.out hb; obtain ⟨c0, c1⟩ := box_one hB HSS.out; have hBw := HB4.out.trans ((under_one hB HSS.out).mono (by have := HB4.out.size; omega)))
            | (go_at_call 18; refine (dbars_any a n cap _ (HC.out _ hBw) hn).mono ?_; rintro e w8 ⟨⟨mm, rfl⟩, hb⟩; have hB := on_base hB HSZ.out hb; obtain ⟨c0, c1⟩ := box_one hB HSS.out; have hBw := HB4.out.trans ((under_one hB HSS.out).mono (by have := HB4.out.size; omega)); refine Hid.out ?_))
          obtain ⟨nb, db, okb, hbi, hbs, hbo⟩ := bars_both mm
          have HBI := Lib.hid hbi
          have HBS := Lib.hid hbs
          have HBW := Lib.hid hBw
          have hE : okb = true → 51 * nb = 5 * mm * db := fun h => by
            obtain ⟨h0, h1, e1, e2⟩ := hbo h
            have := low_cross (5 * mm.toNat) 51
            rw [← e1, ← e2] at this
            have e3 : ((5 * mm.toNat : Nat) : Int) = 5 * mm := by omega
            rw [e3] at this
            have e4 : nb * 51 = db * (5 * mm) := this
            rw [Int.mul_comm 51, e4, Int.mul_comm]
          have hEb : okb = true → (0 ≤ nb ∧ nb ≤ 5000 ∧ 0 ≤ mm ∧ mm ≤ 1000) := fun h => by
            obtain ⟨h0, h1, e1, e2⟩ := hbo h
            have a := lowN_nn (5 * mm.toNat) 51
            have b := lowN_le (5 * mm.toNat) 51
            rw [← e1] at a b
            omega
          clear hbi hbs hbo hBw c0 c1 hB hb
          cases okb
          · clear hE hEb
            refine Lib.hid ?_
            go_wp2_with (first
              | (go_at_call 19; refine (HBI.out _).mono ?_; rintro e w9 ⟨rfl, hb9⟩)
              | (go_at_call 20; refine (HBS.out _).mono ?_; rintro e w10 ⟨rfl, hb10⟩))
            go_ret
            exact ⟨rfl, HBW.out.trans ((hb9.trans (hb10.mono hb9.size)).mono HBW.out.size)⟩
          · have hE1 := hE rfl
            obtain ⟨b0, b1, b2, b3⟩ := hEb rfl
            have hw3 : IntKind.i64.wrap (5 * mm) = 5 * mm := IntWalk.i64_in _ (by omega)
            have hw4 : IntKind.i64.wrap (51 * nb) = 51 * nb := IntWalk.i64_in _ (by omega)
            have hw5 : IntKind.i64.wrap (5 * mm * db) = 51 * nb := by rw [← hE1]; exact hw4
            clear hE hEb hE1
            refine Lib.hid ?_
            go_wp2_with (first
              | (go_at_call 19; refine (HBI.out _).mono ?_; rintro e w9 ⟨rfl, hb9⟩)
              | (go_at_call 20; refine (HBS.out _).mono ?_; rintro e w10 ⟨rfl, hb10⟩))
            go_ret
            exact ⟨rfl, HBW.out.trans ((hb9.trans (hb10.mono hb9.size)).mono HBW.out.size)⟩
    · clear HOK hl hNb
      refine Lib.hid ?_
      go_wp2_with (first
        | (go_at_call 13; refine (HI.out _ (HT.out _ HB1.out)).mono ?_; rintro e w2 ⟨rfl, hb2⟩; have HB2 := Lib.hid (HB1.out.trans (hb2.mono HB1.out.size)))
        | (go_at_call 14; refine (HS.out _).mono ?_; rintro e w3 ⟨rfl, hb3⟩; have HB3 := Lib.hid (HB2.out.trans (hb3.mono HB2.out.size)))
        | (go_at_call 15; refine (HV.out _ (HC.out _ HB3.out)).mono ?_; rintro e w4 ⟨⟨x2, u2, m, rfl⟩, hb4⟩; refine Hid.out ?_))
      have HB4 := Lib.hid (HB3.out.trans (hb4.mono HB3.out.size))
      obtain ⟨n1, d1, ok1, hvi, hvs, hvo⟩ := vol_both x2 u2 m
      have HVI := Lib.hid hvi
      have HVS := Lib.hid hvs
      have HVO := Lib.hid hvo
      have HX := Lib.hid (fun (M : Int) (w : World) (hF : Fu w) => show Calls Tryd.prog 16 #[av x2 u2, .int .i64 M] w (fun e w' => ∃ n d ok, e = .returned (ret3 n d ok) ∧ Below w.heap.size w w') from by
        obtain ⟨n, d, ok, h⟩ := vol_ex x2 u2 M
        exact (h w hF).mono fun e w' ⟨he, hb⟩ => ⟨n, d, ok, he, hb⟩)
      obtain ⟨S, hS⟩ : ∃ S, S = w4.heap.size + 1 := ⟨_, rfl⟩
      have hB : Below S (w4.alloc (.cells #[.int .i64 x2, .int .i64 u2] 29)) (w4.alloc (.cells #[.int .i64 x2, .int .i64 u2] 29)) := Below.refl _ _
      have HSS := Lib.hid hS
      have HSZ := Lib.hid (show S = (w4.alloc (.cells #[.int .i64 x2, .int .i64 u2] 29)).heap.size by simp [hS])
      have hBw := HB4.out.trans ((under_one hB HSS.out).mono (by have := HB4.out.size; omega))
      clear hb4 hvi hvs hvo hS
      cases ok1
      · refine Lib.hid ?_
        go_wp2_with (first
          | (go_at_call_of 16 (Value.int IntKind.i64 m); refine (HVI.out _ (HF.out _ hBw)).mono ?_; rintro e w5 ⟨rfl, hb⟩; have hB := on_base hB HSZ.out hb; obtain ⟨c0, c1⟩ := box_one hB HSS.out; have hBw := HB4.out.trans ((under_one hB HSS.out).mono (by have := HB4.out.size; omega)))
          | (go_at_call 17; refine (HVS.out _).mono ?_; rintro e w6 ⟨rfl, hb⟩; have hB := on_base hB HSZ.out hb; obtain ⟨c0, c1⟩ := box_one hB HSS.out; have hBw := HB4.out.trans ((under_one hB HSS.out).mono (by have := HB4.out.size; omega)))
          | (go_at_call 16; refine (HX.out _ _ (HF.out _ hBw)).mono ?_; rintro e w7 ⟨n2, d2, ok2, rfl, hb⟩; have hB := on_base hB HSZ.out hb; obtain ⟨c0, c1⟩ := box_one hB HSS.out; have hBw := HB4.out.trans ((under_one hB HSS.out).mono (by have := HB4.out.size; omega)))
          | (go_at_call 18; refine (dbars_any a n cap _ (HC.out _ hBw) hn).mono ?_; rintro e w8 ⟨⟨mm, rfl⟩, hb⟩; have hB := on_base hB HSZ.out hb; obtain ⟨c0, c1⟩ := box_one hB HSS.out; have hBw := HB4.out.trans ((under_one hB HSS.out).mono (by have := HB4.out.size; omega)); refine Hid.out ?_))
        obtain ⟨nb, db, okb, hbi, hbs, hbo⟩ := bars_both mm
        have HBI := Lib.hid hbi
        have HBS := Lib.hid hbs
        have HBW := Lib.hid hBw
        have hE : okb = true → 51 * nb = 5 * mm * db := fun h => by
          obtain ⟨h0, h1, e1, e2⟩ := hbo h
          have := low_cross (5 * mm.toNat) 51
          rw [← e1, ← e2] at this
          have e3 : ((5 * mm.toNat : Nat) : Int) = 5 * mm := by omega
          rw [e3] at this
          have e4 : nb * 51 = db * (5 * mm) := this
          rw [Int.mul_comm 51, e4, Int.mul_comm]
        have hEb : okb = true → (0 ≤ nb ∧ nb ≤ 5000 ∧ 0 ≤ mm ∧ mm ≤ 1000) := fun h => by
          obtain ⟨h0, h1, e1, e2⟩ := hbo h
          have a := lowN_nn (5 * mm.toNat) 51
          have b := lowN_le (5 * mm.toNat) 51
          rw [← e1] at a b
          omega
        clear hbi hbs hbo hBw c0 c1 hB hb
        cases okb
        · clear hE hEb
          refine Lib.hid ?_
          go_wp2_with (first
            | (go_at_call 19; refine (HBI.out _).mono ?_; rintro e w9 ⟨rfl, hb9⟩)
            | (go_at_call 20; refine (HBS.out _).mono ?_; rintro e w10 ⟨rfl, hb10⟩))
          go_ret
          exact ⟨rfl, HBW.out.trans ((hb9.trans (hb10.mono hb9.size)).mono HBW.out.size)⟩
        · have hE1 := hE rfl
          obtain ⟨b0, b1, b2, b3⟩ := hEb rfl
          have hw3 : IntKind.i64.wrap (5 * mm) = 5 * mm := IntWalk.i64_in _ (by omega)
          have hw4 : IntKind.i64.wrap (51 * nb) = 51 * nb := IntWalk.i64_in _ (by omega)
          have hw5 : IntKind.i64.wrap (5 * mm * db) = 51 * nb := by rw [← hE1]; exact hw4
          clear hE hEb hE1
          refine Lib.hid ?_
          go_wp2_with (first
            | (go_at_call 19; refine (HBI.out _).mono ?_; rintro e w9 ⟨rfl, hb9⟩)
            | (go_at_call 20; refine (HBS.out _).mono ?_; rintro e w10 ⟨rfl, hb10⟩))
          go_ret
          exact ⟨rfl, HBW.out.trans ((hb9.trans (hb10.mono hb9.size)).mono HBW.out.size)⟩
      · obtain ⟨hxo, hm0, hm1, hn1, hd1⟩ := HVO.out rfl
        obtain ⟨n2, d2, ok2, hvi2, _, hvo2⟩ := vol_both x2 u2 (2 * m)
        have HVI2 := Lib.hid hvi2
        have hmw : IntKind.i64.wrap (2 * m) = 2 * m := IntWalk.i64_in _ (by omega)
        cases ok2
        · clear hvi2 hvo2 hn1 hd1 hxo
          refine Lib.hid ?_
          go_wp2_with (first
            | (go_at_call_of 16 (Value.int IntKind.i64 m); refine (HVI.out _ (HF.out _ hBw)).mono ?_; rintro e w5 ⟨rfl, hb⟩; have hB := on_base hB HSZ.out hb; obtain ⟨c0, c1⟩ := box_one hB HSS.out; have hBw := HB4.out.trans ((under_one hB HSS.out).mono (by have := HB4.out.size; omega)))
            | (go_at_call 17; refine (HVS.out _).mono ?_; rintro e w6 ⟨rfl, hb⟩; have hB := on_base hB HSZ.out hb; obtain ⟨c0, c1⟩ := box_one hB HSS.out; have hBw := HB4.out.trans ((under_one hB HSS.out).mono (by have := HB4.out.size; omega)))
            | (go_at_call 16; refine (HVI2.out _ (HF.out _ hBw)).mono ?_; rintro e w7 ⟨rfl, hb⟩; have hB := on_base hB HSZ.out hb; obtain ⟨c0, c1⟩ := box_one hB HSS.out; have hBw := HB4.out.trans ((under_one hB HSS.out).mono (by have := HB4.out.size; omega)))
            | (go_at_call 18; refine (dbars_any a n cap _ (HC.out _ hBw) hn).mono ?_; rintro e w8 ⟨⟨mm, rfl⟩, hb⟩; have hB := on_base hB HSZ.out hb; obtain ⟨c0, c1⟩ := box_one hB HSS.out; have hBw := HB4.out.trans ((under_one hB HSS.out).mono (by have := HB4.out.size; omega)); refine Hid.out ?_))
          obtain ⟨nb, db, okb, hbi, hbs, hbo⟩ := bars_both mm
          have HBI := Lib.hid hbi
          have HBS := Lib.hid hbs
          have HBW := Lib.hid hBw
          have hE : okb = true → 51 * nb = 5 * mm * db := fun h => by
            obtain ⟨h0, h1, e1, e2⟩ := hbo h
            have := low_cross (5 * mm.toNat) 51
            rw [← e1, ← e2] at this
            have e3 : ((5 * mm.toNat : Nat) : Int) = 5 * mm := by omega
            rw [e3] at this
            have e4 : nb * 51 = db * (5 * mm) := this
            rw [Int.mul_comm 51, e4, Int.mul_comm]
          have hEb : okb = true → (0 ≤ nb ∧ nb ≤ 5000 ∧ 0 ≤ mm ∧ mm ≤ 1000) := fun h => by
            obtain ⟨h0, h1, e1, e2⟩ := hbo h
            have a := lowN_nn (5 * mm.toNat) 51
            have b := lowN_le (5 * mm.toNat) 51
            rw [← e1] at a b
            omega
          clear hbi hbs hbo hBw c0 c1 hB hb
          cases okb
          · clear hE hEb
            refine Lib.hid ?_
            go_wp2_with (first
              | (go_at_call 19; refine (HBI.out _).mono ?_; rintro e w9 ⟨rfl, hb9⟩)
              | (go_at_call 20; refine (HBS.out _).mono ?_; rintro e w10 ⟨rfl, hb10⟩))
            go_ret
            exact ⟨rfl, HBW.out.trans ((hb9.trans (hb10.mono hb9.size)).mono HBW.out.size)⟩
          · have hE1 := hE rfl
            obtain ⟨b0, b1, b2, b3⟩ := hEb rfl
            have hw3 : IntKind.i64.wrap (5 * mm) = 5 * mm := IntWalk.i64_in _ (by omega)
            have hw4 : IntKind.i64.wrap (51 * nb) = 51 * nb := IntWalk.i64_in _ (by omega)
            have hw5 : IntKind.i64.wrap (5 * mm * db) = 51 * nb := by rw [← hE1]; exact hw4
            clear hE hEb hE1
            refine Lib.hid ?_
            go_wp2_with (first
              | (go_at_call 19; refine (HBI.out _).mono ?_; rintro e w9 ⟨rfl, hb9⟩)
              | (go_at_call 20; refine (HBS.out _).mono ?_; rintro e w10 ⟨rfl, hb10⟩))
            go_ret
            exact ⟨rfl, HBW.out.trans ((hb9.trans (hb10.mono hb9.size)).mono HBW.out.size)⟩
        · obtain ⟨_, hk0, hk1, hn2, hd2⟩ := hvo2 rfl
          have htw := vol_twice hxo hm0 hk1
          rw [← hn1, ← hd1, ← hn2, ← hd2] at htw
          have hn1b : 0 ≤ n1 ∧ n1 ≤ 900000000000000 := by rw [hn1]; exact ⟨lowN_nn _ _, Int.le_trans (lowN_le _ _) (by have := (vol_facts hxo hm0 hm1).2.1; omega)⟩
          have hn2b : 0 ≤ n2 ∧ n2 ≤ 900000000000000 := by rw [hn2]; exact ⟨lowN_nn _ _, Int.le_trans (lowN_le _ _) (by have := (vol_facts hxo hk0 hk1).2.1; omega)⟩
          have hd1b : 0 ≤ d1 ∧ d1 ≤ 36 := by rw [hd1]; exact ⟨lowD_nn _ _, Int.le_trans (lowD_le _ _) (by omega)⟩
          have hp0 : 0 ≤ n2 * d1 ∧ n2 * d1 ≤ 32400000000000000 := ⟨Int.mul_nonneg hn2b.1 hd1b.1, by
            have := Int.mul_le_mul hn2b.2 hd1b.2 hd1b.1 (by omega)
            omega⟩
          have hw1 : IntKind.i64.wrap (n2 * d1) = n2 * d1 := IntWalk.i64_in _ (by omega)
          have hw2 : IntKind.i64.wrap (2 * n1 * d2) = n2 * d1 := by rw [← htw]; exact IntWalk.i64_in _ (by omega)
          have HTW := Lib.hid htw
          clear hvi2 hvo2 hn1 hd1 hn2 hd2 hxo htw
          skip
          refine Lib.hid ?_
          go_wp2_with (first
            | (go_at_call_of 16 (Value.int IntKind.i64 m); refine (HVI.out _ (HF.out _ hBw)).mono ?_; rintro e w5 ⟨rfl, hb⟩; have hB := on_base hB HSZ.out hb; obtain ⟨c0, c1⟩ := box_one hB HSS.out; have hBw := HB4.out.trans ((under_one hB HSS.out).mono (by have := HB4.out.size; omega)))
            | (go_at_call 17; refine (HVS.out _).mono ?_; rintro e w6 ⟨rfl, hb⟩; have hB := on_base hB HSZ.out hb; obtain ⟨c0, c1⟩ := box_one hB HSS.out; have hBw := HB4.out.trans ((under_one hB HSS.out).mono (by have := HB4.out.size; omega)))
            | (go_at_call 16; refine (HVI2.out _ (HF.out _ hBw)).mono ?_; rintro e w7 ⟨rfl, hb⟩; have hB := on_base hB HSZ.out hb; obtain ⟨c0, c1⟩ := box_one hB HSS.out; have hBw := HB4.out.trans ((under_one hB HSS.out).mono (by have := HB4.out.size; omega)))
            | (go_at_call 18; refine (dbars_any a n cap _ (HC.out _ hBw) hn).mono ?_; rintro e w8 ⟨⟨mm, rfl⟩, hb⟩; have hB := on_base hB HSZ.out hb; obtain ⟨c0, c1⟩ := box_one hB HSS.out; have hBw := HB4.out.trans ((under_one hB HSS.out).mono (by have := HB4.out.size; omega)); refine Hid.out ?_))
          obtain ⟨nb, db, okb, hbi, hbs, hbo⟩ := bars_both mm
          have HBI := Lib.hid hbi
          have HBS := Lib.hid hbs
          have HBW := Lib.hid hBw
          have hE : okb = true → 51 * nb = 5 * mm * db := fun h => by
            obtain ⟨h0, h1, e1, e2⟩ := hbo h
            have := low_cross (5 * mm.toNat) 51
            rw [← e1, ← e2] at this
            have e3 : ((5 * mm.toNat : Nat) : Int) = 5 * mm := by omega
            rw [e3] at this
            have e4 : nb * 51 = db * (5 * mm) := this
            rw [Int.mul_comm 51, e4, Int.mul_comm]
          have hEb : okb = true → (0 ≤ nb ∧ nb ≤ 5000 ∧ 0 ≤ mm ∧ mm ≤ 1000) := fun h => by
            obtain ⟨h0, h1, e1, e2⟩ := hbo h
            have a := lowN_nn (5 * mm.toNat) 51
            have b := lowN_le (5 * mm.toNat) 51
            rw [← e1] at a b
            omega
          clear hbi hbs hbo hBw c0 c1 hB hb
          cases okb
          · clear hE hEb
            refine Lib.hid ?_
            go_wp2_with (first
              | (go_at_call 19; refine (HBI.out _).mono ?_; rintro e w9 ⟨rfl, hb9⟩)
              | (go_at_call 20; refine (HBS.out _).mono ?_; rintro e w10 ⟨rfl, hb10⟩))
            go_ret
            exact ⟨rfl, HBW.out.trans ((hb9.trans (hb10.mono hb9.size)).mono HBW.out.size)⟩
          · have hE1 := hE rfl
            obtain ⟨b0, b1, b2, b3⟩ := hEb rfl
            have hw3 : IntKind.i64.wrap (5 * mm) = 5 * mm := IntWalk.i64_in _ (by omega)
            have hw4 : IntKind.i64.wrap (51 * nb) = 51 * nb := IntWalk.i64_in _ (by omega)
            have hw5 : IntKind.i64.wrap (5 * mm * db) = 51 * nb := by rw [← hE1]; exact hw4
            clear hE hEb hE1
            refine Lib.hid ?_
            go_wp2_with (first
              | (go_at_call 19; refine (HBI.out _).mono ?_; rintro e w9 ⟨rfl, hb9⟩)
              | (go_at_call 20; refine (HBS.out _).mono ?_; rintro e w10 ⟨rfl, hb10⟩))
            go_ret
            exact ⟨rfl, HBW.out.trans ((hb9.trans (hb10.mono hb9.size)).mono HBW.out.size)⟩
set_option maxHeartbeats 4000000 in
set_option maxRecDepth 100000 in
theorem walkDecimals (a : Option Addr) (n cap : Nat) (w : World) (hc : Cd w.heap.size a n w) (hT : Tab w) (hFu : Fu w) :
    Calls Tryd.prog 3 #[.slice a n cap] w fun e w' => e = .returned (.bool true) ∧ Below w.heap.size w w' := by
  by_cases hn : n ≤ 65536
  · exact decimals_small a n cap w hc hn hT hFu (fun w hc => dvol_any a n cap w hc hn)
  · have HV := Lib.hid (fun w => rbig_yes a n cap w (by omega))
    clear hc hT hFu
    go_enter Tryd.func3, Tryd.ntmps3
    go_wp2_with (go_at_call 11; refine (HV.out _).mono ?_; rintro e w' ⟨rfl, rfl⟩)
    go_ret
    exact ⟨rfl, Below.refl _ _⟩
end Go.Proofs.YtpdkphokinhhdaaDoor.S3
