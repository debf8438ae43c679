/- The sum over a list of curves of what a function returns, the program's SeriesHead: contracts. Conditions: each theorem's own premises. -/
import Derived.Test.YtpldbakllegheabCvSum
import Derived.Deep.DeepCutAuto
namespace Go.Proofs.Ytpldbakllegheab.S7
open Go.RowKit P7


set_option maxHeartbeats 8000000 in
set_option maxRecDepth 100000 in
theorem over_series (F : Nat → Tri) (hF : ∀ i, Frac (F i)) (A : Option Addr) (cap p : Nat) (ls : List (List Cp)) (w : World) (h : SCp w A ls) (hm : ls.length ≤ 1048576)
    (hcl : ∀ (i : Nat) (B : Option Addr) (c : Nat) (w' : World), i < ls.length → Below w.heap.size w w' → CAt w' B (rw_ ls i) → (rw_ ls i).length ≤ min c 1048576 → c ≤ maxLen →
      Calls Try.prog 56 #[.slice B (rw_ ls i).length c, .pointer (some ⟨p, 0, none⟩)] w' (Gives3 (F i).1 (F i).2.1 (F i).2.2 w')) :
    Calls Try.prog 49 #[.slice A ls.length cap, .func (.func 56) #[] #[.pointer (some ⟨p, 0, none⟩)]] w (SPost F ls.length w) := by
  have HA := Lib.hid h
  have HC := Lib.hid hcl
  clear h hcl
  by_cases hl : 1 ≤ ls.length ∧ ls.length ≤ 4
  · obtain ⟨hl0, hl9⟩ := hl
    go_enter Try.func49, Try.ntmps49
    go_wp2
    go_loopw [7, 8, 24] (fun nn dd i wr => ∃ k : Nat, k ≤ ls.length ∧ nn = .int .i64 ((sumK F k).1 : Int) ∧ dd = .int .i64 ((sumK F k).2 : Int) ∧ i = .int .i64 (k : Int) ∧ Hid (AllK F k) ∧ Below w.heap.size w wr) (fun _ _ i _ => ls.length - (intOf i).toNat)
    case atStart => exact ⟨0, by omega, rfl, rfl, rfl, Lib.hid (AllK.zero F), Below.refl _ _⟩
    case round =>
      obtain ⟨k, hk, rfl, rfl, rfl, hall, hb⟩ := hrel
      by_cases hlt : k < ls.length
      · obtain ⟨b, off, B, c, hA, hbl, c0, hI, hcc, hcm⟩ := (HA.out.kept hb (Nat.le_refl _)).at_ hlt
        subst hA
        have hk0i : (0 : Int) ≤ (k : Int) := by omega
        have hk1i : (k : Int) < (ls.length : Int) := by omega
        have HCL := Lib.hid (HC.out k B c wr hlt hb hI hcc hcm)
        have hz := hb.size
        rcases hF k with e | ⟨x, y, e, hy0, hy9, hx9⟩
        · have hfin := Lib.hid (sumA_bad (F := F) hlt (by rw [e]))
          rw [e] at HCL
          unfold Gives3 ret3 at HCL
          dsimp only at HCL
          generalize (rw_ ls k).length = n at *
          generalize (sumK F k).1 = nn at *
          generalize (sumK F k).2 = dd at *
          clear hI e
          go_wp2_with (go_at_call 56; refine HCL.out.mono ?_; rintro e w2 ⟨rfl, hb2⟩)
          go_ret3
          exact spost_of hfin.out (hb.trans (hb2.mono hz))
        · obtain ⟨n, d, e1, e2, hd0, hd9, hn9, _, _, hx6, m1, m2, m3, m4⟩ := sum_step hF (by omega) hall.out e
          have hnx := Lib.hid (hall.out.next (by rw [e]))
          have HL := Lib.hid (fun w => low_any (n * y + x * d) (d * y) w m4 (by omega) (by omega))
          unfold lowV at HL
          rw [show lowN (n * y + x * d) (d * y) = (sN n d x y : Int) from rfl, show lowD (n * y + x * d) (d * y) = (sD n d x y : Int) from rfl] at HL
          have q1 : ((n * y + x * d : Nat) : Int) = (n : Int) * (y : Int) + (x : Int) * (d : Int) := by rw [Int.natCast_add, Int.natCast_mul, Int.natCast_mul]
          have q2 : ((d * y : Nat) : Int) = (d : Int) * (y : Int) := Int.natCast_mul _ _
          have q3 : ((n * y : Nat) : Int) = (n : Int) * (y : Int) := Int.natCast_mul _ _
          have q4 : ((x * d : Nat) : Int) = (x : Int) * (d : Int) := Int.natCast_mul _ _
          rw [q1, q2] at HL
          have w1 : IntKind.i64.wrap ((n : Int) * (y : Int)) = (n : Int) * (y : Int) := w64 _ (by omega)
          have w2 : IntKind.i64.wrap ((x : Int) * (d : Int)) = (x : Int) * (d : Int) := w64 _ (by omega)
          have w3 : IntKind.i64.wrap ((n : Int) * (y : Int) + (x : Int) * (d : Int)) = (n : Int) * (y : Int) + (x : Int) * (d : Int) := w64 _ (by omega)
          have w4 : IntKind.i64.wrap ((d : Int) * (y : Int)) = (d : Int) * (y : Int) := w64 _ (by omega)
          have HE2 := Lib.hid e2
          rw [e] at HCL
          rw [e1]
          unfold Gives3 ret3 at HCL
          dsimp only at HCL ⊢
          generalize (rw_ ls k).length = len at *
          generalize hu : sN n d x y = u at *
          generalize hv : sD n d x y = v at *
          clear hI e e1 e2 q1 q2 q3 q4 hu hv m1 m2 m3 m4
          go_wp2_with (first
            | (go_at_call 56; refine HCL.out.mono ?_; rintro e w2 ⟨rfl, hb2⟩)
            | (go_at_call 45; refine (HL.out _).mono ?_; rintro e w3 ⟨rfl, hb3⟩))
          go_roundw
          case rel => exact ⟨k + 1, by omega, by rw [HE2.out], by rw [HE2.out], by go_num, hnx, (hb.trans (hb2.mono hz)).trans (hb3.mono (Nat.le_trans hz hb2.size))⟩
          case measure => simp [intOf]; omega
      · have e : k = ls.length := by omega
        subst e
        have hfin := Lib.hid (sumA_yes hl0 hl9 hall.out)
        generalize (sumK F ls.length).1 = nn at *
        generalize (sumK F ls.length).2 = dd at *
        go_wp2
        go_ret3
        exact spost_of hfin.out hb
  · have hfin := Lib.hid (sumA_len (F := F) hl)
    by_cases hl0 : ls.length < 1
    · clear hl
      go_enter Try.func49, Try.ntmps49
      go_wp2
      go_ret3
      exact spost_of hfin.out (Below.refl _ _)
    · have hl9 : 4 < ls.length := by omega
      clear hl
      go_enter Try.func49, Try.ntmps49
      go_wp2
      go_ret3
      exact spost_of hfin.out (Below.refl _ _)

theorem sclos_any (p : Nat) (f : Int) (B : Option Addr) (c : Nat) (cs : List Cp) (w : World) (hp : w.cell? ⟨p, 0, none⟩ = some (.int .i64 f)) (h : CAt w B cs) (hm : cs.length ≤ 1048576) (hc1 : cs.length ≤ c) (hc2 : c ≤ maxLen) :
    Calls Try.prog 56 #[.slice B cs.length c, .pointer (some ⟨p, 0, none⟩)] w (HPost cs f w) := by
  have H := Lib.hid (head_cap B c cs f w h hm hc1 hc2)
  unfold HPost Gives3 ret3 at *
  generalize hA cs f = r at *
  obtain ⟨r0, r1, r2⟩ := r
  clear h
  dsimp only at *
  go_enter Try.func56, Try.ntmps56
  go_wp2_with (go_at_call 14; refine H.out.mono ?_; rintro e w1 ⟨rfl, hb1⟩)
  go_ret3
  exact ⟨rfl, hb1⟩
set_option maxHeartbeats 4000000 in
theorem series_any (A : Option Addr) (cap : Nat) (ls : List (List Cp)) (f : Int) (w : World) (h : SCp w A ls) (hm : ls.length ≤ 1048576) :
    Calls Try.prog 19 #[.slice A ls.length cap, .int .i64 f] w (SPost (fun i => hA (rw_ ls i) f) ls.length w) := by
  have hbel : Below w.heap.size w (w.alloc (.cells #[.int .i64 f] 3)) := alloc_below _ _
  have HB := Lib.hid hbel
  have H := Lib.hid (over_series (fun i => hA (rw_ ls i) f) (fun i => hA_frac _ _) A cap w.heap.size ls (w.alloc (.cells #[.int .i64 f] 3)) (h.kept hbel (Nat.le_refl _)) hm
    (fun i B c w' _ hb hI h1 h2 => sclos_any w.heap.size f B c (rw_ ls i) w' ((hb.cell (p := ⟨w.heap.size, 0, none⟩) (by simp)).trans box_at) hI (by omega) (by omega) h2))
  unfold SPost Gives3 ret3 at *
  generalize sumA (fun i => hA (rw_ ls i) f) ls.length = r at *
  obtain ⟨r0, r1, r2⟩ := r
  clear h hbel
  dsimp only at *
  go_enter Try.func19, Try.ntmps19
  go_wp2_with (go_at_call 49; refine H.out.mono ?_; rintro e w1 ⟨rfl, hb1⟩)
  go_ret3
  exact ⟨rfl, HB.out.trans (hb1.mono (by simp))⟩
end Go.Proofs.Ytpldbakllegheab.S7
