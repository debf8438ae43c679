/- The imbalance at a node, and whether all balance, for the model: contracts. Conditions: each theorem's own premises. -/
import Derived.Test.YtipnecmgpfmjeaaImI
namespace Go.Proofs.Ytipnecmgpfmjeaa.S2
open Go.RowKit P2

theorem imbA_out {s N : Nat} {dm : List Int} {ps : List Pp} {fl : List Int} (hg : P2.Good N ps) (hd : dm.length = N) (hs1 : 1 ≤ s) (hs2 : s ≤ N) {v : Nat} (hv : v = 0 ∨ N < v) : imbA s dm ps fl v = 0 := by
  have hz : ∀ k, k ≤ ps.length → sumK (fT ps fl v) k = 0 := by
    intro k
    induction k with
    | zero => intro _; rfl
    | succ k ih =>
      intro hk
      have hmem : pAt ps k ∈ ps := by
        have e : pAt ps k = ps[k] := by simp [pAt, List.getD, show k < ps.length by omega]
        rw [e]; exact List.getElem_mem _
      have hok := good_pp hg hmem
      unfold PpOk at hok
      rw [sumK, ih (by omega)]
      unfold fT
      rw [if_neg (by omega), if_neg (by omega)]
      rfl
  unfold imbA iS dS
  rw [hz _ (Nat.le_refl _), if_neg (by omega), if_neg (by omega)]
  rfl

set_option maxHeartbeats 1000000 in
set_option maxRecDepth 100000 in
theorem simb_any (N s v : Nat) (A : Option Addr) (cap : Nat) (ps : List Pp) (AD : Option Addr) (dc : Nat) (dm : List Int) (AF : Option Addr) (fc : Nat) (fl : List Int) (w : World) (h : PAt w A ps)
    (hd : IAt w AD dm) (hf : IAt w AF fl) (hg : P2.Good N ps) (hdN : dm.length = N) (hdr : allR 0 1000 dm = true) (hfn : fl.length = ps.length) (hfr : allR (-8000) 8000 fl = true) (hv1 : 1 ≤ v) (hv2 : v ≤ N) :
    Calls Try.prog 87 #[nv N A ps.length cap, .int .i64 (s : Int), .slice AD dm.length dc, .slice AF fl.length fc, .int .i64 (v : Int)] w fun e w' => e = .returned (.int .i64 (imbA s dm ps fl v)) ∧ Below w.heap.size w w' := by
  have hN8 : N ≤ 8 := by have := hg.2.1; omega
  have hl10 := hg.2.2.1
  have HW0 := Lib.hid (show Below w.heap.size w (w.alloc (nb N A ps.length cap)) from (Below.refl _ _).alloc (Nat.le_refl _) _)
  have HA := Lib.hid (fun w' (hb : Below w.heap.size w w') => h.kept hb (Nat.le_refl _))
  have HF := Lib.hid (fun w' (hb : Below w.heap.size w w') => hf.kept hb (Nat.le_refl _))
  have HSUM := Lib.hid (fun w' (hb : Below w.heap.size w w') => ssum_any AD dc dm 0 1000 w' (hd.kept hb (Nat.le_refl _)) (by omega) hdr (by omega) (by omega))
  have HFE := Lib.hid (fun k (hk : k < fl.length) => allR_at hfr hk)
  have HI2 := Lib.hid (fun k (hk : k ≤ fl.length) v => iS_in (s := s) (ps := ps) hdr (by omega) hfr (by omega) hk v)
  have hsum : -80000 ≤ sumL dm ∧ sumL dm ≤ 80000 := sum_in hdr (by omega) (by omega) (Nat.le_refl _) (by omega)
  have HFN := Lib.hid hfn
  obtain ⟨bd, ofd, hAD, hbd, z0⟩ := (hd.kept HW0.out (Nat.le_refl _)).at_ (i := v - 1) (by omega)
  subst hAD
  have hz0 : 0 ≤ dm.getD (v - 1) 0 := (allR_at hdr (by omega)).1
  have hz1 : dm.getD (v - 1) 0 ≤ 1000 := (allR_at hdr (by omega)).2
  have hvi0 : (0 : Int) ≤ (v : Int) - 1 := by omega
  have hvi1 : (v : Int) - 1 < (dm.length : Int) := by omega
  have hvi2 : ((v : Int) - 1).toNat = v - 1 := by omega
  have hvi3 : 1 ≤ (v : Int) := by omega
  have HST1 := Lib.hid (show v = s → iS s dm ps fl 0 v = -(dm.getD (v - 1) 0) + sumL dm from fun hvs => by unfold iS dS sumL; rw [sumK, if_pos hvs, if_pos ⟨hv1, by omega⟩]; unfold lA; omega)
  have HST2 := Lib.hid (show v ≠ s → iS s dm ps fl 0 v = -(dm.getD (v - 1) 0) from fun hvs => by unfold iS dS; rw [sumK, if_neg hvs, if_pos ⟨hv1, by omega⟩]; unfold lA; omega)
  obtain ⟨y0, hy0e⟩ : ∃ y, dm.getD (v - 1) 0 = y := ⟨_, rfl⟩
  obtain ⟨S0, hS0e⟩ : ∃ y, sumL dm = y := ⟨_, rfl⟩
  rw [hy0e] at HST1 HST2 z0 hz0 hz1
  rw [hS0e] at HST1 hsum HSUM
  clear h hd hf hg hdr hfr hfn hy0e hS0e hdN
  by_cases hvs : v = s
  · have gs : ((v : Int) == (s : Int)) = true := beq_iff_eq.2 (by omega)
    have HST0 := Lib.hid (HST1.out hvs)
    clear HST1 HST2
    have hsm0 := hsum.1
    have hsm1 := hsum.2
    clear hvs hsum
    go_enter Try.func87, Try.ntmps87
    go_wp2_with (first | (go_at_call 91; refine (HSUM.out _ HW0.out).mono ?_; rintro e w1 ⟨rfl, hw⟩; replace hw := hw.symm; subst hw) | fail)
    go_loop [11, 12] (fun a i => ∃ k : Nat, k ≤ ps.length ∧ i = .int .i64 (k : Int) ∧ a = .int .i64 (iS s dm ps fl k v)) (fun _ i => ps.length - (intOf i).toNat)
    case atStart => exact ⟨0, Nat.zero_le _, rfl, by rw [HST0.out]⟩
    case round =>
      clear HST0 HSUM
      obtain ⟨k, hk, rfl, rfl⟩ := hrel
      have hin := HI2.out k (by have := HFN.out; omega) v
      have hin1 := HI2.out (k + 1)
      by_cases hlt : k < ps.length
      · obtain ⟨b, off, hA, hbl, p0, p1, p2, p3⟩ := (HA.out _ HW0.out).at_ hlt
        subst hA
        have hkf : k < fl.length := by have := HFN.out; omega
        obtain ⟨bb, of2, hA2, hbl2, q0⟩ := (HF.out _ HW0.out).at_ hkf
        subst hA2
        have hk0 : (0 : Int) ≤ (k : Int) := by omega
        have hkn : (k : Int) < (ps.length : Int) := by omega
        have hknf : (k : Int) < (fl.length : Int) := by omega
        have hy0 : -8000 ≤ fl.getD k 0 := (HFE.out k hkf).1
        have hy1 : fl.getD k 0 ≤ 8000 := (HFE.out k hkf).2
        have HST := Lib.hid (show iS s dm ps fl (k + 1) v = iS s dm ps fl k v + ((if (pAt ps k).to = (v : Int) then fl.getD k 0 else 0) - (if (pAt ps k).fr = (v : Int) then fl.getD k 0 else 0)) from by unfold iS; rw [sumK]; unfold fT lA; omega)
        clear hin1
        generalize fl.getD k 0 = y at *
        generalize pAt ps k = p at *
        generalize iS s dm ps fl k v = x at *
        obtain ⟨hx0, hx1⟩ := hin
        by_cases ht : p.to = (v : Int)
        · have gt : (p.to == (v : Int)) = true := by simpa using ht
          by_cases hf : p.fr = (v : Int)
          · have gf : (p.fr == (v : Int)) = true := by simpa using hf
            have hs := Lib.hid (show iS s dm ps fl (k + 1) v = x + y - y from by rw [HST.out, if_pos ht, if_pos hf]; omega)
            clear HST ht hf
            go_wp2
            go_round
            case rel => exact ⟨k + 1, by omega, by go_num, by rw [hs.out]; first | rfl | (congr 1; omega)⟩
            case measure => simp [intOf]; omega
          · have gf : (p.fr == (v : Int)) = false := by simpa using hf
            have hs := Lib.hid (show iS s dm ps fl (k + 1) v = x + y from by rw [HST.out, if_pos ht, if_neg hf]; omega)
            clear HST ht hf
            go_wp2
            go_round
            case rel => exact ⟨k + 1, by omega, by go_num, by rw [hs.out]⟩
            case measure => simp [intOf]; omega
        · have gt : (p.to == (v : Int)) = false := by simpa using ht
          by_cases hf : p.fr = (v : Int)
          · have gf : (p.fr == (v : Int)) = true := by simpa using hf
            have hs := Lib.hid (show iS s dm ps fl (k + 1) v = x - y from by rw [HST.out, if_neg ht, if_pos hf]; omega)
            clear HST ht hf
            go_wp2
            go_round
            case rel => exact ⟨k + 1, by omega, by go_num, by rw [hs.out]⟩
            case measure => simp [intOf]; omega
          · have gf : (p.fr == (v : Int)) = false := by simpa using hf
            have hs := Lib.hid (show iS s dm ps fl (k + 1) v = x from by rw [HST.out, if_neg ht, if_neg hf]; omega)
            clear HST ht hf
            go_wp2
            go_round
            case rel => exact ⟨k + 1, by omega, by go_num, by rw [hs.out]⟩
            case measure => simp [intOf]; omega
      · have hkk : k = ps.length := by omega
        have HK := Lib.hid (show iS s dm ps fl k v = imbA s dm ps fl v by rw [hkk]; rfl)
        clear hkk hin hin1
        go_wp2
        go_ret
        exact ⟨by rw [HK.out]; rfl, (Below.refl _ _).alloc (Nat.le_refl _) _⟩
  · have gs : ((v : Int) == (s : Int)) = false := beq_eq_false_iff_ne.2 (by omega)
    have HST0 := Lib.hid (HST2.out hvs)
    clear HST1 HST2
    clear hvs hsum
    go_enter Try.func87, Try.ntmps87
    go_wp2_with (first | (go_at_call 91; refine (HSUM.out _ HW0.out).mono ?_; rintro e w1 ⟨rfl, hw⟩; replace hw := hw.symm; subst hw) | fail)
    go_loop [11, 12] (fun a i => ∃ k : Nat, k ≤ ps.length ∧ i = .int .i64 (k : Int) ∧ a = .int .i64 (iS s dm ps fl k v)) (fun _ i => ps.length - (intOf i).toNat)
    case atStart => exact ⟨0, Nat.zero_le _, rfl, by rw [HST0.out]⟩
    case round =>
      clear HST0 HSUM
      obtain ⟨k, hk, rfl, rfl⟩ := hrel
      have hin := HI2.out k (by have := HFN.out; omega) v
      have hin1 := HI2.out (k + 1)
      by_cases hlt : k < ps.length
      · obtain ⟨b, off, hA, hbl, p0, p1, p2, p3⟩ := (HA.out _ HW0.out).at_ hlt
        subst hA
        have hkf : k < fl.length := by have := HFN.out; omega
        obtain ⟨bb, of2, hA2, hbl2, q0⟩ := (HF.out _ HW0.out).at_ hkf
        subst hA2
        have hk0 : (0 : Int) ≤ (k : Int) := by omega
        have hkn : (k : Int) < (ps.length : Int) := by omega
        have hknf : (k : Int) < (fl.length : Int) := by omega
        have hy0 : -8000 ≤ fl.getD k 0 := (HFE.out k hkf).1
        have hy1 : fl.getD k 0 ≤ 8000 := (HFE.out k hkf).2
        have HST := Lib.hid (show iS s dm ps fl (k + 1) v = iS s dm ps fl k v + ((if (pAt ps k).to = (v : Int) then fl.getD k 0 else 0) - (if (pAt ps k).fr = (v : Int) then fl.getD k 0 else 0)) from by unfold iS; rw [sumK]; unfold fT lA; omega)
        clear hin1
        generalize fl.getD k 0 = y at *
        generalize pAt ps k = p at *
        generalize iS s dm ps fl k v = x at *
        obtain ⟨hx0, hx1⟩ := hin
        by_cases ht : p.to = (v : Int)
        · have gt : (p.to == (v : Int)) = true := by simpa using ht
          by_cases hf : p.fr = (v : Int)
          · have gf : (p.fr == (v : Int)) = true := by simpa using hf
            have hs := Lib.hid (show iS s dm ps fl (k + 1) v = x + y - y from by rw [HST.out, if_pos ht, if_pos hf]; omega)
            clear HST ht hf
            go_wp2
            go_round
            case rel => exact ⟨k + 1, by omega, by go_num, by rw [hs.out]; first | rfl | (congr 1; omega)⟩
            case measure => simp [intOf]; omega
          · have gf : (p.fr == (v : Int)) = false := by simpa using hf
            have hs := Lib.hid (show iS s dm ps fl (k + 1) v = x + y from by rw [HST.out, if_pos ht, if_neg hf]; omega)
            clear HST ht hf
            go_wp2
            go_round
            case rel => exact ⟨k + 1, by omega, by go_num, by rw [hs.out]⟩
            case measure => simp [intOf]; omega
        · have gt : (p.to == (v : Int)) = false := by simpa using ht
          by_cases hf : p.fr = (v : Int)
          · have gf : (p.fr == (v : Int)) = true := by simpa using hf
            have hs := Lib.hid (show iS s dm ps fl (k + 1) v = x - y from by rw [HST.out, if_neg ht, if_pos hf]; omega)
            clear HST ht hf
            go_wp2
            go_round
            case rel => exact ⟨k + 1, by omega, by go_num, by rw [hs.out]⟩
            case measure => simp [intOf]; omega
          · have gf : (p.fr == (v : Int)) = false := by simpa using hf
            have hs := Lib.hid (show iS s dm ps fl (k + 1) v = x from by rw [HST.out, if_neg ht, if_neg hf]; omega)
            clear HST ht hf
            go_wp2
            go_round
            case rel => exact ⟨k + 1, by omega, by go_num, by rw [hs.out]⟩
            case measure => simp [intOf]; omega
      · have hkk : k = ps.length := by omega
        have HK := Lib.hid (show iS s dm ps fl k v = imbA s dm ps fl v by rw [hkk]; rfl)
        clear hkk hin hin1
        go_wp2
        go_ret
        exact ⟨by rw [HK.out]; rfl, (Below.refl _ _).alloc (Nat.le_refl _) _⟩
end Go.Proofs.Ytipnecmgpfmjeaa.S2
