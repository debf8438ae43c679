/- CountSegments of the program: contracts. Conditions: each theorem's own premises. -/
import Derived.Test.YtmkpgkhfbhdhgaaCntOne
import Derived.Test.YtmkpgkhfbhdhgaaSegFour
import Derived.Deep.DeepCutAuto
namespace Go.Proofs.Ytmkpgkhfbhdhgaa.S2
open Go.RowKit Go.Sort P2 P4

set_option maxHeartbeats 2000000 in
set_option maxRecDepth 100000 in
theorem cnt_no (n : Int) (A : Option Addr) (cap : Nat) (ps : List Pp) (AV : Option Addr) (capv : Nat) (vs : List Vv) (w : World) (h : PAt w A ps) (hm : ps.length ≤ maxLen) (hv : VAt w AV vs) (hmv : vs.length ≤ maxLen) (hcv : vs.length ≤ capv) (hcm : capv ≤ maxLen) (hb : goodV n ps vs = false) :
    Calls Try.prog 32 #[nv n A ps.length cap, .slice AV vs.length capv] w fun e w' => e = .returned (.tuple #[.int .i64 0, .bool false]) ∧ Below w.heap.size w w' := by
  have H := Lib.hid (fun w' (hb' : Below w.heap.size w w') => validv_v hb A cap AV capv w' (h.kept hb' (Nat.le_refl _)) hm (hv.kept hb' (Nat.le_refl _)) hmv hcv hcm)
  clear h hm hv hmv hcv hcm hb
  go_enter Try.func32, Try.ntmps32
  go_wp2_with (go_at_call 19; refine (H.out _ ((Below.refl _ _).alloc (Nat.le_refl _) _)).mono ?_; rintro e w1 ⟨rfl, hb1⟩; have HB1 := Lib.hid (((Below.refl w.heap.size w).alloc (Nat.le_refl _) (.cells #[.int .i64 n, .slice A ps.length cap] 31)).trans (hb1.mono (by simp))); have hw1 : w.heap.size < w1.heap.size := (by have := hb1.size; simp at this; omega); have a0 := (hb1.cell (p := ⟨w.heap.size, 0, none⟩) (by simp)).trans (show (w.alloc (.cells #[.int .i64 n, .slice A ps.length cap] 31)).cell? ⟨w.heap.size, 0, none⟩ = some (.int .i64 n) by go_simp); have a1 := (hb1.cell (p := ⟨w.heap.size, 1, none⟩) (by simp)).trans (show (w.alloc (.cells #[.int .i64 n, .slice A ps.length cap] 31)).cell? ⟨w.heap.size, 1, none⟩ = some (.slice A ps.length cap) by go_simp); clear hb1)
  go_ret2
  exact ⟨rfl, HB1.out⟩

/-- The number of segments. -/
noncomputable def cntS (N : Nat) (ps : List Pp) (vs : List Vv) : Int := (cntN ps vs N : Int) + ((pipesL ps ps.length (coB ps vs (lo N)) false).length : Int)
theorem lo_zero (ps : List Pp) (vs : List Vv) : es0 = coB ps vs (lo 0) := by
  funext e
  cases h : coB ps vs (lo 0) e with
  | false => rfl
  | true =>
    obtain ⟨a, ha, _⟩ := co_one (coB_iff.1 h)
    have := lo_iff.1 ha
    omega
set_option maxHeartbeats 4000000 in
set_option maxRecDepth 100000 in
theorem cnt_yes (N : Nat) (A : Option Addr) (cap : Nat) (ps : List Pp) (AV : Option Addr) (capv : Nat) (vs : List Vv) (w : World) (h : PAt w A ps) (hv : VAt w AV vs) (hcv : vs.length ≤ capv) (hcm : capv ≤ maxLen) (hb : goodV N ps vs = true) :
    Calls Try.prog 32 #[nv N A ps.length cap, .slice AV vs.length capv] w fun e w' => e = .returned (.tuple #[.int .i64 (cntS N ps vs), .bool true]) ∧ Below w.heap.size w w' := by
  have hgd := goodV_of hb
  have hm : ps.length ≤ maxLen := by have := hgd.1.2.2.1; unfold maxLen; omega
  have hmv : vs.length ≤ maxLen := by have := hgd.2.1; unfold maxLen; omega
  have H := Lib.hid (fun w' (hb' : Below w.heap.size w w') => validv_v hb A cap AV capv w' (h.kept hb' (Nat.le_refl _)) hm (hv.kept hb' (Nat.le_refl _)) hmv hcv hcm)
  have HA := Lib.hid h
  have HC := Lib.hid (fun s w' (hb' : Below w.heap.size w w') => conel_any N A cap ps AV capv vs s w' (h.kept hb' (Nat.le_refl _)) (hv.kept hb' (Nat.le_refl _)) hgd.1 hgd.2.1)
  have HPO := Lib.hid (fun s w' (hb' : Below w.heap.size w w') => pipes_any N A cap ps s false w' (h.kept hb' (Nat.le_refl _)) hgd.1)
  have hN8 : N ≤ 8 := by have := hgd.1.2.1; omega
  have hl10 := hgd.1.2.2.1
  clear h hm hv hmv hcv hcm hb hgd
  go_enter Try.func32, Try.ntmps32
  go_wp2_with (first
    | (go_at_call 19; refine (H.out _ ((Below.refl _ _).alloc (Nat.le_refl _) _)).mono ?_; rintro e w1 ⟨rfl, hb1⟩; have HB1 := Lib.hid (((Below.refl w.heap.size w).alloc (Nat.le_refl _) (.cells #[.int .i64 (N : Int), .slice A ps.length cap] 31)).trans (hb1.mono (by simp))); have hw1 : w.heap.size < w1.heap.size := (by have := hb1.size; simp at this; omega); have a0 := (hb1.cell (p := ⟨w.heap.size, 0, none⟩) (by simp)).trans (show (w.alloc (.cells #[.int .i64 (N : Int), .slice A ps.length cap] 31)).cell? ⟨w.heap.size, 0, none⟩ = some (.int .i64 (N : Int)) by go_simp); have a1 := (hb1.cell (p := ⟨w.heap.size, 1, none⟩) (by simp)).trans (show (w.alloc (.cells #[.int .i64 (N : Int), .slice A ps.length cap] 31)).cell? ⟨w.heap.size, 1, none⟩ = some (.slice A ps.length cap) by go_simp); clear hb1)
    | ((with_reducible refine wpE_alloc rfl rfl ?_); intro w2 he2 hb2 hz2; refine Hid.out ?_))
  obtain ⟨G, hG⟩ : ∃ G, G = w1.heap.size := ⟨_, rfl⟩
  rw [← hG] at he2
  rw [← hG]
  have hGw : w.heap.size < G := by omega
  have HE0 := Lib.hid (show ERow w2 G (coB ps vs (lo 0)) from by rw [← lo_zero]; exact he2)
  have d0 := (hb2.cell (p := ⟨w.heap.size, 0, none⟩) hw1).trans a0
  have d1 := (hb2.cell (p := ⟨w.heap.size, 1, none⟩) hw1).trans a1
  have HBW := Lib.hid (HB1.out.trans (hb2.mono HB1.out.size))
  clear hG he2 hb2 hz2 a0 a1
  refine Lib.hid ?_
  go_wp2_with fail
  go_loopw [6, 8] (fun c i wr => ∃ m k : Nat, 1 ≤ m ∧ m ≤ N + 1 ∧ i = .int .i64 (m : Int) ∧ c = .int .i64 (k : Int) ∧ k ≤ m - 1 ∧ Hid (k = cntN ps vs (m - 1)) ∧ Hid (ERow wr G (coB ps vs (lo (m - 1)))) ∧ Hid (wr.cell? ⟨w.heap.size, 0, none⟩ = some (.int .i64 (N : Int)) ∧ wr.cell? ⟨w.heap.size, 1, none⟩ = some (.slice A ps.length cap)) ∧ Hid (Below w.heap.size w wr)) (fun _ i _ => N + 1 - (intOf i).toNat)
  case atStart => exact ⟨1, 0, by omega, by omega, rfl, rfl, by omega, Lib.hid rfl, HE0, Lib.hid ⟨d0, d1⟩, HBW⟩
  case round =>
    clear HE0 d0 d1 HBW
    obtain ⟨m, k, hm1, hmN, rfl, rfl, hkm, hkc, he, hbx, hb⟩ := hrel
    obtain ⟨b0, b1⟩ := hbx.out
    have hGl := he.out.lt
    by_cases hlt : m ≤ N
    · have hmi : (m : Int) ≤ (N : Int) := by omega
      have hm0 : (0 : Int) ≤ (m : Int) := by omega
      have hm9 : (m : Int) < 9 := by omega
      have HST := Lib.hid (cntN_step ps vs m hm1)
      have HL := Lib.hid (lo_step (ps := ps) (vs := vs) hm1)
      have HLS := Lib.hid (fun h => lo_same (ps := ps) (vs := vs) (m := m) h)
      have ce := he.out.cell m (by omega)
      obtain ⟨sm, hsm⟩ : ∃ sm, coB ps vs (lo (m - 1)) m = sm := ⟨_, rfl⟩
      rw [hsm] at ce
      have HSM := Lib.hid hsm
      clear hsm
      cases sm with
      | true =>
        have HK := Lib.hid (show k = cntN ps vs (m + 1 - 1) from by rw [Nat.add_sub_cancel, HST.out, if_pos HSM.out]; exact hkc.out)
        have HE2 := Lib.hid (show ERow wr G (coB ps vs (lo (m + 1 - 1))) from by rw [Nat.add_sub_cancel, ← HLS.out HSM.out]; exact he.out)
        go_wp2_with fail
        go_roundw
        case rel => exact ⟨m + 1, k, by omega, by omega, by go_num, rfl, by omega, HK, HE2, hbx, hb⟩
        case measure => simp [intOf]; omega
      | false =>
        have HK := Lib.hid (show k + 1 = cntN ps vs (m + 1 - 1) from by rw [Nat.add_sub_cancel, HST.out, if_neg (by rw [HSM.out]; simp), hkc.out])
        have cf := he.out.frozen m
        obtain ⟨sx, hsx⟩ : ∃ sx, sx = P4.upd (coB ps vs (lo (m - 1))) m true := ⟨_, rfl⟩
        have ES := Lib.hid (show ERow (wr.setCell ⟨G, m, none⟩ (.bool true)) G sx from by rw [hsx]; exact he.out.set m true (by omega))
        have HSX := Lib.hid (show coB ps vs sx = coB ps vs (lo m) from by rw [hsx]; exact HL.out)
        have HBS := Lib.hid (hb.out.setCell (p := ⟨G, m, none⟩) (by show w.heap.size ≤ G; omega) (.bool true))
        have s0 : (wr.setCell ⟨G, m, none⟩ (.bool true)).cell? ⟨w.heap.size, 0, none⟩ = some (.int .i64 (N : Int)) := (cell_far (by omega)).trans b0
        have s1 : (wr.setCell ⟨G, m, none⟩ (.bool true)).cell? ⟨w.heap.size, 1, none⟩ = some (.slice A ps.length cap) := (cell_far (by omega)).trans b1
        have hwrl : w.heap.size < wr.heap.size := by omega
        clear hsx
        go_wp2_with (first
          | (with_reducible refine wpE_load rfl _ rfl G rfl sx ES.out ?_)
          | (go_at_call 72; refine (HC.out sx _ HBS.out).mono ?_; rintro e w4 ⟨rfl, hb4⟩; have E4 := Lib.hid (ES.out.kept hb4 (by simp; omega)); have HB4 := Lib.hid (HBS.out.trans (hb4.mono (by simp; omega))); have t0 := (hb4.cell (p := ⟨w.heap.size, 0, none⟩) (by simp; omega)).trans s0; have t1 := (hb4.cell (p := ⟨w.heap.size, 1, none⟩) (by simp; omega)).trans s1; have hz4 := hb4.size; simp at hz4; clear hb4)
          | ((with_reducible refine wpE_store rfl _ _ rfl rfl G rfl (coB ps vs sx) rfl sx E4.out ?_); intro w6 he6 hg6 hz6; refine Hid.out ?_))
        have HE6 := Lib.hid (show ERow w6 G (coB ps vs (lo (m + 1 - 1))) from by rw [Nat.add_sub_cancel, ← HSX.out]; exact he6)
        have HB6 := Lib.hid (HB4.out.grown hg6 (by have := HB4.out.size; omega) (fun g hg => by simp at hg; omega))
        have HX6 := Lib.hid (show w6.cell? ⟨w.heap.size, 0, none⟩ = some (.int .i64 (N : Int)) ∧ w6.cell? ⟨w.heap.size, 1, none⟩ = some (.slice A ps.length cap) from ⟨(hg6.cell_far ⟨w.heap.size, 0, none⟩ (by dsimp only; omega) (by simp; omega)).trans t0, (hg6.cell_far ⟨w.heap.size, 1, none⟩ (by dsimp only; omega) (by simp; omega)).trans t1⟩)
        clear he6 hg6 hz6
        refine Lib.hid ?_
        go_wp2_with fail
        go_roundw
        case rel => exact ⟨m + 1, k + 1, by omega, by omega, by go_num, by go_num, by omega, HK, HE6, HX6, HB6⟩
        case measure => simp [intOf]; omega
    · have hmN2 : m = N + 1 := by omega
      have hNm : (N : Int) < (m : Int) := by omega
      have e1 : m - 1 = N := by omega
      rw [e1] at he hkc
      clear e1 hmN2
      have hpl := pipesL_len ps ps.length (coB ps vs (lo N)) false
      go_wp2_with (first
        | (with_reducible refine wpE_load rfl _ rfl G rfl (coB ps vs (lo N)) he.out ?_)
        | (go_at_call 67; refine (HPO.out _ _ hb.out).mono ?_; rintro e w4 ⟨g, c, rfl, hg4, hO4, hb4⟩; have HB4 := Lib.hid (hb.out.trans (hb4.mono hb.out.size)); clear hO4 hb4))
      go_ret2
      refine ⟨?_, HB4.out⟩
      unfold cntS
      rw [← hkc.out]; rfl
end Go.Proofs.Ytmkpgkhfbhdhgaa.S2
