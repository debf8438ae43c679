/- How the law FnDecimals draws an amount and minutes: contracts. Conditions: each theorem's own premises. -/
import Derived.Test.YtpdkphokinhhdaaDoorDrawAmt
import Derived.Deep.RegionWith
namespace Go.Proofs.YtpdkphokinhhdaaDoor.S3
open Go.RowKit P3 S1

theorem ti_lits (W : World) : Ti W.heap.size [0, 1, 7, 60, 1440, 10000, -1, 10001] ((W.alloc (.cells #[.int .i64 0, .int .i64 1, .int .i64 7, .int .i64 60, .int .i64 1440, .int .i64 10000, .int .i64 (-1), .int .i64 10001] 3)).drew) := ti_new W [0, 1, 7, 60, 1440, 10000, -1, 10001] 3
theorem ti_lits2 (W : World) : Ti W.heap.size [0, 1, 7, 60, 1440, 10000, -1, 10001] (W.alloc (.cells #[.int .i64 0, .int .i64 1, .int .i64 7, .int .i64 60, .int .i64 1440, .int .i64 10000, .int .i64 (-1), .int .i64 10001] 3)) := ti_new W [0, 1, 7, 60, 1440, 10000, -1, 10001] 3

set_option maxHeartbeats 4000000 in
set_option maxRecDepth 100000 in
theorem dvol_any (a : Option Addr) (n cap : Nat) (w : World) (hc : Cd w.heap.size a n w) (hn : n ≤ 65536) :
    Calls Tryd.prog 15 #[.slice a n cap] w fun e w' => (∃ x u z : Int, e = .returned (.tuple #[av x u, .int .i64 z])) ∧ Below w.heap.size w w' := by
  obtain ⟨wO, hwO⟩ : ∃ wO, wO = w.alloc (.cells #[.int .i64 0, .int .i64 0] 29) := ⟨_, rfl⟩
  have hO := BA.new w 0 0
  rw [← hwO] at hO
  have hcO : Cd wO.heap.size a n wO := hc.later (by rw [hwO]; exact (Below.refl _ _).alloc (Nat.le_refl _) _) (Nat.le_refl _)
  have hzO : wO.heap.size = w.heap.size + 1 := by rw [hwO]; simp
  have HS := Lib.hid (st_start cap hcO hn)
  have HO := Lib.hid (hO.alloc (.cells #[.slice a n cap, .int .i64 0, .int .u64 0] 54))
  have HB := Lib.hid (show Below w.heap.size w wO by rw [hwO]; exact (Below.refl _ _).alloc (Nat.le_refl _) _)
  have HWO := Lib.hid hwO
  clear hc hO hcO hwO
  go_enter Tryd.func15, Tryd.ntmps15
  go_wp2_with fail
  rw [← HWO.out]
  rw [show w.heap.size + 1 = wO.heap.size by omega]
  refine (amount_any wO.heap.size wO.heap.size a n cap 0 _ (by omega) HS.out).mono ?_
  rintro e w1 ⟨⟨x, u, rfl⟩, hs1, hg1⟩
  have hz1 := hg1.size
  simp at hz1
  have HS1 := Lib.hid (st_new hs1 (.cells #[.int .i64 x, .int .i64 u] 29))
  have HA1 := Lib.hid (BA.new w1 x u)
  have HO1 := Lib.hid ((HO.out.grown hg1 (by omega)).alloc (.cells #[.int .i64 x, .int .i64 u] 29))
  have HB1 := Lib.hid ((HB.out.trans ((((Below.refl wO.heap.size wO).alloc (Nat.le_refl _) _).trans (grown_below hg1 (Nat.le_refl _) (by simp))).mono (by omega))).alloc (by omega) (.cells #[.int .i64 x, .int .i64 u] 29))
  clear hs1 hg1 HS HO HB
  go_wp2_with fail
  obtain ⟨w2, hw2⟩ : ∃ w2, w2 = w1.alloc (.cells #[.int .i64 x, .int .i64 u] 29) := ⟨_, rfl⟩
  rw [← hw2] at HS1 HA1 HO1 HB1 ⊢
  have hz2 : w2.heap.size = w1.heap.size + 1 := by rw [hw2]; simp
  clear hw2
  obtain ⟨ha, a0, a1, _, _⟩ := HA1.out.cells
  obtain ⟨ho, o0, o1, y0, y1⟩ := HO1.out.cells
  have HDR := Lib.hid (show BA w.heap.size 0 0 w2.drew from HO1.out)
  have HAD := Lib.hid (show BA w1.heap.size x u w2.drew from HA1.out)
  rw [hzO] at HS1
  have hz3 : w.heap.size + 2 ≤ w2.heap.size := by omega
  go_region_with (first
    | (go_at_call 34; refine (pick_any (w.heap.size + 1) (w.heap.size + 1) a n cap 12 24 _ (by omega) (by omega) (by omega) (HS1.out.other (by repeat (first | exact Below.refl _ _ | refine Below.drew ?_ | refine below_drewN ?_ _ | refine Below.alloc ?_ (by simp) _)))).mono ?_; rintro e p ⟨r, rfl, hr0, hr1, hsp, hgp⟩; have hzp : w2.heap.size ≤ p.heap.size := (by have := hgp.size; simp at this; omega); have hK : (BA w.heap.size 0 0 p ∧ Below w.heap.size w p ∧ BA w1.heap.size x u p) := (by first | exact ⟨HDR.out.grown hgp (by omega), HB1.out.drew.trans (grown_below hgp (by omega) (by simp; omega)), HAD.out.grown hgp (by omega)⟩ | exact ⟨BA.grown (w := (w2.alloc (.cells #[.int .i64 0, .int .i64 1, .int .i64 7, .int .i64 60, .int .i64 1440, .int .i64 10000, .int .i64 (-1), .int .i64 10001] 3)).drew) (HO1.out.alloc _) hgp (by omega), ((HB1.out.alloc (by omega) _).drew).trans (grown_below hgp (by omega) (by simp; omega)), BA.grown (w := (w2.alloc (.cells #[.int .i64 0, .int .i64 1, .int .i64 7, .int .i64 60, .int .i64 1440, .int .i64 10000, .int .i64 (-1), .int .i64 10001] 3)).drew) (HA1.out.alloc _) hgp (by omega)⟩); have HT1 := Lib.hid (show (∀ q, q = p → w2.heap.size < p.heap.size → True) from fun _ _ _ => trivial); obtain ⟨t, rfl⟩ : ∃ t : Nat, r = (t : Int) := ⟨r.toNat, (by omega)⟩; obtain ⟨d, hd⟩ : ∃ d : Nat, (t : Int) / 11 = (d : Int) := ⟨t / 11, (by omega)⟩; have hd2 : d ≤ 2 := (by omega); obtain ⟨N, hN⟩ : ∃ N : Nat, 6 + (d : Int) = (N : Int) := ⟨6 + d, (by omega)⟩; have hN0 : 1 ≤ N := (by omega); have hN1 : N ≤ 8 := (by omega); have hNi0 : (0 : Int) ≤ (N : Int) := (by omega); have hNi1 : (N : Int) ≤ 8 := (by omega); have hdw : IntKind.i64.wrap (d : Int) = (d : Int) := IntWalk.i64_in _ (by omega); have hNw : IntKind.i64.wrap (N : Int) = (N : Int) := IntWalk.i64_in _ (by omega); have HK := Lib.hid hK; clear hK; obtain ⟨_, q0, q1, _, _⟩ := HK.out.2.2.cells; (first
        | (have hTi := ti_take (N := N) (ti_grown (ti_lits w2) hgp (by omega)) (by simp; omega); have HAM := Lib.hid (among_any (w.heap.size + 1) (w.heap.size + 1) a n cap 14 w2.heap.size N 8 (([0, 1, 7, 60, 1440, 10000, -1, 10001] : List Int).take N) p (by rw [List.length_take]; simp; omega) (by omega) (by rw [List.length_take]; simp; omega) (by rw [List.length_take]; simp; omega) hsp hTi (by omega)); clear hTi hsp hgp; rw [hz2] at HAM)
        | (have HAM := Lib.hid (among_any (w.heap.size + 1) (w.heap.size + 1) a n cap 14 p.heap.size N 8 (([0, 1, 7, 60, 1440, 10000, -1, 10001] : List Int).take N) (p.alloc (.cells #[.int .i64 0, .int .i64 1, .int .i64 7, .int .i64 60, .int .i64 1440, .int .i64 10000, .int .i64 (-1), .int .i64 10001] 3)) (by rw [List.length_take]; simp; omega) (by omega) (by rw [List.length_take]; simp; omega) (by rw [List.length_take]; simp; omega) (st_new hsp _) (ti_take (ti_lits2 p) (by simp; omega)) (by omega)); clear hsp hgp)))
    | (go_at_call 33; refine HAM.out.mono ?_; rintro e qq ⟨⟨z, rfl⟩, hsq, hgq⟩; have HQ := Lib.hid (show BA w.heap.size 0 0 qq ∧ Below w.heap.size w qq ∧ BA w1.heap.size x u qq from (by first | exact ⟨HK.out.1.grown hgq (by omega), HK.out.2.1.trans (grown_below hgq (by omega) (by omega)), HK.out.2.2.grown hgq (by omega)⟩ | exact ⟨(HK.out.1.alloc _).grown hgq (by omega), (HK.out.2.1.alloc (by omega) _).trans (grown_below hgq (by omega) (by simp; omega)), (HK.out.2.2.alloc _).grown hgq (by omega)⟩)); clear hsq hgq HAM; obtain ⟨_, r0, r1, rz0, rz1⟩ := HQ.out.1.cells; obtain ⟨_, s0, s1, _, _⟩ := HQ.out.2.2.cells))
  all_goals
    go_wp2
    refine bodyPost_ret (v := .tuple #[av x u, .int .i64 z]) (by simp [results, Tryd.results15, go_sem, r0, r1]) rfl ⟨⟨x, u, z, rfl⟩, ?_⟩
    exact (HQ.out.2.1.setCell (p := ⟨w.heap.size, 0, none⟩) (Nat.le_refl _) _).setCell (p := ⟨w.heap.size, 1, none⟩) (Nat.le_refl _) _
end Go.Proofs.YtpdkphokinhhdaaDoor.S3
