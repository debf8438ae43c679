/- A network that may be invalid, drawn: contracts. Conditions: each theorem's own premises. -/
import Derived.Test.YtlkomipjamelkabNwNet
import Derived.Deep.DeepCutAuto
namespace Go.Proofs.Ytlkomipjamelkab.S1
open Go.RowKit
/-- among, and that it is one of them. -/
theorem among_mem (B g : Nat) (a : Option Addr) (n cap K b N c : Nat) (zs : List Int) (w : World) (hN : N = zs.length) (hK : K ≤ 900000) (h0 : 1 ≤ zs.length) (h1 : zs.length ≤ 1000) (h : St B g a n cap K w) (ht : Ti b zs w) (hne : b ≠ g) :
    Calls Try.prog 110 #[.pointer (some ⟨g, 0, none⟩), .slice (some ⟨b, 0, none⟩) N c] w fun e w' => (∃ z : Int, e = .returned (.int .i64 z) ∧ z ∈ zs) ∧ St B g a n cap (K + 2) w' ∧ w.grownBy w' (some g) := by
  subst hN
  have HS := Lib.hid h
  have HT := Lib.hid ht
  have hb := ti_lt ht h0
  clear h ht
  go_enter Try.func110, Try.ntmps110
  go_wp2_with (go_at_call 109; refine (pick_any B g a n cap K _ _ hK (by omega) (by omega) HS.out).mono ?_; rintro e w1 ⟨r, rfl, hr0, hr1, hs1, hg1⟩; refine Hid.out ?_)
  obtain ⟨j, rfl⟩ : ∃ j : Nat, r = (j : Int) := ⟨r.toNat, by omega⟩
  have hj : j < zs.length := by omega
  have hc : w1.cell? ⟨b, j, none⟩ = some (.int .i64 (zs.getD j 0)) := hg1.cell (HT.out j hj) (by simp; omega)
  have HS1 := Lib.hid hs1
  have HG1 := Lib.hid hg1
  have HM := Lib.hid (show zs.getD j 0 ∈ zs by rw [List.getD_eq_getElem?_getD, List.getElem?_eq_getElem hj]; exact List.getElem_mem hj)
  clear hs1 hg1 HT
  generalize zs.getD j 0 = z at hc HM
  refine Lib.hid ?_
  go_wp2_with fail
  go_ret
  exact ⟨⟨z, rfl, HM.out⟩, HS1.out, HG1.out⟩
end Go.Proofs.Ytlkomipjamelkab.S1
namespace Go.Proofs.Ytlkomipjamelkab.S2
open Go.RowKit Go.Sort P2

theorem most_any (x y : Int) (w : World) : Calls Try.prog 88 #[.int .i64 x, .int .i64 y] w fun e w' => e = .returned (.int .i64 (if x > y then x else y)) ∧ w' = w := by
  by_cases h : x > y
  · have h2 : y < x := h
    rw [if_pos h]
    clear h
    go_enter Try.func88, Try.ntmps88
    go_wp2
    go_ret
    exact ⟨rfl, rfl⟩
  · have h2 : ¬ y < x := h
    rw [if_neg h]
    clear h
    go_enter Try.func88, Try.ntmps88
    go_wp2
    go_ret
    exact ⟨rfl, rfl⟩
theorem ownP_lower {w : World} {B B' n k : Nat} {t : TypeId} {v : Value} {xs : List Value} (h : w.ownsRow B t k v n xs) (hB : B' ≤ B) : w.ownsRow B' t k v n xs := by
  refine ⟨h.1, ?_⟩
  rcases h.2 with h2 | ⟨g, cap, cur, hv, hb, rest⟩
  · exact .inl h2
  · exact .inr ⟨g, cap, cur, hv, by omega, rest⟩
theorem ownP_slice {w : World} {B n : Nat} {v : Value} {xs : List Value} (h : w.ownsRow B 40 4 v n xs) : ∃ A c, v = .slice A n c := by
  rcases Go.Joins.ownsRow_forms h with ⟨hv, hn⟩ | ⟨q, c, hv⟩
  · exact ⟨none, 0, by rw [hv, hn]⟩
  · exact ⟨_, _, hv⟩
theorem NI.from {w w1 : World} {B g : Nat} {a : Option Addr} {n cap K : Nat} {N : Int} {v : Value} {ps : List Pp} (hs : S1.St B g a n cap K w1) (hg : (w.alloc (nb 0 none 0 0)).grownBy w1 (some g)) (hgw : g < w.heap.size) (ho : w1.ownsRow (w.alloc (nb 0 none 0 0)).heap.size 40 4 v ps.length (pcs ps)) :
    NI w (w1.alloc (.cells #[.int .i64 N, v] 26)) B g a n cap K w1.heap.size N v ps := by
  have hr : TN w1 w.heap.size (.int .i64 0) (.slice none 0 0) := (TN.made w (.int .i64 0) (.slice none 0 0)).grown hg (by omega)
  have h1 := ownP_lower ho (show w.heap.size ≤ (w.alloc (nb 0 none 0 0)).heap.size by simp)
  exact ⟨S1.st_new hs _, S1.grown_new (S1.grown_trans (World.grownBy_alloc w _ (some g)) hg) _, h1.alloc _, TN.made _ _ _, hr.below (alloc_below _ _), hr.lt, hgw⟩
theorem PX.below {w w' : World} {P : Nat} {p : Pp} (h : PX w P p) (hb : Below w.heap.size w w') : PX w' P p := (hb.block P h.lt).trans h
theorem in9 {z : Int} {zs : List Int} (h : z ∈ zs) (hz : ∀ x, x ∈ zs → 0 ≤ x ∧ x ≤ 9) : 0 ≤ z ∧ z ≤ 9 := hz z h

set_option maxHeartbeats 24000000 in
set_option maxRecDepth 100000 in
theorem anynet_any (B g : Nat) (a : Option Addr) (n cap KC : Nat) (w : World) (hK : KC ≤ 700000) (h : S1.St B g a n cap KC w) (hgw : g < w.heap.size) :
    Calls Try.prog 122 #[.pointer (some ⟨g, 0, none⟩)] w (NetPost B g a n cap (KC + 400) 12 w) := by
  have HS1 := Lib.hid (S1.st_new h (nb 0 none 0 0))
  have hBg := h.bg
  obtain ⟨i0, hi0, hz0, hz1, hz2⟩ := info_parts infoP
  clear h
  go_enter Try.func122, Try.ntmps122
  refine Hid.out ?_
  refine Lib.hid ?_
  go_wp2_with (first | (go_at_call 140; refine (network_any B g a n cap KC _ (by omega) HS1.out (by simp; omega)).mono ?_; rintro e w1 ⟨N, v, ps, rfl, hN, hpl, ho, hs, hg⟩; refine Hid.out ?_) | fail)
  obtain ⟨A, c, rfl⟩ := ownP_slice ho
  have HP0 := Lib.hid (NI.from (N := N) hs hg hgw ho)
  have HX0 := Lib.hid (show PX ((w1.alloc (.cells #[.int .i64 N, .slice A ps.length c] 26)).alloc (.cells #[.int .i64 99, .int .i64 1, .int .i64 2, .int .i64 1] 40)) (w1.heap.size + 1) ⟨99, 1, 2, 1⟩ from by
    have := PX.made (w1.alloc (.cells #[.int .i64 N, .slice A ps.length c] 26)) ⟨99, 1, 2, 1⟩
    simpa using this)
  have HPb := Lib.hid (HP0.out.alloc (.cells #[.int .i64 99, .int .i64 1, .int .i64 2, .int .i64 1] 40))
  have hlo := HP0.out.lo
  have hgT : g < w1.heap.size := by omega
  have hvP : (Value.slice A ps.length c).ownBlock ≠ some (w1.heap.size + 1) := by
    have := HP0.out.new
    simpa using this
  obtain ⟨T, hT⟩ : ∃ T, w1.heap.size = T := ⟨_, rfl⟩
  rw [hT] at HP0 HX0 HPb hlo hgT hvP
  clear hs hg ho HS1 HP0
  refine Lib.hid ?_
  go_wp2_with (first | (go_at_call 109; refine (S1.pick_any B g a n cap (KC + 200) 24 _ (by omega) (by omega) (by omega) HPb.out.st).mono ?_; rintro e w3 ⟨r, rfl, hr0, hr9, hs, hg⟩; refine Hid.out ?_) | fail)
  have HP3 := Lib.hid (HPb.out.call hs hg)
  have HX3 := Lib.hid (HX0.out.grown hg (by omega))
  have hz3 := HX3.out.lt
  clear hs hg HPb HX0
  obtain ⟨R, rfl, hR⟩ := nat_in hr0 hr9
  clear hr0 hr9 hR
  obtain ⟨c0, c1⟩ := HP3.out.box.cell
  have cf := HP3.out.box.frozen
  obtain ⟨x0, x1, x2, x3⟩ := HX3.out.cells
  have xf := HX3.out.frozen
  dsimp only at x0 x1 x2 x3
  have hT3 := HP3.out.box.lt
  by_cases e0 : R = 0
  · subst e0
    skip
    refine Lib.hid ?_
    go_wp2_with (first | (go_at_call 110; refine (S1.among_mem B g a n cap (KC + 202) w3.heap.size 4 4 [0, 9, 8, 1] _ rfl (by omega) (by simp) (by simp) (HP3.out.alloc (.cells #[.int .i64 0, .int .i64 9, .int .i64 8, .int .i64 1] 3)).st (fun j hj => S1.ti_new w3 [0, 9, 8, 1] 3 j hj) (by have := HP3.out.gr.size; omega)).mono ?_; rintro e w4 ⟨⟨z, rfl, hz⟩, hs, hg⟩; refine Hid.out ?_) | fail)
    have HPq := Lib.hid ((HP3.out.alloc (.cells #[.int .i64 0, .int .i64 9, .int .i64 8, .int .i64 1] 3)).call hs hg)
    have HP4 := Lib.hid (HPq.out.nodes z)
    have hzz := in9 hz (by intro x hx; simp at hx; omega)
    clear hs hg hz HP3 HX3 c0 c1 cf x0 x1 x2 x3 xf
    obtain ⟨q0, q1⟩ := HPq.out.box.cell
    have qf := HPq.out.box.frozen
    have qz := HPq.out.box.lt
    refine Lib.hid ?_
    obtain ⟨r0, r1⟩ := HP4.out.res.cell
    have hRf := HP4.out.res.frozen
    obtain ⟨t0, t1⟩ := HP4.out.box.cell
    have hTz := HP4.out.box.lt
    go_wp2_with fail
    refine bodyPost_ret (v := .agg #[.int .i64 z, .slice A (ps.length) c]) (by simp [results, Try.results122, go_sem, r0, r1]) rfl (HP4.out.done (by omega) (by omega) (by first | omega | (rw [List.length_append]; simp; omega)))
  have n0 : ((R : Int) == 0) = false := beq_eq_false_iff_ne.2 (by omega)
  by_cases e1 : R = 1
  · subst e1
    clear n0
    refine Lib.hid ?_
    go_wp2_with (first | (go_at_call 110; refine (S1.among_mem B g a n cap (KC + 202) w3.heap.size 3 3 [1, 100, 99] _ rfl (by omega) (by simp) (by simp) (HP3.out.alloc (.cells #[.int .i64 1, .int .i64 100, .int .i64 99] 3)).st (fun j hj => S1.ti_new w3 [1, 100, 99] 3 j hj) (by have := HP3.out.gr.size; omega)).mono ?_; rintro e w4 ⟨⟨z, rfl, hz⟩, hs, hg⟩; refine Hid.out ?_) | fail)
    have hz4 := hg.size
    have HP4 := Lib.hid (((HP3.out.alloc (.cells #[.int .i64 1, .int .i64 100, .int .i64 99] 3)).call hs hg).box' (T + 1) 0 (.int .i64 z) (by omega) (by omega) hvP)
    have HX4b := Lib.hid (((PX.below HX3.out (alloc_below w3 (.cells #[.int .i64 1, .int .i64 100, .int .i64 99] 3)))).grown hg (by omega))
    have HX4 := Lib.hid (HX4b.out.one z)
    clear hs hg hz HP3 HX3 c0 c1 cf x0 x1 x2 x3 xf
    obtain ⟨y0, y1, y2, y3⟩ := HX4b.out.cells
    have yf := HX4b.out.frozen 0
    have hz4' := HX4b.out.lt
    dsimp only at y0 y1 y2 y3
    obtain ⟨w6, hw6⟩ : ∃ w6, w4.setCell ⟨T + 1, 0, none⟩ (.int .i64 z) = w6 := ⟨_, rfl⟩
    rw [hw6] at HP4
    have HX6 : Hid (PX w6 (T + 1) ⟨z, 1, 2, 1⟩) := Lib.hid (by have := HX4.out; rw [← hw6]; exact this.1)
    have hz6 := HX6.out.lt
    obtain ⟨x0, x1, x2, x3⟩ := HX6.out.cells
    obtain ⟨c0, c1⟩ := HP4.out.box.cell
    have cf := HP4.out.box.frozen
    have hT6 := HP4.out.box.lt
    dsimp only at x0 x1 x2 x3
    refine Lib.hid ?_
    have hCN := cells_newP w6 ⟨z, 1, 2, 1⟩
    
    go_wp2_with (at_builtin; go_must (refine wpList_append_own _ rfl _ _ 24 rfl w.heap.size 40 i0 _ 4 32 Try.underlying24 hi0 hz0 hz1 hz2 rfl (by omega) _ _ _ rfl (HP4.out.own.alloc _) ⟨w6.heap.size, 0, none⟩ 1 1 (pcs4 ⟨z, 1, 2, 1⟩) rfl rfl hCN (by intro u hu; simp [pcs4] at hu; rcases hu with rfl | rfl | rfl | rfl <;> rfl) (by simp only [maxLen]; omega) (by omega) (by have := HP4.out.gr.size; simp; omega) ?_))
    intro v' w8 hown' hgrow hnil
    obtain ⟨d0, d1, df, q, c', rfl⟩ := (HP4.out.alloc _).mid hgrow hown'
    have HPn := Lib.hid ((HP4.out.alloc _).push hgrow hown')
    clear hown' hgrow hnil
    obtain ⟨r0, r1⟩ := HPn.out.res.cell
    have hRf := HPn.out.res.frozen
    obtain ⟨t0, t1⟩ := HPn.out.box.cell
    have hTz := HPn.out.box.lt
    go_wp2_with fail
    refine bodyPost_ret (v := .agg #[.int .i64 N, .slice (some ⟨q, 0, none⟩) (ps.length + 1) c']) (by simp [results, Try.results122, go_sem, r0, r1]) rfl (HPn.out.done (by omega) (by omega) (by first | omega | (rw [List.length_append]; simp; omega)))
  have n1 : ((R : Int) == 1) = false := beq_eq_false_iff_ne.2 (by omega)
  by_cases e2 : R = 2
  · subst e2
    clear n0 n1
    refine Lib.hid ?_
    go_wp2_with (first | (go_at_call 110; refine (S1.among_mem B g a n cap (KC + 202) w3.heap.size 2 2 [0, 10] _ rfl (by omega) (by simp) (by simp) (HP3.out.alloc (.cells #[.int .i64 0, .int .i64 10] 3)).st (fun j hj => S1.ti_new w3 [0, 10] 3 j hj) (by have := HP3.out.gr.size; omega)).mono ?_; rintro e w4 ⟨⟨z, rfl, hz⟩, hs, hg⟩; refine Hid.out ?_) | fail)
    have hz4 := hg.size
    have HP4 := Lib.hid (((HP3.out.alloc (.cells #[.int .i64 0, .int .i64 10] 3)).call hs hg).box' (T + 1) 3 (.int .i64 z) (by omega) (by omega) hvP)
    have HX4b := Lib.hid (((PX.below HX3.out (alloc_below w3 (.cells #[.int .i64 0, .int .i64 10] 3)))).grown hg (by omega))
    have HX4 := Lib.hid (HX4b.out.one z)
    clear hs hg hz HP3 HX3 c0 c1 cf x0 x1 x2 x3 xf
    obtain ⟨y0, y1, y2, y3⟩ := HX4b.out.cells
    have yf := HX4b.out.frozen 3
    have hz4' := HX4b.out.lt
    dsimp only at y0 y1 y2 y3
    obtain ⟨w6, hw6⟩ : ∃ w6, w4.setCell ⟨T + 1, 3, none⟩ (.int .i64 z) = w6 := ⟨_, rfl⟩
    rw [hw6] at HP4
    have HX6 : Hid (PX w6 (T + 1) ⟨99, 1, 2, z⟩) := Lib.hid (by have := HX4.out; rw [← hw6]; exact this.2.2)
    have hz6 := HX6.out.lt
    obtain ⟨x0, x1, x2, x3⟩ := HX6.out.cells
    obtain ⟨c0, c1⟩ := HP4.out.box.cell
    have cf := HP4.out.box.frozen
    have hT6 := HP4.out.box.lt
    dsimp only at x0 x1 x2 x3
    refine Lib.hid ?_
    have hCN := cells_newP w6 ⟨99, 1, 2, z⟩
    
    go_wp2_with (at_builtin; go_must (refine wpList_append_own _ rfl _ _ 24 rfl w.heap.size 40 i0 _ 4 32 Try.underlying24 hi0 hz0 hz1 hz2 rfl (by omega) _ _ _ rfl (HP4.out.own.alloc _) ⟨w6.heap.size, 0, none⟩ 1 1 (pcs4 ⟨99, 1, 2, z⟩) rfl rfl hCN (by intro u hu; simp [pcs4] at hu; rcases hu with rfl | rfl | rfl | rfl <;> rfl) (by simp only [maxLen]; omega) (by omega) (by have := HP4.out.gr.size; simp; omega) ?_))
    intro v' w8 hown' hgrow hnil
    obtain ⟨d0, d1, df, q, c', rfl⟩ := (HP4.out.alloc _).mid hgrow hown'
    have HPn := Lib.hid ((HP4.out.alloc _).push hgrow hown')
    clear hown' hgrow hnil
    obtain ⟨r0, r1⟩ := HPn.out.res.cell
    have hRf := HPn.out.res.frozen
    obtain ⟨t0, t1⟩ := HPn.out.box.cell
    have hTz := HPn.out.box.lt
    go_wp2_with fail
    refine bodyPost_ret (v := .agg #[.int .i64 N, .slice (some ⟨q, 0, none⟩) (ps.length + 1) c']) (by simp [results, Try.results122, go_sem, r0, r1]) rfl (HPn.out.done (by omega) (by omega) (by first | omega | (rw [List.length_append]; simp; omega)))
  have n2 : ((R : Int) == 2) = false := beq_eq_false_iff_ne.2 (by omega)
  by_cases e3 : R = 3
  · subst e3
    clear n0 n1 n2
    refine Lib.hid ?_
    go_wp2_with (first | (go_at_call 110; refine (S1.among_mem B g a n cap (KC + 202) w3.heap.size 3 3 [1, 9, 0] _ rfl (by omega) (by simp) (by simp) (HP3.out.alloc (.cells #[.int .i64 1, .int .i64 9, .int .i64 0] 3)).st (fun j hj => S1.ti_new w3 [1, 9, 0] 3 j hj) (by have := HP3.out.gr.size; omega)).mono ?_; rintro e w4 ⟨⟨z, rfl, hz⟩, hs, hg⟩; refine Hid.out ?_) | fail)
    have hz4 := hg.size
    have HP4 := Lib.hid (((HP3.out.alloc (.cells #[.int .i64 1, .int .i64 9, .int .i64 0] 3)).call hs hg).box' (T + 1) 2 (.int .i64 z) (by omega) (by omega) hvP)
    have HX4b := Lib.hid (((PX.below HX3.out (alloc_below w3 (.cells #[.int .i64 1, .int .i64 9, .int .i64 0] 3)))).grown hg (by omega))
    have HX4 := Lib.hid (HX4b.out.one z)
    clear hs hg hz HP3 HX3 c0 c1 cf x0 x1 x2 x3 xf
    obtain ⟨y0, y1, y2, y3⟩ := HX4b.out.cells
    have yf := HX4b.out.frozen 2
    have hz4' := HX4b.out.lt
    dsimp only at y0 y1 y2 y3
    obtain ⟨w6, hw6⟩ : ∃ w6, w4.setCell ⟨T + 1, 2, none⟩ (.int .i64 z) = w6 := ⟨_, rfl⟩
    rw [hw6] at HP4
    have HX6 : Hid (PX w6 (T + 1) ⟨99, 1, z, 1⟩) := Lib.hid (by have := HX4.out; rw [← hw6]; exact this.2.1)
    have hz6 := HX6.out.lt
    obtain ⟨x0, x1, x2, x3⟩ := HX6.out.cells
    obtain ⟨c0, c1⟩ := HP4.out.box.cell
    have cf := HP4.out.box.frozen
    have hT6 := HP4.out.box.lt
    dsimp only at x0 x1 x2 x3
    refine Lib.hid ?_
    have hCN := cells_newP w6 ⟨99, 1, z, 1⟩
    
    go_wp2_with (at_builtin; go_must (refine wpList_append_own _ rfl _ _ 24 rfl w.heap.size 40 i0 _ 4 32 Try.underlying24 hi0 hz0 hz1 hz2 rfl (by omega) _ _ _ rfl (HP4.out.own.alloc _) ⟨w6.heap.size, 0, none⟩ 1 1 (pcs4 ⟨99, 1, z, 1⟩) rfl rfl hCN (by intro u hu; simp [pcs4] at hu; rcases hu with rfl | rfl | rfl | rfl <;> rfl) (by simp only [maxLen]; omega) (by omega) (by have := HP4.out.gr.size; simp; omega) ?_))
    intro v' w8 hown' hgrow hnil
    obtain ⟨d0, d1, df, q, c', rfl⟩ := (HP4.out.alloc _).mid hgrow hown'
    have HPn := Lib.hid ((HP4.out.alloc _).push hgrow hown')
    clear hown' hgrow hnil
    obtain ⟨r0, r1⟩ := HPn.out.res.cell
    have hRf := HPn.out.res.frozen
    obtain ⟨t0, t1⟩ := HPn.out.box.cell
    have hTz := HPn.out.box.lt
    go_wp2_with fail
    refine bodyPost_ret (v := .agg #[.int .i64 N, .slice (some ⟨q, 0, none⟩) (ps.length + 1) c']) (by simp [results, Try.results122, go_sem, r0, r1]) rfl (HPn.out.done (by omega) (by omega) (by first | omega | (rw [List.length_append]; simp; omega)))
  have n3 : ((R : Int) == 3) = false := beq_eq_false_iff_ne.2 (by omega)
  by_cases e4 : R = 4
  · have n4 : ((R : Int) == 4) = true := beq_iff_eq.2 (by omega)
    clear c0 c1 cf x0 x1 x2 x3 xf HX3
    clear e4
    refine Lib.hid ?_
    go_wp2_with fail
    clear n0 n1 n2 n3 n4
    go_loopw [5] (fun kk wr => ∃ (k : Nat) (A : Option Addr) (c : Nat) (ps : List Pp), kk = .int .i64 (k : Int) ∧ k ≤ 12 ∧ ps.length ≤ 12 ∧ Hid (NI w wr B g a n cap (KC + 202 + 4 * k) T N (.slice A ps.length c) ps)) (fun kk _ => 12 - (intOf kk).toNat)
    case atStart => exact ⟨0, A, c, ps, rfl, by omega, by omega, Lib.hid (HP3.out.more (by omega))⟩
    case round =>
      clear HP3 hvP
      obtain ⟨k, A, c, ps, rfl, hk, hpl, HP⟩ := hrel
      obtain ⟨c0, c1⟩ := HP.out.box.cell
      have hTl := HP.out.box.lt
      have HPd := Lib.hid HP.out.drew
      refine Hid.out ?_
      refine Lib.hid ?_
      go_upto_region 17 with (fail)
      go_cut [65] (fun s wx => ∃ bb : Bool, s = .bool bb ∧ (bb = true → ps.length < 12 ∧ k < 12) ∧ Hid (NI w wx B g a n cap (KC + 202 + 4 * k + 2) T N (.slice A ps.length c) ps))
      case first =>
        refine wp_region_held_drew (S := fun w' => w'.cell? ⟨T, 1, none⟩ = some (.slice A ps.length c)) (by kernel_rfl) (by exact c1) (fun hHeld => ?_)
        refine wpAnyH_take (i := 0) (v := .pointer (some ⟨T, 1, none⟩)) rfl (by kernel_rfl) (by kernel_rfl) (by kernel_rfl) (fun _ _ _ h => h) (Or.inl ⟨by kernel_rfl, ?_⟩) (by assumption) ?_
        · (intro w hSw; (try dsimp only at hSw); go_simp)
        simp only [Act.put, List.setIfInBounds_toArray]
        refine wpAnyH_take (i := 1) (v := .slice A ps.length c) rfl (by kernel_rfl) (by kernel_rfl) (by kernel_rfl) (fun _ _ _ h => h) (Or.inl ⟨by kernel_rfl, ?_⟩) (by assumption) ?_
        · (intro w hSw; (try dsimp only at hSw); go_simp)
        simp only [Act.put]
        refine wpAnyH_take (i := 2) (v := .int .i64 ((ps.length : Int))) rfl (by kernel_rfl) (by kernel_rfl) (by kernel_rfl) (fun _ _ _ h => h) (Or.inl ⟨by kernel_rfl, ?_⟩) (by assumption) ?_
        · (intro w hSw; (try dsimp only at hSw); go_simp)
        simp only [Act.put]
        refine wpAnyH_take (i := 3) (v := .pointer (some ⟨g, 0, none⟩)) rfl (by kernel_rfl) (by kernel_rfl) (by kernel_rfl) (fun _ _ _ h => h) (Or.inl ⟨by kernel_rfl, ?_⟩) (by assumption) ?_
        · (intro w hSw; (try dsimp only at hSw); go_simp)
        simp only [Act.put]
        refine wpAnyH_ready (rs := [4]) (by kernel_rfl) (by simp) ?_
        refine AllReadyH.cons rfl (fun K hK => ?_) AllReadyH.nil
        go_simp
        go_at_call 109
        refine (S1.pick_any B g a n cap (KC + 202 + 4 * k) 2 _ (by omega) (by omega) (by omega) HPd.out.st).mono ?_
        rintro e w5 ⟨r7, rfl, hr70, hr79, hs, hg⟩
        obtain ⟨R7, rfl, hR7⟩ := nat_in hr70 hr79
        have HP6 := Lib.hid (HPd.out.call hs hg)
        clear hs hg hr70 hr79 HPd HP c0 c1
        obtain ⟨e0, e1⟩ := HP6.out.box.cell
        refine hK.out _ _ (by exact e1) (fun hHeld => ?_)
        clear hK K
        obtain ⟨Z, hZ⟩ : ∃ Z : Nat, 10 + (R7 : Int) = (Z : Int) := ⟨10 + R7, by omega⟩
        have hZw : IntKind.i64.wrap (Z : Int) = (Z : Int) := IntWalk.i64_in (Z : Int) (by omega)
        have hZ11 : Z ≤ 11 := by omega
        have hT6 := HP6.out.box.lt
        refine wpAnyH_take (i := 5) (v := .int .i64 ((Z : Int))) rfl (by kernel_rfl) (by kernel_rfl) (by kernel_rfl) (fun _ _ _ h => h) (Or.inl ⟨by kernel_rfl, ?_⟩) (by assumption) ?_
        · (intro w hSw; (try dsimp only at hSw); go_simp; (try first | omega | assumption))
        simp only [Act.put]
        by_cases hlt : ps.length < Z
        · have d6 : decide ((ps.length : Int) < (Z : Int)) = true := decide_eq_true (by omega)
          refine wpAnyH_take (i := 6) (v := .bool true) rfl (by kernel_rfl) (by kernel_rfl) (by kernel_rfl) (fun _ _ _ h => h) (Or.inl ⟨by kernel_rfl, ?_⟩) (by assumption) ?_
          · (intro w hSw; (try dsimp only at hSw); go_simp)
          simp only [Act.put]
          refine wpAnyH_take (i := 7) (v := .bool true) rfl (by kernel_rfl) (by kernel_rfl) (by kernel_rfl) (fun _ _ _ h => h) (Or.inl ⟨by kernel_rfl, ?_⟩) (by assumption) ?_
          · (intro w hSw; (try dsimp only at hSw); go_simp)
          simp only [Act.put]
          refine wpAnyH_take (i := 8) (v := .int .i64 ((k : Int))) rfl (by kernel_rfl) (by kernel_rfl) (by kernel_rfl) (fun _ _ _ h => h) (Or.inl ⟨by kernel_rfl, ?_⟩) (by assumption) ?_
          · (intro w hSw; (try dsimp only at hSw); go_simp)
          simp only [Act.put]
          by_cases hk12 : k < 12
          · have d9 : decide ((k : Int) < 12) = true := decide_eq_true (by omega)
            refine wpAnyH_take (i := 9) (v := .bool true) rfl (by kernel_rfl) (by kernel_rfl) (by kernel_rfl) (fun _ _ _ h => h) (Or.inl ⟨by kernel_rfl, ?_⟩) (by assumption) ?_
            · (intro w hSw; (try dsimp only at hSw); go_simp)
            simp only [Act.put, List.getElem_toArray, List.getElem_cons_succ, List.getElem_cons_zero]
            refine wpAnyH_take (i := 10) (v := .bool true) rfl (by kernel_rfl) (by kernel_rfl) (by kernel_rfl) (fun _ _ _ h => h) (Or.inl ⟨by kernel_rfl, ?_⟩) (by assumption) ?_
            · (intro w hSw; (try dsimp only at hSw); go_simp)
            simp only [Act.put, List.getElem_toArray, List.getElem_cons_succ, List.getElem_cons_zero]
            refine wpAnyH_done (by kernel_rfl) ?_ _
            clear hHeld
            go_wp2_with fail
            go_meet
            exact ⟨true, rfl, (fun _ => ⟨by omega, hk12⟩), HP6⟩
          · have d9 : decide ((k : Int) < 12) = false := decide_eq_false (by omega)
            refine wpAnyH_take (i := 9) (v := .bool false) rfl (by kernel_rfl) (by kernel_rfl) (by kernel_rfl) (fun _ _ _ h => h) (Or.inl ⟨by kernel_rfl, ?_⟩) (by assumption) ?_
            · (intro w hSw; (try dsimp only at hSw); go_simp)
            simp only [Act.put, List.getElem_toArray, List.getElem_cons_succ, List.getElem_cons_zero]
            refine wpAnyH_take (i := 10) (v := .bool false) rfl (by kernel_rfl) (by kernel_rfl) (by kernel_rfl) (fun _ _ _ h => h) (Or.inl ⟨by kernel_rfl, ?_⟩) (by assumption) ?_
            · (intro w hSw; (try dsimp only at hSw); go_simp)
            simp only [Act.put, List.getElem_toArray, List.getElem_cons_succ, List.getElem_cons_zero]
            refine wpAnyH_done (by kernel_rfl) ?_ _
            clear hHeld
            go_wp2_with fail
            go_meet
            exact ⟨false, rfl, (fun h => by cases h), HP6⟩
        · have d6 : decide ((ps.length : Int) < (Z : Int)) = false := decide_eq_false (by omega)
          refine wpAnyH_take (i := 6) (v := .bool false) rfl (by kernel_rfl) (by kernel_rfl) (by kernel_rfl) (fun _ _ _ h => h) (Or.inl ⟨by kernel_rfl, ?_⟩) (by assumption) ?_
          · (intro w hSw; (try dsimp only at hSw); go_simp)
          simp only [Act.put]
          refine wpAnyH_take (i := 7) (v := .bool false) rfl (by kernel_rfl) (by kernel_rfl) (by kernel_rfl) (fun _ _ _ h => h) (Or.inl ⟨by kernel_rfl, ?_⟩) (by assumption) ?_
          · (intro w hSw; (try dsimp only at hSw); go_simp)
          simp only [Act.put]
          refine wpAnyH_take (i := 8) (v := undef) rfl (by kernel_rfl) (by kernel_rfl) (by kernel_rfl) (fun _ _ _ h => h) (Or.inr ⟨by kernel_rfl, rfl⟩) (by assumption) ?_
          simp only [Act.put]
          refine wpAnyH_take (i := 9) (v := undef) rfl (by kernel_rfl) (by kernel_rfl) (by kernel_rfl) (fun _ _ _ h => h) (Or.inr ⟨by kernel_rfl, rfl⟩) (by assumption) ?_
          simp only [Act.put]
          refine wpAnyH_take (i := 10) (v := .bool false) rfl (by kernel_rfl) (by kernel_rfl) (by kernel_rfl) (fun _ _ _ h => h) (Or.inl ⟨by kernel_rfl, ?_⟩) (by assumption) ?_
          · (intro w hSw; (try dsimp only at hSw); go_simp)
          simp only [Act.put, List.getElem_toArray, List.getElem_cons_succ, List.getElem_cons_zero]
          refine wpAnyH_done (by kernel_rfl) ?_ _
          clear hHeld
          go_wp2_with fail
          go_meet
          exact ⟨false, rfl, (fun h => by cases h), HP6⟩
      case rest =>
        obtain ⟨bb, rfl, hbb, HP6⟩ := hcut
        clear HP HPd c0 c1
        cases bb with
        | false =>
          refine Hid.out ?_
          refine Lib.hid ?_
          obtain ⟨r0, r1⟩ := HP6.out.res.cell
          have hRf := HP6.out.res.frozen
          obtain ⟨t0, t1⟩ := HP6.out.box.cell
          have hTz := HP6.out.box.lt
          go_wp2_with fail
          refine bodyPost_ret (v := .agg #[.int .i64 N, .slice A (ps.length) c]) (by simp [results, Try.results122, go_sem, r0, r1]) rfl (HP6.out.done (by omega) (by omega) (by first | omega | (rw [List.length_append]; simp; omega)))
        | true =>
          obtain ⟨hl12, hk12⟩ := hbb rfl
          clear hbb
          obtain ⟨w5, hw5⟩ : ∃ w5, w5 = wc := ⟨_, rfl⟩
          subst hw5
          have HPd := Lib.hid HP6.out.drew
          obtain ⟨c0, c1⟩ := HP6.out.box.cell
          have hTd : T < w5.heap.size := HP6.out.box.lt
          have hRd : w.heap.size < w5.heap.size := HP6.out.res.lt
          obtain ⟨J, hJ⟩ : ∃ J : Nat, 60 + (k : Int) = (J : Int) := ⟨60 + k, by omega⟩
          have hJw : IntKind.i64.wrap (J : Int) = (J : Int) := IntWalk.i64_in (J : Int) (by omega)
          obtain ⟨Y, hY⟩ : ∃ Y : Int, (if 2 > N then (2 : Int) else N) = Y := ⟨_, rfl⟩
          have HM := Lib.hid (fun w' => by have := most_any 2 N w'; rw [hY] at this; exact this)
          clear hY
          refine Hid.out ?_
          refine Lib.hid ?_
          go_upto_region 19 with (fail)
          refine wp_region_held_drew (S := fun w' => w'.cell? ⟨T, 0, none⟩ = some (.int .i64 N)) (by kernel_rfl) (by exact c0) (fun hHeld => ?_)
          refine wpAnyH_take (i := 0) (v := .pointer (some ⟨T, 1, none⟩)) rfl (by kernel_rfl) (by kernel_rfl) (by kernel_rfl) (fun _ _ _ h => h) (Or.inl ⟨by kernel_rfl, ?_⟩) (by assumption) ?_
          · (intro w hSw; (try dsimp only at hSw); go_simp)
          simp only [Act.put, List.setIfInBounds_toArray]
          refine wpAnyH_take (i := 2) (v := .int .i64 ((k : Int))) rfl (by kernel_rfl) (by kernel_rfl) (by kernel_rfl) (fun _ _ _ h => h) (Or.inl ⟨by kernel_rfl, ?_⟩) (by assumption) ?_
          · (intro w hSw; (try dsimp only at hSw); go_simp)
          simp only [Act.put]
          refine wpAnyH_take (i := 3) (v := .int .i64 ((J : Int))) rfl (by kernel_rfl) (by kernel_rfl) (by kernel_rfl) (fun _ _ _ h => h) (Or.inl ⟨by kernel_rfl, ?_⟩) (by assumption) ?_
          · (intro w hSw; (try dsimp only at hSw); go_simp; (try first | omega | assumption))
          simp only [Act.put]
          refine wpAnyH_take (i := 4) (v := .pointer (some ⟨T, 0, none⟩)) rfl (by kernel_rfl) (by kernel_rfl) (by kernel_rfl) (fun _ _ _ h => h) (Or.inl ⟨by kernel_rfl, ?_⟩) (by assumption) ?_
          · (intro w hSw; (try dsimp only at hSw); go_simp)
          simp only [Act.put]
          refine wpAnyH_take (i := 5) (v := .int .i64 (N)) rfl (by kernel_rfl) (by kernel_rfl) (by kernel_rfl) (fun _ _ _ h => h) (Or.inl ⟨by kernel_rfl, ?_⟩) (by assumption) ?_
          · (intro w hSw; (try dsimp only at hSw); go_simp)
          simp only [Act.put]
          refine wpAnyH_ready (rs := [1, 6]) (by kernel_rfl) (by simp) ?_
          refine AllReadyH.cons rfl (fun K hK => ?_) (AllReadyH.cons rfl (fun K hK => ?_) AllReadyH.nil)
          · skip
            go_simp
            refine hK.out _ _ (by first | assumption | go_keep) (fun hHeld => ?_)
            clear hK K
            refine wpAnyH_ready (rs := [6]) (by kernel_rfl) (by simp) ?_
            refine AllReadyH.cons rfl (fun K hK => ?_) AllReadyH.nil
            go_simp
            go_at_call 88
            refine (HM.out _).mono ?_
            rintro e w9 ⟨rfl, rfl⟩
            refine hK.out _ _ (by exact c0) (fun hHeld => ?_)
            clear hK K
            refine wpAnyH_take (i := 7) (v := .agg #[.int .i64 (J : Int), .int .i64 1, .int .i64 Y, .int .i64 2]) rfl (by kernel_rfl) (by kernel_rfl) (by kernel_rfl) (fun _ _ _ h => h) (Or.inl ⟨by kernel_rfl, ?_⟩) (by assumption) ?_
            · (intro w hSw; (try dsimp only at hSw); go_simp)
            simp only [Act.put]
            refine wpAnyH_ready (rs := [8]) (by kernel_rfl) (by simp) ?_
            refine AllReadyH.cons rfl (fun K hK => ?_) AllReadyH.nil
            go_simp
            refine hK.out _ _ (by first | assumption | go_keep) (fun hHeld => ?_)
            clear hK K
            refine wpAnyH_ready (rs := [9]) (by kernel_rfl) (by simp) ?_
            refine AllReadyH.cons rfl (fun K hK => ?_) AllReadyH.nil
            refine step_append_own _ (by rfl) _ _ _ (by rfl) w.heap.size 40 i0 _ 4 32 Try.underlying24 hi0 hz0 hz1 hz2 rfl (by omega) (.slice A ps.length c) ps.length (pcs ps) (by rfl) (HPd.out.own.alloc _) ⟨w5.heap.size, 0, none⟩ 1 1 (pcs4 ⟨(J : Int), 1, Y, 2⟩) (by rfl) rfl (cells_newP w5.drew ⟨(J : Int), 1, Y, 2⟩) (by intro u hu; simp [pcs4] at hu; rcases hu with rfl | rfl | rfl | rfl <;> rfl) (by simp only [maxLen]; omega) (by omega) (by have := HPd.out.gr.size; simp at this ⊢; omega) ?_
            intro v' w8 hown' hgrow hnil
            obtain ⟨d0, d1, df, q, c', rfl⟩ := (HPd.out.alloc _).mid hgrow hown'
            have HPn := Lib.hid ((HPd.out.alloc _).push hgrow hown')
            clear hown' hgrow hnil
            refine hK.out _ _ (by exact d0) (fun hHeld => ?_)
            clear hK K
            refine wpAnyH_take (i := 10) (v := .pointer (some ⟨T, 1, none⟩)) rfl (by kernel_rfl) (by kernel_rfl) (by kernel_rfl) (fun _ _ _ h => h) (Or.inl ⟨by kernel_rfl, ?_⟩) (by assumption) ?_
            · (intro w hSw; (try dsimp only at hSw); go_simp)
            simp only [Act.put, List.getElem_toArray, List.getElem_cons_succ, List.getElem_cons_zero]
            refine wpAnyH_ready (rs := [11]) (by kernel_rfl) (by simp) ?_
            refine AllReadyH.cons rfl (fun K hK => ?_) AllReadyH.nil
            go_simp
            refine hK.out _ _ (by exact HPn.out.box.cell.1) (fun hHeld => ?_)
            clear hK K
            refine wpAnyH_done (by kernel_rfl) ?_ _
            clear HP6 HPd c0 c1
            go_wp2_with fail
            go_roundw
            case rel => exact ⟨k + 1, some ⟨q, 0, none⟩, c', ps ++ [⟨(J : Int), 1, Y, 2⟩], by go_num, by omega, by rw [List.length_append]; simp; omega, Lib.hid (by have := HPn.out.more (show KC + 202 + 4 * k + 2 ≤ KC + 202 + 4 * (k + 1) by omega); rw [List.length_append]; exact this)⟩
            case measure => simp [intOf]; omega
          · skip
            go_simp
            go_at_call 88
            refine (HM.out _).mono ?_
            rintro e w9 ⟨rfl, rfl⟩
            refine hK.out _ _ (by exact c0) (fun hHeld => ?_)
            clear hK K
            refine wpAnyH_take (i := 7) (v := .agg #[.int .i64 (J : Int), .int .i64 1, .int .i64 Y, .int .i64 2]) rfl (by kernel_rfl) (by kernel_rfl) (by kernel_rfl) (fun _ _ _ h => h) (Or.inl ⟨by kernel_rfl, ?_⟩) (by assumption) ?_
            · (intro w hSw; (try dsimp only at hSw); go_simp)
            simp only [Act.put]
            refine wpAnyH_ready (rs := [1, 8]) (by kernel_rfl) (by simp) ?_
            refine AllReadyH.cons rfl (fun K hK => ?_) (AllReadyH.cons rfl (fun K hK => ?_) AllReadyH.nil)
            · skip
              go_simp
              refine hK.out _ _ (by first | assumption | go_keep) (fun hHeld => ?_)
              clear hK K
              refine wpAnyH_ready (rs := [8]) (by kernel_rfl) (by simp) ?_
              refine AllReadyH.cons rfl (fun K hK => ?_) AllReadyH.nil
              go_simp
              refine hK.out _ _ (by first | assumption | go_keep) (fun hHeld => ?_)
              clear hK K
              refine wpAnyH_ready (rs := [9]) (by kernel_rfl) (by simp) ?_
              refine AllReadyH.cons rfl (fun K hK => ?_) AllReadyH.nil
              refine step_append_own _ (by rfl) _ _ _ (by rfl) w.heap.size 40 i0 _ 4 32 Try.underlying24 hi0 hz0 hz1 hz2 rfl (by omega) (.slice A ps.length c) ps.length (pcs ps) (by rfl) (HPd.out.own.alloc _) ⟨w5.heap.size, 0, none⟩ 1 1 (pcs4 ⟨(J : Int), 1, Y, 2⟩) (by rfl) rfl (cells_newP w5.drew ⟨(J : Int), 1, Y, 2⟩) (by intro u hu; simp [pcs4] at hu; rcases hu with rfl | rfl | rfl | rfl <;> rfl) (by simp only [maxLen]; omega) (by omega) (by have := HPd.out.gr.size; simp at this ⊢; omega) ?_
              intro v' w8 hown' hgrow hnil
              obtain ⟨d0, d1, df, q, c', rfl⟩ := (HPd.out.alloc _).mid hgrow hown'
              have HPn := Lib.hid ((HPd.out.alloc _).push hgrow hown')
              clear hown' hgrow hnil
              refine hK.out _ _ (by exact d0) (fun hHeld => ?_)
              clear hK K
              refine wpAnyH_take (i := 10) (v := .pointer (some ⟨T, 1, none⟩)) rfl (by kernel_rfl) (by kernel_rfl) (by kernel_rfl) (fun _ _ _ h => h) (Or.inl ⟨by kernel_rfl, ?_⟩) (by assumption) ?_
              · (intro w hSw; (try dsimp only at hSw); go_simp)
              simp only [Act.put, List.getElem_toArray, List.getElem_cons_succ, List.getElem_cons_zero]
              refine wpAnyH_ready (rs := [11]) (by kernel_rfl) (by simp) ?_
              refine AllReadyH.cons rfl (fun K hK => ?_) AllReadyH.nil
              go_simp
              refine hK.out _ _ (by exact HPn.out.box.cell.1) (fun hHeld => ?_)
              clear hK K
              refine wpAnyH_done (by kernel_rfl) ?_ _
              clear HP6 HPd c0 c1
              go_wp2_with fail
              go_roundw
              case rel => exact ⟨k + 1, some ⟨q, 0, none⟩, c', ps ++ [⟨(J : Int), 1, Y, 2⟩], by go_num, by omega, by rw [List.length_append]; simp; omega, Lib.hid (by have := HPn.out.more (show KC + 202 + 4 * k + 2 ≤ KC + 202 + 4 * (k + 1) by omega); rw [List.length_append]; exact this)⟩
              case measure => simp [intOf]; omega
            · skip
              go_simp
              refine hK.out _ _ (by first | assumption | go_keep) (fun hHeld => ?_)
              clear hK K
              refine wpAnyH_ready (rs := [1]) (by kernel_rfl) (by simp) ?_
              refine AllReadyH.cons rfl (fun K hK => ?_) AllReadyH.nil
              go_simp
              refine hK.out _ _ (by first | assumption | go_keep) (fun hHeld => ?_)
              clear hK K
              refine wpAnyH_ready (rs := [9]) (by kernel_rfl) (by simp) ?_
              refine AllReadyH.cons rfl (fun K hK => ?_) AllReadyH.nil
              refine step_append_own _ (by rfl) _ _ _ (by rfl) w.heap.size 40 i0 _ 4 32 Try.underlying24 hi0 hz0 hz1 hz2 rfl (by omega) (.slice A ps.length c) ps.length (pcs ps) (by rfl) (HPd.out.own.alloc _) ⟨w5.heap.size, 0, none⟩ 1 1 (pcs4 ⟨(J : Int), 1, Y, 2⟩) (by rfl) rfl (cells_newP w5.drew ⟨(J : Int), 1, Y, 2⟩) (by intro u hu; simp [pcs4] at hu; rcases hu with rfl | rfl | rfl | rfl <;> rfl) (by simp only [maxLen]; omega) (by omega) (by have := HPd.out.gr.size; simp at this ⊢; omega) ?_
              intro v' w8 hown' hgrow hnil
              obtain ⟨d0, d1, df, q, c', rfl⟩ := (HPd.out.alloc _).mid hgrow hown'
              have HPn := Lib.hid ((HPd.out.alloc _).push hgrow hown')
              clear hown' hgrow hnil
              refine hK.out _ _ (by exact d0) (fun hHeld => ?_)
              clear hK K
              refine wpAnyH_take (i := 10) (v := .pointer (some ⟨T, 1, none⟩)) rfl (by kernel_rfl) (by kernel_rfl) (by kernel_rfl) (fun _ _ _ h => h) (Or.inl ⟨by kernel_rfl, ?_⟩) (by assumption) ?_
              · (intro w hSw; (try dsimp only at hSw); go_simp)
              simp only [Act.put, List.getElem_toArray, List.getElem_cons_succ, List.getElem_cons_zero]
              refine wpAnyH_ready (rs := [11]) (by kernel_rfl) (by simp) ?_
              refine AllReadyH.cons rfl (fun K hK => ?_) AllReadyH.nil
              go_simp
              refine hK.out _ _ (by exact HPn.out.box.cell.1) (fun hHeld => ?_)
              clear hK K
              refine wpAnyH_done (by kernel_rfl) ?_ _
              clear HP6 HPd c0 c1
              go_wp2_with fail
              go_roundw
              case rel => exact ⟨k + 1, some ⟨q, 0, none⟩, c', ps ++ [⟨(J : Int), 1, Y, 2⟩], by go_num, by omega, by rw [List.length_append]; simp; omega, Lib.hid (by have := HPn.out.more (show KC + 202 + 4 * k + 2 ≤ KC + 202 + 4 * (k + 1) by omega); rw [List.length_append]; exact this)⟩
              case measure => simp [intOf]; omega
  · have n4 : ((R : Int) == 4) = false := beq_eq_false_iff_ne.2 (by omega)
    clear HX3 x0 x1 x2 x3 xf c0 c1 cf
    refine Lib.hid ?_
    obtain ⟨r0, r1⟩ := HP3.out.res.cell
    have hRf := HP3.out.res.frozen
    obtain ⟨t0, t1⟩ := HP3.out.box.cell
    have hTz := HP3.out.box.lt
    go_wp2_with fail
    refine bodyPost_ret (v := .agg #[.int .i64 N, .slice A (ps.length) c]) (by simp [results, Try.results122, go_sem, r0, r1]) rfl (HP3.out.done (by omega) (by omega) (by first | omega | (rw [List.length_append]; simp; omega)))
end Go.Proofs.Ytlkomipjamelkab.S2
