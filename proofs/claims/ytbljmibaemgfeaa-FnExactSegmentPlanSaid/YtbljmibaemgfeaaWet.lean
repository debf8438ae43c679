/- What is wet, DryNodes and DryPipes of the program: contracts. Conditions: each theorem's own premises. -/
import Derived.Test.YtbljmibaemgfeaaSegTwo
import Derived.Test.YtbljmibaemgfeaaSegFour
import Derived.Test.YtbljmibaemgfeaaVcs
import Derived.Deep.DeepCutAuto
import Derived.Test.YtbljmibaemgfeaaGivesNone
namespace Go.Proofs.Ytbljmibaemgfeaa.S2
open Go.RowKit Go.Sort P2 P4

section
variable {ops : Array Oper} {o : Oper} {a : Act} {w : World} {K : Act → World → Prop} {Q : Exit → Act → World → Prop} {E : Prop}
theorem stepE_store (hgd : o.guard = none) (x y : Operand) (ho : o.op = .store 96 x y) (hd : o.dst = none) (g : Nat) (hx : a.eval x = .pointer (some ⟨g, 0, none⟩)) (s : Nat → Bool) (hy : a.eval y = ev s) (s0 : Nat → Bool) (he : ERow w g s0)
    (h : ∀ w', ERow w' g s → w.grownBy w' (some g) → w'.heap.size = w.heap.size → K a w') : if Region.wanted o (yielded ops a.tmps) = true then Oper.wp Try.prog o a w K Q else E := by
  have hw : Region.wanted o (yielded ops a.tmps) = true := by simp [Region.wanted, hgd]
  rw [if_pos hw]
  exact wp_store_row 96 x y ho g (ecells s) hx hy 96 (ecells s0) he (infoE' s) (by rw [ecells_size, ecells_size]) (ecells_one s)
    (by rw [hd]; exact h _ (setRow_heap w g _ (ecells s) _ (0, 0) he) (grown_setRow _) (by simp))
end

set_option maxHeartbeats 4000000 in
set_option maxRecDepth 100000 in
theorem wet_no1 (n : Int) (A : Option Addr) (cap : Nat) (ps : List Pp) (AV : Option Addr) (capv : Nat) (vs : List Vv) (x : Int) (w : World) (h : PAt w A ps) (hm : ps.length ≤ maxLen) (hv : VAt w AV vs) (hmv : vs.length ≤ maxLen) (hcv : vs.length ≤ capv) (hcm : capv ≤ maxLen) (hb : goodV n ps vs = false) :
    Calls Try.prog 133 #[nv n A ps.length cap, .slice AV vs.length capv, .int .i64 x] w (GivesE w es0 false) := by
  have H := Lib.hid (fun w' (hb' : Below w.heap.size w w') => validv_v hb A cap AV capv w' (h.kept hb' (Nat.le_refl _)) hm (hv.kept hb' (Nat.le_refl _)) hmv hcv hcm)
  clear h hm hv hmv hcv hcm hb
  go_enter Try.func133, Try.ntmps133
  go_wp2_with (((with_reducible refine wpE_alloc rfl rfl ?_); intro w1 he1 hb1 hz1; refine Hid.out ?_))
  have b0 : w1.cell? ⟨w.heap.size, 0, none⟩ = some (.int .i64 n) := (hb1.cell (p := ⟨w.heap.size, 0, none⟩) (by simp)).trans (by go_simp)
  have b1 : w1.cell? ⟨w.heap.size, 1, none⟩ = some (.slice A ps.length cap) := (hb1.cell (p := ⟨w.heap.size, 1, none⟩) (by simp)).trans (by go_simp)
  have E6 := Lib.hid (show ERow w1 (w.heap.size + 1) es0 from by simpa using he1)
  have HB1 := Lib.hid (show Below w.heap.size w w1 from ((Below.refl w.heap.size w).alloc (Nat.le_refl _) _).trans (hb1.mono (by simp)))
  have HZ := Lib.hid (show w1.heap.size = w.heap.size + 2 by simpa using hz1)
  have hl1 : w.heap.size < w1.heap.size := by have := HZ.out; omega
  clear he1 hb1 hz1
  refine Lib.hid ?_
  go_wp2_with (first
    | (go_at_call 58; refine (H.out _ HB1.out).mono ?_; rintro e w2 ⟨rfl, hb2⟩; have E62 := Lib.hid (E6.out.kept hb2 (by have := HZ.out; omega)); have HB2 := Lib.hid (HB1.out.trans (hb2.mono (by have := HZ.out; omega))); have c0 := (hb2.cell (p := ⟨w.heap.size, 0, none⟩) hl1).trans b0; have c1 := (hb2.cell (p := ⟨w.heap.size, 1, none⟩) hl1).trans b1; have hz2 := hb2.size; clear hb2)
    | ((with_reducible refine wpE_store0 rfl _ _ rfl rfl (w.heap.size + 1) rfl rfl es0 E62.out ?_); intro w6 he6 hg6 hz6))
  have HB6 := Lib.hid (HB2.out.grown hg6 (by have := HB2.out.size; have := HZ.out; omega) (fun g hg => by simp at hg; omega))
  exact bodyPost_ret (v := .tuple #[ev es0, .bool false]) (resE2 (fn := Try.f133) rfl _ _ (w.heap.size + 1) es0 false rfl rfl he6) rfl ⟨rfl, HB6.out⟩

set_option maxHeartbeats 4000000 in
set_option maxRecDepth 100000 in
theorem wet_no2 (n : Int) (A : Option Addr) (cap : Nat) (ps : List Pp) (AV : Option Addr) (capv : Nat) (vs : List Vv) (x : Int) (w : World) (h : PAt w A ps) (hm : ps.length ≤ maxLen) (hv : VAt w AV vs) (hmv : vs.length ≤ maxLen) (hcv : vs.length ≤ capv) (hcm : capv ≤ maxLen) (hb : goodV n ps vs = true) (hx : nodeB n ps x = false) :
    Calls Try.prog 133 #[nv n A ps.length cap, .slice AV vs.length capv, .int .i64 x] w (GivesE w es0 false) := by
  have H := Lib.hid (fun w' (hb' : Below w.heap.size w w') => validv_v hb A cap AV capv w' (h.kept hb' (Nat.le_refl _)) hm (hv.kept hb' (Nat.le_refl _)) hmv hcv hcm)
  have HN := Lib.hid (fun w' (hb' : Below w.heap.size w w') => node_v hx A cap w' (h.kept hb' (Nat.le_refl _)) hm)
  clear h hm hv hmv hcv hcm hb hx
  go_enter Try.func133, Try.ntmps133
  go_wp2_with (((with_reducible refine wpE_alloc rfl rfl ?_); intro w1 he1 hb1 hz1; refine Hid.out ?_))
  have b0 : w1.cell? ⟨w.heap.size, 0, none⟩ = some (.int .i64 n) := (hb1.cell (p := ⟨w.heap.size, 0, none⟩) (by simp)).trans (by go_simp)
  have b1 : w1.cell? ⟨w.heap.size, 1, none⟩ = some (.slice A ps.length cap) := (hb1.cell (p := ⟨w.heap.size, 1, none⟩) (by simp)).trans (by go_simp)
  have E6 := Lib.hid (show ERow w1 (w.heap.size + 1) es0 from by simpa using he1)
  have HB1 := Lib.hid (show Below w.heap.size w w1 from ((Below.refl w.heap.size w).alloc (Nat.le_refl _) _).trans (hb1.mono (by simp)))
  have HZ := Lib.hid (show w1.heap.size = w.heap.size + 2 by simpa using hz1)
  have hl1 : w.heap.size < w1.heap.size := by have := HZ.out; omega
  clear he1 hb1 hz1
  refine Lib.hid ?_
  go_wp2_with (first
    | (go_at_call 58; refine (H.out _ HB1.out).mono ?_; rintro e w2 ⟨rfl, hb2⟩; have E62 := Lib.hid (E6.out.kept hb2 (by have := HZ.out; omega)); have HB2 := Lib.hid (HB1.out.trans (hb2.mono (by have := HZ.out; omega))); have c0 := (hb2.cell (p := ⟨w.heap.size, 0, none⟩) hl1).trans b0; have c1 := (hb2.cell (p := ⟨w.heap.size, 1, none⟩) hl1).trans b1; have hz2 := hb2.size; clear hb2)
    | (go_at_call 103; refine (HN.out _ HB2.out).mono ?_; rintro e w3 ⟨rfl, hb3⟩; have E63 := Lib.hid (E62.out.kept hb3 (by have := HZ.out; omega)); have HB3 := Lib.hid (HB2.out.trans (hb3.mono HB2.out.size)); have d0 := (hb3.cell (p := ⟨w.heap.size, 0, none⟩) (by dsimp only; omega)).trans c0; have d1 := (hb3.cell (p := ⟨w.heap.size, 1, none⟩) (by dsimp only; omega)).trans c1; have hz3 := hb3.size; clear hb3)
    | ((with_reducible refine wpE_store0 rfl _ _ rfl rfl (w.heap.size + 1) rfl rfl es0 E63.out ?_); intro w6 he6 hg6 hz6))
  have HB6 := Lib.hid (HB3.out.grown hg6 (by have := HB3.out.size; have := HZ.out; omega) (fun g hg => by simp at hg; omega))
  exact bodyPost_ret (v := .tuple #[ev es0, .bool false]) (resE2 (fn := Try.f133) rfl _ _ (w.heap.size + 1) es0 false rfl rfl he6) rfl ⟨rfl, HB6.out⟩

set_option maxHeartbeats 8000000 in
set_option maxRecDepth 100000 in
theorem wet_yes (N X : Nat) (A : Option Addr) (cap : Nat) (ps : List Pp) (AV : Option Addr) (capv : Nat) (vs : List Vv) (w : World) (h : PAt w A ps) (hv : VAt w AV vs) (hcv : vs.length ≤ capv) (hcm : capv ≤ maxLen) (hb : goodV N ps vs = true) (hx : nodeB N ps X = true) :
    Calls Try.prog 133 #[nv N A ps.length cap, .slice AV vs.length capv, .int .i64 X] w (GivesE w (coB ps (bar vs true) (one X)) true) := by
  have hgd := goodV_of hb
  have hm : ps.length ≤ maxLen := by have := hgd.1.2.2.1; unfold maxLen; omega
  have hmv : vs.length ≤ maxLen := by have := hgd.2.1; unfold maxLen; omega
  have H := Lib.hid (fun w' (hb' : Below w.heap.size w w') => validv_v hb A cap AV capv w' (h.kept hb' (Nat.le_refl _)) hm (hv.kept hb' (Nat.le_refl _)) hmv hcv hcm)
  have HN := Lib.hid (fun w' (hb' : Below w.heap.size w w') => node_v hx A cap w' (h.kept hb' (Nat.le_refl _)) hm)
  have hX9 : X < 9 := by obtain ⟨_, _, h2⟩ := nodeB_of hx; have := hgd.1.2.1; omega
  have HSV := Lib.hid (fun w' (hb' : Below w.heap.size w w') => shutv_any AV capv vs w' (hv.kept hb' (Nat.le_refl _)) hgd.2.1)
  have HC := Lib.hid (fun A2 cap2 w' (hb' : Below w.heap.size w w') (h2 : VAt w' A2 (bar vs true)) => conwith_any N A cap ps A2 cap2 (bar vs true) X w' (h.kept hb' (Nat.le_refl _)) h2 hgd.1 (Nat.le_trans (bar_len vs true) hgd.2.1) hX9)
  clear h hm hv hmv hcv hcm hb hx hgd
  go_enter Try.func133, Try.ntmps133
  go_wp2_with (((with_reducible refine wpE_alloc rfl rfl ?_); intro w1 he1 hb1 hz1; refine Hid.out ?_))
  have b0 : w1.cell? ⟨w.heap.size, 0, none⟩ = some (.int .i64 (N : Int)) := (hb1.cell (p := ⟨w.heap.size, 0, none⟩) (by simp)).trans (by go_simp)
  have b1 : w1.cell? ⟨w.heap.size, 1, none⟩ = some (.slice A ps.length cap) := (hb1.cell (p := ⟨w.heap.size, 1, none⟩) (by simp)).trans (by go_simp)
  have E6 := Lib.hid (show ERow w1 (w.heap.size + 1) es0 from by simpa using he1)
  have HB1 := Lib.hid (show Below w.heap.size w w1 from ((Below.refl w.heap.size w).alloc (Nat.le_refl _) _).trans (hb1.mono (by simp)))
  have HZ := Lib.hid (show w1.heap.size = w.heap.size + 2 by simpa using hz1)
  have hl1 : w.heap.size < w1.heap.size := by have := HZ.out; omega
  clear he1 hb1 hz1
  refine Lib.hid ?_
  go_wp2_with (first
    | (go_at_call 58; refine (H.out _ HB1.out).mono ?_; rintro e w2 ⟨rfl, hb2⟩; have E62 := Lib.hid (E6.out.kept hb2 (by have := HZ.out; omega)); have HB2 := Lib.hid (HB1.out.trans (hb2.mono (by have := HZ.out; omega))); have c0 := (hb2.cell (p := ⟨w.heap.size, 0, none⟩) hl1).trans b0; have c1 := (hb2.cell (p := ⟨w.heap.size, 1, none⟩) hl1).trans b1; have hz2 := hb2.size; clear hb2)
    | (go_at_call 103; refine (HN.out _ HB2.out).mono ?_; rintro e w3 ⟨rfl, hb3⟩; have E63 := Lib.hid (E62.out.kept hb3 (by have := HZ.out; omega)); have HB3 := Lib.hid (HB2.out.trans (hb3.mono HB2.out.size)); have d0 := (hb3.cell (p := ⟨w.heap.size, 0, none⟩) (by dsimp only; omega)).trans c0; have d1 := (hb3.cell (p := ⟨w.heap.size, 1, none⟩) (by dsimp only; omega)).trans c1; have hz3 := hb3.size; clear hb3; refine Hid.out ?_))
  refine Lib.hid ?_
  go_upto_region 3 with (fail)
  refine wp_region_held_drew (S := fun w' => w'.cell? ⟨w.heap.size, 0, none⟩ = some (.int .i64 (N : Int)) ∧ w'.cell? ⟨w.heap.size, 1, none⟩ = some (.slice A ps.length cap) ∧ ∃ s, ERow w' (w.heap.size + 1) s) (by kernel_rfl) (by exact ⟨d0, d1, es0, E63.out⟩) (fun hHeld => ?_)
  refine wpAnyH_take (i := 0) (v := .agg #[.int .i64 (N : Int), .slice A ps.length cap]) rfl (by kernel_rfl) (by kernel_rfl) (by kernel_rfl) (fun _ _ _ h => h) (Or.inl ⟨by rfl, ?_⟩) (by assumption) ?_
  · (intro w hSw; (try dsimp only at hSw); go_simp)
  simp only [Act.put, List.setIfInBounds_toArray]
  refine wpAnyH_take (i := 1) (v := .slice AV vs.length capv) rfl (by kernel_rfl) (by kernel_rfl) (by kernel_rfl) (fun _ _ _ h => h) (Or.inl ⟨by rfl, ?_⟩) (by assumption) ?_
  · (intro w hSw; (try dsimp only at hSw); go_simp)
  simp only [Act.put]
  refine wpAnyH_take (i := 3) (v := .int .i64 (X : Int)) rfl (by kernel_rfl) (by kernel_rfl) (by kernel_rfl) (fun _ _ _ h => h) (Or.inl ⟨by rfl, ?_⟩) (by assumption) ?_
  · (intro w hSw; (try dsimp only at hSw); go_simp)
  simp only [Act.put]
  have HBD := Lib.hid HB3.out.drew
  refine wpAnyH_ready (rs := [2]) (by kernel_rfl) (by simp) ?_
  refine AllReadyH.cons rfl (fun K hK => ?_) AllReadyH.nil
  go_simp
  go_at_call 159
  refine (HSV.out _ HBD.out).mono ?_
  rintro e w4 ⟨A4, cp4, rfl, hA4, hb4⟩
  have HA4 := Lib.hid hA4
  have hz4 := hb4.size
  simp at hz4
  have HB4 := Lib.hid (HBD.out.trans (hb4.mono (by simp; omega)))
  clear hA4
  refine hK.out _ _ (by rcases hHeld with ⟨q0, q1, q2⟩; exact ⟨(hb4.cell (p := ⟨w.heap.size, 0, none⟩) (by show w.heap.size < w3.heap.size; omega)).trans q0, (hb4.cell (p := ⟨w.heap.size, 1, none⟩) (by show w.heap.size < w3.heap.size; omega)).trans q1, q2.imp fun s h7 => h7.kept hb4 h7.lt⟩) (fun hHeld => ?_)
  clear hK K
  clear hb4
  refine wpAnyH_ready (rs := [4]) (by kernel_rfl) (by simp) ?_
  refine AllReadyH.cons rfl (fun K hK => ?_) AllReadyH.nil
  go_simp
  go_at_call 128
  refine (HC.out _ _ _ HB4.out HA4.out).mono ?_
  rintro e w5 ⟨rfl, hb5⟩
  have hz5 := hb5.size
  have HB5 := Lib.hid (HB4.out.trans (hb5.mono (by omega)))
  refine hK.out _ _ (by rcases hHeld with ⟨q0, q1, q2⟩; exact ⟨(hb5.cell (p := ⟨w.heap.size, 0, none⟩) (by dsimp only; omega)).trans q0, (hb5.cell (p := ⟨w.heap.size, 1, none⟩) (by dsimp only; omega)).trans q1, q2.imp fun s h7 => h7.kept hb5 h7.lt⟩) (fun hHeld => ?_)
  clear hK K
  clear hb5
  refine wpAnyH_ready (rs := [5]) (by kernel_rfl) (by simp) ?_
  refine AllReadyH.cons rfl (fun K hK => ?_) AllReadyH.nil
  obtain ⟨sx, hsx⟩ := hHeld.2.2
  refine stepE_store (by rfl) _ _ (by rfl) (by rfl) (w.heap.size + 1) (by rfl) (coB ps (bar vs true) (one X)) (by rfl) sx hsx ?_
  intro w6 he6 hg6 hz6
  have HE6 := Lib.hid he6
  refine hK.out _ _ (by rcases hHeld with ⟨q0, q1, q2⟩; exact ⟨(hg6.cell_far ⟨w.heap.size, 0, none⟩ (by dsimp only; omega) (by simp)).trans q0, (hg6.cell_far ⟨w.heap.size, 1, none⟩ (by dsimp only; omega) (by simp)).trans q1, _, he6⟩) (fun hHeld => ?_)
  clear hK K
  refine wpAnyH_ready (rs := [6]) (by kernel_rfl) (by simp) ?_
  refine AllReadyH.cons rfl (fun K hK => ?_) AllReadyH.nil
  go_simp
  refine hK.out _ _ (by first | assumption | go_keep) (fun hHeld => ?_)
  clear hK K
  refine wpAnyH_done (by kernel_rfl) ?_ _
  go_wp2_with fail
  have HB6 := Lib.hid (HB5.out.grown hg6 (by have := HB5.out.size; have := HZ.out; omega) (fun g hg => by simp at hg; omega))
  exact bodyPost_ret (v := .tuple #[ev (coB ps (bar vs true) (one X)), .bool true]) (resE2 (fn := Try.f133) rfl _ _ (w.heap.size + 1) (coB ps (bar vs true) (one X)) true rfl rfl he6) rfl ⟨rfl, HB6.out⟩

set_option maxHeartbeats 4000000 in
set_option maxRecDepth 100000 in
theorem drynodes_no (n : Int) (A : Option Addr) (cap : Nat) (ps : List Pp) (AV : Option Addr) (capv : Nat) (vs : List Vv) (x : Int) (w : World) (hs : ∀ w', Below w.heap.size w w' → Calls Try.prog 133 #[nv n A ps.length cap, .slice AV vs.length capv, .int .i64 x] w' (GivesE w' es0 false)) :
    Calls Try.prog 64 #[nv n A ps.length cap, .slice AV vs.length capv, .int .i64 x] w (GivesI w [] false) := by
  have HS := Lib.hid hs
  clear hs
  go_enter Try.func64, Try.ntmps64
  go_wp2_with (first
    | (go_at_call 133; refine (HS.out _ ((Below.refl _ _).alloc (Nat.le_refl _) _)).mono ?_; rintro e w1 ⟨rfl, hb1⟩; have HB1 := Lib.hid (((Below.refl w.heap.size w).alloc (Nat.le_refl _) (.cells #[.int .i64 n, .slice A ps.length cap] 32)).trans (hb1.mono (by simp))); clear hb1)
    | ((with_reducible refine wpE_alloc rfl rfl ?_); intro w2 he2 hb2 hz2; have E2 := Lib.hid he2; have HB2 := Lib.hid (HB1.out.trans (hb2.mono HB1.out.size)); clear he2 hb2 hz2)
    | ((with_reducible refine wpE_store rfl _ _ rfl rfl w1.heap.size rfl es0 rfl es0 E2.out ?_); intro w3 he3 hg3 hz3; have HB3 := Lib.hid (HB2.out.grown hg3 HB2.out.size (fun g hg => by have := HB1.out.size; simp at hg; omega)); clear he3 hg3 hz3))
  go_ret2
  exact gives_none HB3.out

set_option maxHeartbeats 4000000 in
set_option maxRecDepth 100000 in
theorem drynodes_yes (N : Nat) (A : Option Addr) (cap : Nat) (ps : List Pp) (AV : Option Addr) (capv : Nat) (vs : List Vv) (x : Int) (s : Nat → Bool) (w : World) (h : PAt w A ps) (hg : P2.Good N ps) (hs : ∀ w', Below w.heap.size w w' → Calls Try.prog 133 #[nv N A ps.length cap, .slice AV vs.length capv, .int .i64 x] w' (GivesE w' s true)) :
    Calls Try.prog 64 #[nv N A ps.length cap, .slice AV vs.length capv, .int .i64 x] w (GivesI w (nodesL N s false) true) := by
  have HS := Lib.hid hs
  have HN := Lib.hid (fun w' (hb : Below w.heap.size w w') => nodes_any N A cap ps s false w' (h.kept hb (Nat.le_refl _)) hg)
  clear hs h hg
  go_enter Try.func64, Try.ntmps64
  go_wp2_with (first
    | (go_at_call 133; refine (HS.out _ ((Below.refl _ _).alloc (Nat.le_refl _) _)).mono ?_; rintro e w1 ⟨rfl, hb1⟩; have hw1 : w.heap.size < w1.heap.size := (by have := hb1.size; simp at this; omega); have a0 := (hb1.cell (p := ⟨w.heap.size, 0, none⟩) (by simp)).trans (show (w.alloc (.cells #[.int .i64 (N : Int), .slice A ps.length cap] 32)).cell? ⟨w.heap.size, 0, none⟩ = some (.int .i64 (N : Int)) by go_simp); have a1 := (hb1.cell (p := ⟨w.heap.size, 1, none⟩) (by simp)).trans (show (w.alloc (.cells #[.int .i64 (N : Int), .slice A ps.length cap] 32)).cell? ⟨w.heap.size, 1, none⟩ = some (.slice A ps.length cap) by go_simp); have HB1 := Lib.hid (((Below.refl w.heap.size w).alloc (Nat.le_refl _) (.cells #[.int .i64 (N : Int), .slice A ps.length cap] 32)).trans (hb1.mono (by simp))); clear hb1)
    | ((with_reducible refine wpE_alloc rfl rfl ?_); intro w2 he2 hb2 hz2; have E2 := Lib.hid he2; have HX2 := Lib.hid hb2; clear he2 hb2 hz2)
    | ((with_reducible refine wpE_store rfl _ _ rfl rfl w1.heap.size rfl s rfl es0 E2.out ?_); intro w3 he3 hg3 hz3; have E3 := Lib.hid he3; have HX3 := Lib.hid hg3; clear he3 hg3 hz3; refine Hid.out ?_))
  have hz2 := HX2.out.size
  have HX23 := Lib.hid (show Below w1.heap.size w1 w3 from HX2.out.grown HX3.out hz2 (fun g hg => by simp at hg; omega))
  have b0 := (HX23.out.cell (p := ⟨w.heap.size, 0, none⟩) hw1).trans a0
  have b1 := (HX23.out.cell (p := ⟨w.heap.size, 1, none⟩) hw1).trans a1
  have HBW := Lib.hid (HB1.out.trans (HX23.out.mono (by omega)))
  clear a0 a1 HX2 HX3 HX23 E2
  refine Lib.hid ?_
  go_wp2_with (first
    | (with_reducible refine wpE_load rfl _ rfl w1.heap.size rfl s E3.out ?_)
    | (go_at_call 122; refine (HN.out _ HBW.out).mono ?_; rintro e w4 ⟨g, c, rfl, hg4, hO4, hb4⟩; have HO4 := Lib.hid hO4; have HB4 := Lib.hid (HBW.out.trans (hb4.mono HBW.out.size)); clear hO4 hb4))
  go_ret2
  exact ⟨g, c, rfl, by have := HBW.out.size; omega, own_lower HO4.out (by have := HBW.out.size; omega), HB4.out⟩

set_option maxHeartbeats 4000000 in
set_option maxRecDepth 100000 in
theorem drypipes_no (n : Int) (A : Option Addr) (cap : Nat) (ps : List Pp) (AV : Option Addr) (capv : Nat) (vs : List Vv) (x : Int) (w : World) (hs : ∀ w', Below w.heap.size w w' → Calls Try.prog 133 #[nv n A ps.length cap, .slice AV vs.length capv, .int .i64 x] w' (GivesE w' es0 false)) :
    Calls Try.prog 65 #[nv n A ps.length cap, .slice AV vs.length capv, .int .i64 x] w (GivesI w [] false) := by
  have HS := Lib.hid hs
  clear hs
  go_enter Try.func65, Try.ntmps65
  go_wp2_with (first
    | (go_at_call 133; refine (HS.out _ ((Below.refl _ _).alloc (Nat.le_refl _) _)).mono ?_; rintro e w1 ⟨rfl, hb1⟩; have HB1 := Lib.hid (((Below.refl w.heap.size w).alloc (Nat.le_refl _) (.cells #[.int .i64 n, .slice A ps.length cap] 32)).trans (hb1.mono (by simp))); clear hb1)
    | ((with_reducible refine wpE_alloc rfl rfl ?_); intro w2 he2 hb2 hz2; have E2 := Lib.hid he2; have HB2 := Lib.hid (HB1.out.trans (hb2.mono HB1.out.size)); clear he2 hb2 hz2)
    | ((with_reducible refine wpE_store rfl _ _ rfl rfl w1.heap.size rfl es0 rfl es0 E2.out ?_); intro w3 he3 hg3 hz3; have HB3 := Lib.hid (HB2.out.grown hg3 HB2.out.size (fun g hg => by have := HB1.out.size; simp at hg; omega)); clear he3 hg3 hz3))
  go_ret2
  exact gives_none HB3.out

set_option maxHeartbeats 4000000 in
set_option maxRecDepth 100000 in
theorem drypipes_yes (N : Nat) (A : Option Addr) (cap : Nat) (ps : List Pp) (AV : Option Addr) (capv : Nat) (vs : List Vv) (x : Int) (s : Nat → Bool) (w : World) (h : PAt w A ps) (hg : P2.Good N ps) (hs : ∀ w', Below w.heap.size w w' → Calls Try.prog 133 #[nv N A ps.length cap, .slice AV vs.length capv, .int .i64 x] w' (GivesE w' s true)) :
    Calls Try.prog 65 #[nv N A ps.length cap, .slice AV vs.length capv, .int .i64 x] w (GivesI w (pipesL ps ps.length s false) true) := by
  have HS := Lib.hid hs
  have HN := Lib.hid (fun w' (hb : Below w.heap.size w w') => pipes_any N A cap ps s false w' (h.kept hb (Nat.le_refl _)) hg)
  clear hs h hg
  go_enter Try.func65, Try.ntmps65
  go_wp2_with (first
    | (go_at_call 133; refine (HS.out _ ((Below.refl _ _).alloc (Nat.le_refl _) _)).mono ?_; rintro e w1 ⟨rfl, hb1⟩; have hw1 : w.heap.size < w1.heap.size := (by have := hb1.size; simp at this; omega); have a0 := (hb1.cell (p := ⟨w.heap.size, 0, none⟩) (by simp)).trans (show (w.alloc (.cells #[.int .i64 (N : Int), .slice A ps.length cap] 32)).cell? ⟨w.heap.size, 0, none⟩ = some (.int .i64 (N : Int)) by go_simp); have a1 := (hb1.cell (p := ⟨w.heap.size, 1, none⟩) (by simp)).trans (show (w.alloc (.cells #[.int .i64 (N : Int), .slice A ps.length cap] 32)).cell? ⟨w.heap.size, 1, none⟩ = some (.slice A ps.length cap) by go_simp); have HB1 := Lib.hid (((Below.refl w.heap.size w).alloc (Nat.le_refl _) (.cells #[.int .i64 (N : Int), .slice A ps.length cap] 32)).trans (hb1.mono (by simp))); clear hb1)
    | ((with_reducible refine wpE_alloc rfl rfl ?_); intro w2 he2 hb2 hz2; have E2 := Lib.hid he2; have HX2 := Lib.hid hb2; clear he2 hb2 hz2)
    | ((with_reducible refine wpE_store rfl _ _ rfl rfl w1.heap.size rfl s rfl es0 E2.out ?_); intro w3 he3 hg3 hz3; have E3 := Lib.hid he3; have HX3 := Lib.hid hg3; clear he3 hg3 hz3; refine Hid.out ?_))
  have hz2 := HX2.out.size
  have HX23 := Lib.hid (show Below w1.heap.size w1 w3 from HX2.out.grown HX3.out hz2 (fun g hg => by simp at hg; omega))
  have b0 := (HX23.out.cell (p := ⟨w.heap.size, 0, none⟩) hw1).trans a0
  have b1 := (HX23.out.cell (p := ⟨w.heap.size, 1, none⟩) hw1).trans a1
  have HBW := Lib.hid (HB1.out.trans (HX23.out.mono (by omega)))
  clear a0 a1 HX2 HX3 HX23 E2
  refine Lib.hid ?_
  go_wp2_with (first
    | (with_reducible refine wpE_load rfl _ rfl w1.heap.size rfl s E3.out ?_)
    | (go_at_call 106; refine (HN.out _ HBW.out).mono ?_; rintro e w4 ⟨g, c, rfl, hg4, hO4, hb4⟩; have HO4 := Lib.hid hO4; have HB4 := Lib.hid (HBW.out.trans (hb4.mono HBW.out.size)); clear hO4 hb4))
  go_ret2
  exact ⟨g, c, rfl, by have := HBW.out.size; omega, own_lower HO4.out (by have := HBW.out.size; omega), HB4.out⟩
end Go.Proofs.Ytbljmibaemgfeaa.S2
