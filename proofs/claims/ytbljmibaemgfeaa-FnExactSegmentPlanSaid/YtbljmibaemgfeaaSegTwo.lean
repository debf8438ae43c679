/- The segment of a pipe, and what is wet, as the program finds them: contracts. Conditions: each theorem's own premises. -/
import Derived.Test.YtbljmibaemgfeaaSegOne
import Derived.Test.YtbljmibaemgfeaaValIs
import Derived.Test.YtbljmibaemgfeaaNodeOne
namespace Go.Proofs.Ytbljmibaemgfeaa.S2
open Go.RowKit Go.Sort P2 P4

/-- A set beside a bool. -/
def GivesE (w : World) (s : Nat → Bool) (ok : Bool) (e : Ending) (w' : World) : Prop := e = .returned (.tuple #[ev s, .bool ok]) ∧ Below w.heap.size w w'
theorem validv_v {n : Int} {ps : List Pp} {vs : List Vv} {v : Bool} (hg : goodV n ps vs = v) (A : Option Addr) (cap : Nat) (AV : Option Addr) (capv : Nat) (w : World) (h : PAt w A ps) (hm : ps.length ≤ maxLen) (hv : VAt w AV vs) (hmv : vs.length ≤ maxLen) (hcv : vs.length ≤ capv) (hcm : capv ≤ maxLen) :
    Calls Try.prog 58 #[nv n A ps.length cap, .slice AV vs.length capv] w fun e w' => e = .returned (.bool v) ∧ Below w.heap.size w w' := by
  rw [← hg]; exact validv_any n A cap ps AV capv vs w h hm hv hmv hcv hcm
theorem build0E (w : World) : (Instr.build 96 #[]).run Try.prog w = .ok (ev es0) w := by
  have h : ev es0 = .agg #[.bool false, .bool false, .bool false, .bool false, .bool false, .bool false, .bool false, .bool false, .bool false, .bool false, .bool false, .bool false, .bool false, .bool false, .bool false, .bool false, .bool false, .bool false, .bool false] := rfl
  rw [h]
  exact run_build w 96 _ _ (by kernel_rfl)
theorem resE2 {fn : Func} {p q : Tmp} (h : fn.results = #[.cell p 96, .tmp q]) (tmps : Array Value) (w : World) (g : Nat) (s : Nat → Bool) (b : Bool)
    (hp : tmps.getD p undef = .pointer (some ⟨g, 0, none⟩)) (hq : tmps.getD q undef = .bool b) (he : ERow w g s) : (results fn tmps).run Try.prog w = .ok (.tuple #[ev s, .bool b]) w := by
  have hp' : tmps[p]?.getD undef = .pointer (some ⟨g, 0, none⟩) := by simpa using hp
  have hq' : tmps[q]?.getD undef = .bool b := by simpa using hq
  have hl := run_loadVar_row (P := Try.prog) w g 96 96 (ecells s) (0, 0) _ he Try.underlying96 rfl (infoE' s)
  simp [results, h, hp', hq', asAddr, hl]
section
variable {ops : Array Oper} {rest : List Oper} {o : Oper} {a : Act} {w : World} {Q : Exit → Act → World → Prop}
theorem wpE_store0 (hgd : o.guard = none) (x y : Operand) (ho : o.op = .store 96 x y) (hd : o.dst = none) (g : Nat) (hx : a.eval x = .pointer (some ⟨g, 0, none⟩)) (hy : a.eval y = .agg #[.bool false, .bool false, .bool false, .bool false, .bool false, .bool false, .bool false, .bool false, .bool false, .bool false, .bool false, .bool false, .bool false, .bool false, .bool false, .bool false, .bool false, .bool false, .bool false]) (s0 : Nat → Bool) (he : ERow w g s0)
    (h : ∀ w', ERow w' g es0 → w.grownBy w' (some g) → w'.heap.size = w.heap.size → wpList Try.prog ops Q rest a w') : wpList Try.prog ops Q (o :: rest) a w :=
  wpE_store hgd x y ho hd g hx es0 (hy.trans rfl) s0 he h
end
theorem place_no {ps : List Pp} {x : Int} {i : Nat} {f : Bool} (h : Place ps x i f) (hno : ∀ i, i < ps.length → (pAt ps i).id ≠ x) : f = false := by
  cases f with
  | false => rfl
  | true => obtain ⟨h1, h2⟩ := h.found.1 rfl; exact absurd h2 (hno i h1)

set_option maxHeartbeats 4000000 in
set_option maxRecDepth 100000 in
theorem segp_no1 (n : Int) (A : Option Addr) (cap : Nat) (ps : List Pp) (AV : Option Addr) (capv : Nat) (vs : List Vv) (x : Int) (w : World) (h : PAt w A ps) (hm : ps.length ≤ maxLen) (hv : VAt w AV vs) (hmv : vs.length ≤ maxLen) (hcv : vs.length ≤ capv) (hcm : capv ≤ maxLen) (hb : goodV n ps vs = false) :
    Calls Try.prog 121 #[nv n A ps.length cap, .slice AV vs.length capv, .int .i64 x] w (GivesE w es0 false) := by
  have H := Lib.hid (fun w' (hb' : Below w.heap.size w w') => validv_v hb A cap AV capv w' (h.kept hb' (Nat.le_refl _)) hm (hv.kept hb' (Nat.le_refl _)) hmv hcv hcm)
  clear h hm hv hmv hcv hcm hb
  go_enter Try.func121, Try.ntmps121
  go_wp2_with (((with_reducible refine wpE_alloc rfl rfl ?_); intro w1 he1 hb1 hz1; refine Hid.out ?_))
  have b0 : w1.cell? ⟨w.heap.size, 0, none⟩ = some (.int .i64 n) := (hb1.cell (p := ⟨w.heap.size, 0, none⟩) (by simp)).trans (by go_simp)
  have b1 : w1.cell? ⟨w.heap.size, 1, none⟩ = some (.slice A ps.length cap) := (hb1.cell (p := ⟨w.heap.size, 1, none⟩) (by simp)).trans (by go_simp)
  have E6 := Lib.hid (show ERow w1 (w.heap.size + 1) es0 from by simpa using he1)
  have HB1 := Lib.hid (show Below w.heap.size w w1 from ((Below.refl w.heap.size w).alloc (Nat.le_refl _) _).trans (hb1.mono (by simp)))
  have HZ := Lib.hid (show w1.heap.size = w.heap.size + 2 by simpa using hz1)
  have hl1 : w.heap.size < w1.heap.size := by have := HZ.out; omega
  clear he1 hb1 hz1
  refine Lib.hid ?_
  go_wp2_with (first
    | (go_at_call 58; refine (H.out _ HB1.out).mono ?_; rintro e w2 ⟨rfl, hb2⟩; have E62 := Lib.hid (E6.out.kept hb2 (by have := HZ.out; omega)); have HB2 := Lib.hid (HB1.out.trans (hb2.mono (by have := HZ.out; omega))); have c0 := (hb2.cell (p := ⟨w.heap.size, 0, none⟩) hl1).trans b0; have c1 := (hb2.cell (p := ⟨w.heap.size, 1, none⟩) hl1).trans b1; have hz2 := hb2.size; clear hb2)
    | ((with_reducible refine wpE_store0 rfl _ _ rfl rfl (w.heap.size + 1) rfl rfl es0 E62.out ?_); intro w6 he6 hg6 hz6))
  have HB6 := Lib.hid (HB2.out.grown hg6 (by have := HB2.out.size; have := HZ.out; omega) (fun g hg => by simp at hg; omega))
  exact bodyPost_ret (v := .tuple #[ev es0, .bool false]) (resE2 (fn := Try.f121) rfl _ _ (w.heap.size + 1) es0 false rfl rfl he6) rfl ⟨rfl, HB6.out⟩

set_option maxHeartbeats 4000000 in
set_option maxRecDepth 100000 in
theorem segp_no2 (n : Int) (A : Option Addr) (cap : Nat) (ps : List Pp) (AV : Option Addr) (capv : Nat) (vs : List Vv) (x : Int) (w : World) (h : PAt w A ps) (hm : ps.length ≤ maxLen) (hv : VAt w AV vs) (hmv : vs.length ≤ maxLen) (hcv : vs.length ≤ capv) (hcm : capv ≤ maxLen) (hb : goodV n ps vs = true) (hno : ∀ i, i < ps.length → (pAt ps i).id ≠ x) :
    Calls Try.prog 121 #[nv n A ps.length cap, .slice AV vs.length capv, .int .i64 x] w (GivesE w es0 false) := by
  have H := Lib.hid (fun w' (hb' : Below w.heap.size w w') => validv_v hb A cap AV capv w' (h.kept hb' (Nat.le_refl _)) hm (hv.kept hb' (Nat.le_refl _)) hmv hcv hcm)
  have HP := Lib.hid (fun w' (hb' : Below w.heap.size w w') => place_any n A cap ps x w' (h.kept hb' (Nat.le_refl _)) (goodV_of hb).1)
  have HNO := Lib.hid hno
  clear h hm hv hmv hcv hcm hb hno
  go_enter Try.func121, Try.ntmps121
  go_wp2_with (((with_reducible refine wpE_alloc rfl rfl ?_); intro w1 he1 hb1 hz1; refine Hid.out ?_))
  have b0 : w1.cell? ⟨w.heap.size, 0, none⟩ = some (.int .i64 n) := (hb1.cell (p := ⟨w.heap.size, 0, none⟩) (by simp)).trans (by go_simp)
  have b1 : w1.cell? ⟨w.heap.size, 1, none⟩ = some (.slice A ps.length cap) := (hb1.cell (p := ⟨w.heap.size, 1, none⟩) (by simp)).trans (by go_simp)
  have E6 := Lib.hid (show ERow w1 (w.heap.size + 1) es0 from by simpa using he1)
  have HB1 := Lib.hid (show Below w.heap.size w w1 from ((Below.refl w.heap.size w).alloc (Nat.le_refl _) _).trans (hb1.mono (by simp)))
  have HZ := Lib.hid (show w1.heap.size = w.heap.size + 2 by simpa using hz1)
  have hl1 : w.heap.size < w1.heap.size := by have := HZ.out; omega
  clear he1 hb1 hz1
  refine Lib.hid ?_
  go_wp2_with (first
    | (go_at_call 58; refine (H.out _ HB1.out).mono ?_; rintro e w2 ⟨rfl, hb2⟩; have E62 := Lib.hid (E6.out.kept hb2 (by have := HZ.out; omega)); have HB2 := Lib.hid (HB1.out.trans (hb2.mono (by have := HZ.out; omega))); have c0 := (hb2.cell (p := ⟨w.heap.size, 0, none⟩) hl1).trans b0; have c1 := (hb2.cell (p := ⟨w.heap.size, 1, none⟩) hl1).trans b1; have hz2 := hb2.size; clear hb2)
    | (go_at_call 144; refine (HP.out _ HB2.out).mono ?_; rintro e w3 ⟨⟨i, f, rfl, hp⟩, hb3⟩; have hf := place_no hp HNO.out; subst hf; have E63 := Lib.hid (E62.out.kept hb3 (by have := HZ.out; omega)); have HB3 := Lib.hid (HB2.out.trans (hb3.mono (by have := HZ.out; omega))); clear hb3 hp)
    | ((with_reducible refine wpE_store0 rfl _ _ rfl rfl (w.heap.size + 1) rfl rfl es0 E63.out ?_); intro w6 he6 hg6 hz6))
  have HB6 := Lib.hid (HB3.out.grown hg6 (by have := HB3.out.size; have := HZ.out; omega) (fun g hg => by simp at hg; omega))
  exact bodyPost_ret (v := .tuple #[ev es0, .bool false]) (resE2 (fn := Try.f121) rfl _ _ (w.heap.size + 1) es0 false rfl rfl he6) rfl ⟨rfl, HB6.out⟩

set_option maxHeartbeats 4000000 in
set_option maxRecDepth 100000 in
theorem segp_yes (n : Int) (A : Option Addr) (cap : Nat) (ps : List Pp) (AV : Option Addr) (capv : Nat) (vs : List Vv) (x : Int) (w : World) (h : PAt w A ps) (hm : ps.length ≤ maxLen) (hv : VAt w AV vs) (hmv : vs.length ≤ maxLen) (hcv : vs.length ≤ capv) (hcm : capv ≤ maxLen) (hb : goodV n ps vs = true) (i : Nat) (hi : At ps x i) :
    Calls Try.prog 121 #[nv n A ps.length cap, .slice AV vs.length capv, .int .i64 x] w (GivesE w (coB ps vs (one (9 + i))) true) := by
  have H := Lib.hid (fun w' (hb' : Below w.heap.size w w') => validv_v hb A cap AV capv w' (h.kept hb' (Nat.le_refl _)) hm (hv.kept hb' (Nat.le_refl _)) hmv hcv hcm)
  have HP := Lib.hid (fun w' (hb' : Below w.heap.size w w') => place_any n A cap ps x w' (h.kept hb' (Nat.le_refl _)) (goodV_of hb).1)
  have HC := Lib.hid (fun s w' (hb' : Below w.heap.size w w') => conel_any n A cap ps AV capv vs s w' (h.kept hb' (Nat.le_refl _)) (hv.kept hb' (Nat.le_refl _)) (goodV_of hb).1 (goodV_of hb).2.1)
  have HS := Lib.hid (good_ids (goodV_of hb).1)
  have HI := Lib.hid hi
  have hl10 := (goodV_of hb).1.2.2.1
  have hil := hi.1
  clear h hm hv hmv hcv hcm hb hi
  go_enter Try.func121, Try.ntmps121
  go_wp2_with (((with_reducible refine wpE_alloc rfl rfl ?_); intro w1 he1 hb1 hz1; refine Hid.out ?_))
  have b0 : w1.cell? ⟨w.heap.size, 0, none⟩ = some (.int .i64 n) := (hb1.cell (p := ⟨w.heap.size, 0, none⟩) (by simp)).trans (by go_simp)
  have b1 : w1.cell? ⟨w.heap.size, 1, none⟩ = some (.slice A ps.length cap) := (hb1.cell (p := ⟨w.heap.size, 1, none⟩) (by simp)).trans (by go_simp)
  have E6 := Lib.hid (show ERow w1 (w.heap.size + 1) es0 from by simpa using he1)
  have HB1 := Lib.hid (show Below w.heap.size w w1 from ((Below.refl w.heap.size w).alloc (Nat.le_refl _) _).trans (hb1.mono (by simp)))
  have HZ := Lib.hid (show w1.heap.size = w.heap.size + 2 by simpa using hz1)
  have hl1 : w.heap.size < w1.heap.size := by have := HZ.out; omega
  clear he1 hb1 hz1
  refine Lib.hid ?_
  go_wp2_with (first
    | (go_at_call 58; refine (H.out _ HB1.out).mono ?_; rintro e w2 ⟨rfl, hb2⟩; have E62 := Lib.hid (E6.out.kept hb2 (by have := HZ.out; omega)); have HB2 := Lib.hid (HB1.out.trans (hb2.mono (by have := HZ.out; omega))); have c0 := (hb2.cell (p := ⟨w.heap.size, 0, none⟩) hl1).trans b0; have c1 := (hb2.cell (p := ⟨w.heap.size, 1, none⟩) hl1).trans b1; have hz2 := hb2.size; clear hb2)
    | (go_at_call 144; refine (HP.out _ HB2.out).mono ?_; rintro e w3 ⟨⟨j, f, rfl, hp⟩, hb3⟩; refine Hid.out ?_))
  obtain ⟨hf, hij⟩ := place_uniq HS.out hp HI.out.1 HI.out.2
  subst hf
  subst hij
  have hi0 : (0 : Int) ≤ (i : Int) := by omega
  have hi9 : (i : Int) < 10 := by omega
  have E63 := Lib.hid (E62.out.kept hb3 (by have := HZ.out; omega))
  have HB3 := Lib.hid (HB2.out.trans (hb3.mono (by have := HZ.out; omega)))
  have hz3 := hb3.size
  have d0 := (hb3.cell (p := ⟨w.heap.size, 0, none⟩) (by dsimp only; omega)).trans c0
  have d1 := (hb3.cell (p := ⟨w.heap.size, 1, none⟩) (by dsimp only; omega)).trans c1
  clear hb3 hp b0 b1 c0 c1
  refine Lib.hid ?_
  go_wp2_with (((with_reducible refine wpE_alloc rfl rfl ?_); intro w4 he4 hb4 hz4; refine Hid.out ?_))
  have E64 := Lib.hid (E63.out.kept hb4 (by have := HZ.out; omega))
  have HB4 := Lib.hid (HB3.out.trans (hb4.mono (by have := HB3.out.size; omega)))
  have e0 := (hb4.cell (p := ⟨w.heap.size, 0, none⟩) (by dsimp only; omega)).trans d0
  have e1 := (hb4.cell (p := ⟨w.heap.size, 1, none⟩) (by dsimp only; omega)).trans d1
  obtain ⟨G, hG⟩ : ∃ G, G = w3.heap.size := ⟨_, rfl⟩
  rw [← hG] at he4
  have hGw : w.heap.size + 2 ≤ G := by have := HZ.out; omega
  have ce := he4.cell (9 + i) (by omega)
  have cf := he4.frozen (9 + i)
  have hon : P4.upd es0 (9 + i) true = one (9 + i) := by funext q; simp [P4.upd, one, es0]
  have ES := Lib.hid (show ERow (w4.setCell ⟨G, 9 + i, none⟩ (.bool true)) G (one (9 + i)) from by rw [← hon]; exact he4.set (9 + i) true (by omega))
  have HBS := Lib.hid (HB4.out.setCell (p := ⟨G, 9 + i, none⟩) (by show w.heap.size ≤ G; omega) (.bool true))
  have E65 := Lib.hid (E64.out.far (c := G) (i := 9 + i) (v := .bool true) (by omega))
  have hGl := he4.lt
  rw [← hG]
  clear hon d0 d1 hG he4 hb4
  refine Lib.hid ?_
  go_wp2_with (first
    | (with_reducible refine wpE_load rfl _ rfl G rfl (one (9 + i)) ES.out ?_)
    | (go_at_call 138; refine (HC.out (one (9 + i)) _ HBS.out).mono ?_; rintro e w5 ⟨rfl, hb5⟩; have E66 := Lib.hid (E65.out.kept hb5 (by simp; omega)); have HB5 := Lib.hid (HBS.out.trans (hb5.mono (by simp; omega))); clear hb5)
    | ((with_reducible refine wpE_store rfl _ _ rfl rfl (w.heap.size + 1) rfl (coB ps vs (one (9 + i))) rfl es0 E66.out ?_); intro w6 he6 hg6 hz6))
  have HB6 := Lib.hid (HB5.out.grown hg6 (by have := HB5.out.size; have := HZ.out; omega) (fun g hg => by simp at hg; omega))
  exact bodyPost_ret (v := .tuple #[ev (coB ps vs (one (9 + i))), .bool true]) (resE2 (fn := Try.f121) rfl _ _ (w.heap.size + 1) (coB ps vs (one (9 + i))) true rfl rfl he6) rfl ⟨rfl, HB6.out⟩

end Go.Proofs.Ytbljmibaemgfeaa.S2
