/- The nodes and pipes in a set, and what is connected with a node, as the program tells it: contracts. Conditions: each theorem's own premises. -/
import Derived.Test.YtbljmibaemgfeaaConEl
import Derived.Test.YtbljmibaemgfeaaIntsOne
import Derived.Test.YtbljmibaemgfeaaFindOne
import Derived.Deep.DeepCutAuto
namespace Go.Proofs.Ytbljmibaemgfeaa.S2
open Go.RowKit Go.Sort P2 P4

/-- A slice of numbers of the call's own. -/
def GivesN (w : World) (l : List Int) (e : Ending) (w' : World) : Prop :=
  ∃ g cap, e = .returned (.slice (some ⟨g, 0, none⟩) l.length cap) ∧ w.heap.size ≤ g ∧ IOwn w' w.heap.size (.slice (some ⟨g, 0, none⟩) l.length cap) l ∧ Below w.heap.size w w'
theorem nodesL_step (m : Nat) (s : Nat → Bool) (b : Bool) (h : 1 ≤ m) : nodesL m s b = if s m = b then nodesL (m - 1) s b ++ [(m : Int)] else nodesL (m - 1) s b := by
  obtain ⟨k, rfl⟩ : ∃ k, m = k + 1 := ⟨m - 1, by omega⟩
  rw [nodesL_succ]; rfl
theorem own_nn {w : World} {B : Nat} {v : Value} {l : List Int} (h : IOwn w B v l) (hv : v ≠ .slice none 0 0) : ∃ g cap, v = .slice (some ⟨g, 0, none⟩) l.length cap ∧ B ≤ g := own_slice h hv
theorem cell_newP (w : World) (P : Obj) (x : Value) (t : TypeId) : ∀ j u, [x][j]? = some u → ((w.alloc P).alloc (.cells #[x] t)).cell? ((⟨w.heap.size + 1, 0, none⟩ : Addr).add j) = some u := by
  have h := cell_one_new (w.alloc P) x t
  rwa [show (w.alloc P).heap.size = w.heap.size + 1 by simp] at h

set_option maxHeartbeats 4000000 in
set_option maxRecDepth 100000 in
theorem nodes_any (N : Nat) (A : Option Addr) (cap : Nat) (ps : List Pp) (s : Nat → Bool) (ins : Bool) (w : World) (h : PAt w A ps) (hg : P2.Good N ps) :
    Calls Try.prog 122 #[nv N A ps.length cap, ev s, .bool ins] w (GivesN w (nodesL N s ins)) := by
  have HA := Lib.hid h
  have hl10 := hg.2.2.1
  have hN1 := hg.1
  have hN8 := hg.2.1
  have HG := Lib.hid hg
  obtain ⟨i0, hi0, hz0, hz1, hz2⟩ := info_parts infoI
  clear h hg
  obtain ⟨W2, hW2⟩ : ∃ W2, W2 = (w.alloc (.cells #[.int .i64 (N : Int), .slice A ps.length cap] 32)).alloc (.cells (ecells s) 96) := ⟨_, rfl⟩
  have hzW : W2.heap.size = w.heap.size + 2 := by rw [hW2]; simp
  have b0 : W2.cell? ⟨w.heap.size, 0, none⟩ = some (.int .i64 (N : Int)) := by rw [hW2]; go_simp
  have b1 : W2.cell? ⟨w.heap.size, 1, none⟩ = some (.slice A ps.length cap) := by rw [hW2]; go_simp
  have HE := Lib.hid (show ERow W2 (w.heap.size + 1) s from by
    have h1 := ERow.new (w.alloc (.cells #[.int .i64 (N : Int), .slice A ps.length cap] 32)) s
    rw [hW2]; simpa using h1)
  have HBW := Lib.hid (show Below w.heap.size w W2 from by rw [hW2]; exact ((Below.refl _ _).alloc (Nat.le_refl _) _).alloc (by simp) _)
  have HO0 := Lib.hid (own_empty W2 (w.heap.size + 2) (by omega))
  have hW0 : w.heap.size < W2.heap.size := by omega
  have hW1 : w.heap.size + 1 < W2.heap.size := by omega
  have HZW := Lib.hid hzW
  have HW2 := Lib.hid hW2
  clear hW2 hzW
  go_enter Try.func122, Try.ntmps122
  go_upto_region 1 with (fail)
  rw [← HW2.out]
  clear HW2
  go_wp2_with fail
  go_loopw [7, 8] (fun v i wr => ∃ m : Nat, 1 ≤ m ∧ m ≤ N + 1 ∧ i = .int .i64 (m : Int) ∧ Hid (IOwn wr (w.heap.size + 2) v (nodesL (m - 1) s ins)) ∧ Hid (v ≠ .slice none 0 0) ∧ Hid (Below (w.heap.size + 2) W2 wr)) (fun _ i _ => N + 1 - (intOf i).toNat)
  case atStart => exact ⟨1, by omega, by omega, rfl, HO0, Lib.hid (by simp), Lib.hid ((Below.refl _ _).alloc (by have := HZW.out; omega) _)⟩
  case round =>
    obtain ⟨m, hm1, hmN, rfl, hown, hvn, hb⟩ := hrel
    have c0 := (hb.out.cell (p := ⟨w.heap.size, 0, none⟩) (by dsimp only; omega)).trans b0
    have hz := hb.out.size
    by_cases hlt : m ≤ N
    · have hmi : (m : Int) ≤ (N : Int) := by omega
      have hm0 : (0 : Int) ≤ (m : Int) := by omega
      have hm9 : (m : Int) < 9 := by omega
      have ce := (hb.out.cell (p := ⟨w.heap.size + 1, m, none⟩) (by dsimp only; omega)).trans (HE.out.cell m (by omega))
      obtain ⟨sm, hsm⟩ : ∃ sm, s m = sm := ⟨_, rfl⟩
      rw [hsm] at ce
      have HSM := Lib.hid hsm
      have hil := nodesL_len (m - 1) s ins
      clear hsm
      by_cases hd : sm = ins
      · have hD : (sm == ins) = true := by simpa using hd
        have HN := Lib.hid (show nodesL m s ins = nodesL (m - 1) s ins ++ [(m : Int)] by rw [nodesL_step m s ins hm1, if_pos (by rw [HSM.out]; exact hd)])
        have ho := hown.out
        unfold IOwn at ho
        clear hd
        go_wp2_with (at_builtin; go_must (refine wpList_append_own _ rfl _ _ 26 rfl (w.heap.size + 2) 3 i0 (.int .i64 0) 1 8 Try.underlying26 hi0 hz0 hz1 hz2 rfl (by decide) _ _ _ rfl (ho.alloc _) ⟨wr.heap.size, 0, none⟩ 1 1 [iv (m : Int)] rfl rfl (cell_one_new _ _ _) ?c2 ?c3 ?c4 ?c5 ?_))
        case c2 => intro u hu; simp at hu; subst hu; rfl
        case c3 => unfold maxLen; omega
        case c4 => omega
        case c5 => have := HZW.out; simp; omega
        intro v' w3 hown' hgrow hnil
        have hown3 := Lib.hid (IOwn.push hown')
        rw [← HN.out] at hown3
        have hB3 := Lib.hid ((hb.out.alloc (by have := HZW.out; omega) _).grown hgrow (by have := HZW.out; simp; omega) (fun g hg => (ho.lt g hg).1))
        have hvn3 := Lib.hid (show v' ≠ .slice none 0 0 from fun e => hnil e)
        clear hown' hgrow hnil ho
        go_wp2_with fail
        go_roundw
        case rel => exact ⟨m + 1, by omega, by omega, by go_num, hown3, hvn3, hB3⟩
        case measure => simp [intOf]; omega
      · have hD : (sm == ins) = false := by simpa using hd
        have HN := Lib.hid (show nodesL m s ins = nodesL (m - 1) s ins by rw [nodesL_step m s ins hm1, if_neg (by rw [HSM.out]; exact hd)])
        have hown3 := hown
        rw [← HN.out] at hown3
        clear hd hown
        go_wp2_with fail
        go_roundw
        case rel => exact ⟨m + 1, by omega, by omega, by go_num, hown3, hvn, hb⟩
        case measure => simp [intOf]; omega
    · have hmN2 : m = N + 1 := by omega
      have hNm : (N : Int) < (m : Int) := by omega
      have hfin : nodesL (m - 1) s ins = nodesL N s ins := by rw [hmN2]; rfl
      rw [hfin] at hown
      obtain ⟨g, capg, rfl, hg⟩ := own_slice hown.out hvn.out
      clear hfin hmN2
      go_wp2_with fail
      go_ret
      exact ⟨g, capg, rfl, by omega, own_lower hown.out, HBW.out.trans (hb.out.mono (by omega))⟩

set_option maxHeartbeats 4000000 in
set_option maxRecDepth 100000 in
theorem pipes_any (N : Nat) (A : Option Addr) (cap : Nat) (ps : List Pp) (s : Nat → Bool) (ins : Bool) (w : World) (h : PAt w A ps) (hg : P2.Good N ps) :
    Calls Try.prog 106 #[nv N A ps.length cap, ev s, .bool ins] w (GivesN w (pipesL ps ps.length s ins)) := by
  have HA := Lib.hid h
  have hl10 := hg.2.2.1
  have hN1 := hg.1
  have hN8 := hg.2.1
  have HG := Lib.hid hg
  obtain ⟨i0, hi0, hz0, hz1, hz2⟩ := info_parts infoI
  clear h hg
  obtain ⟨W2, hW2⟩ : ∃ W2, W2 = (w.alloc (.cells #[.int .i64 (N : Int), .slice A ps.length cap] 32)).alloc (.cells (ecells s) 96) := ⟨_, rfl⟩
  have hzW : W2.heap.size = w.heap.size + 2 := by rw [hW2]; simp
  have b0 : W2.cell? ⟨w.heap.size, 0, none⟩ = some (.int .i64 (N : Int)) := by rw [hW2]; go_simp
  have b1 : W2.cell? ⟨w.heap.size, 1, none⟩ = some (.slice A ps.length cap) := by rw [hW2]; go_simp
  have HE := Lib.hid (show ERow W2 (w.heap.size + 1) s from by
    have h1 := ERow.new (w.alloc (.cells #[.int .i64 (N : Int), .slice A ps.length cap] 32)) s
    rw [hW2]; simpa using h1)
  have HBW := Lib.hid (show Below w.heap.size w W2 from by rw [hW2]; exact ((Below.refl _ _).alloc (Nat.le_refl _) _).alloc (by simp) _)
  have HO0 := Lib.hid (own_empty W2 (w.heap.size + 2) (by omega))
  have hW0 : w.heap.size < W2.heap.size := by omega
  have hW1 : w.heap.size + 1 < W2.heap.size := by omega
  have HZW := Lib.hid hzW
  have HW2 := Lib.hid hW2
  clear hW2 hzW
  go_enter Try.func106, Try.ntmps106
  go_upto_region 1 with (fail)
  rw [← HW2.out]
  clear HW2
  go_wp2_with fail
  go_loopw [7, 14] (fun v i wr => ∃ m : Nat, m ≤ ps.length ∧ i = .int .i64 (m : Int) ∧ Hid (IOwn wr (w.heap.size + 2) v (pipesL ps m s ins)) ∧ Hid (v ≠ .slice none 0 0) ∧ Hid (Below (w.heap.size + 2) W2 wr)) (fun _ i _ => ps.length - (intOf i).toNat)
  case atStart => exact ⟨0, by omega, rfl, HO0, Lib.hid (by simp), Lib.hid ((Below.refl _ _).alloc (by have := HZW.out; omega) _)⟩
  case round =>
    obtain ⟨m, hmN, rfl, hown, hvn, hb⟩ := hrel
    have hz := hb.out.size
    by_cases hlt : m < ps.length
    · obtain ⟨b, off, hA, hbl, h0, h1, h2, h3⟩ := (HA.out.kept (HBW.out.trans (hb.out.mono (by omega))) (Nat.le_refl _)).at_ hlt
      subst hA
      have hm0 : (0 : Int) ≤ (m : Int) := by omega
      have hm9 : (m : Int) < 10 := by omega
      have hmn : (m : Int) < (ps.length : Int) := by omega
      have ce := (hb.out.cell (p := ⟨w.heap.size + 1, 9 + m, none⟩) (by dsimp only; omega)).trans (HE.out.cell (9 + m) (by omega))
      have hwr1 : w.heap.size + 1 < wr.heap.size := by omega
      obtain ⟨sm, hsm⟩ : ∃ sm, s (9 + m) = sm := ⟨_, rfl⟩
      rw [hsm] at ce
      have HSM := Lib.hid hsm
      have hil := pipesL_len ps m s ins
      clear hsm
      by_cases hd : sm = ins
      · have hD : (sm == ins) = true := by simpa using hd
        have HN := Lib.hid (show pipesL ps (m + 1) s ins = pipesL ps m s ins ++ [(pAt ps m).id] by rw [pipesL_succ, if_pos (by rw [HSM.out]; exact hd)])
        have ho := hown.out
        unfold IOwn at ho
        clear hd
        generalize pAt ps m = p at *
        go_wp2_with (at_builtin; go_must (refine wpList_append_own _ rfl _ _ 26 rfl (w.heap.size + 2) 3 i0 (.int .i64 0) 1 8 Try.underlying26 hi0 hz0 hz1 hz2 rfl (by decide) _ _ _ rfl ((ho.alloc _).alloc _) ⟨wr.heap.size + 1, 0, none⟩ 1 1 [iv p.id] rfl rfl (cell_newP _ _ _ _) ?d2 ?d3 ?d4 ?d5 ?_))
        case d2 => intro u hu; simp at hu; subst hu; rfl
        case d3 => unfold maxLen; omega
        case d4 => omega
        case d5 => have := HZW.out; simp; omega
        intro v' w3 hown' hgrow hnil
        have hown3 := Lib.hid (IOwn.push hown')
        rw [← HN.out] at hown3
        have hB3 := Lib.hid (((hb.out.alloc (by have := HZW.out; omega) _).alloc (by have := HZW.out; simp; omega) _).grown hgrow (by have := HZW.out; simp; omega) (fun g hg => (ho.lt g hg).1))
        have hvn3 := Lib.hid (show v' ≠ .slice none 0 0 from fun e => hnil e)
        clear hown' hgrow hnil ho
        go_wp2_with fail
        go_roundw
        case rel => exact ⟨m + 1, by omega, by go_num, hown3, hvn3, hB3⟩
        case measure => simp [intOf]; omega
      · have hD : (sm == ins) = false := by simpa using hd
        have HN := Lib.hid (show pipesL ps (m + 1) s ins = pipesL ps m s ins by rw [pipesL_succ, if_neg (by rw [HSM.out]; exact hd)])
        have hown3 := Lib.hid (show IOwn (wr.alloc (.cells #[.int .i64 (pAt ps m).id, .int .i64 (pAt ps m).fr, .int .i64 (pAt ps m).to, .int .i64 (pAt ps m).sz] 72)) (w.heap.size + 2) _ (pipesL ps (m + 1) s ins) from by rw [HN.out]; exact hown.out.on ((Below.refl _ _).alloc (Nat.le_refl _) _))
        have hB3 := Lib.hid (hb.out.alloc (by have := HZW.out; omega) (.cells #[.int .i64 (pAt ps m).id, .int .i64 (pAt ps m).fr, .int .i64 (pAt ps m).to, .int .i64 (pAt ps m).sz] 72))
        clear hd hown HN
        generalize pAt ps m = p at *
        go_wp2_with fail
        go_roundw
        case rel => exact ⟨m + 1, by omega, by go_num, hown3, hvn, hB3⟩
        case measure => simp [intOf]; omega
    · have hmN2 : m = ps.length := by omega
      have hfin : pipesL ps m s ins = pipesL ps ps.length s ins := by rw [hmN2]
      rw [hfin] at hown
      obtain ⟨g, capg, rfl, hg⟩ := own_slice hown.out hvn.out
      clear hfin hmN2
      go_wp2_with fail
      go_ret
      exact ⟨g, capg, rfl, by omega, own_lower hown.out, HBW.out.trans (hb.out.mono (by omega))⟩

/-- The place of a pipe. -/
def At (ps : List Pp) (x : Int) (i : Nat) : Prop := i < ps.length ∧ (pAt ps i).id = x
set_option maxHeartbeats 2000000 in
theorem haspipe_any (N : Nat) (A : Option Addr) (cap : Nat) (ps : List Pp) (s : Nat → Bool) (x : Int) (i : Nat) (w : World) (h : PAt w A ps) (hg : P2.Good N ps) (hi : At ps x i) :
    Calls Try.prog 129 #[nv N A ps.length cap, ev s, .int .i64 x] w fun e w' => e = .returned (.bool (s (9 + i))) ∧ Below w.heap.size w w' := by
  have HP := Lib.hid (fun w' (hb : Below w.heap.size w w') => place_any N A cap ps x w' (h.kept hb (Nat.le_refl _)) hg)
  have HS := Lib.hid (good_ids hg)
  have HI := Lib.hid hi
  have hl10 := hg.2.2.1
  have HB := Lib.hid (show Below w.heap.size w ((w.alloc (.cells #[.int .i64 (N : Int), .slice A ps.length cap] 32)).alloc (.cells (ecells s) 96)) from ((Below.refl _ _).alloc (Nat.le_refl _) _).alloc (by simp) _)
  have HE := Lib.hid (show ERow ((w.alloc (.cells #[.int .i64 (N : Int), .slice A ps.length cap] 32)).alloc (.cells (ecells s) 96)) (w.heap.size + 1) s from by
    have h1 := ERow.new (w.alloc (.cells #[.int .i64 (N : Int), .slice A ps.length cap] 32)) s
    simpa using h1)
  clear h hg hi
  go_enter Try.func129, Try.ntmps129
  go_wp2_with (go_at_call 144; refine (HP.out _ HB.out).mono ?_; rintro e w1 ⟨⟨j, f, rfl, hp⟩, hb1⟩; refine Hid.out ?_)
  have hij : i = j := by
    obtain ⟨h1, h2⟩ := HI.out
    have hik : ¬ i < j := fun hlt => by have := hp.low i hlt; omega
    have hle : j < ps.length := by omega
    have hge := hp.high j (Nat.le_refl _) hle
    exact Classical.byContradiction fun hne => by have := HS.out j i (by omega) h1; omega
  have hil := HI.out.1
  subst hij
  have hi0 : (0 : Int) ≤ (i : Int) := by omega
  have hi9 : (i : Int) < 10 := by omega
  have ce := (HE.out.kept hb1 HE.out.lt).cell (9 + i) (by omega)
  have HB1 := Lib.hid (HB.out.trans (hb1.mono (by simp; omega)))
  clear hp hb1
  refine Lib.hid ?_
  go_wp2_with fail
  go_ret
  exact ⟨rfl, HB1.out⟩

set_option maxHeartbeats 4000000 in
set_option maxRecDepth 100000 in
theorem conwith_any (N : Nat) (A : Option Addr) (cap : Nat) (ps : List Pp) (AV : Option Addr) (capv : Nat) (vs : List Vv) (v : Nat) (w : World) (h : PAt w A ps) (hv : VAt w AV vs) (hg : P2.Good N ps) (hvl : vs.length ≤ 10) (hv9 : v < 9) :
    Calls Try.prog 128 #[nv N A ps.length cap, .slice AV vs.length capv, .int .i64 (v : Int)] w fun e w' => e = .returned (ev (coB ps vs (one v))) ∧ Below w.heap.size w w' := by
  have HC := Lib.hid (fun s w' (hb : Below w.heap.size w w') => conel_any N A cap ps AV capv vs s w' (h.kept hb (Nat.le_refl _)) (hv.kept hb (Nat.le_refl _)) hg hvl)
  have hv0 : (0 : Int) ≤ (v : Int) := by omega
  have hvi : (v : Int) < 9 := by omega
  clear h hv hg
  go_enter Try.func128, Try.ntmps128
  go_wp2_with (((with_reducible refine wpE_alloc rfl rfl ?_); intro w1 he1 hb1 hz1; refine Hid.out ?_))
  have b0 : w1.cell? ⟨w.heap.size, 0, none⟩ = some (.int .i64 (N : Int)) := (hb1.cell (p := ⟨w.heap.size, 0, none⟩) (by simp)).trans (by go_simp)
  have b1 : w1.cell? ⟨w.heap.size, 1, none⟩ = some (.slice A ps.length cap) := (hb1.cell (p := ⟨w.heap.size, 1, none⟩) (by simp)).trans (by go_simp)
  have E6 := Lib.hid (show ERow w1 (w.heap.size + 1) es0 from by simpa using he1)
  have HB1 := Lib.hid (show Below w.heap.size w w1 from ((Below.refl w.heap.size w).alloc (Nat.le_refl _) _).trans (hb1.mono (by simp)))
  have HZ := Lib.hid (show w1.heap.size = w.heap.size + 2 by simpa using hz1)
  clear he1 hb1 hz1
  refine Lib.hid ?_
  go_wp2_with (((with_reducible refine wpE_alloc rfl rfl ?_); intro w2 he2 hb2 hz2; refine Hid.out ?_))
  have c0 := (hb2.cell (p := ⟨w.heap.size, 0, none⟩) (by have := HZ.out; dsimp only; omega)).trans b0
  have c1 := (hb2.cell (p := ⟨w.heap.size, 1, none⟩) (by have := HZ.out; dsimp only; omega)).trans b1
  have E62 := Lib.hid (E6.out.kept hb2 (by have := HZ.out; omega))
  have HB2 := Lib.hid (HB1.out.trans (hb2.mono (by have := HZ.out; omega)))
  have E7 := Lib.hid (show ERow w2 (w.heap.size + 2) es0 from by have h1 := he2; rw [HZ.out] at h1; exact h1)
  have hzz : w1.heap.size = w.heap.size + 2 := HZ.out
  rw [hzz]
  clear he2 hb2 hz2 b0 b1 E6 HB1 HZ hzz
  have ce := E7.out.cell v (by omega)
  have cf := E7.out.frozen v
  have ES := Lib.hid (E7.out.set v true (by omega))
  have hon : P4.upd es0 v true = one v := by funext x; simp [P4.upd, one, es0]
  rw [hon] at ES
  have HBS := Lib.hid (HB2.out.setCell (p := ⟨w.heap.size + 2, v, none⟩) (by show w.heap.size ≤ w.heap.size + 2; omega) (.bool true))
  have E63 := Lib.hid (E62.out.far (c := w.heap.size + 2) (i := v) (v := .bool true) (by omega))
  have hz2 := E7.out.lt
  clear hon
  refine Lib.hid ?_
  go_wp2_with (first
    | (with_reducible refine wpE_load rfl _ rfl (w.heap.size + 2) rfl (one v) ES.out ?_)
    | (go_at_call 138; refine (HC.out (one v) _ HBS.out).mono ?_; rintro e w4 ⟨rfl, hb4⟩; have E64 := Lib.hid (E63.out.kept hb4 (by simp; omega)); have HB4 := Lib.hid (HBS.out.trans (hb4.mono (by simp; omega))); clear hb4)
    | ((with_reducible refine wpE_store rfl _ _ rfl rfl (w.heap.size + 1) rfl (coB ps vs (one v)) rfl es0 E64.out ?_); intro w6 he6 hg6 hz6))
  have HB6 := Lib.hid (HB4.out.grown hg6 (by have := HB4.out.size; omega) (fun g hg => by simp at hg; omega))
  exact bodyPost_ret (v := ev (coB ps vs (one v))) (results_cell_row (fn := Try.f128) rfl _ _ (w.heap.size + 1) 96 (ecells (coB ps vs (one v))) (0, 0) _ rfl he6 Try.underlying96 rfl (infoE' _)) rfl ⟨rfl, HB6.out⟩
end Go.Proofs.Ytbljmibaemgfeaa.S2
