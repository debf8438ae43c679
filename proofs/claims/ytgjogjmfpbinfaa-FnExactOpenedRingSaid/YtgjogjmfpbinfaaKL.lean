/- The model's LoopOf: contracts. Conditions: each theorem's own premises. -/
import Derived.Test.YtgjogjmfpbinfaaKR
import Derived.Test.YtgjogjmfpbinfaaRgKit
import Derived.OwnWalk
namespace Go.Proofs.Ytgjogjmfpbinfaa.S2
open Go.RowKit P2

/-- The Ids of the pipes with a sign, up to the k-th. -/
def loI (ps : List Pp) (sg : List Int) (k : Nat) : List Int := ((List.range k).filter (fun j => dA sg j != 0)).map (fun j => (pAt ps j).id)
/-- Their signs. -/
def loS (sg : List Int) (k : Nat) : List Int := ((List.range k).filter (fun j => dA sg j != 0)).map (fun j => dA sg j)
theorem loI_len (ps : List Pp) (sg : List Int) (k : Nat) : (loI ps sg k).length ≤ k := by
  unfold loI; rw [List.length_map]; exact Nat.le_trans (List.length_filter_le _ _) (by simp)
theorem loS_len (sg : List Int) (k : Nat) : (loS sg k).length ≤ k := by
  unfold loS; rw [List.length_map]; exact Nat.le_trans (List.length_filter_le _ _) (by simp)
theorem loI_no {ps : List Pp} {sg : List Int} {k : Nat} (h : dA sg k = 0) : loI ps sg (k + 1) = loI ps sg k := by
  unfold loI; rw [List.range_succ, List.filter_append]; simp [h]
theorem loI_yes {ps : List Pp} {sg : List Int} {k : Nat} (h : dA sg k ≠ 0) : loI ps sg (k + 1) = loI ps sg k ++ [(pAt ps k).id] := by
  unfold loI; rw [List.range_succ, List.filter_append]; simp [h]
theorem loS_no {sg : List Int} {k : Nat} (h : dA sg k = 0) : loS sg (k + 1) = loS sg k := by
  unfold loS; rw [List.range_succ, List.filter_append]; simp [h]
theorem loS_yes {sg : List Int} {k : Nat} (h : dA sg k ≠ 0) : loS sg (k + 1) = loS sg k ++ [dA sg k] := by
  unfold loS; rw [List.range_succ, List.filter_append]; simp [h]
theorem newsI {W : World} {b : Nat} {x : Int} (h : W.cell? ⟨b, 0, none⟩ = some (iv x)) : ∀ j u, ([iv x] : List Value)[j]? = some u → W.cell? ((⟨b, 0, none⟩ : Addr).add j) = some u := by
  intro j u hu
  cases j with
  | zero => simp at hu; subst hu; exact h
  | succ j => simp at hu
theorem one_newI (x : Int) : ∀ u ∈ ([iv x] : List Value), u.oneCell' = true := by
  intro u hu; simp at hu; subst hu; rfl
theorem cell0_new (w : World) (x : Value) (t : TypeId) : (w.alloc (.cells #[x] t)).cell? ⟨w.heap.size, 0, none⟩ = some x := by
  rw [World.cell?_alloc_new]; rfl
theorem cell0_far {w : World} {g : Nat} {v : Value} (o : Obj) (h : w.cell? ⟨g, 0, none⟩ = some v) (hg : g < w.heap.size) : (w.alloc o).cell? ⟨g, 0, none⟩ = some v := by
  rw [World.cell?_alloc_lt _ _ _ hg]; exact h
theorem gives_noneII {w w0 : World} (h : Below w0.heap.size w0 w) : GivesII w0 [] [] false (.returned (.tuple #[.slice (some ⟨w.heap.size, 0, none⟩) 0 0, .slice (some ⟨w.heap.size + 1, 0, none⟩) 0 0, .bool false])) ((w.alloc (.cells #[] 3)).alloc (.cells #[] 3)) := by
  have hz := h.size
  have h1 := own_empty w w0.heap.size hz
  have h2 := own_empty (w.alloc (.cells #[] 3)) w0.heap.size (by simp; omega)
  refine ⟨w.heap.size, 0, w.heap.size + 1, 0, rfl, hz, by omega, by omega, h1.alloc _, by simpa using h2, (h.alloc hz _).alloc (by simp; omega) _⟩
end Go.Proofs.Ytgjogjmfpbinfaa.S2

namespace Go.Proofs.Ytgjogjmfpbinfaa.S2
open Go.RowKit P2

theorem len1 (l : List Int) (x : Int) : (l ++ [x]).length = l.length + 1 := by simp
theorem own7_far {w w' : World} {B g cap x n m cx : Nat} {l : List Int} (h : IOwn w B (.slice (some ⟨g, 0, none⟩) n cap) l) (hb : w.grownBy w' (Value.ownBlock (.slice (some ⟨x, 0, none⟩) m cx))) (hg : g ≠ x) : IOwn w' B (.slice (some ⟨g, 0, none⟩) n cap) l :=
  World.ownsRow.kept h hb (.inr (by simp [Value.ownBlock]; exact hg))
set_option maxHeartbeats 1000000 in
theorem lpo_no (n : Int) (A : Option Addr) (cap : Nat) (ps : List Pp) (w : World) (hT : ∀ w', Below w.heap.size w w' → Calls Try.prog 119 #[nv n A ps.length cap] w' (GivesI w' [] false)) :
    Calls Try.prog 25 #[nv n A ps.length cap] w (GivesII w [] [] false) := by
  have H := Lib.hid hT
  clear hT
  go_enter Try.func25, Try.ntmps25
  go_wp2_with (go_at_call 119; refine (H.out _ ((Below.refl _ _).alloc (Nat.le_refl _) _)).mono ?_; rintro e w1 ⟨g, c, rfl, hg, hO, hb1⟩)
  go_ret3
  exact gives_noneII (below_alloc_call hb1)
set_option maxHeartbeats 4000000 in
set_option maxRecDepth 100000 in
theorem lpo_yes (n : Int) (A : Option Addr) (cap : Nat) (ps : List Pp) (sg : List Int) (hsl : sg.length = ps.length) (hpl : ps.length ≤ 10) (w : World) (h : PAt w A ps) (hT : ∀ w', Below w.heap.size w w' → Calls Try.prog 119 #[nv n A ps.length cap] w' (GivesI w' sg true)) :
    Calls Try.prog 25 #[nv n A ps.length cap] w (GivesII w (loI ps sg ps.length) (loS sg ps.length) true) := by
  have H := Lib.hid hT
  have HA := Lib.hid (fun w' (hb : Below w.heap.size w w') => h.kept hb (Nat.le_refl _))
  have HL := Lib.hid hsl
  obtain ⟨i0, hi, hz0, hz1, hz2⟩ := info_parts infoI
  clear hT h hsl
  go_enter Try.func25, Try.ntmps25
  go_wp2_with (go_at_call 119; refine (H.out _ ((Below.refl _ _).alloc (Nat.le_refl _) _)).mono ?_; rintro e w1 ⟨g, c, rfl, hg, hO, hb1⟩; have HX1 := Lib.hid (show Below (w.heap.size + 1) (w.alloc (nb n A ps.length cap)) w1 by simpa using hb1); obtain ⟨b0, b1⟩ := box2 HX1.out; have hy1 := box_lt HX1.out; have HO1 := Lib.hid hO; have hg1 := (World.ownsRow.lt hO g rfl).2; clear hb1 hO hg)
  have hE7 := Lib.hid (own_empty w1 w1.heap.size (Nat.le_refl _))
  have hE8 := Lib.hid (show IOwn ((w1.alloc (.cells #[] 3)).alloc (.cells #[] 3)) w1.heap.size (.slice (some ⟨w1.heap.size + 1, 0, none⟩) 0 0) [] by
    have := own_empty (w1.alloc (.cells #[] 3)) w1.heap.size (by simp)
    simpa using this)
  have hEB := Lib.hid (((Below.refl w1.heap.size w1).alloc (Nat.le_refl _) (.cells #[] 3)).alloc (by simp) (.cells #[] 3))
  have hen : Hid (w1.heap.size ≠ w1.heap.size + 1) := Lib.hid (by omega)
  go_loopw [7, 8, 25] (fun v7 v8 i wr => ∃ (k g7 c7 g8 c8 : Nat) (I J : List Int), k ≤ ps.length ∧ i = .int .i64 (k : Int) ∧ v7 = .slice (some ⟨g7, 0, none⟩) I.length c7 ∧ v8 = .slice (some ⟨g8, 0, none⟩) J.length c8 ∧ Hid (loI ps sg k = I) ∧ Hid (loS sg k = J) ∧ Hid (IOwn wr w1.heap.size (.slice (some ⟨g7, 0, none⟩) I.length c7) I) ∧ Hid (IOwn wr w1.heap.size (.slice (some ⟨g8, 0, none⟩) J.length c8) J) ∧ Hid (g7 ≠ g8) ∧ Hid (Below w1.heap.size w1 wr)) (fun _ _ i _ => ps.length - (intOf i).toNat)
  case atStart => exact ⟨0, w1.heap.size, 0, w1.heap.size + 1, 0, [], [], Nat.zero_le _, rfl, rfl, rfl, Lib.hid rfl, Lib.hid rfl, Lib.hid (hE7.out.alloc _), hE8, hen, hEB⟩
  case round =>
    clear hE7 hE8 hEB hen b0 b1 H
    obtain ⟨k, g7, c7, g8, c8, I, J, hk, rfl, rfl, rfl, hI, hJ, h7, h8, hne, hB⟩ := hrel
    have HX := Lib.hid (on_call HX1.out hB.out)
    by_cases hlt : k < ps.length
    · obtain ⟨b0, b1⟩ := box2 HX.out
      have hzl := box_lt HX.out
      obtain ⟨bx, ofx, hA, hbx, p0, p1, p2, p3⟩ := (HA.out _ (below_box HX.out)).at_ hlt
      subst hA
      have HOA := Lib.hid (HO1.out.on hB.out)
      have hgr : g < wr.heap.size := by have := hB.out.size; omega
      have hk0 : (0 : Int) ≤ (k : Int) := by omega
      have hk1 : (k : Int) < (ps.length : Int) := by omega
      have hk2 : (k : Int) < (sg.length : Int) := by rw [HL.out]; omega
      have hcs := HOA.out.cell rfl (v := k) (by rw [HL.out]; exact hlt)
      by_cases hs : dA sg k = 0
      · have hn0 : (dA sg k != 0) = false := by rw [hs]; rfl
        have HI2 := Lib.hid (show loI ps sg (k + 1) = I by rw [loI_no hs]; exact hI.out)
        have HJ2 := Lib.hid (show loS sg (k + 1) = J by rw [loS_no hs]; exact hJ.out)
        have HBn := Lib.hid (hB.out.alloc hB.out.size (.cells #[.int .i64 (pAt ps k).id, .int .i64 (pAt ps k).fr, .int .i64 (pAt ps k).to, .int .i64 (pAt ps k).sz] 75))
        have H7n := Lib.hid (h7.out.alloc (.cells #[.int .i64 (pAt ps k).id, .int .i64 (pAt ps k).fr, .int .i64 (pAt ps k).to, .int .i64 (pAt ps k).sz] 75))
        have H8n := Lib.hid (h8.out.alloc (.cells #[.int .i64 (pAt ps k).id, .int .i64 (pAt ps k).fr, .int .i64 (pAt ps k).to, .int .i64 (pAt ps k).sz] 75))
        go_wp2
        go_roundw
        case rel => exact ⟨k + 1, g7, c7, g8, c8, I, J, by omega, by go_num, rfl, rfl, HI2, HJ2, H7n, H8n, hne, HBn⟩
        case measure => simp [intOf]; omega
      · have hn0 : (dA sg k != 0) = true := bne_iff_ne.2 hs
        have HI2 := Lib.hid (show loI ps sg (k + 1) = I ++ [(pAt ps k).id] by rw [loI_yes hs, hI.out])
        have HJ2 := Lib.hid (show loS sg (k + 1) = J ++ [dA sg k] by rw [loS_yes hs, hJ.out])
        have hIl : I.length ≤ 10 := by have := loI_len ps sg k; rw [hI.out] at this; omega
        have hJl : J.length ≤ 10 := by have := loS_len sg k; rw [hJ.out] at this; omega
        obtain ⟨p, hp⟩ : ∃ p, pAt ps k = p := ⟨_, rfl⟩
        rw [hp] at p0 p1 p2 p3 HI2
        obtain ⟨hl7a, hl7b⟩ := World.ownsRow.lt h7.out g7 rfl
        obtain ⟨hl8a, hl8b⟩ := World.ownsRow.lt h8.out g8 rfl
        have hne' := hne.out
        have HBz := Lib.hid (show Below w1.heap.size w1 (wr.alloc (.cells #[.int .i64 p.id, .int .i64 p.fr, .int .i64 p.to, .int .i64 p.sz] 75)).drew from (hB.out.alloc hB.out.size (.cells #[.int .i64 p.id, .int .i64 p.fr, .int .i64 p.to, .int .i64 p.sz] 75)).drew)
        have H7z := Lib.hid (show IOwn (wr.alloc (.cells #[.int .i64 p.id, .int .i64 p.fr, .int .i64 p.to, .int .i64 p.sz] 75)).drew w1.heap.size (.slice (some ⟨g7, 0, none⟩) I.length c7) I from h7.out.alloc _)
        have H8z := Lib.hid (show IOwn (wr.alloc (.cells #[.int .i64 p.id, .int .i64 p.fr, .int .i64 p.to, .int .i64 p.sz] 75)).drew w1.heap.size (.slice (some ⟨g8, 0, none⟩) J.length c8) J from h8.out.alloc _)
        have Hzz := Lib.hid (show (wr.alloc (.cells #[.int .i64 p.id, .int .i64 p.fr, .int .i64 p.to, .int .i64 p.sz] 75)).drew.heap.size = wr.heap.size + 1 by show (wr.alloc (.cells #[.int .i64 p.id, .int .i64 p.fr, .int .i64 p.to, .int .i64 p.sz] 75)).heap.size = _; simp)
        have hcz : (wr.alloc (.cells #[.int .i64 p.id, .int .i64 p.fr, .int .i64 p.to, .int .i64 p.sz] 75)).drew.cell? ⟨g, k, none⟩ = some (.int .i64 (dA sg k)) := (show (wr.alloc (.cells #[.int .i64 p.id, .int .i64 p.fr, .int .i64 p.to, .int .i64 p.sz] 75)).cell? ⟨g, k, none⟩ = some (iv (dA sg k)) from (World.cell?_alloc_lt _ _ _ (by show g < _; omega)).trans hcs)
        have hpz : (wr.alloc (.cells #[.int .i64 p.id, .int .i64 p.fr, .int .i64 p.to, .int .i64 p.sz] 75)).drew.cell? ⟨wr.heap.size, 0, none⟩ = some (.int .i64 p.id) := cells4 wr (.int .i64 p.id) (.int .i64 p.fr) (.int .i64 p.to) (.int .i64 p.sz) 75 0 _ rfl
        have hyr := hB.out.size
        go_upto_region 9 with (fail)
        clear p0 p1 p2 p3 b0 b1 hB h7 h8 hne hcs hI hJ HOA HX HX1 HO1 HA hs hp
        generalize wr.alloc (.cells #[.int .i64 p.id, .int .i64 p.fr, .int .i64 p.to, .int .i64 p.sz] 75) = wz at *
        generalize wr.heap.size = zr at *
        refine wp_region_held_drew (S := fun w' => w'.cell? ⟨zr, 0, none⟩ = some (.int .i64 p.id) ∧ w'.cell? ⟨g, k, none⟩ = some (.int .i64 (dA sg k))) (by kernel_rfl) (by exact ⟨hpz, hcz⟩) (fun hHeld => ?_)
        generalize wz.drew = wd at *
        refine wpAnyH_take (i := 0) (v := .slice (some ⟨g7, 0, none⟩) I.length c7) rfl (by kernel_rfl) (by kernel_rfl) (by kernel_rfl) (fun _ _ _ h => h) (Or.inl ⟨by kernel_rfl, ?_⟩) (by assumption) ?_
        · (intro w hSw; (try dsimp only at hSw); go_simp)
        simp only [Act.put, List.setIfInBounds_toArray]
        refine wpAnyH_take (i := 1) (v := .pointer (some ⟨zr, 0, none⟩)) rfl (by kernel_rfl) (by kernel_rfl) (by kernel_rfl) (fun _ _ _ h => h) (Or.inl ⟨by kernel_rfl, ?_⟩) (by assumption) ?_
        · (intro w hSw; (try dsimp only at hSw); go_simp)
        simp only [Act.put]
        refine wpAnyH_take (i := 2) (v := .int .i64 p.id) rfl (by kernel_rfl) (by kernel_rfl) (by kernel_rfl) (fun _ _ _ h => h) (Or.inl ⟨by kernel_rfl, ?_⟩) (by assumption) ?_
        · (intro w hSw; (try dsimp only at hSw); go_simp)
        simp only [Act.put]
        refine wpAnyH_take (i := 5) (v := .slice (some ⟨g8, 0, none⟩) J.length c8) rfl (by kernel_rfl) (by kernel_rfl) (by kernel_rfl) (fun _ _ _ h => h) (Or.inl ⟨by kernel_rfl, ?_⟩) (by assumption) ?_
        · (intro w hSw; (try dsimp only at hSw); go_simp)
        simp only [Act.put]
        refine wpAnyH_take (i := 6) (v := .slice (some ⟨g, 0, none⟩) sg.length c) rfl (by kernel_rfl) (by kernel_rfl) (by kernel_rfl) (fun _ _ _ h => h) (Or.inl ⟨by kernel_rfl, ?_⟩) (by assumption) ?_
        · (intro w hSw; (try dsimp only at hSw); go_simp)
        simp only [Act.put]
        refine wpAnyH_take (i := 7) (v := .int .i64 (k : Int)) rfl (by kernel_rfl) (by kernel_rfl) (by kernel_rfl) (fun _ _ _ h => h) (Or.inl ⟨by kernel_rfl, ?_⟩) (by assumption) ?_
        · (intro w hSw; (try dsimp only at hSw); go_simp)
        simp only [Act.put]
        refine wpAnyH_take (i := 8) (v := .pointer (some ⟨g, k, none⟩)) rfl (by kernel_rfl) (by kernel_rfl) (by kernel_rfl) (fun _ _ _ h => h) (Or.inl ⟨by kernel_rfl, ?_⟩) (by assumption) ?_
        · (intro w hSw; (try dsimp only at hSw); go_simp)
        simp only [Act.put]
        refine wpAnyH_take (i := 9) (v := .int .i64 (dA sg k)) rfl (by kernel_rfl) (by kernel_rfl) (by kernel_rfl) (fun _ _ _ h => h) (Or.inl ⟨by kernel_rfl, ?_⟩) (by assumption) ?_
        · (intro w hSw; (try dsimp only at hSw); go_simp)
        simp only [Act.put]
        refine wpAnyH_ready (rs := [3, 10]) (by kernel_rfl) (by simp) ?_
        refine AllReadyH.cons rfl (fun K hK => ?_) (AllReadyH.cons rfl (fun K hK => ?_) AllReadyH.nil)
        · go_simp
          have hHeld2 := hHeld
          refine hK.out _ _ (by rcases hHeld2 with ⟨q0, q1⟩; exact ⟨(World.cell?_alloc_lt _ _ _ (by show zr < _; first | (have oHzz := Hzz.out; omega) | (simp; (have oHzz := Hzz.out; omega)))).trans q0, (World.cell?_alloc_lt _ _ _ (by show g < _; first | (have oHzz := Hzz.out; omega) | (simp; (have oHzz := Hzz.out; omega)))).trans q1⟩) (fun hHeld => ?_)
          clear hK K hHeld2
          have H7a := Lib.hid (H7z.out.alloc (.cells #[.int .i64 p.id] 3))
          have H8a := Lib.hid (H8z.out.alloc (.cells #[.int .i64 p.id] 3))
          have HBa := Lib.hid (HBz.out.alloc (by (have oHzz := Hzz.out; omega)) (.cells #[.int .i64 p.id] 3))
          have HNa := cell0_new (wd) (.int .i64 p.id) 3
          have Hza := Lib.hid (show ((wd).alloc (.cells #[.int .i64 p.id] 3)).heap.size = (wd).heap.size + 1 by simp)
          generalize hwa : (wd).alloc (.cells #[.int .i64 p.id] 3) = wa at *
          refine wpAnyH_ready (rs := [4, 10]) (by kernel_rfl) (by simp) ?_
          refine AllReadyH.cons rfl (fun K hK => ?_) (AllReadyH.cons rfl (fun K hK => ?_) AllReadyH.nil)
          · refine step_append_lies _ (by rfl) _ _ _ (by rfl) w1.heap.size 3 i0 (.int .i64 0) 1 8 Try.underlying34 hi hz0 hz1 hz2 rfl (by decide) (.slice (some ⟨g7, 0, none⟩) I.length c7) I.length (I.map iv) (by rfl) H7a.out
              ⟨wd.heap.size, 0, none⟩ 1 1 [iv p.id] (by rfl) (by rfl) (newsI HNa) (one_newI _) (by (have oHzz := Hzz.out; have oHza := Hza.out; omega)) (by simp only [maxLen]; (have oHzz := Hzz.out; have oHza := Hza.out; omega)) (by (have oHzz := Hzz.out; have oHza := Hza.out; omega)) (by (have oHzz := Hzz.out; have oHza := Hza.out; omega)) _ rfl ?_
            intro g7n c7n wb hownb hgrowb hatb hltb
            have hHeld2 := hHeld
            refine hK.out _ _ (by rcases hHeld2 with ⟨q0, q1⟩; exact ⟨(hgrowb.cell_far _ (by first | (dsimp only; (have oHzz := Hzz.out; have oHza := Hza.out; omega)) | (simp; (have oHzz := Hzz.out; have oHza := Hza.out; omega))) (by simp [Value.ownBlock]; (have oHzz := Hzz.out; have oHza := Hza.out; omega))).trans q0, (hgrowb.cell_far _ (by first | (dsimp only; (have oHzz := Hzz.out; have oHza := Hza.out; omega)) | (simp; (have oHzz := Hzz.out; have oHza := Hza.out; omega))) (by simp [Value.ownBlock]; (have oHzz := Hzz.out; have oHza := Hza.out; omega))).trans q1⟩) (fun hHeld => ?_)
            clear hK K hHeld2
            have H7b := Lib.hid (IOwn.push hownb)
            have H8b := Lib.hid (own7_far H8a.out hgrowb (by (have oHzz := Hzz.out; have oHza := Hza.out; omega)))
            have HBb := Lib.hid (HBa.out.grown hgrowb (by (have oHzz := Hzz.out; have oHza := Hza.out; omega)) (fun q hq => by simp [Value.ownBlock] at hq; (have oHzz := Hzz.out; have oHza := Hza.out; omega)))
            have Hzb := Lib.hid hgrowb.size
            have hdb : g7n = g7 ∨ g7n = wa.heap.size := by rcases hatb with h | h; exact .inl (by simpa [Value.ownBlock] using h.symm); exact .inr h
            clear hownb hgrowb hatb
            refine wpAnyH_ready (rs := [10]) (by kernel_rfl) (by simp) ?_
            refine AllReadyH.cons rfl (fun K hK => ?_) AllReadyH.nil
            go_simp
            have hHeld2 := hHeld
            refine hK.out _ _ (by rcases hHeld2 with ⟨q0, q1⟩; exact ⟨(World.cell?_alloc_lt _ _ _ (by show zr < _; first | (have oHzz := Hzz.out; have oHza := Hza.out; have oHzb := Hzb.out; omega) | (simp; (have oHzz := Hzz.out; have oHza := Hza.out; have oHzb := Hzb.out; omega)))).trans q0, (World.cell?_alloc_lt _ _ _ (by show g < _; first | (have oHzz := Hzz.out; have oHza := Hza.out; have oHzb := Hzb.out; omega) | (simp; (have oHzz := Hzz.out; have oHza := Hza.out; have oHzb := Hzb.out; omega)))).trans q1⟩) (fun hHeld => ?_)
            clear hK K hHeld2
            have H7c := Lib.hid (H7b.out.alloc (.cells #[.int .i64 (dA sg k)] 3))
            have H8c := Lib.hid (H8b.out.alloc (.cells #[.int .i64 (dA sg k)] 3))
            have HBc := Lib.hid (HBb.out.alloc (by (have oHzz := Hzz.out; have oHza := Hza.out; have oHzb := Hzb.out; omega)) (.cells #[.int .i64 (dA sg k)] 3))
            have HNc := cell0_new (wb) (.int .i64 (dA sg k)) 3
            have Hzc := Lib.hid (show ((wb).alloc (.cells #[.int .i64 (dA sg k)] 3)).heap.size = (wb).heap.size + 1 by simp)
            generalize hwc : (wb).alloc (.cells #[.int .i64 (dA sg k)] 3) = wc at *
            refine wpAnyH_ready (rs := [11]) (by kernel_rfl) (by simp) ?_
            refine AllReadyH.cons rfl (fun K hK => ?_) AllReadyH.nil
            refine step_append_lies _ (by rfl) _ _ _ (by rfl) w1.heap.size 3 i0 (.int .i64 0) 1 8 Try.underlying34 hi hz0 hz1 hz2 rfl (by decide) (.slice (some ⟨g8, 0, none⟩) J.length c8) J.length (J.map iv) (by rfl) H8c.out
              ⟨wb.heap.size, 0, none⟩ 1 1 [iv (dA sg k)] (by rfl) (by rfl) (newsI HNc) (one_newI _) (by (have oHzz := Hzz.out; have oHza := Hza.out; have oHzb := Hzb.out; have oHzc := Hzc.out; omega)) (by simp only [maxLen]; (have oHzz := Hzz.out; have oHza := Hza.out; have oHzb := Hzb.out; have oHzc := Hzc.out; omega)) (by (have oHzz := Hzz.out; have oHza := Hza.out; have oHzb := Hzb.out; have oHzc := Hzc.out; omega)) (by (have oHzz := Hzz.out; have oHza := Hza.out; have oHzb := Hzb.out; have oHzc := Hzc.out; omega)) _ rfl ?_
            intro g8n c8n wd hownd hgrowd hatd hltd
            have hHeld2 := hHeld
            refine hK.out _ _ (by rcases hHeld2 with ⟨q0, q1⟩; exact ⟨(hgrowd.cell_far _ (by first | (dsimp only; (have oHzz := Hzz.out; have oHza := Hza.out; have oHzb := Hzb.out; have oHzc := Hzc.out; omega)) | (simp; (have oHzz := Hzz.out; have oHza := Hza.out; have oHzb := Hzb.out; have oHzc := Hzc.out; omega))) (by simp [Value.ownBlock]; (have oHzz := Hzz.out; have oHza := Hza.out; have oHzb := Hzb.out; have oHzc := Hzc.out; omega))).trans q0, (hgrowd.cell_far _ (by first | (dsimp only; (have oHzz := Hzz.out; have oHza := Hza.out; have oHzb := Hzb.out; have oHzc := Hzc.out; omega)) | (simp; (have oHzz := Hzz.out; have oHza := Hza.out; have oHzb := Hzb.out; have oHzc := Hzc.out; omega))) (by simp [Value.ownBlock]; (have oHzz := Hzz.out; have oHza := Hza.out; have oHzb := Hzb.out; have oHzc := Hzc.out; omega))).trans q1⟩) (fun hHeld => ?_)
            clear hK K hHeld2
            have H8d := Lib.hid (IOwn.push hownd)
            have H7d := Lib.hid (own7_far H7c.out hgrowd (by (have oHzz := Hzz.out; have oHza := Hza.out; have oHzb := Hzb.out; have oHzc := Hzc.out; omega)))
            have HBd := Lib.hid (HBc.out.grown hgrowd (by (have oHzz := Hzz.out; have oHza := Hza.out; have oHzb := Hzb.out; have oHzc := Hzc.out; omega)) (fun q hq => by simp [Value.ownBlock] at hq; (have oHzz := Hzz.out; have oHza := Hza.out; have oHzb := Hzb.out; have oHzc := Hzc.out; omega)))
            have hdd : g8n = g8 ∨ g8n = wc.heap.size := by rcases hatd with h | h; exact .inl (by simpa [Value.ownBlock] using h.symm); exact .inr h
            clear hownd hgrowd hatd
            refine wpAnyH_ready (rs := [12]) (by kernel_rfl) (by simp) ?_
            refine AllReadyH.cons rfl (fun K hK => ?_) AllReadyH.nil
            go_simp
            refine hK.out _ _ (by first | assumption | go_keep) (fun hHeld => ?_)
            clear hK K
            refine wpAnyH_ready (rs := [13]) (by kernel_rfl) (by simp) ?_
            refine AllReadyH.cons rfl (fun K hK => ?_) AllReadyH.nil
            go_simp
            refine hK.out _ _ (by first | assumption | go_keep) (fun hHeld => ?_)
            clear hK K
            refine wpAnyH_done (by kernel_rfl) ?_ _
            have HGN := Lib.hid (show g7n ≠ g8n by (have oHzz := Hzz.out; have oHza := Hza.out; have oHzb := Hzb.out; have oHzc := Hzc.out; omega))
            go_wp2_with fail
            go_roundw
            case rel => exact ⟨k + 1, g7n, c7n, g8n, c8n, I ++ [p.id], J ++ [dA sg k], by (have oHzz := Hzz.out; have oHza := Hza.out; have oHzb := Hzb.out; have oHzc := Hzc.out; omega), by go_num, by rw [len1], by rw [len1], HI2, HJ2, by rw [len1]; exact H7d, by rw [len1]; exact H8d, HGN, HBd⟩
            case measure => simp [intOf]; (have oHzz := Hzz.out; have oHza := Hza.out; have oHzb := Hzb.out; have oHzc := Hzc.out; omega)
          · go_simp
            have hHeld2 := hHeld
            refine hK.out _ _ (by rcases hHeld2 with ⟨q0, q1⟩; exact ⟨(World.cell?_alloc_lt _ _ _ (by show zr < _; first | (have oHzz := Hzz.out; have oHza := Hza.out; omega) | (simp; (have oHzz := Hzz.out; have oHza := Hza.out; omega)))).trans q0, (World.cell?_alloc_lt _ _ _ (by show g < _; first | (have oHzz := Hzz.out; have oHza := Hza.out; omega) | (simp; (have oHzz := Hzz.out; have oHza := Hza.out; omega)))).trans q1⟩) (fun hHeld => ?_)
            clear hK K hHeld2
            have H7b := Lib.hid (H7a.out.alloc (.cells #[.int .i64 (dA sg k)] 3))
            have H8b := Lib.hid (H8a.out.alloc (.cells #[.int .i64 (dA sg k)] 3))
            have HBb := Lib.hid (HBa.out.alloc (by (have oHzz := Hzz.out; have oHza := Hza.out; omega)) (.cells #[.int .i64 (dA sg k)] 3))
            have HNb := cell0_new (wa) (.int .i64 (dA sg k)) 3
            have HNab := cell0_far (.cells #[.int .i64 (dA sg k)] 3) HNa (by (have oHzz := Hzz.out; have oHza := Hza.out; omega))
            have Hzb := Lib.hid (show ((wa).alloc (.cells #[.int .i64 (dA sg k)] 3)).heap.size = (wa).heap.size + 1 by simp)
            generalize hwb : (wa).alloc (.cells #[.int .i64 (dA sg k)] 3) = wb at *
            refine wpAnyH_ready (rs := [4]) (by kernel_rfl) (by simp) ?_
            refine AllReadyH.cons rfl (fun K hK => ?_) AllReadyH.nil
            refine step_append_lies _ (by rfl) _ _ _ (by rfl) w1.heap.size 3 i0 (.int .i64 0) 1 8 Try.underlying34 hi hz0 hz1 hz2 rfl (by decide) (.slice (some ⟨g7, 0, none⟩) I.length c7) I.length (I.map iv) (by rfl) H7b.out
              ⟨wd.heap.size, 0, none⟩ 1 1 [iv p.id] (by rfl) (by rfl) (newsI HNab) (one_newI _) (by (have oHzz := Hzz.out; have oHza := Hza.out; have oHzb := Hzb.out; omega)) (by simp only [maxLen]; (have oHzz := Hzz.out; have oHza := Hza.out; have oHzb := Hzb.out; omega)) (by (have oHzz := Hzz.out; have oHza := Hza.out; have oHzb := Hzb.out; omega)) (by (have oHzz := Hzz.out; have oHza := Hza.out; have oHzb := Hzb.out; omega)) _ rfl ?_
            intro g7n c7n wc hownc hgrowc hatc hltc
            have hHeld2 := hHeld
            refine hK.out _ _ (by rcases hHeld2 with ⟨q0, q1⟩; exact ⟨(hgrowc.cell_far _ (by first | (dsimp only; (have oHzz := Hzz.out; have oHza := Hza.out; have oHzb := Hzb.out; omega)) | (simp; (have oHzz := Hzz.out; have oHza := Hza.out; have oHzb := Hzb.out; omega))) (by simp [Value.ownBlock]; (have oHzz := Hzz.out; have oHza := Hza.out; have oHzb := Hzb.out; omega))).trans q0, (hgrowc.cell_far _ (by first | (dsimp only; (have oHzz := Hzz.out; have oHza := Hza.out; have oHzb := Hzb.out; omega)) | (simp; (have oHzz := Hzz.out; have oHza := Hza.out; have oHzb := Hzb.out; omega))) (by simp [Value.ownBlock]; (have oHzz := Hzz.out; have oHza := Hza.out; have oHzb := Hzb.out; omega))).trans q1⟩) (fun hHeld => ?_)
            clear hK K hHeld2
            have H7c := Lib.hid (IOwn.push hownc)
            have H8c := Lib.hid (own7_far H8b.out hgrowc (by (have oHzz := Hzz.out; have oHza := Hza.out; have oHzb := Hzb.out; omega)))
            have HBc := Lib.hid (HBb.out.grown hgrowc (by (have oHzz := Hzz.out; have oHza := Hza.out; have oHzb := Hzb.out; omega)) (fun q hq => by simp [Value.ownBlock] at hq; (have oHzz := Hzz.out; have oHza := Hza.out; have oHzb := Hzb.out; omega)))
            have Hzc := Lib.hid hgrowc.size
            have hdc : g7n = g7 ∨ g7n = wb.heap.size := by rcases hatc with h | h; exact .inl (by simpa [Value.ownBlock] using h.symm); exact .inr h
            have HNbc := (hgrowc.cell_far _ (by dsimp only; (have oHzz := Hzz.out; have oHza := Hza.out; have oHzb := Hzb.out; have oHzc := Hzc.out; omega)) (by simp [Value.ownBlock]; (have oHzz := Hzz.out; have oHza := Hza.out; have oHzb := Hzb.out; have oHzc := Hzc.out; omega))).trans HNb
            clear hownc hgrowc hatc
            refine wpAnyH_ready (rs := [11]) (by kernel_rfl) (by simp) ?_
            refine AllReadyH.cons rfl (fun K hK => ?_) AllReadyH.nil
            refine step_append_lies _ (by rfl) _ _ _ (by rfl) w1.heap.size 3 i0 (.int .i64 0) 1 8 Try.underlying34 hi hz0 hz1 hz2 rfl (by decide) (.slice (some ⟨g8, 0, none⟩) J.length c8) J.length (J.map iv) (by rfl) H8c.out
              ⟨wa.heap.size, 0, none⟩ 1 1 [iv (dA sg k)] (by rfl) (by rfl) (newsI HNbc) (one_newI _) (by (have oHzz := Hzz.out; have oHza := Hza.out; have oHzb := Hzb.out; have oHzc := Hzc.out; omega)) (by simp only [maxLen]; (have oHzz := Hzz.out; have oHza := Hza.out; have oHzb := Hzb.out; have oHzc := Hzc.out; omega)) (by (have oHzz := Hzz.out; have oHza := Hza.out; have oHzb := Hzb.out; have oHzc := Hzc.out; omega)) (by (have oHzz := Hzz.out; have oHza := Hza.out; have oHzb := Hzb.out; have oHzc := Hzc.out; omega)) _ rfl ?_
            intro g8n c8n wd hownd hgrowd hatd hltd
            have hHeld2 := hHeld
            refine hK.out _ _ (by rcases hHeld2 with ⟨q0, q1⟩; exact ⟨(hgrowd.cell_far _ (by first | (dsimp only; (have oHzz := Hzz.out; have oHza := Hza.out; have oHzb := Hzb.out; have oHzc := Hzc.out; omega)) | (simp; (have oHzz := Hzz.out; have oHza := Hza.out; have oHzb := Hzb.out; have oHzc := Hzc.out; omega))) (by simp [Value.ownBlock]; (have oHzz := Hzz.out; have oHza := Hza.out; have oHzb := Hzb.out; have oHzc := Hzc.out; omega))).trans q0, (hgrowd.cell_far _ (by first | (dsimp only; (have oHzz := Hzz.out; have oHza := Hza.out; have oHzb := Hzb.out; have oHzc := Hzc.out; omega)) | (simp; (have oHzz := Hzz.out; have oHza := Hza.out; have oHzb := Hzb.out; have oHzc := Hzc.out; omega))) (by simp [Value.ownBlock]; (have oHzz := Hzz.out; have oHza := Hza.out; have oHzb := Hzb.out; have oHzc := Hzc.out; omega))).trans q1⟩) (fun hHeld => ?_)
            clear hK K hHeld2
            have H8d := Lib.hid (IOwn.push hownd)
            have H7d := Lib.hid (own7_far H7c.out hgrowd (by (have oHzz := Hzz.out; have oHza := Hza.out; have oHzb := Hzb.out; have oHzc := Hzc.out; omega)))
            have HBd := Lib.hid (HBc.out.grown hgrowd (by (have oHzz := Hzz.out; have oHza := Hza.out; have oHzb := Hzb.out; have oHzc := Hzc.out; omega)) (fun q hq => by simp [Value.ownBlock] at hq; (have oHzz := Hzz.out; have oHza := Hza.out; have oHzb := Hzb.out; have oHzc := Hzc.out; omega)))
            have hdd : g8n = g8 ∨ g8n = wc.heap.size := by rcases hatd with h | h; exact .inl (by simpa [Value.ownBlock] using h.symm); exact .inr h
            clear hownd hgrowd hatd
            refine wpAnyH_ready (rs := [12]) (by kernel_rfl) (by simp) ?_
            refine AllReadyH.cons rfl (fun K hK => ?_) AllReadyH.nil
            go_simp
            refine hK.out _ _ (by first | assumption | go_keep) (fun hHeld => ?_)
            clear hK K
            refine wpAnyH_ready (rs := [13]) (by kernel_rfl) (by simp) ?_
            refine AllReadyH.cons rfl (fun K hK => ?_) AllReadyH.nil
            go_simp
            refine hK.out _ _ (by first | assumption | go_keep) (fun hHeld => ?_)
            clear hK K
            refine wpAnyH_done (by kernel_rfl) ?_ _
            have HGN := Lib.hid (show g7n ≠ g8n by (have oHzz := Hzz.out; have oHza := Hza.out; have oHzb := Hzb.out; have oHzc := Hzc.out; omega))
            go_wp2_with fail
            go_roundw
            case rel => exact ⟨k + 1, g7n, c7n, g8n, c8n, I ++ [p.id], J ++ [dA sg k], by (have oHzz := Hzz.out; have oHza := Hza.out; have oHzb := Hzb.out; have oHzc := Hzc.out; omega), by go_num, by rw [len1], by rw [len1], HI2, HJ2, by rw [len1]; exact H7d, by rw [len1]; exact H8d, HGN, HBd⟩
            case measure => simp [intOf]; (have oHzz := Hzz.out; have oHza := Hza.out; have oHzb := Hzb.out; have oHzc := Hzc.out; omega)
        · go_simp
          have hHeld2 := hHeld
          refine hK.out _ _ (by rcases hHeld2 with ⟨q0, q1⟩; exact ⟨(World.cell?_alloc_lt _ _ _ (by show zr < _; first | (have oHzz := Hzz.out; omega) | (simp; (have oHzz := Hzz.out; omega)))).trans q0, (World.cell?_alloc_lt _ _ _ (by show g < _; first | (have oHzz := Hzz.out; omega) | (simp; (have oHzz := Hzz.out; omega)))).trans q1⟩) (fun hHeld => ?_)
          clear hK K hHeld2
          have H7a := Lib.hid (H7z.out.alloc (.cells #[.int .i64 (dA sg k)] 3))
          have H8a := Lib.hid (H8z.out.alloc (.cells #[.int .i64 (dA sg k)] 3))
          have HBa := Lib.hid (HBz.out.alloc (by (have oHzz := Hzz.out; omega)) (.cells #[.int .i64 (dA sg k)] 3))
          have HNa := cell0_new (wd) (.int .i64 (dA sg k)) 3
          have Hza := Lib.hid (show ((wd).alloc (.cells #[.int .i64 (dA sg k)] 3)).heap.size = (wd).heap.size + 1 by simp)
          generalize hwa : (wd).alloc (.cells #[.int .i64 (dA sg k)] 3) = wa at *
          refine wpAnyH_ready (rs := [3]) (by kernel_rfl) (by simp) ?_
          refine AllReadyH.cons rfl (fun K hK => ?_) AllReadyH.nil
          go_simp
          have hHeld2 := hHeld
          refine hK.out _ _ (by rcases hHeld2 with ⟨q0, q1⟩; exact ⟨(World.cell?_alloc_lt _ _ _ (by show zr < _; first | (have oHzz := Hzz.out; have oHza := Hza.out; omega) | (simp; (have oHzz := Hzz.out; have oHza := Hza.out; omega)))).trans q0, (World.cell?_alloc_lt _ _ _ (by show g < _; first | (have oHzz := Hzz.out; have oHza := Hza.out; omega) | (simp; (have oHzz := Hzz.out; have oHza := Hza.out; omega)))).trans q1⟩) (fun hHeld => ?_)
          clear hK K hHeld2
          have H7b := Lib.hid (H7a.out.alloc (.cells #[.int .i64 p.id] 3))
          have H8b := Lib.hid (H8a.out.alloc (.cells #[.int .i64 p.id] 3))
          have HBb := Lib.hid (HBa.out.alloc (by (have oHzz := Hzz.out; have oHza := Hza.out; omega)) (.cells #[.int .i64 p.id] 3))
          have HNb := cell0_new (wa) (.int .i64 p.id) 3
          have HNab := cell0_far (.cells #[.int .i64 p.id] 3) HNa (by (have oHzz := Hzz.out; have oHza := Hza.out; omega))
          have Hzb := Lib.hid (show ((wa).alloc (.cells #[.int .i64 p.id] 3)).heap.size = (wa).heap.size + 1 by simp)
          generalize hwb : (wa).alloc (.cells #[.int .i64 p.id] 3) = wb at *
          refine wpAnyH_ready (rs := [4]) (by kernel_rfl) (by simp) ?_
          refine AllReadyH.cons rfl (fun K hK => ?_) AllReadyH.nil
          refine step_append_lies _ (by rfl) _ _ _ (by rfl) w1.heap.size 3 i0 (.int .i64 0) 1 8 Try.underlying34 hi hz0 hz1 hz2 rfl (by decide) (.slice (some ⟨g7, 0, none⟩) I.length c7) I.length (I.map iv) (by rfl) H7b.out
            ⟨wa.heap.size, 0, none⟩ 1 1 [iv p.id] (by rfl) (by rfl) (newsI HNb) (one_newI _) (by (have oHzz := Hzz.out; have oHza := Hza.out; have oHzb := Hzb.out; omega)) (by simp only [maxLen]; (have oHzz := Hzz.out; have oHza := Hza.out; have oHzb := Hzb.out; omega)) (by (have oHzz := Hzz.out; have oHza := Hza.out; have oHzb := Hzb.out; omega)) (by (have oHzz := Hzz.out; have oHza := Hza.out; have oHzb := Hzb.out; omega)) _ rfl ?_
          intro g7n c7n wc hownc hgrowc hatc hltc
          have hHeld2 := hHeld
          refine hK.out _ _ (by rcases hHeld2 with ⟨q0, q1⟩; exact ⟨(hgrowc.cell_far _ (by first | (dsimp only; (have oHzz := Hzz.out; have oHza := Hza.out; have oHzb := Hzb.out; omega)) | (simp; (have oHzz := Hzz.out; have oHza := Hza.out; have oHzb := Hzb.out; omega))) (by simp [Value.ownBlock]; (have oHzz := Hzz.out; have oHza := Hza.out; have oHzb := Hzb.out; omega))).trans q0, (hgrowc.cell_far _ (by first | (dsimp only; (have oHzz := Hzz.out; have oHza := Hza.out; have oHzb := Hzb.out; omega)) | (simp; (have oHzz := Hzz.out; have oHza := Hza.out; have oHzb := Hzb.out; omega))) (by simp [Value.ownBlock]; (have oHzz := Hzz.out; have oHza := Hza.out; have oHzb := Hzb.out; omega))).trans q1⟩) (fun hHeld => ?_)
          clear hK K hHeld2
          have H7c := Lib.hid (IOwn.push hownc)
          have H8c := Lib.hid (own7_far H8b.out hgrowc (by (have oHzz := Hzz.out; have oHza := Hza.out; have oHzb := Hzb.out; omega)))
          have HBc := Lib.hid (HBb.out.grown hgrowc (by (have oHzz := Hzz.out; have oHza := Hza.out; have oHzb := Hzb.out; omega)) (fun q hq => by simp [Value.ownBlock] at hq; (have oHzz := Hzz.out; have oHza := Hza.out; have oHzb := Hzb.out; omega)))
          have Hzc := Lib.hid hgrowc.size
          have hdc : g7n = g7 ∨ g7n = wb.heap.size := by rcases hatc with h | h; exact .inl (by simpa [Value.ownBlock] using h.symm); exact .inr h
          have HNabc := (hgrowc.cell_far _ (by dsimp only; (have oHzz := Hzz.out; have oHza := Hza.out; have oHzb := Hzb.out; have oHzc := Hzc.out; omega)) (by simp [Value.ownBlock]; (have oHzz := Hzz.out; have oHza := Hza.out; have oHzb := Hzb.out; have oHzc := Hzc.out; omega))).trans HNab
          clear hownc hgrowc hatc
          refine wpAnyH_ready (rs := [11]) (by kernel_rfl) (by simp) ?_
          refine AllReadyH.cons rfl (fun K hK => ?_) AllReadyH.nil
          refine step_append_lies _ (by rfl) _ _ _ (by rfl) w1.heap.size 3 i0 (.int .i64 0) 1 8 Try.underlying34 hi hz0 hz1 hz2 rfl (by decide) (.slice (some ⟨g8, 0, none⟩) J.length c8) J.length (J.map iv) (by rfl) H8c.out
            ⟨wd.heap.size, 0, none⟩ 1 1 [iv (dA sg k)] (by rfl) (by rfl) (newsI HNabc) (one_newI _) (by (have oHzz := Hzz.out; have oHza := Hza.out; have oHzb := Hzb.out; have oHzc := Hzc.out; omega)) (by simp only [maxLen]; (have oHzz := Hzz.out; have oHza := Hza.out; have oHzb := Hzb.out; have oHzc := Hzc.out; omega)) (by (have oHzz := Hzz.out; have oHza := Hza.out; have oHzb := Hzb.out; have oHzc := Hzc.out; omega)) (by (have oHzz := Hzz.out; have oHza := Hza.out; have oHzb := Hzb.out; have oHzc := Hzc.out; omega)) _ rfl ?_
          intro g8n c8n wd hownd hgrowd hatd hltd
          have hHeld2 := hHeld
          refine hK.out _ _ (by rcases hHeld2 with ⟨q0, q1⟩; exact ⟨(hgrowd.cell_far _ (by first | (dsimp only; (have oHzz := Hzz.out; have oHza := Hza.out; have oHzb := Hzb.out; have oHzc := Hzc.out; omega)) | (simp; (have oHzz := Hzz.out; have oHza := Hza.out; have oHzb := Hzb.out; have oHzc := Hzc.out; omega))) (by simp [Value.ownBlock]; (have oHzz := Hzz.out; have oHza := Hza.out; have oHzb := Hzb.out; have oHzc := Hzc.out; omega))).trans q0, (hgrowd.cell_far _ (by first | (dsimp only; (have oHzz := Hzz.out; have oHza := Hza.out; have oHzb := Hzb.out; have oHzc := Hzc.out; omega)) | (simp; (have oHzz := Hzz.out; have oHza := Hza.out; have oHzb := Hzb.out; have oHzc := Hzc.out; omega))) (by simp [Value.ownBlock]; (have oHzz := Hzz.out; have oHza := Hza.out; have oHzb := Hzb.out; have oHzc := Hzc.out; omega))).trans q1⟩) (fun hHeld => ?_)
          clear hK K hHeld2
          have H8d := Lib.hid (IOwn.push hownd)
          have H7d := Lib.hid (own7_far H7c.out hgrowd (by (have oHzz := Hzz.out; have oHza := Hza.out; have oHzb := Hzb.out; have oHzc := Hzc.out; omega)))
          have HBd := Lib.hid (HBc.out.grown hgrowd (by (have oHzz := Hzz.out; have oHza := Hza.out; have oHzb := Hzb.out; have oHzc := Hzc.out; omega)) (fun q hq => by simp [Value.ownBlock] at hq; (have oHzz := Hzz.out; have oHza := Hza.out; have oHzb := Hzb.out; have oHzc := Hzc.out; omega)))
          have hdd : g8n = g8 ∨ g8n = wc.heap.size := by rcases hatd with h | h; exact .inl (by simpa [Value.ownBlock] using h.symm); exact .inr h
          clear hownd hgrowd hatd
          refine wpAnyH_ready (rs := [12]) (by kernel_rfl) (by simp) ?_
          refine AllReadyH.cons rfl (fun K hK => ?_) AllReadyH.nil
          go_simp
          refine hK.out _ _ (by first | assumption | go_keep) (fun hHeld => ?_)
          clear hK K
          refine wpAnyH_ready (rs := [13]) (by kernel_rfl) (by simp) ?_
          refine AllReadyH.cons rfl (fun K hK => ?_) AllReadyH.nil
          go_simp
          refine hK.out _ _ (by first | assumption | go_keep) (fun hHeld => ?_)
          clear hK K
          refine wpAnyH_done (by kernel_rfl) ?_ _
          have HGN := Lib.hid (show g7n ≠ g8n by (have oHzz := Hzz.out; have oHza := Hza.out; have oHzb := Hzb.out; have oHzc := Hzc.out; omega))
          go_wp2_with fail
          go_roundw
          case rel => exact ⟨k + 1, g7n, c7n, g8n, c8n, I ++ [p.id], J ++ [dA sg k], by (have oHzz := Hzz.out; have oHza := Hza.out; have oHzb := Hzb.out; have oHzc := Hzc.out; omega), by go_num, by rw [len1], by rw [len1], HI2, HJ2, by rw [len1]; exact H7d, by rw [len1]; exact H8d, HGN, HBd⟩
          case measure => simp [intOf]; (have oHzz := Hzz.out; have oHza := Hza.out; have oHzb := Hzb.out; have oHzc := Hzc.out; omega)
    · have hkn : k = ps.length := by omega
      subst hkn
      obtain ⟨b0, b1⟩ := box2 HX.out
      have hl7 := (World.ownsRow.lt h7.out g7 rfl).1
      have hl8 := (World.ownsRow.lt h8.out g8 rfl).1
      have hI2 := hI.out
      have hJ2 := hJ.out
      clear hI hJ
      go_wp2
      go_ret3
      rw [hI2, hJ2]
      exact ⟨g7, c7, g8, c8, rfl, by omega, by omega, hne.out, own_lower h7.out (by omega), own_lower h8.out (by omega), below_box HX.out⟩
end Go.Proofs.Ytgjogjmfpbinfaa.S2

namespace Go.Proofs.Ytgjogjmfpbinfaa.S2
open Go.RowKit P2

theorem giveAA {w w' : World} {I J : List Int} {ok : Bool} {g c g2 c2 : Nat} {B : Nat} (hB : w.heap.size ≤ B) (hI : IOwn w' B (.slice (some ⟨g, 0, none⟩) I.length c) I) (hJ : IOwn w' B (.slice (some ⟨g2, 0, none⟩) J.length c2) J) (hb : Below w.heap.size w w') : GivesAA w I J ok (.returned (.tuple #[.slice (some ⟨g, 0, none⟩) I.length c, .slice (some ⟨g2, 0, none⟩) J.length c2, .bool ok])) w' := by
  have h1 := World.ownsRow.lt hI g rfl
  have h2 := World.ownsRow.lt hJ g2 rfl
  exact ⟨g, 0, c, g2, 0, c2, rfl, by omega, by omega, hI.iat, hJ.iat, hb, h1.2, h2.2⟩
set_option maxHeartbeats 2000000 in
set_option maxRecDepth 100000 in
theorem slpo_no1 (n : Int) (A : Option Addr) (cap : Nat) (ps : List Pp) (w : World) (h : PAt w A ps) (hm : ps.length ≤ maxLen) (hv : goodB n ps = false) :
    Calls Try.prog 24 #[nv n A ps.length cap] w (GivesAA w [] [] false) := by
  have H := Lib.hid (fun w' (hb : Below w.heap.size w w') => sgood_v hv A cap w' (h.kept hb (Nat.le_refl _)) hm)
  clear h hv
  go_enter Try.func24, Try.ntmps24
  have hW0 : Hid (Below (w.heap.size + 1) (w.alloc (nb n A ps.length cap)) (((w.alloc (nb n A ps.length cap)).alloc (.cells #[] 3)).alloc (.cells #[] 3))) := Lib.hid (((Below.refl _ _).alloc (by simp) _).alloc (by simp) _)
  have hE5 := Lib.hid (show IOwn (((w.alloc (nb n A ps.length cap)).alloc (.cells #[] 3)).alloc (.cells #[] 3)) (w.heap.size + 1) (.slice (some ⟨w.heap.size + 1, 0, none⟩) 0 0) [] by
    have := own_empty (w.alloc (nb n A ps.length cap)) (w.heap.size + 1) (by simp)
    have := World.ownsRow.alloc this (.cells #[] 3)
    simpa [IOwn] using this)
  have hE6 := Lib.hid (show IOwn (((w.alloc (nb n A ps.length cap)).alloc (.cells #[] 3)).alloc (.cells #[] 3)) (w.heap.size + 1) (.slice (some ⟨w.heap.size + 1 + 1, 0, none⟩) 0 0) [] by
    have := own_empty ((w.alloc (nb n A ps.length cap)).alloc (.cells #[] 3)) (w.heap.size + 1) (by simp)
    simpa using this)
  go_upto_region 2 with (fail)
  generalize (((w.alloc (nb n A ps.length cap)).alloc (.cells #[] 3)).alloc (.cells #[] 3)) = w0 at *
  obtain ⟨b0, b1⟩ := box2 hW0.out
  have hy0 := box_lt hW0.out
  go_wp2_with (first | (go_at_call 112; refine (H.out _ (below_box hW0.out)).mono ?_; rintro e w1 ⟨rfl, hb1⟩; have HX1 := Lib.hid (on_call hW0.out hb1); have h51 := Lib.hid (hE5.out.on hb1); have h61 := Lib.hid (hE6.out.on hb1); clear b0 b1; obtain ⟨b0, b1⟩ := box2 HX1.out; have hy1 := box_lt HX1.out; clear hb1) | fail)
  go_ret3
  exact giveAA (I := []) (J := []) (B := w.heap.size + 1) (by omega) h51.out h61.out (below_box HX1.out)
set_option maxHeartbeats 2000000 in
set_option maxRecDepth 100000 in
theorem slpo_no2 (N : Nat) (A : Option Addr) (cap : Nat) (ps : List Pp) (w : World) (h : PAt w A ps) (hm : ps.length ≤ maxLen) (hv : goodB N ps = true) (hr : ringB N ps = false) :
    Calls Try.prog 24 #[nv N A ps.length cap] w (GivesAA w [] [] false) := by
  have H := Lib.hid (fun w' (hb : Below w.heap.size w w') => sgood_v hv A cap w' (h.kept hb (Nat.le_refl _)) hm)
  have H2 := Lib.hid (fun w' (hb : Below w.heap.size w w') => sring_v hr A cap w' (h.kept hb (Nat.le_refl _)) (good_of hv))
  clear h hv hr
  go_enter Try.func24, Try.ntmps24
  have hW0 : Hid (Below (w.heap.size + 1) (w.alloc (nb N A ps.length cap)) (((w.alloc (nb N A ps.length cap)).alloc (.cells #[] 3)).alloc (.cells #[] 3))) := Lib.hid (((Below.refl _ _).alloc (by simp) _).alloc (by simp) _)
  have hE5 := Lib.hid (show IOwn (((w.alloc (nb N A ps.length cap)).alloc (.cells #[] 3)).alloc (.cells #[] 3)) (w.heap.size + 1) (.slice (some ⟨w.heap.size + 1, 0, none⟩) 0 0) [] by
    have := own_empty (w.alloc (nb N A ps.length cap)) (w.heap.size + 1) (by simp)
    have := World.ownsRow.alloc this (.cells #[] 3)
    simpa [IOwn] using this)
  have hE6 := Lib.hid (show IOwn (((w.alloc (nb N A ps.length cap)).alloc (.cells #[] 3)).alloc (.cells #[] 3)) (w.heap.size + 1) (.slice (some ⟨w.heap.size + 1 + 1, 0, none⟩) 0 0) [] by
    have := own_empty ((w.alloc (nb N A ps.length cap)).alloc (.cells #[] 3)) (w.heap.size + 1) (by simp)
    simpa using this)
  go_upto_region 2 with (fail)
  generalize (((w.alloc (nb N A ps.length cap)).alloc (.cells #[] 3)).alloc (.cells #[] 3)) = w0 at *
  obtain ⟨b0, b1⟩ := box2 hW0.out
  have hy0 := box_lt hW0.out
  go_wp2_with (first | (go_at_call 112; refine (H.out _ (below_box hW0.out)).mono ?_; rintro e w1 ⟨rfl, hb1⟩; have HX1 := Lib.hid (on_call hW0.out hb1); have h51 := Lib.hid (hE5.out.on hb1); have h61 := Lib.hid (hE6.out.on hb1); clear b0 b1; obtain ⟨b0, b1⟩ := box2 HX1.out; have hy1 := box_lt HX1.out; clear hb1) | (go_at_call 113; refine (H2.out _ (below_box HX1.out)).mono ?_; rintro e w2 ⟨rfl, hb2⟩; have HX2 := Lib.hid (on_call HX1.out hb2); have h52 := Lib.hid (h51.out.on hb2); have h62 := Lib.hid (h61.out.on hb2); clear b0 b1; obtain ⟨b0, b1⟩ := box2 HX2.out; have hy2 := box_lt HX2.out; clear hb2) | fail)
  go_ret3
  exact giveAA (I := []) (J := []) (B := w.heap.size + 1) (by omega) h52.out h62.out (below_box HX2.out)
set_option maxHeartbeats 4000000 in
set_option maxRecDepth 100000 in
theorem slpo_yes (N : Nat) (A : Option Addr) (cap : Nat) (ps : List Pp) (w : World) (h : PAt w A ps) (hm : ps.length ≤ maxLen) (hc : ps.length ≤ cap) (hv : goodB N ps = true) (hr : ringB N ps = true) :
    Calls Try.prog 24 #[nv N A ps.length cap] w (GivesAA w (loI ps (sgL N ps) ps.length) (loS (sgL N ps) ps.length) true) := by
  have H := Lib.hid (fun w' (hb : Below w.heap.size w w') => sgood_v hv A cap w' (h.kept hb (Nat.le_refl _)) hm)
  have H2 := Lib.hid (fun w' (hb : Below w.heap.size w w') => sring_v hr A cap w' (h.kept hb (Nat.le_refl _)) (good_of hv))
  have H3 := Lib.hid (fun w' (hb : Below w.heap.size w w') => slp_any N A cap ps w' (h.kept hb (Nat.le_refl _)) hc (good_of hv) hr)
  have hpl := (good_of hv).2.2.1
  have hsl := sgL_len N ps
  obtain ⟨sg, hsg⟩ : ∃ sg, sgL N ps = sg := ⟨_, rfl⟩
  rw [hsg] at H3 hsl
  rw [hsg]
  have HA := Lib.hid (fun w' (hb : Below w.heap.size w w') => h.kept hb (Nat.le_refl _))
  have HL := Lib.hid hsl
  obtain ⟨i0, hi, hz0, hz1, hz2⟩ := info_parts infoI
  clear hsg hsl hc
  clear h hv hr
  go_enter Try.func24, Try.ntmps24
  have hW0 : Hid (Below (w.heap.size + 1) (w.alloc (nb N A ps.length cap)) (((w.alloc (nb N A ps.length cap)).alloc (.cells #[] 3)).alloc (.cells #[] 3))) := Lib.hid (((Below.refl _ _).alloc (by simp) _).alloc (by simp) _)
  have hE5 := Lib.hid (show IOwn (((w.alloc (nb N A ps.length cap)).alloc (.cells #[] 3)).alloc (.cells #[] 3)) (w.heap.size + 1) (.slice (some ⟨w.heap.size + 1, 0, none⟩) 0 0) [] by
    have := own_empty (w.alloc (nb N A ps.length cap)) (w.heap.size + 1) (by simp)
    have := World.ownsRow.alloc this (.cells #[] 3)
    simpa [IOwn] using this)
  have hE6 := Lib.hid (show IOwn (((w.alloc (nb N A ps.length cap)).alloc (.cells #[] 3)).alloc (.cells #[] 3)) (w.heap.size + 1) (.slice (some ⟨w.heap.size + 1 + 1, 0, none⟩) 0 0) [] by
    have := own_empty ((w.alloc (nb N A ps.length cap)).alloc (.cells #[] 3)) (w.heap.size + 1) (by simp)
    simpa using this)
  go_upto_region 2 with (fail)
  generalize (((w.alloc (nb N A ps.length cap)).alloc (.cells #[] 3)).alloc (.cells #[] 3)) = w0 at *
  obtain ⟨b0, b1⟩ := box2 hW0.out
  have hy0 := box_lt hW0.out
  go_wp2_with (first | (go_at_call 112; refine (H.out _ (below_box hW0.out)).mono ?_; rintro e w1 ⟨rfl, hb1⟩; have HX1 := Lib.hid (on_call hW0.out hb1); have h51 := Lib.hid (hE5.out.on hb1); have h61 := Lib.hid (hE6.out.on hb1); clear b0 b1; obtain ⟨b0, b1⟩ := box2 HX1.out; have hy1 := box_lt HX1.out; clear hb1) | (go_at_call 113; refine (H2.out _ (below_box HX1.out)).mono ?_; rintro e w2 ⟨rfl, hb2⟩; have HX2 := Lib.hid (on_call HX1.out hb2); have h52 := Lib.hid (h51.out.on hb2); have h62 := Lib.hid (h61.out.on hb2); clear b0 b1; obtain ⟨b0, b1⟩ := box2 HX2.out; have hy2 := box_lt HX2.out; clear hb2) | (go_at_call 118; refine (H3.out _ (below_box HX2.out)).mono ?_; rintro e w3 ⟨g, c, rfl, hg, hO, hb3⟩; have HX3 := Lib.hid (on_call HX2.out hb3); have h53 := Lib.hid (h52.out.on hb3); have h63 := Lib.hid (h62.out.on hb3); have HO3 := Lib.hid hO; clear b0 b1; obtain ⟨b0, b1⟩ := box2 HX3.out; have hy3 := box_lt HX3.out; clear hb3 hO) | fail)
  have hg5 := (World.ownsRow.lt h53.out _ rfl)
  have hg6 := (World.ownsRow.lt h63.out _ rfl)
  have hgS := Lib.hid (show w.heap.size + 1 + 1 + 1 ≤ g by have h1 := (World.ownsRow.lt h62.out (w.heap.size + 1 + 1) rfl).2; have h2 := hg; omega)
  have hgS2 := hgS.out
  have hn56 : Hid (w.heap.size + 1 ≠ w.heap.size + 1 + 1) := Lib.hid (by omega)
  have hn5S : Hid (w.heap.size + 1 ≠ g) := Lib.hid (by omega)
  have hn6S : Hid (w.heap.size + 1 + 1 ≠ g) := Lib.hid (by omega)
  clear hg5 hg6 hgS2
  have HO3b := Lib.hid (own_lower (B' := w.heap.size + 1) HO3.out (by omega))
  go_loopw [5, 6, 8] (fun v5 v6 i wr => ∃ (k g5 c5 g6 c6 : Nat) (I J : List Int), k ≤ ps.length ∧ i = .int .i64 (k : Int) ∧ v5 = .slice (some ⟨g5, 0, none⟩) I.length c5 ∧ v6 = .slice (some ⟨g6, 0, none⟩) J.length c6 ∧ Hid (loI ps sg k = I) ∧ Hid (loS sg k = J) ∧ Hid (IOwn wr (w.heap.size + 1) (.slice (some ⟨g5, 0, none⟩) I.length c5) I) ∧ Hid (IOwn wr (w.heap.size + 1) (.slice (some ⟨g6, 0, none⟩) J.length c6) J) ∧ Hid (IOwn wr (w.heap.size + 1) (.slice (some ⟨g, 0, none⟩) sg.length c) sg) ∧ Hid (g5 ≠ g6) ∧ Hid (g5 ≠ g) ∧ Hid (g6 ≠ g) ∧ Hid (Below (w.heap.size + 1) (w.alloc (nb N A ps.length cap)) wr)) (fun _ _ i _ => ps.length - (intOf i).toNat)
  case atStart => exact ⟨0, w.heap.size + 1, 0, w.heap.size + 1 + 1, 0, [], [], Nat.zero_le _, rfl, rfl, rfl, Lib.hid rfl, Lib.hid rfl, h53, h63, HO3b, hn56, hn5S, hn6S, HX3⟩
  case round =>
    clear h53 h63 HO3b HO3 hn56 hn5S hn6S HX3 b0 b1 h51 h52 h61 h62 HX1 HX2 hE5 hE6 hW0 hgS hg H H2 H3 hy0 hy1 hy2 hy3
    obtain ⟨k, g5, c5, g6, c6, I, J, hk, rfl, rfl, rfl, hI, hJ, h5, h6, hS, hne, hn5, hn6, hB⟩ := hrel
    by_cases hlt : k < ps.length
    · obtain ⟨b0, b1⟩ := box2 hB.out
      have hzl := box_lt hB.out
      obtain ⟨bx, ofx, hA, hbx, p0, p1, p2, p3⟩ := (HA.out _ (below_box hB.out)).at_ hlt
      subst hA
      have hk0 : (0 : Int) ≤ (k : Int) := by omega
      have hk1 : (k : Int) < (ps.length : Int) := by omega
      have hk2 : (k : Int) < (sg.length : Int) := by rw [HL.out]; omega
      have hcs := hS.out.cell rfl (v := k) (by rw [HL.out]; exact hlt)
      have hgl := (World.ownsRow.lt hS.out g rfl).2
      by_cases hs : dA sg k = 0
      · have hn0 : (dA sg k != 0) = false := by rw [hs]; rfl
        have HI2 := Lib.hid (show loI ps sg (k + 1) = I by rw [loI_no hs]; exact hI.out)
        have HJ2 := Lib.hid (show loS sg (k + 1) = J by rw [loS_no hs]; exact hJ.out)
        go_wp2
        go_roundw
        case rel => exact ⟨k + 1, g5, c5, g6, c6, I, J, by omega, by go_num, rfl, rfl, HI2, HJ2, h5, h6, hS, hne, hn5, hn6, hB⟩
        case measure => simp [intOf]; omega
      · have hn0 : (dA sg k != 0) = true := bne_iff_ne.2 hs
        have HI2 := Lib.hid (show loI ps sg (k + 1) = I ++ [(pAt ps k).id] by rw [loI_yes hs, hI.out])
        have HJ2 := Lib.hid (show loS sg (k + 1) = J ++ [dA sg k] by rw [loS_yes hs, hJ.out])
        have hIl : I.length ≤ 10 := by have := loI_len ps sg k; rw [hI.out] at this; omega
        have hJl : J.length ≤ 10 := by have := loS_len sg k; rw [hJ.out] at this; omega
        obtain ⟨p, hp⟩ : ∃ p, pAt ps k = p := ⟨_, rfl⟩
        rw [hp] at p0 p1 p2 p3 HI2
        have ho5 := h5.out
        have ho6 := h6.out
        unfold IOwn at ho5 ho6
        obtain ⟨hl5a, hl5b⟩ := World.ownsRow.lt h5.out g5 rfl
        obtain ⟨hl6a, hl6b⟩ := World.ownsRow.lt h6.out g6 rfl
        have hne' := hne.out
        have hn5' := hn5.out
        have hn6' := hn6.out
        go_wp2_with (at_builtin; go_must (refine wpList_append_lies _ rfl _ _ 34 rfl (w.heap.size + 1) 3 i0 (.int .i64 0) 1 8 Try.underlying34 hi hz0 hz1 hz2 rfl (by decide) _ _ _ rfl (ho5.alloc _) ⟨wr.heap.size, 0, none⟩ 1 1 [iv p.id] rfl rfl (cell_one_new _ _ _) (one_newI _) (by omega) (by unfold maxLen; omega) (by omega) (by have := hB.out.size; simp at this ⊢; omega) (wr.heap.size + 1) (by simp) ?_))
        intro g5n c5n w3 hown3 hgrow3 hat3 hlt3
        have H53 := Lib.hid (IOwn.push hown3)
        have H63 := Lib.hid (own7_far (show IOwn (wr.alloc (.cells #[iv p.id] 3)) _ _ _ from h6.out.alloc _) hgrow3 (by omega))
        have HS3 := Lib.hid (own7_far (show IOwn (wr.alloc (.cells #[iv p.id] 3)) _ _ _ from hS.out.alloc _) hgrow3 (by omega))
        have HB3 := Lib.hid ((hB.out.alloc (by omega) (.cells #[iv p.id] 3)).grown hgrow3 (by simp; omega) (fun q hq => by simp [Value.ownBlock] at hq; omega))
        have hd3 : g5n = g5 ∨ g5n = wr.heap.size + 1 := by rcases hat3 with h | h; exact .inl (by simpa [Value.ownBlock] using h.symm); exact .inr h
        have hz3 := hgrow3.size
        simp at hz3
        clear hown3 hgrow3 hat3 ho5 ho6 h5 h6 hS hB b0 b1 p0 p1 p2 p3 hcs hI hJ hne hn5 hn6 hp HA hs
        obtain ⟨b0, b1⟩ := box2 HB3.out
        have hzl3 := box_lt HB3.out
        have hcs := HS3.out.cell rfl (v := k) (by rw [HL.out]; exact hlt)
        have ho6 := H63.out
        unfold IOwn at ho6
        go_wp2_with (at_builtin; go_must (refine wpList_append_lies _ rfl _ _ 34 rfl (w.heap.size + 1) 3 i0 (.int .i64 0) 1 8 Try.underlying34 hi hz0 hz1 hz2 rfl (by decide) _ _ _ rfl (ho6.alloc _) ⟨w3.heap.size, 0, none⟩ 1 1 [iv (dA sg k)] rfl rfl (cell_one_new _ _ _) (one_newI _) (by omega) (by unfold maxLen; omega) (by omega) (by simp; omega) (w3.heap.size + 1) (by simp) ?_))
        intro g6n c6n w4 hown4 hgrow4 hat4 hlt4
        have H64 := Lib.hid (IOwn.push hown4)
        have H54 := Lib.hid (own7_far (show IOwn (w3.alloc (.cells #[iv (dA sg k)] 3)) _ _ _ from H53.out.alloc _) hgrow4 (by omega))
        have HS4 := Lib.hid (own7_far (show IOwn (w3.alloc (.cells #[iv (dA sg k)] 3)) _ _ _ from HS3.out.alloc _) hgrow4 (by omega))
        have HB4 := Lib.hid ((HB3.out.alloc (by omega) (.cells #[iv (dA sg k)] 3)).grown hgrow4 (by simp; omega) (fun q hq => by simp [Value.ownBlock] at hq; omega))
        have hd4 : g6n = g6 ∨ g6n = w3.heap.size + 1 := by rcases hat4 with h | h; exact .inl (by simpa [Value.ownBlock] using h.symm); exact .inr h
        have HG1 := Lib.hid (show g5n ≠ g6n by omega)
        have HG2 := Lib.hid (show g5n ≠ g by omega)
        have HG3 := Lib.hid (show g6n ≠ g by omega)
        clear hown4 hgrow4 hat4 ho6 H53 H63 HS3 HB3 hcs b0 b1
        go_wp2
        go_roundw
        case rel => exact ⟨k + 1, g5n, c5n, g6n, c6n, I ++ [p.id], J ++ [dA sg k], by omega, by go_num, by rw [len1], by rw [len1], HI2, HJ2, by rw [len1]; exact H54, by rw [len1]; exact H64, HS4, HG1, HG2, HG3, HB4⟩
        case measure => simp [intOf]; omega
    · have hkn : k = ps.length := by omega
      subst hkn
      obtain ⟨b0, b1⟩ := box2 hB.out
      have hI2 := hI.out
      have hJ2 := hJ.out
      have hld : decide (ps.length < sg.length) = false := decide_eq_false (by rw [HL.out]; omega)
      clear hI hJ
      go_wp2
      go_ret3
      rw [hI2, hJ2]
      exact giveAA (B := w.heap.size + 1) (by omega) h5.out h6.out (below_box hB.out)
end Go.Proofs.Ytgjogjmfpbinfaa.S2
