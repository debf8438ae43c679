/- HopelessPipes of the model: contracts. Conditions: each theorem's own premises. -/
import Derived.Test.YtbljmibaemgfeaaLawKit
import Derived.Test.YtbljmibaemgfeaaVcs
import Derived.Test.YtbljmibaemgfeaaSValIs
import Derived.Test.YtbljmibaemgfeaaValIs
import Derived.Test.YtbljmibaemgfeaaIdxOne
import Derived.Laws.CopyRow
import Derived.Test.YtbljmibaemgfeaaSSeg
import Derived.Deep.DeepCutAuto
import Derived.Test.YtbljmibaemgfeaaSegFour
import Derived.Test.YtbljmibaemgfeaaGivesNone
import Derived.Test.YtbljmibaemgfeaaKPa
import Derived.Deep.AppendSrc
import Derived.Lib.AppendZeros
import Derived.Test.YtbljmibaemgfeaaSDry
import Derived.Test.YtbljmibaemgfeaaKPb
import Derived.Test.YtbljmibaemgfeaaGoodOne
namespace Go.Proofs.Ytbljmibaemgfeaa.S2
open Go.RowKit P2 P4

/-- The mark m in a cell of valves. -/
def mv (m j : Nat) : Value := if j % 4 = 3 then .bool (decide ((m + j) % 3 = 0)) else iv ((m + j : Nat) : Int)
def marksV (m n : Nat) : List Value := (List.range n).map fun j => mv m j
theorem marksV_len (m n : Nat) : (marksV m n).length = n := by simp [marksV]
def mkV (m : Nat) (xs : List Value) (j : Nat) : List Value := marksV m j ++ xs.drop j
theorem mkV_zero (m : Nat) (xs : List Value) : mkV m xs 0 = xs := by simp [mkV, marksV]
theorem mkV_set (m : Nat) (xs : List Value) (j : Nat) (h : j < xs.length) : (mkV m xs j).set j (mv m j) = mkV m xs (j + 1) := by
  unfold mkV marksV
  rw [List.set_append_right _ _ (by simp), List.range_succ, List.map_append, List.append_assoc]
  congr 1
  simp only [List.length_map, List.length_range, Nat.sub_self]
  rw [List.drop_eq_getElem_cons h]
  rfl
theorem mkV_full (m : Nat) (xs : List Value) : mkV m xs xs.length = marksV m xs.length := by simp [mkV]
theorem mkV_len (m : Nat) (xs : List Value) (j : Nat) (h : j ≤ xs.length) : (mkV m xs j).length = xs.length := by simp [mkV, marksV]; omega
theorem mv0 (m j : Nat) : mv m (j * 4) = iv ((m : Int) + (j : Int) * 4) := by
  unfold mv; rw [if_neg (by omega)]; congr 1
theorem mv1 (m j : Nat) : mv m (j * 4 + 1) = iv ((m : Int) + (j : Int) * 4 + 1) := by
  unfold mv; rw [if_neg (by omega)]; congr 1
theorem mv2 (m j : Nat) : mv m (j * 4 + 2) = iv ((m : Int) + (j : Int) * 4 + 1 + 1) := by
  unfold mv; rw [if_neg (by omega)]; congr 1
theorem mv3 (m j : Nat) : mv m (j * 4 + 3) = .bool (((m : Int) + (j : Int) * 4 + 1 + 1 + 1) % 3 == 0) := by
  unfold mv
  rw [if_pos (by omega)]
  congr 1
  rw [Bool.eq_iff_iff]
  simp
  omega
theorem set4V (m j : Nat) (xs : List Value) (h : j * 4 + 3 < xs.length) :
    ((((mkV m xs (j * 4)).set (j * 4) (mv m (j * 4))).set (j * 4 + 1) (mv m (j * 4 + 1))).set (j * 4 + 2) (mv m (j * 4 + 2))).set (j * 4 + 3) (mv m (j * 4 + 3)) = mkV m xs ((j + 1) * 4) := by
  rw [mkV_set m xs (j * 4) (by omega), mkV_set m xs (j * 4 + 1) (by omega), mkV_set m xs (j * 4 + 2) (by omega), mkV_set m xs (j * 4 + 3) (by omega), show (j + 1) * 4 = j * 4 + 3 + 1 by omega]
set_option maxHeartbeats 2000000 in
theorem markvx_any (B g cap m n : Nat) (xs : List Value) (hx : xs.length = n * 4) (w : World) (h : w.ownsRow B 60 4 (.slice (some ⟨g, 0, none⟩) n cap) n xs) (hn : n ≤ 1048576) (hm : m ≤ 104857600) :
    Calls Try.prog 28 #[.slice (some ⟨g, 0, none⟩) n cap, .int .i64 (m : Int)] w fun e w' => e = .returned (.int .i64 ((m + n * 4 : Nat) : Int)) ∧ w'.ownsRow B 60 4 (.slice (some ⟨g, 0, none⟩) n cap) n (marksV m (n * 4)) ∧ w.grownBy w' (some g) := by
  have HF := Lib.hid (show mkV m xs (n * 4) = marksV m (n * 4) by have := mkV_full m xs; rwa [hx] at this)
  have HX := Lib.hid hx
  clear hx
  go_enter Try.func28, Try.ntmps28
  go_wp2
  go_loopw [1, 5] (fun k i wr => ∃ j : Nat, j ≤ n ∧ k = .int .i64 ((m + j * 4 : Nat) : Int) ∧ i = .int .i64 j ∧ Hid (wr.ownsRow B 60 4 (.slice (some ⟨g, 0, none⟩) n cap) n (mkV m xs (j * 4))) ∧ w.grownBy wr (some g)) (fun _ i _ => n - (intOf i).toNat)
  case atStart => exact ⟨0, Nat.zero_le _, rfl, rfl, Lib.hid (by rw [Nat.zero_mul, mkV_zero]; exact h), World.grownBy.refl _ _⟩
  case round =>
    obtain ⟨j, hj, rfl, rfl, hown, hb⟩ := hrel
    clear h
    by_cases hlt : j < n
    · have hset := Lib.hid (set4V m j xs (by rw [HX.out]; omega))
      have hL : (mkV m xs (j * 4)).length = n * 4 := (mkV_len m xs (j * 4) (by rw [HX.out]; omega)).trans HX.out
      have c0 := (hown.out.cellAt (j * 4) (by omega)).trans (List.getElem?_eq_getElem (by omega))
      have c1 := (hown.out.cellAt (j * 4 + 1) (by omega)).trans (List.getElem?_eq_getElem (by omega))
      have c2 := (hown.out.cellAt (j * 4 + 2) (by omega)).trans (List.getElem?_eq_getElem (by omega))
      have c3 := (hown.out.cellAt (j * 4 + 3) (by omega)).trans (List.getElem?_eq_getElem (by omega))
      generalize (mkV m xs (j * 4))[j * 4]'(by omega) = u0 at c0
      generalize (mkV m xs (j * 4))[j * 4 + 1]'(by omega) = u1 at c1
      generalize (mkV m xs (j * 4))[j * 4 + 2]'(by omega) = u2 at c2
      generalize (mkV m xs (j * 4))[j * 4 + 3]'(by omega) = u3 at c3
      have hfz := fun o => hown.out.frozenAt o
      clear hL
      rw [mv0, mv1, mv2, mv3] at hset
      go_wp2
      have s3 := (((((hown.out.stored (j * 4) (iv ((m : Int) + (j : Int) * 4))).1.stored (j * 4 + 1) (iv ((m : Int) + (j : Int) * 4 + 1))).1.stored (j * 4 + 2) (iv ((m : Int) + (j : Int) * 4 + 1 + 1))).1.stored (j * 4 + 3) (.bool (((m : Int) + (j : Int) * 4 + 1 + 1 + 1) % 3 == 0)))).1
      rw [hset.out] at s3
      go_roundw
      case rel => exact ⟨j + 1, by omega, by congr 1; omega, by go_num, Lib.hid s3, grown_set (grown_set (grown_set (grown_set hb _ _) _ _) _ _) _ _⟩
      case measure => simp [intOf]; omega
    · have hjn : j = n := by omega
      subst hjn
      go_wp2
      go_ret
      exact ⟨rfl, by rw [← HF.out]; exact hown.out, hb⟩
/-- Marks lie there. -/
def MAt (w : World) (g m n : Nat) : Prop := (n = 0 ∨ g < w.heap.size) ∧ ∀ j, j < n * 4 → w.cell? ⟨g, j, none⟩ = some (mv m j)
theorem own_marks {w : World} {B g cap m n : Nat} (h : w.ownsRow B 60 4 (.slice (some ⟨g, 0, none⟩) n cap) n (marksV m (n * 4))) : MAt w g m n :=
  ⟨.inr (h.lt g rfl).2, fun j hj => by
    rw [h.cellAt j (by omega)]
    simp [marksV, hj]⟩
theorem MAt.kept {w w' : World} {g m n : Nat} (h : MAt w g m n) (hb : Below w.heap.size w w') : MAt w' g m n := by
  rcases h with ⟨h0, h⟩
  refine ⟨h0.imp id (fun h => Nat.lt_of_lt_of_le h hb.size), fun j hj => ?_⟩
  rcases h0 with h0 | h0
  · omega
  · exact (hb.cell (p := ⟨g, j, none⟩) h0).trans (h j hj)
end Go.Proofs.Ytbljmibaemgfeaa.S2

namespace Go.Proofs.Ytbljmibaemgfeaa.S2
open Go.RowKit P2 P4

/-- The valve at a place turned. -/
def turnL (vs : List Vv) (i : Nat) (sh : Bool) : List Vv := vs.set i ⟨(vAt vs i).id, (vAt vs i).pp, (vAt vs i).nd, sh⟩
theorem turnL_len (vs : List Vv) (i : Nat) (sh : Bool) : (turnL vs i sh).length = vs.length := by simp [turnL]
theorem turnL_at (vs : List Vv) (i j : Nat) (sh : Bool) (hi : i < vs.length) : vAt (turnL vs i sh) j = if j = i then ⟨(vAt vs i).id, (vAt vs i).pp, (vAt vs i).nd, sh⟩ else vAt vs j := by
  unfold vAt turnL
  by_cases e : j = i
  · subst e
    simp [List.getD, hi]
    simp [vAt, List.getD, hi]
  · have e2 : ¬ i = j := fun h => e h.symm
    simp [List.getD, e, e2]
theorem turnL_cell (vs : List Vv) (i : Nat) (sh : Bool) (hi : i < vs.length) (j : Nat) : vcell (turnL vs i sh) j = if j = i * 4 + 3 then .bool sh else vcell vs j := by
  unfold vcell
  rw [turnL_at vs i (j / 4) sh hi]
  by_cases e : j / 4 = i
  · rw [if_pos e]
    subst e
    by_cases h0 : j % 4 = 0
    · rw [if_pos h0, if_pos h0, if_neg (by omega)]
    · rw [if_neg h0, if_neg h0]
      by_cases h1 : j % 4 = 1
      · rw [if_pos h1, if_pos h1, if_neg (by omega)]
      · rw [if_neg h1, if_neg h1]
        by_cases h2 : j % 4 = 2
        · rw [if_pos h2, if_pos h2, if_neg (by omega)]
        · rw [if_neg h2, if_neg h2, if_pos (by omega)]
  · have e3 : ¬ j = i * 4 + 3 := by omega
    rw [if_neg e, if_neg e3]
theorem first_one {vs : List Vv} {q : Vv → Bool} {r s : Int} (h : FirstV vs q r) (h2 : FirstV vs q s) : r = s := by
  rcases h with ⟨rfl, h⟩ | ⟨i, hi, rfl, hq, hn⟩
  · rcases h2 with ⟨rfl, _⟩ | ⟨j, hj, rfl, hq2, _⟩
    · rfl
    · rw [h j hj] at hq2; cases hq2
  · rcases h2 with ⟨rfl, h2⟩ | ⟨j, hj, rfl, hq2, hn2⟩
    · rw [h2 i hi] at hq; cases hq
    · by_cases a : i < j
      · rw [hn2 i a] at hq; cases hq
      · by_cases b : j < i
        · rw [hn j b] at hq2; cases hq2
        · have : i = j := by omega
          rw [this]
theorem first_ex (vs : List Vv) (q : Vv → Bool) : ∃ r, FirstV vs q r := by
  by_cases h : ∃ i, i < vs.length ∧ q (vAt vs i) = true
  · obtain ⟨i, hi, hq, hn⟩ : ∃ i, i < vs.length ∧ q (vAt vs i) = true ∧ ∀ j, j < i → q (vAt vs j) = false := by
      obtain ⟨i, hi, hq⟩ := h
      induction i using Nat.strongRecOn with
      | ind i ih =>
        by_cases hx : ∃ j, j < i ∧ q (vAt vs j) = true
        · obtain ⟨j, hj, hqj⟩ := hx
          exact ih j hj (by omega) hqj
        · exact ⟨i, hi, hq, fun j hj => by
            cases hv : q (vAt vs j) with
            | false => rfl
            | true => exact absurd ⟨j, hj, hv⟩ hx⟩
    exact ⟨(i : Int), .inr ⟨i, hi, rfl, hq, hn⟩⟩
  · exact ⟨-1, .inl ⟨rfl, fun i hi => by
      cases hv : q (vAt vs i) with
      | false => rfl
      | true => exact absurd ⟨i, hi, hv⟩ h⟩⟩
/-- Valves beside a bool, in a block of the call's own: as the program gives them; as the model does. -/
def GivesVI (w : World) (l : List Vv) (ok : Bool) (e : Ending) (w' : World) : Prop :=
  ∃ g, e = .returned (.tuple #[.slice (some ⟨g, 0, none⟩) l.length l.length, .bool ok]) ∧ w.heap.size ≤ g ∧ VRow w' g l ∧ Below w.heap.size w w'
def GivesVA (w : World) (l : List Vv) (ok : Bool) (e : Ending) (w' : World) : Prop :=
  ∃ g cap, e = .returned (.tuple #[.slice (some ⟨g, 0, none⟩) l.length cap, .bool ok]) ∧ w.heap.size ≤ g ∧ VAt w' (some ⟨g, 0, none⟩) l ∧ Below w.heap.size w w' ∧ g < w'.heap.size
theorem vrow_empty (w : World) : VRow (w.alloc (.cells #[] 60)) w.heap.size [] := World.rowIs_alloc w #[] 60 _ (fun i hi => by simp at hi)
theorem GivesVI.none {w w1 : World} (hb : Below w.heap.size w w1) : GivesVI w [] false (.returned (.tuple #[.slice (some ⟨w1.heap.size, 0, none⟩) 0 0, .bool false])) (w1.alloc (.cells #[] 60)) :=
  ⟨w1.heap.size, rfl, hb.size, vrow_empty w1, hb.alloc hb.size _⟩
theorem GivesVI.any {w : World} {l : List Vv} {ok : Bool} {e : Ending} {w' : World} (h : GivesVI w l ok e w') : GivesVA w l ok e w' := by
  obtain ⟨g, he, hg, hr, hb⟩ := h
  exact ⟨g, l.length, he, hg, hr.at_, hb, hr.lt⟩
theorem VAt.low {w w' : World} {g o B : Nat} {l : List Vv} (h : VAt w (some ⟨g, o, none⟩) l) (hb : Below B w w') (hg : g < B) : VAt w' (some ⟨g, o, none⟩) l := by
  rcases h with h | ⟨b, off, hA, hlt, h⟩
  · exact .inl h
  · simp only [Option.some.injEq, Addr.mk.injEq, and_true] at hA
    obtain ⟨rfl, rfl⟩ := hA
    refine .inr ⟨g, o, rfl, Nat.lt_of_lt_of_le hlt hb.size, fun i hi => ?_⟩
    have hc : ∀ k, w'.cell? ⟨g, k, none⟩ = w.cell? ⟨g, k, none⟩ := fun k => hb.cell (p := ⟨g, k, none⟩) hg
    rw [hc, hc, hc, hc]
    exact h i hi
theorem VAt.far {w w' : World} {g o x : Nat} {l : List Vv} (h : VAt w (some ⟨g, o, none⟩) l) (hb : w.grownBy w' (some x)) (hg : g ≠ x) : VAt w' (some ⟨g, o, none⟩) l := by
  rcases h with h | ⟨b, off, hA, hlt, h⟩
  · exact .inl h
  · simp only [Option.some.injEq, Addr.mk.injEq, and_true] at hA
    obtain ⟨rfl, rfl⟩ := hA
    refine .inr ⟨g, o, rfl, Nat.lt_of_lt_of_le hlt hb.size, fun i hi => ?_⟩
    have hc : ∀ k, w'.cell? ⟨g, k, none⟩ = w.cell? ⟨g, k, none⟩ := fun k => hb.cell_far ⟨g, k, none⟩ hlt (by simp; omega)
    rw [hc, hc, hc, hc]
    exact h i hi
theorem MAt.low {w w' : World} {g m n B : Nat} (h : MAt w g m n) (hb : Below B w w') (hg : g < B) : MAt w' g m n :=
  ⟨h.1.imp id (fun h => Nat.lt_of_lt_of_le h hb.size), fun j hj => (hb.cell (p := ⟨g, j, none⟩) hg).trans (h.2 j hj)⟩
theorem MAt.far {w w' : World} {g m n x : Nat} (h : MAt w g m n) (hb : w.grownBy w' (some x)) (hg : g ≠ x) : MAt w' g m n := by
  rcases h with ⟨h0, h⟩
  refine ⟨h0.imp id (fun h => Nat.lt_of_lt_of_le h hb.size), fun j hj => ?_⟩
  rcases h0 with h0 | h0
  · omega
  · exact (hb.cell_far ⟨g, j, none⟩ h0 (by simp; omega)).trans (h j hj)
theorem markvr_i (g m : Nat) (mi : Int) (l : List Vv) (w : World) (h : VRow w g l) (hn : l.length ≤ 1048576) (hm : m ≤ 104857600) (hmi : mi = (m : Int)) :
    Calls Try.prog 28 #[.slice (some ⟨g, 0, none⟩) l.length l.length, .int .i64 mi] w fun e w' => e = .returned (.int .i64 (mi + (l.length : Int) * 4)) ∧ MAt w' g m l.length ∧ w.grownBy w' (some g) := by
  subst hmi
  obtain ⟨xs, hx, ho⟩ := vrow_own h hn
  exact (markvx_any g g l.length m l.length xs hx w ho hn hm).mono fun _ _ ⟨he, ho, hg⟩ => ⟨by rw [he]; congr 2, own_marks ho, hg⟩
/-- The cells of valves, in a list. -/
def vcl (vs : List Vv) : List Value := (List.range (vs.length * 4)).map (vcell vs)
theorem vcl_len (vs : List Vv) : (vcl vs).length = vs.length * 4 := by simp [vcl]
theorem vcl_get {vs : List Vv} {j : Nat} {u : Value} (h : (vcl vs)[j]? = some u) : j < vs.length * 4 ∧ u = vcell vs j := by
  have hj : j < vs.length * 4 := by
    have := (List.getElem?_eq_some_iff.1 h).1
    rwa [vcl_len] at this
  refine ⟨hj, ?_⟩
  simp [vcl, hj] at h
  exact h.symm
theorem vcl_one (vs : List Vv) : ∀ u ∈ vcl vs, u.oneCell' = true := by
  intro u hu
  obtain ⟨j, _, rfl⟩ := List.mem_map.1 hu
  unfold vcell
  repeat' split
  all_goals rfl
theorem vcl_at {w : World} {b off : Nat} {vs : List Vv} (h : VAt w (some ⟨b, off, none⟩) vs) : ∀ j u, (vcl vs)[j]? = some u → w.cell? ((⟨b, off, none⟩ : Addr).add j) = some u := by
  intro j u hu
  obtain ⟨hj, rfl⟩ := vcl_get hu
  have hadd : (⟨b, off, none⟩ : Addr).add j = ⟨b, off + j, none⟩ := by unfold Addr.add; split <;> simp_all
  rw [hadd]
  obtain ⟨b', off', hA, _, h0, h1, h2, h3⟩ := h.at_ (i := j / 4) (by omega)
  simp only [Option.some.injEq, Addr.mk.injEq, and_true] at hA
  obtain ⟨rfl, rfl⟩ := hA
  have hd : j = j / 4 * 4 + j % 4 := by omega
  have hr : j % 4 = 0 ∨ j % 4 = 1 ∨ j % 4 = 2 ∨ j % 4 = 3 := by omega
  generalize hq : j / 4 = q at *
  rcases hr with hr | hr | hr | hr
  · rw [show j = q * 4 by omega, vcell0]; exact h0
  · rw [show j = q * 4 + 1 by omega, vcell1]; exact h1
  · rw [show j = q * 4 + 2 by omega, vcell2]; exact h2
  · rw [show j = q * 4 + 3 by omega, vcell3]; exact h3
theorem run_copyV (w : World) (ty : TypeId) (g : Nat) (vs : List Vv) (b off sCap : Nat) (hs : VAt w (some ⟨b, off, none⟩) vs) (f : Nat → Value) (h : w.rowIs g 60 (vs.length * 4) f) :
    ∃ w', (Builtin.copy_ #[34, 34] ty #[.slice (some ⟨g, 0, none⟩) vs.length vs.length, .slice (some ⟨b, off, none⟩) vs.length sCap]).run Try.prog w = .ok (goInt vs.length) w' ∧ VRow w' g vs ∧ w.grownBy w' (some g) := by
  obtain ⟨cur, hg, hsz, hcur⟩ := h
  have hl := run_loadCells_list (P := Try.prog) w ⟨b, off, none⟩ (vcl vs) (vcl_at hs)
  have hst := run_storeCells_at Try.prog g 0 60 (vcl vs) 0 cur w hg (by rw [vcl_len]; omega) (vcl_one vs)
  rw [vcl_len] at hl
  have hd : (cur.toList.take (0 + 0) ++ vcl vs ++ cur.toList.drop (0 + 0 + (vcl vs).length)) = vcl vs := by
    rw [List.drop_eq_nil_of_le (by simp [vcl_len]; omega)]
    simp
  rw [hd] at hst
  obtain ⟨i0, hi, hz0, hz1, hz2⟩ := info_parts infoV
  refine ⟨w.setRow g (vcl vs).toArray, ?_, ⟨_, setRow_heap w g cur _ _ _ hg, ?_, ?_⟩, ⟨rfl, rfl, rfl, by simp [World.setRow], fun k hk hne => setRow_other w g k _ (by intro e; subst e; exact hne rfl)⟩⟩
  · simp [Builtin.copy_, run_underlying Try.underlying34, Builtin.lenOf, Builtin.firstCells, sizeOf, typeInfo, hi, hz1, hl, hst]
  · simp [vcl_len]
  · intro i hi
    simp [vcl, hi]
end Go.Proofs.Ytbljmibaemgfeaa.S2

namespace Go.Proofs.Ytbljmibaemgfeaa.S2
open Go.RowKit P2 P4

theorem sgoodv_t {n : Int} {ps : List Pp} {vs : List Vv} {v : Bool} (hg : goodV n ps vs = v) (A : Option Addr) (cap : Nat) (AV : Option Addr) (capv : Nat) (w : World) (h : PAt w A ps) (hm : ps.length ≤ maxLen) (hv : VAt w AV vs) (hmv : vs.length ≤ maxLen) :
    Calls Try.prog 101 #[nv n A ps.length cap, .slice AV vs.length capv] w fun e w' => e = .returned (.bool v) ∧ Below w.heap.size w w' := by
  rw [← hg]; exact sgoodv_any n A cap ps AV capv vs w h hm hv hmv
set_option maxHeartbeats 2000000 in
theorem sfindv_any (A : Option Addr) (cap : Nat) (vs : List Vv) (x : Int) (w : World) (h : VAt w A vs) (hm : vs.length ≤ maxLen) :
    Calls Try.prog 107 #[.slice A vs.length cap, .int .i64 x] w fun e w' => (∃ r, e = .returned (.int .i64 r) ∧ FirstV vs (qi x) r) ∧ Below w.heap.size w w' := by
  unfold maxLen at hm
  have HA := Lib.hid h
  clear h
  go_enter Try.func107, Try.ntmps107
  go_wp2
  go_loop [5] (fun i => ∃ k : Nat, k ≤ vs.length ∧ i = .int .i64 (k : Int) ∧ Hid (∀ j, j < k → (qi x) (vAt vs j) = false)) (fun i => vs.length - (intOf i).toNat)
  case atStart => exact ⟨0, Nat.zero_le _, rfl, Lib.hid (fun j hj => absurd hj (by omega))⟩
  case round =>
    obtain ⟨k, hk, rfl, hno⟩ := hrel
    by_cases hlt : k < vs.length
    · obtain ⟨b, off, hA, hbl, h0, h1, h2, h3⟩ := HA.out.at_ hlt
      subst hA
      have hk0 : (0 : Int) ≤ (k : Int) := by omega
      have hkn : (k : Int) < (vs.length : Int) := by omega
      by_cases he : (vAt vs k).id = x
      · have g1 : ((vAt vs k).id == x) = true := beq_iff_eq.2 he
        have HFI := Lib.hid (show FirstV vs (qi x) (k : Int) from .inr ⟨k, hlt, rfl, by simp [qi, he], hno.out⟩)
        clear he hno
        generalize vAt vs k = y at *
        go_wp2
        go_ret
        exact ⟨⟨_, rfl, HFI.out⟩, Below.refl _ _⟩
      · have g1 : ((vAt vs k).id == x) = false := beq_eq_false_iff_ne.2 he
        have hno2 := Lib.hid (show ∀ j, j < k + 1 → (qi x) (vAt vs j) = false from fun j hj => by
          by_cases e : j = k
          · subst e; simp [qi, he]
          · exact hno.out j (by omega))
        clear he hno
        generalize vAt vs k = y at *
        go_wp2
        go_round
        case rel => exact ⟨k + 1, by omega, by go_num, hno2⟩
        case measure => simp [intOf]; omega
    · have HFI := Lib.hid (show FirstV vs (qi x) (-1) from .inl ⟨rfl, fun i hi => hno.out i (by omega)⟩)
      go_wp2
      go_ret
      exact ⟨⟨_, rfl, HFI.out⟩, Below.refl _ _⟩
theorem own_sl {w : World} {B n : Nat} {v : Value} {xs : List Value} (h : w.ownsRow B 60 4 v n xs) (hn : 0 < n) : ∃ g cap, v = .slice (some ⟨g, 0, none⟩) n cap ∧ B ≤ g := by
  obtain ⟨g, cap, hv, hb, _⟩ := h.form hn
  exact ⟨g, cap, hv, hb⟩
theorem vcl_set (vs : List Vv) (i : Nat) (sh : Bool) (hi : i < vs.length) : ((((vcl vs).set (i * 4) (.int .i64 (vAt vs i).id)).set (i * 4 + 1) (.int .i64 (vAt vs i).pp)).set (i * 4 + 2) (.int .i64 (vAt vs i).nd)).set (i * 4 + 3) (.bool sh) = vcl (turnL vs i sh) := by
  apply List.ext_getElem
  · simp [vcl_len, turnL_len]
  · intro j h1 h2
    have hj : j < vs.length * 4 := by simpa [vcl_len, turnL_len] using h2
    have e : (vcl (turnL vs i sh))[j]'h2 = vcell (turnL vs i sh) j := by simp [vcl]
    have e0 : (vcl vs)[j]'(by rw [vcl_len]; exact hj) = vcell vs j := by simp [vcl]
    rw [e, turnL_cell vs i sh hi]
    simp only [List.getElem_set]
    by_cases h3 : j = i * 4 + 3
    · rw [if_pos h3.symm, if_pos h3]
    · rw [if_neg (fun e => h3 e.symm), if_neg h3]
      by_cases h4 : j = i * 4 + 2
      · rw [if_pos h4.symm, h4, vcell2]
      · rw [if_neg (fun e => h4 e.symm)]
        by_cases h5 : j = i * 4 + 1
        · rw [if_pos h5.symm, h5, vcell1]
        · rw [if_neg (fun e => h5 e.symm)]
          by_cases h6 : j = i * 4
          · rw [if_pos h6.symm, h6, vcell0]
          · rw [if_neg (fun e => h6 e.symm), e0]
theorem own_vclat {w : World} {B g cap : Nat} {vs : List Vv} (h : w.ownsRow B 60 4 (.slice (some ⟨g, 0, none⟩) vs.length cap) vs.length (vcl vs)) : VAt w (some ⟨g, 0, none⟩) vs := by
  refine .inr ⟨g, 0, rfl, (h.lt g rfl).2, fun i hi => ?_⟩
  have hc : ∀ j, j < vs.length * 4 → w.cell? ⟨g, j, none⟩ = some (vcell vs j) := fun j hj => (h.cellAt j (by omega)).trans (by simp [vcl, hj])
  simp only [Nat.zero_add]
  rw [hc _ (by omega), hc _ (by omega), hc _ (by omega), hc _ (by omega), vcell0, vcell1, vcell2, vcell3]
  exact ⟨rfl, rfl, rfl, rfl⟩
set_option maxHeartbeats 4000000 in
set_option maxRecDepth 100000 in
theorem sturned_any (b off capv i : Nat) (vs : List Vv) (sh : Bool) (w : World) (hv : VAt w (some ⟨b, off, none⟩) vs) (hm : vs.length ≤ 10) (hi : i < vs.length) :
    Calls Try.prog 135 #[.slice (some ⟨b, off, none⟩) vs.length capv, .int .i64 (i : Int), .bool sh] w fun e w' => ∃ g cap, e = .returned (.slice (some ⟨g, 0, none⟩) vs.length cap) ∧ w.heap.size ≤ g ∧ VAt w' (some ⟨g, 0, none⟩) (turnL vs i sh) ∧ Below w.heap.size w w' ∧ g < w'.heap.size := by
  obtain ⟨i0, hi0, hz0, hz1, hz2⟩ := info_parts infoV
  have hk0 : (0 : Int) ≤ (i : Int) := by omega
  have hkn : (i : Int) < (vs.length : Int) := by omega
  have HV := Lib.hid (fun w' (hb' : Below w.heap.size w w') => hv.kept hb' (Nat.le_refl _))
  have HT := Lib.hid (vcl_set vs i sh hi)
  have HO0 := Lib.hid (own_emptyV w w.heap.size (Nat.le_refl _))
  clear hv
  go_enter Try.func135, Try.ntmps135
  go_wp2_with (at_builtin; go_must (refine wpList_append_own _ rfl _ _ 34 rfl w.heap.size 60 i0 _ 4 32 Try.underlying34 hi0 hz0 hz1 hz2 rfl (by omega) _ _ _ rfl HO0.out ⟨b, off, none⟩ vs.length capv (vcl vs) rfl (vcl_len vs) (vcl_at (HV.out _ ((Below.refl _ _).alloc (Nat.le_refl _) _))) (vcl_one vs) ?c3 ?c4 ?c5 ?_))
  case c3 => unfold maxLen; omega
  case c4 => omega
  case c5 => simp
  intro v' w3 hown' hgrow hnil
  obtain ⟨g, cg, rfl, hgg⟩ := own_sl hown' (by omega)
  have hB3 := Lib.hid (((Below.refl w.heap.size w).alloc (Nat.le_refl _) (.cells #[] 60)).grown hgrow (by simp) (fun g hg => (HO0.out.lt g hg).1))
  have hlt3 := (hown'.lt g rfl).2
  have HO3 := Lib.hid hown'
  have hz3 := hB3.out.size
  have hL : (vcl vs).length = vs.length * 4 := vcl_len vs
  have hcc : ∀ j, j < vs.length * 4 → w3.cell? ⟨g, j, none⟩ = some (vcell vs j) := fun j hj => (hown'.cellAt j (by omega)).trans (by simp [vcl, hj])
  have c0 := hcc (i * 4) (by omega)
  have c1 := hcc (i * 4 + 1) (by omega)
  have c2 := hcc (i * 4 + 2) (by omega)
  have c3 := hcc (i * 4 + 3) (by omega)
  rw [vcell0] at c0
  rw [vcell1] at c1
  rw [vcell2] at c2
  rw [vcell3] at c3
  have hfz := fun o => hown'.frozenAt o
  clear hown' hgrow hnil hcc HO0
  generalize (vAt vs i).id = y0 at *
  generalize (vAt vs i).pp = y1 at *
  generalize (vAt vs i).nd = y2 at *
  generalize (vAt vs i).sh = y3 at *
  go_wp2_with fail
  go_ret
  have s3 := (((((HO3.out.stored (i * 4) (.int .i64 y0)).1.stored (i * 4 + 1) (.int .i64 y1)).1.stored (i * 4 + 2) (.int .i64 y2)).1.stored (i * 4 + 3) (.bool sh))).1
  rw [HT.out] at s3
  refine ⟨g, cg, rfl, hgg, own_vclat (vs := turnL vs i sh) (by rw [turnL_len]; exact s3.alloc _), ?_, ?_⟩
  · exact (hB3.out.grown (grown_set (grown_set (grown_set (grown_set (World.grownBy.refl _ (some g)) _ _) _ _) _ _) _ _) hz3 (fun k hk => by simp at hk; omega)).alloc (by simp; omega) _
  · simp; omega
set_option maxHeartbeats 4000000 in
set_option maxRecDepth 100000 in
theorem sturn_bad (n : Int) (A : Option Addr) (cap : Nat) (ps : List Pp) (AV : Option Addr) (capv : Nat) (vs : List Vv) (x : Int) (sh : Bool) (w : World) (h : PAt w A ps) (hm : ps.length ≤ maxLen) (hv : VAt w AV vs) (hmv : vs.length ≤ maxLen) (hb : goodV n ps vs = false) :
    Calls Try.prog 69 #[nv n A ps.length cap, .slice AV vs.length capv, .int .i64 x, .bool sh] w (GivesVA w [] false) := by
  obtain ⟨r0, hf⟩ := first_ex vs (qi x)
  have H := Lib.hid (fun w' (hb' : Below w.heap.size w w') => sgoodv_t hb A cap AV capv w' (h.kept hb' (Nat.le_refl _)) hm (hv.kept hb' (Nat.le_refl _)) hmv)
  have HA := Lib.hid (fun w' (hb' : Below w.heap.size w w') => hv.kept hb' (Nat.le_refl _))
  have HF := Lib.hid hf
  have HM := Lib.hid hmv
  clear h hm hv hmv hb hf
  go_enter Try.func69, Try.ntmps69
  go_wp2_with (first
    | (go_at_call 107; refine (sfindv_any _ capv vs x _ (HA.out _ ((Below.refl w.heap.size w).alloc (Nat.le_refl _) (.cells #[.int .i64 n, .slice A ps.length cap] 32))) HM.out).mono ?_; rintro e w1 ⟨⟨r, rfl, hr⟩, hb1⟩; obtain rfl := first_one hr HF.out; have HB1 := Lib.hid (((Below.refl w.heap.size w).alloc (Nat.le_refl _) (.cells #[.int .i64 n, .slice A ps.length cap] 32)).trans (hb1.mono (by simp))); have a0 := (hb1.cell (p := ⟨w.heap.size, 0, none⟩) (by simp)).trans (show (w.alloc (.cells #[.int .i64 n, .slice A ps.length cap] 32)).cell? ⟨w.heap.size, 0, none⟩ = some (.int .i64 n) by go_simp); have a1 := (hb1.cell (p := ⟨w.heap.size, 1, none⟩) (by simp)).trans (show (w.alloc (.cells #[.int .i64 n, .slice A ps.length cap] 32)).cell? ⟨w.heap.size, 1, none⟩ = some (.slice A ps.length cap) by go_simp); clear hb1 hr)
    | (go_at_call 101; refine (H.out w1 HB1.out).mono ?_; rintro e w2 ⟨rfl, hb2⟩; have HB2 := Lib.hid (HB1.out.trans (hb2.mono HB1.out.size)); clear hb2))
  go_ret2
  exact (GivesVI.none HB2.out).any
set_option maxHeartbeats 4000000 in
set_option maxRecDepth 100000 in
theorem sturn_none (n : Int) (A : Option Addr) (cap : Nat) (ps : List Pp) (AV : Option Addr) (capv : Nat) (vs : List Vv) (x : Int) (sh : Bool) (w : World) (h : PAt w A ps) (hm : ps.length ≤ maxLen) (hv : VAt w AV vs) (hmv : vs.length ≤ maxLen) (hb : goodV n ps vs = true) (hf : FirstV vs (qi x) (-1)) :
    Calls Try.prog 69 #[nv n A ps.length cap, .slice AV vs.length capv, .int .i64 x, .bool sh] w (GivesVA w [] false) := by
  have H := Lib.hid (fun w' (hb' : Below w.heap.size w w') => sgoodv_t hb A cap AV capv w' (h.kept hb' (Nat.le_refl _)) hm (hv.kept hb' (Nat.le_refl _)) hmv)
  have HA := Lib.hid (fun w' (hb' : Below w.heap.size w w') => hv.kept hb' (Nat.le_refl _))
  have HF := Lib.hid hf
  have HM := Lib.hid hmv
  clear h hm hv hmv hb hf
  go_enter Try.func69, Try.ntmps69
  go_wp2_with (first
    | (go_at_call 107; refine (sfindv_any _ capv vs x _ (HA.out _ ((Below.refl w.heap.size w).alloc (Nat.le_refl _) (.cells #[.int .i64 n, .slice A ps.length cap] 32))) HM.out).mono ?_; rintro e w1 ⟨⟨r, rfl, hr⟩, hb1⟩; obtain rfl := first_one hr HF.out; have HB1 := Lib.hid (((Below.refl w.heap.size w).alloc (Nat.le_refl _) (.cells #[.int .i64 n, .slice A ps.length cap] 32)).trans (hb1.mono (by simp))); have a0 := (hb1.cell (p := ⟨w.heap.size, 0, none⟩) (by simp)).trans (show (w.alloc (.cells #[.int .i64 n, .slice A ps.length cap] 32)).cell? ⟨w.heap.size, 0, none⟩ = some (.int .i64 n) by go_simp); have a1 := (hb1.cell (p := ⟨w.heap.size, 1, none⟩) (by simp)).trans (show (w.alloc (.cells #[.int .i64 n, .slice A ps.length cap] 32)).cell? ⟨w.heap.size, 1, none⟩ = some (.slice A ps.length cap) by go_simp); clear hb1 hr)
    | (go_at_call 101; refine (H.out w1 HB1.out).mono ?_; rintro e w2 ⟨rfl, hb2⟩; have HB2 := Lib.hid (HB1.out.trans (hb2.mono HB1.out.size)); clear hb2))
  go_ret2
  exact (GivesVI.none HB2.out).any
set_option maxHeartbeats 4000000 in
set_option maxRecDepth 100000 in
theorem sturn_same (i : Nat) (n : Int) (A : Option Addr) (cap : Nat) (ps : List Pp) (AV : Option Addr) (capv : Nat) (vs : List Vv) (x : Int) (sh : Bool) (w : World) (h : PAt w A ps) (hm : ps.length ≤ maxLen) (hv : VAt w AV vs) (hmv : vs.length ≤ maxLen) (hb : goodV n ps vs = true) (hi : i < vs.length) (hf : FirstV vs (qi x) (i : Int)) (hs : (vAt vs i).sh = sh) :
    Calls Try.prog 69 #[nv n A ps.length cap, .slice AV vs.length capv, .int .i64 x, .bool sh] w (GivesVA w [] false) := by
  have hv10 : vs.length ≤ 10 := (goodV_of hb).2.1
  have hk0 : (0 : Int) ≤ (i : Int) := by omega
  have hkn : (i : Int) < (vs.length : Int) := by omega
  have H := Lib.hid (fun w' (hb' : Below w.heap.size w w') => sgoodv_t hb A cap AV capv w' (h.kept hb' (Nat.le_refl _)) hm (hv.kept hb' (Nat.le_refl _)) hmv)
  have HA := Lib.hid (fun w' (hb' : Below w.heap.size w w') => hv.kept hb' (Nat.le_refl _))
  have HF := Lib.hid hf
  have HM := Lib.hid hmv
  obtain ⟨b, off, hA, _, _, _, _, _⟩ := hv.at_ hi
  subst hA
  have HC := Lib.hid (fun w' (hb' : Below w.heap.size w w') => by
    obtain ⟨b', off', hA, _, _, _, _, h3⟩ := (hv.kept hb' (Nat.le_refl _)).at_ hi
    simp only [Option.some.injEq, Addr.mk.injEq, and_true] at hA
    obtain ⟨rfl, rfl⟩ := hA
    rw [hs] at h3
    exact (show w'.cell? ⟨b, off + i * 4 + 3, none⟩ = some (.bool sh) from h3))
  clear h hm hv hmv hb hf hs
  go_enter Try.func69, Try.ntmps69
  cases sh <;> (
    go_wp2_with (first
      | (go_at_call 107; refine (sfindv_any _ capv vs x _ (HA.out _ ((Below.refl w.heap.size w).alloc (Nat.le_refl _) (.cells #[.int .i64 n, .slice A ps.length cap] 32))) HM.out).mono ?_; rintro e w1 ⟨⟨r, rfl, hr⟩, hb1⟩; obtain rfl := first_one hr HF.out; have HB1 := Lib.hid (((Below.refl w.heap.size w).alloc (Nat.le_refl _) (.cells #[.int .i64 n, .slice A ps.length cap] 32)).trans (hb1.mono (by simp))); have a0 := (hb1.cell (p := ⟨w.heap.size, 0, none⟩) (by simp)).trans (show (w.alloc (.cells #[.int .i64 n, .slice A ps.length cap] 32)).cell? ⟨w.heap.size, 0, none⟩ = some (.int .i64 n) by go_simp); have a1 := (hb1.cell (p := ⟨w.heap.size, 1, none⟩) (by simp)).trans (show (w.alloc (.cells #[.int .i64 n, .slice A ps.length cap] 32)).cell? ⟨w.heap.size, 1, none⟩ = some (.slice A ps.length cap) by go_simp); clear hb1 hr)
      | (go_at_call 101; refine (H.out w1 HB1.out).mono ?_; rintro e w2 ⟨rfl, hb2⟩; have HB2 := Lib.hid (HB1.out.trans (hb2.mono HB1.out.size)); clear hb2; have c3 := HC.out w2 HB2.out))
    go_ret2
    exact (GivesVI.none HB2.out).any)
set_option maxHeartbeats 4000000 in
set_option maxRecDepth 100000 in
theorem sturn_yes (i : Nat) (n : Int) (A : Option Addr) (cap : Nat) (ps : List Pp) (AV : Option Addr) (capv : Nat) (vs : List Vv) (x : Int) (sh : Bool) (w : World) (h : PAt w A ps) (hm : ps.length ≤ maxLen) (hv : VAt w AV vs) (hmv : vs.length ≤ maxLen) (hb : goodV n ps vs = true) (hi : i < vs.length) (hf : FirstV vs (qi x) (i : Int)) (hs : (vAt vs i).sh = !sh) :
    Calls Try.prog 69 #[nv n A ps.length cap, .slice AV vs.length capv, .int .i64 x, .bool sh] w (GivesVA w (turnL vs i sh) true) := by
  have hv10 : vs.length ≤ 10 := (goodV_of hb).2.1
  have hk0 : (0 : Int) ≤ (i : Int) := by omega
  have hkn : (i : Int) < (vs.length : Int) := by omega
  have H := Lib.hid (fun w' (hb' : Below w.heap.size w w') => sgoodv_t hb A cap AV capv w' (h.kept hb' (Nat.le_refl _)) hm (hv.kept hb' (Nat.le_refl _)) hmv)
  have HA := Lib.hid (fun w' (hb' : Below w.heap.size w w') => hv.kept hb' (Nat.le_refl _))
  have HF := Lib.hid hf
  have HM := Lib.hid hmv
  obtain ⟨b, off, hA, _, _, _, _, _⟩ := hv.at_ hi
  subst hA
  have HC := Lib.hid (fun w' (hb' : Below w.heap.size w w') => by
    obtain ⟨b', off', hA, _, _, _, _, h3⟩ := (hv.kept hb' (Nat.le_refl _)).at_ hi
    simp only [Option.some.injEq, Addr.mk.injEq, and_true] at hA
    obtain ⟨rfl, rfl⟩ := hA
    rw [hs] at h3
    exact (show w'.cell? ⟨b, off + i * 4 + 3, none⟩ = some (.bool (!sh)) from h3))
  have HS := Lib.hid (fun (w' : World) (hb' : Below w.heap.size w w') => sturned_any b off capv i vs sh w' (hv.kept hb' (Nat.le_refl _)) hv10 hi)
  clear h hm hv hmv hb hf hs
  go_enter Try.func69, Try.ntmps69
  cases sh <;> (
    go_wp2_with (first
      | (go_at_call 107; refine (sfindv_any _ capv vs x _ (HA.out _ ((Below.refl w.heap.size w).alloc (Nat.le_refl _) (.cells #[.int .i64 n, .slice A ps.length cap] 32))) HM.out).mono ?_; rintro e w1 ⟨⟨r, rfl, hr⟩, hb1⟩; obtain rfl := first_one hr HF.out; have HB1 := Lib.hid (((Below.refl w.heap.size w).alloc (Nat.le_refl _) (.cells #[.int .i64 n, .slice A ps.length cap] 32)).trans (hb1.mono (by simp))); have a0 := (hb1.cell (p := ⟨w.heap.size, 0, none⟩) (by simp)).trans (show (w.alloc (.cells #[.int .i64 n, .slice A ps.length cap] 32)).cell? ⟨w.heap.size, 0, none⟩ = some (.int .i64 n) by go_simp); have a1 := (hb1.cell (p := ⟨w.heap.size, 1, none⟩) (by simp)).trans (show (w.alloc (.cells #[.int .i64 n, .slice A ps.length cap] 32)).cell? ⟨w.heap.size, 1, none⟩ = some (.slice A ps.length cap) by go_simp); clear hb1 hr)
      | (go_at_call 101; refine (H.out w1 HB1.out).mono ?_; rintro e w2 ⟨rfl, hb2⟩; have HB2 := Lib.hid (HB1.out.trans (hb2.mono HB1.out.size)); clear hb2; have c3 := HC.out w2 HB2.out)
      | (go_at_call 135; refine (HS.out w2 HB2.out).mono ?_; rintro e w3 ⟨g, cg, rfl, hg, hv3, hb3, hl3⟩; have HB3 := Lib.hid (HB2.out.trans (hb3.mono HB2.out.size)); have hg9 := Nat.le_trans HB2.out.size hg; clear hb3))
    go_ret2
    exact ⟨g, cg, by rw [turnL_len]; rfl, hg9, hv3, HB3.out, hl3⟩)
end Go.Proofs.Ytbljmibaemgfeaa.S2

namespace Go.Proofs.Ytbljmibaemgfeaa.S2
open Go.RowKit Go.Sort P2 P4

open Classical in
/-- The place of the pipe with this Id. -/
noncomputable def pidx (ps : List Pp) (x : Int) : Nat := if h : ∃ i, At ps x i then Classical.choose h else 0
theorem pidx_of {ps : List Pp} {x : Int} {i : Nat} (hs : ∀ i j, i < j → j < ps.length → (pAt ps i).id < (pAt ps j).id) (h : At ps x i) : pidx ps x = i := by
  have hx : ∃ i, At ps x i := ⟨i, h⟩
  unfold pidx
  rw [dif_pos hx]
  have h2 := Classical.choose_spec hx
  generalize Classical.choose hx = j at h2
  by_cases h3 : i < j
  · have := hs i j h3 h2.1; have := h.2; have := h2.2; omega
  · by_cases h4 : j < i
    · have := hs j i h4 h.1; have := h.2; have := h2.2; omega
    · omega
theorem valve_ok {N : Nat} {ps : List Pp} {vs : List Vv} (hg : P4.Good N ps vs) {k : Nat} (hk : k < vs.length) : ∃ i u : Nat, At ps (vAt vs k).pp i ∧ (vAt vs k).nd = (u : Int) ∧ 1 ≤ u ∧ u ≤ N ∧ u ≤ 8 ∧ pidx ps (vAt vs k).pp = i ∧ (vAt vs k).nd.toNat = u := by
  obtain ⟨⟨_, _, i, hi, hx, hn⟩, _⟩ := hg.2.2 k hk
  obtain ⟨a, b, ha, hb, h1, h2, h3, h4, h5, h6⟩ := ends_nat hg.1 hi
  have hat : At ps (vAt vs k).pp i := ⟨hi, hx⟩
  have hp := pidx_of (good_ids hg.1) hat
  rcases hn with hn | hn
  · exact ⟨i, a, hat, by rw [← hn, ha], h1, by omega, h2, hp, by rw [← hn, ha]; rfl⟩
  · exact ⟨i, b, hat, by rw [← hn, hb], h3, by omega, h4, hp, by rw [← hn, hb]; rfl⟩
/-- The Ids of those of the first k valves for which q holds. -/
def selTo (q : Vv → Bool) (vs : List Vv) (k : Nat) : List Int := ((vs.take k).filter q).map (·.id)
theorem selTo_succ (q : Vv → Bool) (vs : List Vv) (k : Nat) (h : k < vs.length) : selTo q vs (k + 1) = if q (vAt vs k) = true then selTo q vs k ++ [(vAt vs k).id] else selTo q vs k := by
  unfold selTo
  have e : vs[k] = vAt vs k := by simp [vAt, List.getD, h]
  rw [List.take_succ_eq_append_getElem h, List.filter_append, e, List.map_append]
  cases hs : q (vAt vs k) <;> simp [hs]
theorem selTo_all (q : Vv → Bool) (vs : List Vv) (k : Nat) (h : vs.length ≤ k) : selTo q vs k = (vs.filter q).map (·.id) := by unfold selTo; rw [List.take_of_length_le h]
theorem selTo_len (q : Vv → Bool) (vs : List Vv) (k : Nat) : (selTo q vs k).length ≤ k := by unfold selTo; rw [List.length_map]; exact Nat.le_trans (List.length_filter_le _ _) (List.length_take_le _ _)
/-- The same segment lies on both sides. -/
noncomputable def needB (ps : List Pp) (vs : List Vv) (v : Vv) : Bool := coB ps vs (one v.nd.toNat) (9 + pidx ps v.pp)
/-- One side lies in the set. -/
noncomputable def arndB (ps : List Pp) (s : Nat → Bool) (v : Vv) : Bool := s (9 + pidx ps v.pp) != s v.nd.toNat
noncomputable def needL (ps : List Pp) (vs : List Vv) : List Int := (vs.filter (needB ps vs)).map (·.id)
noncomputable def arndL (ps : List Pp) (vs : List Vv) (s : Nat → Bool) : List Int := (vs.filter (arndB ps s)).map (·.id)
theorem sel_len (q : Vv → Bool) (vs : List Vv) : ((vs.filter q).map (·.id)).length ≤ vs.length := by rw [List.length_map]; exact List.length_filter_le _ _

set_option maxHeartbeats 2000000 in
set_option maxRecDepth 100000 in
theorem need_no (n : Int) (A : Option Addr) (cap : Nat) (ps : List Pp) (AV : Option Addr) (capv : Nat) (vs : List Vv) (w : World) (h : PAt w A ps) (hm : ps.length ≤ maxLen) (hv : VAt w AV vs) (hmv : vs.length ≤ maxLen) (hcv : vs.length ≤ capv) (hcm : capv ≤ maxLen) (hb : goodV n ps vs = false) :
    Calls Try.prog 75 #[nv n A ps.length cap, .slice AV vs.length capv] w (GivesI w [] false) := by
  have H := Lib.hid (fun w' (hb' : Below w.heap.size w w') => validv_v hb A cap AV capv w' (h.kept hb' (Nat.le_refl _)) hm (hv.kept hb' (Nat.le_refl _)) hmv hcv hcm)
  clear h hm hv hmv hcv hcm hb
  go_enter Try.func75, Try.ntmps75
  go_wp2_with (go_at_call 58; refine (H.out _ ((Below.refl _ _).alloc (Nat.le_refl _) _)).mono ?_; rintro e w1 ⟨rfl, hb1⟩; have HB1 := Lib.hid (((Below.refl w.heap.size w).alloc (Nat.le_refl _) (.cells #[.int .i64 n, .slice A ps.length cap] 32)).trans (hb1.mono (by simp))); have hw1 : w.heap.size < w1.heap.size := (by have := hb1.size; simp at this; omega); have a0 := (hb1.cell (p := ⟨w.heap.size, 0, none⟩) (by simp)).trans (show (w.alloc (.cells #[.int .i64 n, .slice A ps.length cap] 32)).cell? ⟨w.heap.size, 0, none⟩ = some (.int .i64 n) by go_simp); have a1 := (hb1.cell (p := ⟨w.heap.size, 1, none⟩) (by simp)).trans (show (w.alloc (.cells #[.int .i64 n, .slice A ps.length cap] 32)).cell? ⟨w.heap.size, 1, none⟩ = some (.slice A ps.length cap) by go_simp); clear hb1)
  go_ret2
  exact gives_none HB1.out

set_option maxHeartbeats 4000000 in
set_option maxRecDepth 100000 in
theorem need_yes (N : Nat) (A : Option Addr) (cap : Nat) (ps : List Pp) (AV : Option Addr) (capv : Nat) (vs : List Vv) (w : World) (h : PAt w A ps) (hv : VAt w AV vs) (hcv : vs.length ≤ capv) (hcm : capv ≤ maxLen) (hb : goodV N ps vs = true) :
    Calls Try.prog 75 #[nv N A ps.length cap, .slice AV vs.length capv] w (GivesI w (needL ps vs) true) := by
  have hgd := goodV_of hb
  have hm : ps.length ≤ maxLen := by have := hgd.1.2.2.1; unfold maxLen; omega
  have hmv : vs.length ≤ maxLen := by have := hgd.2.1; unfold maxLen; omega
  have H := Lib.hid (fun w' (hb' : Below w.heap.size w w') => validv_v hb A cap AV capv w' (h.kept hb' (Nat.le_refl _)) hm (hv.kept hb' (Nat.le_refl _)) hmv hcv hcm)
  have HA := Lib.hid h
  have HVV := Lib.hid hv
  have HG := Lib.hid hgd
  have hvl := hgd.2.1
  have hl10 := hgd.1.2.2.1
  obtain ⟨i0, hi0, hz0, hz1, hz2⟩ := info_parts infoI
  clear h hm hv hmv hcv hcm hb hgd
  go_enter Try.func75, Try.ntmps75
  go_wp2_with (go_at_call 58; refine (H.out _ ((Below.refl _ _).alloc (Nat.le_refl _) _)).mono ?_; rintro e w1 ⟨rfl, hb1⟩; have HB1 := Lib.hid (((Below.refl w.heap.size w).alloc (Nat.le_refl _) (.cells #[.int .i64 (N : Int), .slice A ps.length cap] 32)).trans (hb1.mono (by simp))); have hw1 : w.heap.size < w1.heap.size := (by have := hb1.size; simp at this; omega); have a0 := (hb1.cell (p := ⟨w.heap.size, 0, none⟩) (by simp)).trans (show (w.alloc (.cells #[.int .i64 (N : Int), .slice A ps.length cap] 32)).cell? ⟨w.heap.size, 0, none⟩ = some (.int .i64 (N : Int)) by go_simp); have a1 := (hb1.cell (p := ⟨w.heap.size, 1, none⟩) (by simp)).trans (show (w.alloc (.cells #[.int .i64 (N : Int), .slice A ps.length cap] 32)).cell? ⟨w.heap.size, 1, none⟩ = some (.slice A ps.length cap) by go_simp); clear hb1; refine Hid.out ?_)
  obtain ⟨B, hB⟩ : ∃ B, B = w1.heap.size := ⟨_, rfl⟩
  have HO0 := Lib.hid (show IOwn (w1.alloc (.cells #[] 3)) B (.slice (some ⟨B, 0, none⟩) 0 0) [] from by rw [hB]; exact own_empty w1 w1.heap.size (Nat.le_refl _))
  have HB0 := Lib.hid (show Below B w1 (w1.alloc (.cells #[] 3)) from by rw [hB]; exact (Below.refl _ _).alloc (Nat.le_refl _) _)
  have hBw : w.heap.size < B := by omega
  have HBE := Lib.hid hB
  clear hB
  refine Lib.hid ?_
  go_wp2_with fail
  rw [← HBE.out]
  go_loopw [6, 17] (fun v i wr => ∃ k : Nat, k ≤ vs.length ∧ i = .int .i64 (k : Int) ∧ Hid (IOwn wr B v (selTo (needB ps vs) vs k)) ∧ Hid (v ≠ .slice none 0 0) ∧ Hid (Below B w1 wr)) (fun _ i _ => vs.length - (intOf i).toNat)
  case atStart => exact ⟨0, Nat.zero_le _, rfl, HO0, Lib.hid (by simp), HB0⟩
  case round =>
    clear HO0 HB0
    obtain ⟨k, hk, rfl, hown, hvn, hb⟩ := hrel
    obtain ⟨gv, cv, rfl, hgv⟩ := own_slice hown.out hvn.out
    have hzr := hb.out.size
    have hBE := HBE.out
    by_cases hlt : k < vs.length
    · obtain ⟨b, off, hA, hbl, h0, h1, h2, h3⟩ := (HVV.out.kept (HB1.out.trans (hb.out.mono (by omega))) (Nat.le_refl _)).at_ hlt
      subst hA
      have hk0 : (0 : Int) ≤ (k : Int) := by omega
      have hkn : (k : Int) < (vs.length : Int) := by omega
      obtain ⟨i, u, hat, hu, hu1, huN, hu8, hpi, hti⟩ := valve_ok HG.out hlt
      have HSEL := Lib.hid (selTo_succ (needB ps vs) vs k hlt)
      have HAT := Lib.hid hat
      have hil := selTo_len (needB ps vs) vs k
      have HQ := Lib.hid (show (needB ps vs) (vAt vs k) = coB ps vs (one u) (9 + i) from by unfold needB; rw [hpi, hti])
      clear hpi hti hat
      generalize vAt vs k = v at *
      obtain ⟨id, pp, nd, sh⟩ := v
      dsimp only at h0 h1 h2 h3 hu HAT HSEL
      subst hu
      have b0 := (hb.out.cell (p := ⟨w.heap.size, 0, none⟩) hBw).trans a0
      have b1 := (hb.out.cell (p := ⟨w.heap.size, 1, none⟩) hBw).trans a1
      go_upto_region 7 with (fail)
      obtain ⟨W, hW⟩ : ∃ W, W = wr.alloc (.cells #[.int .i64 id, .int .i64 pp, .int .i64 (u : Int), .bool sh] 60) := ⟨_, rfl⟩
      have hbW : Below wr.heap.size wr W := by rw [hW]; exact (Below.refl _ _).alloc (Nat.le_refl _) _
      have hzW : W.heap.size = wr.heap.size + 1 := by rw [hW]; simp
      have v0 : W.cell? ⟨wr.heap.size, 0, none⟩ = some (.int .i64 id) := by rw [hW]; go_simp
      have v1 : W.cell? ⟨wr.heap.size, 1, none⟩ = some (.int .i64 pp) := by rw [hW]; go_simp
      have v2 : W.cell? ⟨wr.heap.size, 2, none⟩ = some (.int .i64 (u : Int)) := by rw [hW]; go_simp
      have hwr : w.heap.size < wr.heap.size := by omega
      have c0 := (hbW.cell (p := ⟨w.heap.size, 0, none⟩) hwr).trans b0
      have c1 := (hbW.cell (p := ⟨w.heap.size, 1, none⟩) hwr).trans b1
      rw [← hW]
      have HBW := Lib.hid (HB1.out.trans ((hb.out.trans (hbW.mono (by omega))).mono (by omega)))
      have HBB := Lib.hid (show Below B w1 W from hb.out.trans (hbW.mono (by omega)))
      have hlW : w.heap.size < W.heap.size := by omega
      have hlW2 : wr.heap.size < W.heap.size := by omega
      have HOW := Lib.hid (show IOwn W B (.slice (some ⟨gv, 0, none⟩) (selTo (needB ps vs) vs k).length cv) (selTo (needB ps vs) vs k) from hown.out.on hbW)
      have HZ := Lib.hid hzW
      clear hzW hbW hW b0 b1 h0 h1 h2 h3 hBE
      have HC := Lib.hid (fun wx (hbx : Below W.heap.size W wx) => conwith_any N A cap ps (some ⟨b, off, none⟩) capv vs u wx (HA.out.kept (HBW.out.trans (hbx.mono (by omega))) (Nat.le_refl _)) (HVV.out.kept (HBW.out.trans (hbx.mono (by omega))) (Nat.le_refl _)) HG.out.1 hvl (by omega))
      have HP := Lib.hid (fun wx (hbx : Below W.heap.size W wx) => haspipe_any N A cap ps (coB ps vs (one u)) pp i wx (HA.out.kept (HBW.out.trans (hbx.mono (by omega))) (Nat.le_refl _)) HG.out.1 HAT.out)
      obtain ⟨qb, hqb⟩ : ∃ qb, coB ps vs (one u) (9 + i) = qb := ⟨_, rfl⟩
      rw [hqb] at HP HQ
      clear hqb
      have hG := @cell_g
      refine region_below (by kernel_rfl) (by kernel_rfl) ?_
      repeat (first | go_big_quiet_step ((first | (go_at_call 128; exact met_at HC.out) | (go_at_call 129; exact met_at HP.out))))
      refine wpQuiet_nil ?_
      intro w2 hb2
      clear hG
      have e0 := (hb2.cell (p := ⟨wr.heap.size, 0, none⟩) hlW2).trans v0
      have hzw2 := hb2.size
      have HO2 := Lib.hid (HOW.out.on hb2)
      have HB2 := Lib.hid (HBB.out.trans (hb2.mono (by have := HBE.out; have := HZ.out; omega)))
      clear hb2 v0 v1 v2 c0 c1
      cases qb with
      | true =>
        have HN := Lib.hid (show selTo (needB ps vs) vs (k + 1) = selTo (needB ps vs) vs k ++ [id] by rw [HSEL.out, if_pos HQ.out])
        have ho := HO2.out
        unfold IOwn at ho
        go_wp2_with (at_builtin; go_must (refine wpList_append_own _ rfl _ _ 26 rfl B 3 i0 (.int .i64 0) 1 8 Try.underlying26 hi0 hz0 hz1 hz2 rfl (by decide) _ _ _ rfl (ho.alloc _) ⟨w2.heap.size, 0, none⟩ 1 1 [iv id] rfl rfl (cell_one_new _ _ _) ?c2 ?c3 ?c4 ?c5 ?_))
        case c2 => intro u hu; simp at hu; subst hu; rfl
        case c3 => unfold maxLen; omega
        case c4 => omega
        case c5 => have := HBE.out; have := HZ.out; simp; omega
        intro v' w3 hown' hgrow hnil
        have hown3 := Lib.hid (IOwn.push hown')
        rw [← HN.out] at hown3
        have hB3 := Lib.hid ((HB2.out.alloc (by have := HBE.out; have := HZ.out; omega) _).grown hgrow (by have := HBE.out; have := HZ.out; simp; omega) (fun g hg => (ho.lt g hg).1))
        have hvn3 := Lib.hid (show v' ≠ .slice none 0 0 from fun e => by simp [e] at hnil)
        clear hown' hgrow hnil ho
        go_wp2_with fail
        go_roundw
        case rel => exact ⟨k + 1, by omega, by go_num, hown3, hvn3, hB3⟩
        case measure => simp [intOf]; omega
      | false =>
        have HN := Lib.hid (show selTo (needB ps vs) vs (k + 1) = selTo (needB ps vs) vs k by rw [HSEL.out, if_neg (by rw [HQ.out]; simp)])
        have hown3 := HO2
        have hll : (selTo (needB ps vs) vs k).length = (selTo (needB ps vs) vs (k + 1)).length := by rw [HN.out]
        clear hown
        have HO3 := Lib.hid (show IOwn w2 B (.slice (some ⟨gv, 0, none⟩) (selTo (needB ps vs) vs k).length cv) (selTo (needB ps vs) vs (k + 1)) from by rw [HN.out]; exact HO2.out)
        clear hll hown3 HN
        go_wp2_with fail
        go_roundw
        case rel => exact ⟨k + 1, by omega, by go_num, HO3, hvn, HB2⟩
        case measure => simp [intOf]; omega
    · have hfin := selTo_all (needB ps vs) vs k (by omega)
      have hown2 := hown.out
      have HF := Lib.hid hfin
      clear hfin hBE
      go_wp2_with fail
      go_ret2
      rw [HF.out] at hown2
      exact ⟨gv, cv, by rw [HF.out]; rfl, by have := HBE.out; omega, own_lower hown2 (by have := HBE.out; omega), HB1.out.trans (hb.out.mono (by omega))⟩


set_option maxHeartbeats 2000000 in
set_option maxRecDepth 100000 in
theorem around_no (n : Int) (A : Option Addr) (cap : Nat) (ps : List Pp) (AV : Option Addr) (capv : Nat) (vs : List Vv) (x : Int) (w : World) (hs : ∀ w', Below w.heap.size w w' → Calls Try.prog 121 #[nv n A ps.length cap, .slice AV vs.length capv, .int .i64 x] w' (GivesE w' es0 false)) :
    Calls Try.prog 61 #[nv n A ps.length cap, .slice AV vs.length capv, .int .i64 x] w (GivesI w [] false) := by
  have HS := Lib.hid hs
  clear hs
  go_enter Try.func61, Try.ntmps61
  go_wp2_with (first
    | (go_at_call 121; refine (HS.out _ ((Below.refl _ _).alloc (Nat.le_refl _) _)).mono ?_; rintro e w1 ⟨rfl, hb1⟩; have HB1 := Lib.hid (((Below.refl w.heap.size w).alloc (Nat.le_refl _) (.cells #[.int .i64 n, .slice A ps.length cap] 32)).trans (hb1.mono (by simp))); clear hb1)
    | ((with_reducible refine wpE_alloc rfl rfl ?_); intro w2 he2 hb2 hz2; have E2 := Lib.hid he2; have HB2 := Lib.hid (HB1.out.trans (hb2.mono HB1.out.size)); clear he2 hb2 hz2)
    | ((with_reducible refine wpE_store rfl _ _ rfl rfl w1.heap.size rfl es0 rfl es0 E2.out ?_); intro w3 he3 hg3 hz3; have HB3 := Lib.hid (HB2.out.grown hg3 HB2.out.size (fun g hg => by have := HB1.out.size; simp at hg; omega)); clear he3 hg3 hz3))
  go_ret2
  exact gives_none HB3.out

set_option maxHeartbeats 4000000 in
set_option maxRecDepth 100000 in
theorem around_yes (N : Nat) (A : Option Addr) (cap : Nat) (ps : List Pp) (AV : Option Addr) (capv : Nat) (vs : List Vv) (x : Int) (s : Nat → Bool) (w : World) (h : PAt w A ps) (hv : VAt w AV vs) (hgd : P4.Good N ps vs) (hs : ∀ w', Below w.heap.size w w' → Calls Try.prog 121 #[nv N A ps.length cap, .slice AV vs.length capv, .int .i64 x] w' (GivesE w' s true)) :
    Calls Try.prog 61 #[nv N A ps.length cap, .slice AV vs.length capv, .int .i64 x] w (GivesI w (arndL ps vs s) true) := by
  have HS := Lib.hid hs
  have HA := Lib.hid h
  have HVV := Lib.hid hv
  have HG := Lib.hid hgd
  have hvl := hgd.2.1
  have hl10 := hgd.1.2.2.1
  obtain ⟨i0, hi0, hz0, hz1, hz2⟩ := info_parts infoI
  clear h hv hgd hs
  go_enter Try.func61, Try.ntmps61
  go_wp2_with (first
    | (go_at_call 121; refine (HS.out _ ((Below.refl _ _).alloc (Nat.le_refl _) _)).mono ?_; rintro e w1 ⟨rfl, hb1⟩; have hw1x : w.heap.size < w1.heap.size := (by have := hb1.size; simp at this; omega); have x0 := (hb1.cell (p := ⟨w.heap.size, 0, none⟩) (by simp)).trans (show (w.alloc (.cells #[.int .i64 (N : Int), .slice A ps.length cap] 32)).cell? ⟨w.heap.size, 0, none⟩ = some (.int .i64 (N : Int)) by go_simp); have x1 := (hb1.cell (p := ⟨w.heap.size, 1, none⟩) (by simp)).trans (show (w.alloc (.cells #[.int .i64 (N : Int), .slice A ps.length cap] 32)).cell? ⟨w.heap.size, 1, none⟩ = some (.slice A ps.length cap) by go_simp); have HBx := Lib.hid (((Below.refl w.heap.size w).alloc (Nat.le_refl _) (.cells #[.int .i64 (N : Int), .slice A ps.length cap] 32)).trans (hb1.mono (by simp))); clear hb1)
    | ((with_reducible refine wpE_alloc rfl rfl ?_); intro w2 he2 hb2 hz2; have E2 := Lib.hid he2; have HX2 := Lib.hid hb2; clear he2 hb2 hz2)
    | ((with_reducible refine wpE_store rfl _ _ rfl rfl w1.heap.size rfl s rfl es0 E2.out ?_); intro w3 he3 hg3 hz3; have E3 := Lib.hid he3; have HX3 := Lib.hid hg3; clear he3 hg3 hz3; refine Hid.out ?_))
  have hz2x := HX2.out.size
  have HX23 := Lib.hid (show Below w1.heap.size w1 w3 from HX2.out.grown HX3.out hz2x (fun g hg => by simp at hg; omega))
  have a0 := (HX23.out.cell (p := ⟨w.heap.size, 0, none⟩) hw1x).trans x0
  have a1 := (HX23.out.cell (p := ⟨w.heap.size, 1, none⟩) hw1x).trans x1
  have HB1 := Lib.hid (HBx.out.trans (HX23.out.mono (by omega)))
  obtain ⟨GE, hGE⟩ : ∃ GE, GE = w1.heap.size := ⟨_, rfl⟩
  rw [← hGE] at E3
  rw [← hGE]
  have hz23 := HX23.out.size
  have hw1 : w.heap.size < w3.heap.size := by omega
  have hGl := E3.out.lt
  clear x0 x1 HX2 HX3 HX23 E2 hz2x hGE hz23 hw1x HBx
  obtain ⟨w1, rfl⟩ : ∃ w1, w1 = w3 := ⟨_, rfl⟩
  obtain ⟨B, hB⟩ : ∃ B, B = w1.heap.size := ⟨_, rfl⟩
  have HO0 := Lib.hid (show IOwn (w1.alloc (.cells #[] 3)) B (.slice (some ⟨B, 0, none⟩) 0 0) [] from by rw [hB]; exact own_empty w1 w1.heap.size (Nat.le_refl _))
  have HB0 := Lib.hid (show Below B w1 (w1.alloc (.cells #[] 3)) from by rw [hB]; exact (Below.refl _ _).alloc (Nat.le_refl _) _)
  have hBw : w.heap.size < B := by omega
  have hGB : GE < B := by omega
  have HBE := Lib.hid hB
  clear hB
  refine Lib.hid ?_
  go_wp2_with fail
  rw [← HBE.out]
  go_loopw [10, 26] (fun v i wr => ∃ k : Nat, k ≤ vs.length ∧ i = .int .i64 (k : Int) ∧ Hid (IOwn wr B v (selTo (arndB ps s) vs k)) ∧ Hid (v ≠ .slice none 0 0) ∧ Hid (Below B w1 wr)) (fun _ i _ => vs.length - (intOf i).toNat)
  case atStart => exact ⟨0, Nat.zero_le _, rfl, HO0, Lib.hid (by simp), HB0⟩
  case round =>
    clear HO0 HB0
    obtain ⟨k, hk, rfl, hown, hvn, hb⟩ := hrel
    obtain ⟨gv, cv, rfl, hgv⟩ := own_slice hown.out hvn.out
    have hzr := hb.out.size
    have hBE := HBE.out
    by_cases hlt : k < vs.length
    · obtain ⟨b, off, hA, hbl, h0, h1, h2, h3⟩ := (HVV.out.kept (HB1.out.trans (hb.out.mono (by omega))) (Nat.le_refl _)).at_ hlt
      subst hA
      have hk0 : (0 : Int) ≤ (k : Int) := by omega
      have hkn : (k : Int) < (vs.length : Int) := by omega
      obtain ⟨i, u, hat, hu, hu1, huN, hu8, hpi, hti⟩ := valve_ok HG.out hlt
      have HSEL := Lib.hid (selTo_succ (arndB ps s) vs k hlt)
      have HAT := Lib.hid hat
      have hil := selTo_len (arndB ps s) vs k
      have HQ := Lib.hid (show (arndB ps s) (vAt vs k) = (s (9 + i) != s u) from by unfold arndB; rw [hpi, hti])
      clear hpi hti hat
      generalize vAt vs k = v at *
      obtain ⟨id, pp, nd, sh⟩ := v
      dsimp only at h0 h1 h2 h3 hu HAT HSEL
      subst hu
      have b0 := (hb.out.cell (p := ⟨w.heap.size, 0, none⟩) hBw).trans a0
      have b1 := (hb.out.cell (p := ⟨w.heap.size, 1, none⟩) hBw).trans a1
      go_upto_region 8 with (fail)
      obtain ⟨W, hW⟩ : ∃ W, W = wr.alloc (.cells #[.int .i64 id, .int .i64 pp, .int .i64 (u : Int), .bool sh] 60) := ⟨_, rfl⟩
      have hbW : Below wr.heap.size wr W := by rw [hW]; exact (Below.refl _ _).alloc (Nat.le_refl _) _
      have hzW : W.heap.size = wr.heap.size + 1 := by rw [hW]; simp
      have v0 : W.cell? ⟨wr.heap.size, 0, none⟩ = some (.int .i64 id) := by rw [hW]; go_simp
      have v1 : W.cell? ⟨wr.heap.size, 1, none⟩ = some (.int .i64 pp) := by rw [hW]; go_simp
      have v2 : W.cell? ⟨wr.heap.size, 2, none⟩ = some (.int .i64 (u : Int)) := by rw [hW]; go_simp
      have hwr : w.heap.size < wr.heap.size := by omega
      have c0 := (hbW.cell (p := ⟨w.heap.size, 0, none⟩) hwr).trans b0
      have c1 := (hbW.cell (p := ⟨w.heap.size, 1, none⟩) hwr).trans b1
      rw [← hW]
      have HBW := Lib.hid (HB1.out.trans ((hb.out.trans (hbW.mono (by omega))).mono (by omega)))
      have HBB := Lib.hid (show Below B w1 W from hb.out.trans (hbW.mono (by omega)))
      have hlW : w.heap.size < W.heap.size := by omega
      have hlW2 : wr.heap.size < W.heap.size := by omega
      have HOW := Lib.hid (show IOwn W B (.slice (some ⟨gv, 0, none⟩) (selTo (arndB ps s) vs k).length cv) (selTo (arndB ps s) vs k) from hown.out.on hbW)
      have HZ := Lib.hid hzW
      clear hzW hbW hW b0 b1 h0 h1 h2 h3 hBE
      have HP := Lib.hid (fun wx (hbx : Below W.heap.size W wx) => haspipe_any N A cap ps s pp i wx (HA.out.kept (HBW.out.trans (hbx.mono (by omega))) (Nat.le_refl _)) HG.out.1 HAT.out)
      have EW := Lib.hid (E3.out.kept (show Below B w1 W from HBB.out) hGB)
      have hGW : GE < W.heap.size := EW.out.lt
      obtain ⟨sa, hsa⟩ : ∃ sa, s (9 + i) = sa := ⟨_, rfl⟩
      obtain ⟨sb, hsb⟩ : ∃ sb, s u = sb := ⟨_, rfl⟩
      have cu := EW.out.cell u (by omega)
      rw [hsb] at cu HQ
      rw [hsa] at HP HQ
      clear hsa hsb
      have hu0 : (0 : Int) ≤ (u : Int) := by omega
      have hu9 : (u : Int) < 9 := by omega
      cases sa with
      | true =>
        cases sb with
        | true =>
          have HQ2 := Lib.hid (show arndB ps s ⟨id, pp, (u : Int), sh⟩ = false from HQ.out)
          clear HQ
          have HQ := HQ2
          refine wp_region_held_drew (S := fun w' => w'.cell? ⟨w.heap.size, 0, none⟩ = some (.int .i64 (N : Int)) ∧ w'.cell? ⟨w.heap.size, 1, none⟩ = some (.slice A ps.length cap) ∧ w'.cell? ⟨wr.heap.size, 1, none⟩ = some (.int .i64 pp) ∧ w'.cell? ⟨wr.heap.size, 2, none⟩ = some (.int .i64 (u : Int)) ∧ w'.cell? ⟨GE, u, none⟩ = some (.bool true) ∧ ERow w' GE s) (by kernel_rfl) (by exact ⟨c0, c1, v1, v2, cu, EW.out⟩) (fun hHeld => ?_)
          refine wpAnyH_take (i := 0) (v := .agg #[.int .i64 (N : Int), .slice A ps.length cap]) rfl (by kernel_rfl) (by kernel_rfl) (by kernel_rfl) (fun _ _ _ h => h) (Or.inl ⟨by rfl, ?_⟩) (by assumption) ?_
          · (intro w hSw; (try dsimp only at hSw); go_simp)
          simp only [Act.put, List.setIfInBounds_toArray]
          refine wpAnyH_take (i := 1) (v := ev s) rfl (by kernel_rfl) (by kernel_rfl) (by kernel_rfl) (fun _ _ _ h => h) (Or.inl ⟨by rfl, fun w hSw => run_loadE rfl GE rfl s hSw.2.2.2.2.2⟩) (by assumption) ?_
          simp only [Act.put]
          refine wpAnyH_take (i := 2) (v := .pointer (some ⟨wr.heap.size, 1, none⟩)) rfl (by kernel_rfl) (by kernel_rfl) (by kernel_rfl) (fun _ _ _ h => h) (Or.inl ⟨by rfl, ?_⟩) (by assumption) ?_
          · (intro w hSw; (try dsimp only at hSw); go_simp)
          simp only [Act.put]
          refine wpAnyH_take (i := 3) (v := .int .i64 pp) rfl (by kernel_rfl) (by kernel_rfl) (by kernel_rfl) (fun _ _ _ h => h) (Or.inl ⟨by rfl, ?_⟩) (by assumption) ?_
          · (intro w hSw; (try dsimp only at hSw); go_simp)
          simp only [Act.put]
          refine wpAnyH_take (i := 5) (v := .pointer (some ⟨wr.heap.size, 2, none⟩)) rfl (by kernel_rfl) (by kernel_rfl) (by kernel_rfl) (fun _ _ _ h => h) (Or.inl ⟨by rfl, ?_⟩) (by assumption) ?_
          · (intro w hSw; (try dsimp only at hSw); go_simp)
          simp only [Act.put]
          refine wpAnyH_take (i := 6) (v := .int .i64 (u : Int)) rfl (by kernel_rfl) (by kernel_rfl) (by kernel_rfl) (fun _ _ _ h => h) (Or.inl ⟨by rfl, ?_⟩) (by assumption) ?_
          · (intro w hSw; (try dsimp only at hSw); go_simp)
          simp only [Act.put]
          refine wpAnyH_take (i := 7) (v := .pointer (some ⟨GE, 0, none⟩)) rfl (by kernel_rfl) (by kernel_rfl) (by kernel_rfl) (fun _ _ _ h => h) (Or.inl ⟨by rfl, ?_⟩) (by assumption) ?_
          · (intro w hSw; (try dsimp only at hSw); go_simp)
          simp only [Act.put]
          refine wpAnyH_take (i := 8) (v := .pointer (some ⟨GE, u, none⟩)) rfl (by kernel_rfl) (by kernel_rfl) (by kernel_rfl) (fun _ _ _ h => h) (Or.inl ⟨by rfl, ?_⟩) (by assumption) ?_
          · (intro w hSw; (try dsimp only at hSw); go_simp)
          simp only [Act.put]
          refine wpAnyH_take (i := 9) (v := .bool true) rfl (by kernel_rfl) (by kernel_rfl) (by kernel_rfl) (fun _ _ _ h => h) (Or.inl ⟨by rfl, ?_⟩) (by assumption) ?_
          · (intro w hSw; (try dsimp only at hSw); go_simp)
          simp only [Act.put]
          refine wpAnyH_ready (rs := [4]) (by kernel_rfl) (by simp) ?_
          refine AllReadyH.cons rfl (fun K hK => ?_) AllReadyH.nil
          go_simp
          go_at_call 129
          refine (HP.out _ (Below.refl W.heap.size W).drew).mono ?_
          rintro e w2 ⟨rfl, hb2d⟩
          have hb2 : Below W.heap.size W w2 := (Below.refl W.heap.size W).drew.trans hb2d
          refine hK.out _ _ (by rcases hHeld with ⟨q0, q1, q2, q3, q4, q5⟩; exact ⟨(hb2d.cell (p := ⟨w.heap.size, 0, none⟩) hlW).trans q0, (hb2d.cell (p := ⟨w.heap.size, 1, none⟩) hlW).trans q1, (hb2d.cell (p := ⟨wr.heap.size, 1, none⟩) hlW2).trans q2, (hb2d.cell (p := ⟨wr.heap.size, 2, none⟩) hlW2).trans q3, (hb2d.cell (p := ⟨GE, u, none⟩) hGW).trans q4, q5.kept hb2d q5.lt⟩) (fun hHeld => ?_)
          clear hK K
          refine wpAnyH_ready (rs := [10]) (by kernel_rfl) (by simp) ?_
          refine AllReadyH.cons rfl (fun K hK => ?_) AllReadyH.nil
          go_simp
          refine hK.out _ _ (by first | assumption | go_keep) (fun hHeld => ?_)
          clear hK K
          refine wpAnyH_done (by kernel_rfl) ?_ _
          clear hb2d
          have e0 := (hb2.cell (p := ⟨wr.heap.size, 0, none⟩) hlW2).trans v0
          have hzw2 := hb2.size
          have HO2 := Lib.hid (HOW.out.on hb2)
          have HB2 := Lib.hid (HBB.out.trans (hb2.mono (by have := HBE.out; have := HZ.out; omega)))
          clear hb2 v0 v1 v2 c0 c1
          have HN := Lib.hid (show selTo (arndB ps s) vs (k + 1) = selTo (arndB ps s) vs k by rw [HSEL.out, if_neg (by rw [HQ.out]; simp)])
          have hown3 := HO2
          have hll : (selTo (arndB ps s) vs k).length = (selTo (arndB ps s) vs (k + 1)).length := by rw [HN.out]
          clear hown
          have HO3 := Lib.hid (show IOwn w2 B (.slice (some ⟨gv, 0, none⟩) (selTo (arndB ps s) vs k).length cv) (selTo (arndB ps s) vs (k + 1)) from by rw [HN.out]; exact HO2.out)
          clear hll hown3 HN
          go_wp2_with fail
          go_roundw
          case rel => exact ⟨k + 1, by omega, by go_num, HO3, hvn, HB2⟩
          case measure => simp [intOf]; omega
        | false =>
          have HQ2 := Lib.hid (show arndB ps s ⟨id, pp, (u : Int), sh⟩ = true from HQ.out)
          clear HQ
          have HQ := HQ2
          refine wp_region_held_drew (S := fun w' => w'.cell? ⟨w.heap.size, 0, none⟩ = some (.int .i64 (N : Int)) ∧ w'.cell? ⟨w.heap.size, 1, none⟩ = some (.slice A ps.length cap) ∧ w'.cell? ⟨wr.heap.size, 1, none⟩ = some (.int .i64 pp) ∧ w'.cell? ⟨wr.heap.size, 2, none⟩ = some (.int .i64 (u : Int)) ∧ w'.cell? ⟨GE, u, none⟩ = some (.bool false) ∧ ERow w' GE s) (by kernel_rfl) (by exact ⟨c0, c1, v1, v2, cu, EW.out⟩) (fun hHeld => ?_)
          refine wpAnyH_take (i := 0) (v := .agg #[.int .i64 (N : Int), .slice A ps.length cap]) rfl (by kernel_rfl) (by kernel_rfl) (by kernel_rfl) (fun _ _ _ h => h) (Or.inl ⟨by rfl, ?_⟩) (by assumption) ?_
          · (intro w hSw; (try dsimp only at hSw); go_simp)
          simp only [Act.put, List.setIfInBounds_toArray]
          refine wpAnyH_take (i := 1) (v := ev s) rfl (by kernel_rfl) (by kernel_rfl) (by kernel_rfl) (fun _ _ _ h => h) (Or.inl ⟨by rfl, fun w hSw => run_loadE rfl GE rfl s hSw.2.2.2.2.2⟩) (by assumption) ?_
          simp only [Act.put]
          refine wpAnyH_take (i := 2) (v := .pointer (some ⟨wr.heap.size, 1, none⟩)) rfl (by kernel_rfl) (by kernel_rfl) (by kernel_rfl) (fun _ _ _ h => h) (Or.inl ⟨by rfl, ?_⟩) (by assumption) ?_
          · (intro w hSw; (try dsimp only at hSw); go_simp)
          simp only [Act.put]
          refine wpAnyH_take (i := 3) (v := .int .i64 pp) rfl (by kernel_rfl) (by kernel_rfl) (by kernel_rfl) (fun _ _ _ h => h) (Or.inl ⟨by rfl, ?_⟩) (by assumption) ?_
          · (intro w hSw; (try dsimp only at hSw); go_simp)
          simp only [Act.put]
          refine wpAnyH_take (i := 5) (v := .pointer (some ⟨wr.heap.size, 2, none⟩)) rfl (by kernel_rfl) (by kernel_rfl) (by kernel_rfl) (fun _ _ _ h => h) (Or.inl ⟨by rfl, ?_⟩) (by assumption) ?_
          · (intro w hSw; (try dsimp only at hSw); go_simp)
          simp only [Act.put]
          refine wpAnyH_take (i := 6) (v := .int .i64 (u : Int)) rfl (by kernel_rfl) (by kernel_rfl) (by kernel_rfl) (fun _ _ _ h => h) (Or.inl ⟨by rfl, ?_⟩) (by assumption) ?_
          · (intro w hSw; (try dsimp only at hSw); go_simp)
          simp only [Act.put]
          refine wpAnyH_take (i := 7) (v := .pointer (some ⟨GE, 0, none⟩)) rfl (by kernel_rfl) (by kernel_rfl) (by kernel_rfl) (fun _ _ _ h => h) (Or.inl ⟨by rfl, ?_⟩) (by assumption) ?_
          · (intro w hSw; (try dsimp only at hSw); go_simp)
          simp only [Act.put]
          refine wpAnyH_take (i := 8) (v := .pointer (some ⟨GE, u, none⟩)) rfl (by kernel_rfl) (by kernel_rfl) (by kernel_rfl) (fun _ _ _ h => h) (Or.inl ⟨by rfl, ?_⟩) (by assumption) ?_
          · (intro w hSw; (try dsimp only at hSw); go_simp)
          simp only [Act.put]
          refine wpAnyH_take (i := 9) (v := .bool false) rfl (by kernel_rfl) (by kernel_rfl) (by kernel_rfl) (fun _ _ _ h => h) (Or.inl ⟨by rfl, ?_⟩) (by assumption) ?_
          · (intro w hSw; (try dsimp only at hSw); go_simp)
          simp only [Act.put]
          refine wpAnyH_ready (rs := [4]) (by kernel_rfl) (by simp) ?_
          refine AllReadyH.cons rfl (fun K hK => ?_) AllReadyH.nil
          go_simp
          go_at_call 129
          refine (HP.out _ (Below.refl W.heap.size W).drew).mono ?_
          rintro e w2 ⟨rfl, hb2d⟩
          have hb2 : Below W.heap.size W w2 := (Below.refl W.heap.size W).drew.trans hb2d
          refine hK.out _ _ (by rcases hHeld with ⟨q0, q1, q2, q3, q4, q5⟩; exact ⟨(hb2d.cell (p := ⟨w.heap.size, 0, none⟩) hlW).trans q0, (hb2d.cell (p := ⟨w.heap.size, 1, none⟩) hlW).trans q1, (hb2d.cell (p := ⟨wr.heap.size, 1, none⟩) hlW2).trans q2, (hb2d.cell (p := ⟨wr.heap.size, 2, none⟩) hlW2).trans q3, (hb2d.cell (p := ⟨GE, u, none⟩) hGW).trans q4, q5.kept hb2d q5.lt⟩) (fun hHeld => ?_)
          clear hK K
          refine wpAnyH_ready (rs := [10]) (by kernel_rfl) (by simp) ?_
          refine AllReadyH.cons rfl (fun K hK => ?_) AllReadyH.nil
          go_simp
          refine hK.out _ _ (by first | assumption | go_keep) (fun hHeld => ?_)
          clear hK K
          refine wpAnyH_done (by kernel_rfl) ?_ _
          clear hb2d
          have e0 := (hb2.cell (p := ⟨wr.heap.size, 0, none⟩) hlW2).trans v0
          have hzw2 := hb2.size
          have HO2 := Lib.hid (HOW.out.on hb2)
          have HB2 := Lib.hid (HBB.out.trans (hb2.mono (by have := HBE.out; have := HZ.out; omega)))
          clear hb2 v0 v1 v2 c0 c1
          have HN := Lib.hid (show selTo (arndB ps s) vs (k + 1) = selTo (arndB ps s) vs k ++ [id] by rw [HSEL.out, if_pos HQ.out])
          have ho := HO2.out
          unfold IOwn at ho
          go_wp2_with (at_builtin; go_must (refine wpList_append_own _ rfl _ _ 26 rfl B 3 i0 (.int .i64 0) 1 8 Try.underlying26 hi0 hz0 hz1 hz2 rfl (by decide) _ _ _ rfl (ho.alloc _) ⟨w2.heap.size, 0, none⟩ 1 1 [iv id] rfl rfl (cell_one_new _ _ _) ?z2c2 ?z2c3 ?z2c4 ?z2c5 ?_))
          case z2c2 => intro u hu; simp at hu; subst hu; rfl
          case z2c3 => unfold maxLen; omega
          case z2c4 => omega
          case z2c5 => have := HBE.out; have := HZ.out; simp; omega
          intro v' w3 hown' hgrow hnil
          have hown3 := Lib.hid (IOwn.push hown')
          rw [← HN.out] at hown3
          have hB3 := Lib.hid ((HB2.out.alloc (by have := HBE.out; have := HZ.out; omega) _).grown hgrow (by have := HBE.out; have := HZ.out; simp; omega) (fun g hg => (ho.lt g hg).1))
          have hvn3 := Lib.hid (show v' ≠ .slice none 0 0 from fun e => by simp [e] at hnil)
          clear hown' hgrow hnil ho
          go_wp2_with fail
          go_roundw
          case rel => exact ⟨k + 1, by omega, by go_num, hown3, hvn3, hB3⟩
          case measure => simp [intOf]; omega
      | false =>
        cases sb with
        | true =>
          have HQ2 := Lib.hid (show arndB ps s ⟨id, pp, (u : Int), sh⟩ = true from HQ.out)
          clear HQ
          have HQ := HQ2
          refine wp_region_held_drew (S := fun w' => w'.cell? ⟨w.heap.size, 0, none⟩ = some (.int .i64 (N : Int)) ∧ w'.cell? ⟨w.heap.size, 1, none⟩ = some (.slice A ps.length cap) ∧ w'.cell? ⟨wr.heap.size, 1, none⟩ = some (.int .i64 pp) ∧ w'.cell? ⟨wr.heap.size, 2, none⟩ = some (.int .i64 (u : Int)) ∧ w'.cell? ⟨GE, u, none⟩ = some (.bool true) ∧ ERow w' GE s) (by kernel_rfl) (by exact ⟨c0, c1, v1, v2, cu, EW.out⟩) (fun hHeld => ?_)
          refine wpAnyH_take (i := 0) (v := .agg #[.int .i64 (N : Int), .slice A ps.length cap]) rfl (by kernel_rfl) (by kernel_rfl) (by kernel_rfl) (fun _ _ _ h => h) (Or.inl ⟨by rfl, ?_⟩) (by assumption) ?_
          · (intro w hSw; (try dsimp only at hSw); go_simp)
          simp only [Act.put, List.setIfInBounds_toArray]
          refine wpAnyH_take (i := 1) (v := ev s) rfl (by kernel_rfl) (by kernel_rfl) (by kernel_rfl) (fun _ _ _ h => h) (Or.inl ⟨by rfl, fun w hSw => run_loadE rfl GE rfl s hSw.2.2.2.2.2⟩) (by assumption) ?_
          simp only [Act.put]
          refine wpAnyH_take (i := 2) (v := .pointer (some ⟨wr.heap.size, 1, none⟩)) rfl (by kernel_rfl) (by kernel_rfl) (by kernel_rfl) (fun _ _ _ h => h) (Or.inl ⟨by rfl, ?_⟩) (by assumption) ?_
          · (intro w hSw; (try dsimp only at hSw); go_simp)
          simp only [Act.put]
          refine wpAnyH_take (i := 3) (v := .int .i64 pp) rfl (by kernel_rfl) (by kernel_rfl) (by kernel_rfl) (fun _ _ _ h => h) (Or.inl ⟨by rfl, ?_⟩) (by assumption) ?_
          · (intro w hSw; (try dsimp only at hSw); go_simp)
          simp only [Act.put]
          refine wpAnyH_take (i := 5) (v := .pointer (some ⟨wr.heap.size, 2, none⟩)) rfl (by kernel_rfl) (by kernel_rfl) (by kernel_rfl) (fun _ _ _ h => h) (Or.inl ⟨by rfl, ?_⟩) (by assumption) ?_
          · (intro w hSw; (try dsimp only at hSw); go_simp)
          simp only [Act.put]
          refine wpAnyH_take (i := 6) (v := .int .i64 (u : Int)) rfl (by kernel_rfl) (by kernel_rfl) (by kernel_rfl) (fun _ _ _ h => h) (Or.inl ⟨by rfl, ?_⟩) (by assumption) ?_
          · (intro w hSw; (try dsimp only at hSw); go_simp)
          simp only [Act.put]
          refine wpAnyH_take (i := 7) (v := .pointer (some ⟨GE, 0, none⟩)) rfl (by kernel_rfl) (by kernel_rfl) (by kernel_rfl) (fun _ _ _ h => h) (Or.inl ⟨by rfl, ?_⟩) (by assumption) ?_
          · (intro w hSw; (try dsimp only at hSw); go_simp)
          simp only [Act.put]
          refine wpAnyH_take (i := 8) (v := .pointer (some ⟨GE, u, none⟩)) rfl (by kernel_rfl) (by kernel_rfl) (by kernel_rfl) (fun _ _ _ h => h) (Or.inl ⟨by rfl, ?_⟩) (by assumption) ?_
          · (intro w hSw; (try dsimp only at hSw); go_simp)
          simp only [Act.put]
          refine wpAnyH_take (i := 9) (v := .bool true) rfl (by kernel_rfl) (by kernel_rfl) (by kernel_rfl) (fun _ _ _ h => h) (Or.inl ⟨by rfl, ?_⟩) (by assumption) ?_
          · (intro w hSw; (try dsimp only at hSw); go_simp)
          simp only [Act.put]
          refine wpAnyH_ready (rs := [4]) (by kernel_rfl) (by simp) ?_
          refine AllReadyH.cons rfl (fun K hK => ?_) AllReadyH.nil
          go_simp
          go_at_call 129
          refine (HP.out _ (Below.refl W.heap.size W).drew).mono ?_
          rintro e w2 ⟨rfl, hb2d⟩
          have hb2 : Below W.heap.size W w2 := (Below.refl W.heap.size W).drew.trans hb2d
          refine hK.out _ _ (by rcases hHeld with ⟨q0, q1, q2, q3, q4, q5⟩; exact ⟨(hb2d.cell (p := ⟨w.heap.size, 0, none⟩) hlW).trans q0, (hb2d.cell (p := ⟨w.heap.size, 1, none⟩) hlW).trans q1, (hb2d.cell (p := ⟨wr.heap.size, 1, none⟩) hlW2).trans q2, (hb2d.cell (p := ⟨wr.heap.size, 2, none⟩) hlW2).trans q3, (hb2d.cell (p := ⟨GE, u, none⟩) hGW).trans q4, q5.kept hb2d q5.lt⟩) (fun hHeld => ?_)
          clear hK K
          refine wpAnyH_ready (rs := [10]) (by kernel_rfl) (by simp) ?_
          refine AllReadyH.cons rfl (fun K hK => ?_) AllReadyH.nil
          go_simp
          refine hK.out _ _ (by first | assumption | go_keep) (fun hHeld => ?_)
          clear hK K
          refine wpAnyH_done (by kernel_rfl) ?_ _
          clear hb2d
          have e0 := (hb2.cell (p := ⟨wr.heap.size, 0, none⟩) hlW2).trans v0
          have hzw2 := hb2.size
          have HO2 := Lib.hid (HOW.out.on hb2)
          have HB2 := Lib.hid (HBB.out.trans (hb2.mono (by have := HBE.out; have := HZ.out; omega)))
          clear hb2 v0 v1 v2 c0 c1
          have HN := Lib.hid (show selTo (arndB ps s) vs (k + 1) = selTo (arndB ps s) vs k ++ [id] by rw [HSEL.out, if_pos HQ.out])
          have ho := HO2.out
          unfold IOwn at ho
          go_wp2_with (at_builtin; go_must (refine wpList_append_own _ rfl _ _ 26 rfl B 3 i0 (.int .i64 0) 1 8 Try.underlying26 hi0 hz0 hz1 hz2 rfl (by decide) _ _ _ rfl (ho.alloc _) ⟨w2.heap.size, 0, none⟩ 1 1 [iv id] rfl rfl (cell_one_new _ _ _) ?z3c2 ?z3c3 ?z3c4 ?z3c5 ?_))
          case z3c2 => intro u hu; simp at hu; subst hu; rfl
          case z3c3 => unfold maxLen; omega
          case z3c4 => omega
          case z3c5 => have := HBE.out; have := HZ.out; simp; omega
          intro v' w3 hown' hgrow hnil
          have hown3 := Lib.hid (IOwn.push hown')
          rw [← HN.out] at hown3
          have hB3 := Lib.hid ((HB2.out.alloc (by have := HBE.out; have := HZ.out; omega) _).grown hgrow (by have := HBE.out; have := HZ.out; simp; omega) (fun g hg => (ho.lt g hg).1))
          have hvn3 := Lib.hid (show v' ≠ .slice none 0 0 from fun e => by simp [e] at hnil)
          clear hown' hgrow hnil ho
          go_wp2_with fail
          go_roundw
          case rel => exact ⟨k + 1, by omega, by go_num, hown3, hvn3, hB3⟩
          case measure => simp [intOf]; omega
        | false =>
          have HQ2 := Lib.hid (show arndB ps s ⟨id, pp, (u : Int), sh⟩ = false from HQ.out)
          clear HQ
          have HQ := HQ2
          refine wp_region_held_drew (S := fun w' => w'.cell? ⟨w.heap.size, 0, none⟩ = some (.int .i64 (N : Int)) ∧ w'.cell? ⟨w.heap.size, 1, none⟩ = some (.slice A ps.length cap) ∧ w'.cell? ⟨wr.heap.size, 1, none⟩ = some (.int .i64 pp) ∧ w'.cell? ⟨wr.heap.size, 2, none⟩ = some (.int .i64 (u : Int)) ∧ w'.cell? ⟨GE, u, none⟩ = some (.bool false) ∧ ERow w' GE s) (by kernel_rfl) (by exact ⟨c0, c1, v1, v2, cu, EW.out⟩) (fun hHeld => ?_)
          refine wpAnyH_take (i := 0) (v := .agg #[.int .i64 (N : Int), .slice A ps.length cap]) rfl (by kernel_rfl) (by kernel_rfl) (by kernel_rfl) (fun _ _ _ h => h) (Or.inl ⟨by rfl, ?_⟩) (by assumption) ?_
          · (intro w hSw; (try dsimp only at hSw); go_simp)
          simp only [Act.put, List.setIfInBounds_toArray]
          refine wpAnyH_take (i := 1) (v := ev s) rfl (by kernel_rfl) (by kernel_rfl) (by kernel_rfl) (fun _ _ _ h => h) (Or.inl ⟨by rfl, fun w hSw => run_loadE rfl GE rfl s hSw.2.2.2.2.2⟩) (by assumption) ?_
          simp only [Act.put]
          refine wpAnyH_take (i := 2) (v := .pointer (some ⟨wr.heap.size, 1, none⟩)) rfl (by kernel_rfl) (by kernel_rfl) (by kernel_rfl) (fun _ _ _ h => h) (Or.inl ⟨by rfl, ?_⟩) (by assumption) ?_
          · (intro w hSw; (try dsimp only at hSw); go_simp)
          simp only [Act.put]
          refine wpAnyH_take (i := 3) (v := .int .i64 pp) rfl (by kernel_rfl) (by kernel_rfl) (by kernel_rfl) (fun _ _ _ h => h) (Or.inl ⟨by rfl, ?_⟩) (by assumption) ?_
          · (intro w hSw; (try dsimp only at hSw); go_simp)
          simp only [Act.put]
          refine wpAnyH_take (i := 5) (v := .pointer (some ⟨wr.heap.size, 2, none⟩)) rfl (by kernel_rfl) (by kernel_rfl) (by kernel_rfl) (fun _ _ _ h => h) (Or.inl ⟨by rfl, ?_⟩) (by assumption) ?_
          · (intro w hSw; (try dsimp only at hSw); go_simp)
          simp only [Act.put]
          refine wpAnyH_take (i := 6) (v := .int .i64 (u : Int)) rfl (by kernel_rfl) (by kernel_rfl) (by kernel_rfl) (fun _ _ _ h => h) (Or.inl ⟨by rfl, ?_⟩) (by assumption) ?_
          · (intro w hSw; (try dsimp only at hSw); go_simp)
          simp only [Act.put]
          refine wpAnyH_take (i := 7) (v := .pointer (some ⟨GE, 0, none⟩)) rfl (by kernel_rfl) (by kernel_rfl) (by kernel_rfl) (fun _ _ _ h => h) (Or.inl ⟨by rfl, ?_⟩) (by assumption) ?_
          · (intro w hSw; (try dsimp only at hSw); go_simp)
          simp only [Act.put]
          refine wpAnyH_take (i := 8) (v := .pointer (some ⟨GE, u, none⟩)) rfl (by kernel_rfl) (by kernel_rfl) (by kernel_rfl) (fun _ _ _ h => h) (Or.inl ⟨by rfl, ?_⟩) (by assumption) ?_
          · (intro w hSw; (try dsimp only at hSw); go_simp)
          simp only [Act.put]
          refine wpAnyH_take (i := 9) (v := .bool false) rfl (by kernel_rfl) (by kernel_rfl) (by kernel_rfl) (fun _ _ _ h => h) (Or.inl ⟨by rfl, ?_⟩) (by assumption) ?_
          · (intro w hSw; (try dsimp only at hSw); go_simp)
          simp only [Act.put]
          refine wpAnyH_ready (rs := [4]) (by kernel_rfl) (by simp) ?_
          refine AllReadyH.cons rfl (fun K hK => ?_) AllReadyH.nil
          go_simp
          go_at_call 129
          refine (HP.out _ (Below.refl W.heap.size W).drew).mono ?_
          rintro e w2 ⟨rfl, hb2d⟩
          have hb2 : Below W.heap.size W w2 := (Below.refl W.heap.size W).drew.trans hb2d
          refine hK.out _ _ (by rcases hHeld with ⟨q0, q1, q2, q3, q4, q5⟩; exact ⟨(hb2d.cell (p := ⟨w.heap.size, 0, none⟩) hlW).trans q0, (hb2d.cell (p := ⟨w.heap.size, 1, none⟩) hlW).trans q1, (hb2d.cell (p := ⟨wr.heap.size, 1, none⟩) hlW2).trans q2, (hb2d.cell (p := ⟨wr.heap.size, 2, none⟩) hlW2).trans q3, (hb2d.cell (p := ⟨GE, u, none⟩) hGW).trans q4, q5.kept hb2d q5.lt⟩) (fun hHeld => ?_)
          clear hK K
          refine wpAnyH_ready (rs := [10]) (by kernel_rfl) (by simp) ?_
          refine AllReadyH.cons rfl (fun K hK => ?_) AllReadyH.nil
          go_simp
          refine hK.out _ _ (by first | assumption | go_keep) (fun hHeld => ?_)
          clear hK K
          refine wpAnyH_done (by kernel_rfl) ?_ _
          clear hb2d
          have e0 := (hb2.cell (p := ⟨wr.heap.size, 0, none⟩) hlW2).trans v0
          have hzw2 := hb2.size
          have HO2 := Lib.hid (HOW.out.on hb2)
          have HB2 := Lib.hid (HBB.out.trans (hb2.mono (by have := HBE.out; have := HZ.out; omega)))
          clear hb2 v0 v1 v2 c0 c1
          have HN := Lib.hid (show selTo (arndB ps s) vs (k + 1) = selTo (arndB ps s) vs k by rw [HSEL.out, if_neg (by rw [HQ.out]; simp)])
          have hown3 := HO2
          have hll : (selTo (arndB ps s) vs k).length = (selTo (arndB ps s) vs (k + 1)).length := by rw [HN.out]
          clear hown
          have HO3 := Lib.hid (show IOwn w2 B (.slice (some ⟨gv, 0, none⟩) (selTo (arndB ps s) vs k).length cv) (selTo (arndB ps s) vs (k + 1)) from by rw [HN.out]; exact HO2.out)
          clear hll hown3 HN
          go_wp2_with fail
          go_roundw
          case rel => exact ⟨k + 1, by omega, by go_num, HO3, hvn, HB2⟩
          case measure => simp [intOf]; omega
    · have hfin := selTo_all (arndB ps s) vs k (by omega)
      have hown2 := hown.out
      have HF := Lib.hid hfin
      clear hfin hBE
      go_wp2_with fail
      go_ret2
      rw [HF.out] at hown2
      exact ⟨gv, cv, by rw [HF.out]; rfl, by have := HBE.out; omega, own_lower hown2 (by have := HBE.out; omega), HB1.out.trans (hb.out.mono (by omega))⟩

end Go.Proofs.Ytbljmibaemgfeaa.S2

namespace Go.Proofs.Ytbljmibaemgfeaa.S2
open Go.RowKit Go.Sort P2 P4

def opn (v : Vv) : Bool := !v.sh
theorem openL_sel (vs : List Vv) : selTo opn vs vs.length = openL vs := by rw [selTo_all _ _ _ (Nat.le_refl _)]; rfl

set_option maxHeartbeats 4000000 in
set_option maxRecDepth 100000 in
theorem sopen_any (A : Option Addr) (cap : Nat) (vs : List Vv) (w : World) (h : VAt w A vs) (hl : vs.length ≤ 10) :
    Calls Try.prog 95 #[.slice A vs.length cap] w (GivesN w (openL vs)) := by
  have HA := Lib.hid h
  obtain ⟨i0, hi0, hz0, hz1, hz2⟩ := info_parts infoI
  clear h
  have HO0 := Lib.hid (own_empty w w.heap.size (Nat.le_refl _))
  have HB0 := Lib.hid (show Below w.heap.size w (w.alloc (.cells #[] 3)) from (Below.refl _ _).alloc (Nat.le_refl _) _)
  go_enter Try.func95, Try.ntmps95
  go_wp2_with fail
  go_loopw [3, 4] (fun v i wr => ∃ m : Nat, m ≤ vs.length ∧ i = .int .i64 (m : Int) ∧ Hid (IOwn wr w.heap.size v (selTo opn vs m)) ∧ Hid (v ≠ .slice none 0 0) ∧ Hid (Below w.heap.size w wr)) (fun _ i _ => vs.length - (intOf i).toNat)
  case atStart => exact ⟨0, by omega, rfl, HO0, Lib.hid (by simp), HB0⟩
  case round =>
    clear HO0 HB0
    obtain ⟨m, hmN, rfl, hown, hvn, hb⟩ := hrel
    have hz := hb.out.size
    by_cases hlt : m < vs.length
    · obtain ⟨b, off, hA, hbl, h0, h1, h2, h3⟩ := (HA.out.kept hb.out (Nat.le_refl _)).at_ hlt
      subst hA
      have hm0 : (0 : Int) ≤ (m : Int) := by omega
      have hmn : (m : Int) < (vs.length : Int) := by omega
      have HST := Lib.hid (selTo_succ opn vs m hlt)
      have hil := selTo_len opn vs m
      generalize vAt vs m = v at *
      obtain ⟨id, pp, nd, sh⟩ := v
      dsimp only at h0 h1 h2 h3
      cases sh with
      | false =>
        have HN := Lib.hid (show selTo opn vs (m + 1) = selTo opn vs m ++ [id] by rw [HST.out]; rfl)
        have ho := hown.out
        unfold IOwn at ho
        clear HST
        go_wp2_with (at_builtin; go_must (refine wpList_append_own _ rfl _ _ 26 rfl w.heap.size 3 i0 (.int .i64 0) 1 8 Try.underlying26 hi0 hz0 hz1 hz2 rfl (by decide) _ _ _ rfl (ho.alloc _) ⟨wr.heap.size, 0, none⟩ 1 1 [iv id] rfl rfl (cell_one_new _ _ _) ?d2 ?d3 ?d4 ?d5 ?_))
        case d2 => intro u hu; simp at hu; subst hu; rfl
        case d3 => unfold maxLen; omega
        case d4 => omega
        case d5 => simp; omega
        intro v' w3 hown' hgrow hnil
        have hown3 := Lib.hid (IOwn.push hown')
        rw [← HN.out] at hown3
        have hB3 := Lib.hid ((hb.out.alloc (by omega) _).grown hgrow (by simp; omega) (fun g hg => (ho.lt g hg).1))
        have hvn3 := Lib.hid (show v' ≠ .slice none 0 0 from fun e => hnil e)
        clear hown' hgrow hnil ho
        go_wp2_with fail
        go_roundw
        case rel => exact ⟨m + 1, by omega, by go_num, hown3, hvn3, hB3⟩
        case measure => simp [intOf]; omega
      | true =>
        have HN := Lib.hid (show selTo opn vs (m + 1) = selTo opn vs m by rw [HST.out]; rfl)
        rw [← HN.out] at hown
        clear HST HN
        go_wp2_with fail
        go_roundw
        case rel => exact ⟨m + 1, by omega, by go_num, hown, hvn, hb⟩
        case measure => simp [intOf]; omega
    · have e : m = vs.length := by omega
      subst e
      rw [openL_sel] at hown
      obtain ⟨g, capg, rfl, hg⟩ := own_slice hown.out hvn.out
      go_wp2_with fail
      go_ret
      exact ⟨g, capg, rfl, hg, hown.out, hb.out⟩

/-! ### Valves of which some are shut too -/
def shutL (vs : List Vv) (P : List Int) : Nat → List Vv
  | 0 => vs
  | k + 1 => if (vAt vs k).id ∈ P then turnL (shutL vs P k) k true else shutL vs P k
theorem shutL_len (vs : List Vv) (P : List Int) : ∀ k, (shutL vs P k).length = vs.length
  | 0 => rfl
  | k + 1 => by
    have ih := shutL_len vs P k
    simp only [shutL]
    split
    · rw [turnL_len, ih]
    · exact ih
theorem shutL_at (vs : List Vv) (P : List Int) : ∀ (k j : Nat), k ≤ vs.length → j < vs.length → vAt (shutL vs P k) j = if j < k ∧ (vAt vs j).id ∈ P then ⟨(vAt vs j).id, (vAt vs j).pp, (vAt vs j).nd, true⟩ else vAt vs j
  | 0, j, _, _ => by simp [shutL]
  | k + 1, j, hk, hj => by
    have ih := shutL_at vs P k j (by omega) hj
    have ihk := shutL_at vs P k k (by omega) (by omega)
    rw [if_neg (by omega)] at ihk
    simp only [shutL]
    by_cases hP : (vAt vs k).id ∈ P
    · rw [if_pos hP, turnL_at _ _ _ _ (by rw [shutL_len]; omega)]
      by_cases e : j = k
      · subst e; rw [if_pos rfl, ihk, if_pos ⟨by omega, hP⟩]
      · rw [if_neg e, ih]
        by_cases hjk : j < k
        · simp [hjk, show j < k + 1 by omega]
        · rw [if_neg (by omega), if_neg (by omega)]
    · rw [if_neg hP, ih]
      by_cases e : j = k
      · subst e; rw [if_neg (by omega), if_neg (fun h => hP h.2)]
      · by_cases hjk : j < k
        · simp [hjk, show j < k + 1 by omega]
        · rw [if_neg (by omega), if_neg (by omega)]
theorem bar_shut (vs : List Vv) (P : List Int) (p n : Int) : hasV (bar (shutL vs P vs.length) true) p n = true ↔ hasV (barP vs P) p n = true := by
  have e : bar (shutL vs P vs.length) true = (shutL vs P vs.length).filter (·.sh) := rfl
  rw [e]
  unfold barP
  rw [hasV_filter, hasV_filter]
  have hat := fun j hj => shutL_at vs P vs.length j (Nat.le_refl _) hj
  constructor
  · rintro ⟨v, hv, hs, h1, h2⟩
    obtain ⟨j, hj, rfl⟩ := mem_vAt hv
    rw [shutL_len] at hj
    rw [hat j hj] at hs h1 h2
    refine ⟨vAt vs j, vAt_mem hj, ?_⟩
    by_cases hc : j < vs.length ∧ (vAt vs j).id ∈ P
    · rw [if_pos hc] at h1 h2
      exact ⟨by simp [hc.2], h1, h2⟩
    · rw [if_neg hc] at hs h1 h2
      exact ⟨by simp [hs], h1, h2⟩
  · rintro ⟨v, hv, hs, h1, h2⟩
    obtain ⟨j, hj, rfl⟩ := mem_vAt hv
    refine ⟨vAt (shutL vs P vs.length) j, vAt_mem (by rw [shutL_len]; exact hj), ?_⟩
    rw [hat j hj]
    by_cases hc : (vAt vs j).id ∈ P
    · rw [if_pos ⟨hj, hc⟩]; exact ⟨rfl, h1, h2⟩
    · rw [if_neg (fun h => hc h.2)]
      exact ⟨by simpa [hc] using hs, h1, h2⟩
theorem wet_shut (ps : List Pp) (vs : List Vv) (P : List Int) (X : Nat) : coB ps (bar (shutL vs P vs.length) true) (one X) = wetP ps vs X P := coB_congr (bar_shut vs P) _

/-- Valves in a slice that the call made. -/
def GivesVS (w : World) (l : List Vv) (e : Ending) (w' : World) : Prop := ∃ g cap, e = .returned (.slice (some ⟨g, 0, none⟩) l.length cap) ∧ VAt w' (some ⟨g, 0, none⟩) l ∧ Below w.heap.size w w'
theorem append_none (w : World) (g c : Nat) : (Builtin.append_ #[34, 34] 34 #[.slice (some ⟨g, 0, none⟩) 0 0, .slice none 0 c]).run Try.prog w = .ok (.slice (some ⟨g, 0, none⟩) 0 0) w := by
  obtain ⟨i0, hi0, hz0, hz1, hz2⟩ := info_parts infoV
  exact run_append_room_src (P := Try.prog) w 34 34 34 60 i0 Try.underlying34 hi0 g 0 0 0 (.slice none 0 c) 0 [] (Src.ofNil w Try.underlying34 c) (by omega) (fun j hj => by simp at hj) (fun j hj => by simp at hj)

set_option maxHeartbeats 1000000 in
set_option maxRecDepth 100000 in
theorem sshut_none (capv : Nat) (AC : Option Addr) (cc : Nat) (P : List Int) (w : World) :
    Calls Try.prog 149 #[.slice none 0 capv, .slice AC P.length cc] w (GivesVS w []) := by
  go_enter Try.func149, Try.ntmps149
  go_wp2_with (at_builtin; refine Lib.wpList_append_run _ rfl _ _ _ _ rfl _ _ rfl rfl _ _ (append_none _ _ _) ?_)
  go_loopw [5, 6] (fun v i wr => v = .slice (some ⟨w.heap.size, 0, none⟩) 0 0 ∧ i = .int .i64 0 ∧ Hid (Below w.heap.size w wr)) (fun _ _ _ => 0)
  case atStart => exact ⟨rfl, rfl, Lib.hid ((Below.refl _ _).alloc (Nat.le_refl _) _)⟩
  case round =>
    obtain ⟨rfl, rfl, hb⟩ := hrel
    go_wp2_with fail
    go_ret
    exact ⟨w.heap.size, 0, rfl, .inl rfl, hb.out⟩

set_option maxHeartbeats 4000000 in
set_option maxRecDepth 100000 in
theorem sshut_some (ad : Addr) (capv : Nat) (vs : List Vv) (AC : Option Addr) (cc : Nat) (P : List Int) (w : World) (hv : VAt w (some ad) vs) (hl : vs.length ≤ 10) (hc : IAt w AC P) (hcl : P.length ≤ 1048576) :
    Calls Try.prog 149 #[.slice (some ad) vs.length capv, .slice AC P.length cc] w (GivesVS w (shutL vs P vs.length)) := by
  obtain ⟨i0, hi0, hz0, hz1, hz2⟩ := info_parts infoV
  have HO0 := Lib.hid (own_emptyV w w.heap.size (Nat.le_refl _))
  have HC := Lib.hid (fun x w' (hb : Below w.heap.size w w') => has_any AC cc P x w' (hc.kept hb (Nat.le_refl _)) hcl)
  have HVC := Lib.hid (show ∀ j u, (vcl vs)[j]? = some u → (w.alloc (.cells #[] 60)).cell? (ad.add j) = some u from fun j u hu => by
    rcases hv with h0 | ⟨b, off, h1, h2, h3⟩
    · rw [h0] at hu; simp [vcl] at hu
    · injection h1 with h1
      subst h1
      exact vcl_at (VAt.kept (.inr ⟨b, off, rfl, h2, h3⟩) ((Below.refl w.heap.size w).alloc (Nat.le_refl _) (.cells #[] 60)) (Nat.le_refl _)) j u hu)
  clear hv hc
  go_enter Try.func149, Try.ntmps149
  go_wp2_with (at_builtin; go_must (refine wpList_append_own _ rfl _ _ 34 rfl w.heap.size 60 i0 _ 4 32 Try.underlying34 hi0 hz0 hz1 hz2 rfl (by omega) _ _ _ rfl HO0.out ad vs.length capv (vcl vs) rfl (vcl_len vs) HVC.out (vcl_one vs) ?c3 ?c4 ?c5 ?_))
  case c3 => unfold maxLen; omega
  case c4 => omega
  case c5 => simp
  intro v' w3 hown' hgrow hnil
  have hB3 := Lib.hid (((Below.refl w.heap.size w).alloc (Nat.le_refl _) (.cells #[] 60)).grown hgrow (by simp) (fun g hg => (HO0.out.lt g hg).1))
  obtain ⟨g, cg, rfl, hgg⟩ := own_sliceV hown' (fun e => hnil e)
  have HV3 := Lib.hid (show VAt w3 (some ⟨g, 0, none⟩) vs from own_vclat (by simpa using hown'))
  clear hown' hgrow hnil HO0 HVC
  go_wp2_with fail
  go_loopw [5, 6] (fun v i wr => ∃ k g cap : Nat, k ≤ vs.length ∧ i = .int .i64 (k : Int) ∧ v = .slice (some ⟨g, 0, none⟩) vs.length cap ∧ Hid (VAt wr (some ⟨g, 0, none⟩) (shutL vs P k)) ∧ Hid (Below w.heap.size w wr)) (fun _ i _ => vs.length - (intOf i).toNat)
  case atStart => exact ⟨0, g, cg, by omega, rfl, rfl, HV3, hB3⟩
  case round =>
    clear HV3 hB3 hgg
    obtain ⟨k, g', cg', hk, rfl, rfl, hva, hb⟩ := hrel
    by_cases hlt : k < vs.length
    · have hlk := shutL_len vs P k
      obtain ⟨b', off', hA', hbl', h0, h1, h2, h3⟩ := hva.out.at_ (i := k) (by omega)
      simp only [Option.some.injEq, Addr.mk.injEq, and_true] at hA'
      obtain ⟨rfl, rfl⟩ := hA'
      have hid : (vAt (shutL vs P k) k).id = (vAt vs k).id := by rw [shutL_at vs P k k hk hlt, if_neg (by omega)]
      rw [hid] at h0
      have hk0 : (0 : Int) ≤ (k : Int) := by omega
      have hkn : (k : Int) < (vs.length : Int) := by omega
      have HH := Lib.hid (HC.out (vAt vs k).id _ hb.out)
      have HST := Lib.hid (show shutL vs P (k + 1) = if (vAt vs k).id ∈ P then turnL (shutL vs P k) k true else shutL vs P k from rfl)
      have HT := Lib.hid (by
        have h7 := sturned_any g' 0 cg' k (shutL vs P k) true wr hva.out (by omega) (by omega)
        rwa [hlk] at h7)
      clear h1 h2 h3 hid
      simp only [Nat.zero_add] at h0
      cases hq : hasB P (vAt vs k).id with
      | true =>
        have hm : (vAt vs k).id ∈ P := by simpa [hasB] using hq
        have HN := Lib.hid (show turnL (shutL vs P k) k true = shutL vs P (k + 1) by rw [HST.out, if_pos hm])
        rw [hq] at HH
        rw [HN.out] at HT
        clear HST hm hq
        generalize (vAt vs k).id = x at *
        go_wp2_with (first
          | (go_at_call 96; refine HH.out.mono ?_; rintro e w' ⟨rfl, hw⟩; replace hw := hw.symm; subst hw)
          | (go_at_call 135; refine HT.out.mono ?_; rintro e w4 ⟨g4, c4, rfl, hg4, hV4, hb4, hl4⟩; have HV4 := Lib.hid hV4; have HB4 := Lib.hid (hb.out.trans (hb4.mono hb.out.size)); clear hV4 hb4))
        go_roundw
        case rel => exact ⟨k + 1, g4, c4, by omega, by go_num, rfl, HV4, HB4⟩
        case measure => simp [intOf]; omega
      | false =>
        have hm : (vAt vs k).id ∉ P := by intro hm; simp [hasB, hm] at hq
        have HN := Lib.hid (show shutL vs P k = shutL vs P (k + 1) by rw [HST.out, if_neg hm])
        rw [hq] at HH
        have hva2 := hva
        rw [HN.out] at hva2
        clear HST hm hq HT hva
        generalize (vAt vs k).id = x at *
        go_wp2_with (go_at_call 96; refine HH.out.mono ?_; rintro e w' ⟨rfl, hw⟩; replace hw := hw.symm; subst hw)
        go_roundw
        case rel => exact ⟨k + 1, g', cg', by omega, by go_num, rfl, hva2, hb⟩
        case measure => simp [intOf]; omega
    · have e : k = vs.length := by omega
      subst e
      go_wp2_with fail
      go_ret
      exact ⟨g', cg', by rw [shutL_len]; rfl, hva.out, hb.out⟩
theorem sshut_any (AV : Option Addr) (capv : Nat) (vs : List Vv) (AC : Option Addr) (cc : Nat) (P : List Int) (w : World) (hv : VAt w AV vs) (hl : vs.length ≤ 10) (hc : IAt w AC P) (hcl : P.length ≤ 1048576) :
    Calls Try.prog 149 #[.slice AV vs.length capv, .slice AC P.length cc] w (GivesVS w (shutL vs P vs.length)) := by
  cases AV with
  | none =>
    have h0 : vs = [] := by
      rcases hv with h0 | ⟨_, _, h1, _⟩
      · exact h0
      · cases h1
    subst h0
    exact sshut_none capv AC cc P w
  | some ad => exact sshut_some ad capv vs AC cc P w hv hl hc hcl
end Go.Proofs.Ytbljmibaemgfeaa.S2

namespace Go.Proofs.Ytbljmibaemgfeaa.S2
open Go.RowKit Go.Sort P2 P4

theorem needB_at {ps : List Pp} {vs : List Vv} {v : Vv} {i u : Nat} (h1 : pidx ps v.pp = i) (h2 : v.nd.toNat = u) : needB ps vs v = coB ps vs (one u) (9 + i) := by unfold needB; rw [h1, h2]
theorem find_at {n : Int} {A : Option Addr} {cap : Nat} {ps : List Pp} {x : Int} {i : Nat} (hs : ∀ i j, i < j → j < ps.length → (pAt ps i).id < (pAt ps j).id) (hi : At ps x i) (w : World) (h : PAt w A ps) (hm : ps.length ≤ 1048576) :
    Calls Try.prog 119 #[nv n A ps.length cap, .int .i64 x] w fun e w' => e = .returned (.int .i64 (i : Int)) ∧ Below w.heap.size w w' :=
  (find_any n A cap ps x w h hm).mono fun _ _ ⟨⟨r, he, hr⟩, hb⟩ => ⟨by rw [he, find_of hs hr hi], hb⟩
theorem has_b {g o c : Nat} {l : List Int} {x : Int} {v : Bool} (w : World) (h : LAt w g o c l) (hl : l.length ≤ 1000) (hv : hasB l x = v) :
    Calls Try.prog 96 #[.slice (some ⟨g, o, none⟩) l.length c, .int .i64 x] w fun e w' => e = .returned (.bool v) ∧ Below w.heap.size w w' :=
  (has_any (some ⟨g, o, none⟩) c l x w h.iat (by omega)).mono fun _ _ ⟨he, hw⟩ => ⟨by rw [he, hv], by rw [hw]; exact Below.refl _ _⟩

set_option maxHeartbeats 2000000 in
set_option maxRecDepth 100000 in
theorem sneed_no (n : Int) (A : Option Addr) (cap : Nat) (ps : List Pp) (AV : Option Addr) (capv : Nat) (vs : List Vv) (w : World) (h : PAt w A ps) (hm : ps.length ≤ maxLen) (hv : VAt w AV vs) (hmv : vs.length ≤ maxLen) (hb : goodV n ps vs = false) :
    Calls Try.prog 76 #[nv n A ps.length cap, .slice AV vs.length capv] w (GivesA w [] false) := by
  have H := Lib.hid (fun w' (hb' : Below w.heap.size w w') => sgoodv_v hb A cap AV capv w' (h.kept hb' (Nat.le_refl _)) hm (hv.kept hb' (Nat.le_refl _)) hmv)
  clear h hm hv hmv hb
  obtain ⟨W1, hW1⟩ : ∃ W1, W1 = (w.alloc (.cells #[.int .i64 n, .slice A ps.length cap] 32)).alloc (.cells #[] 3) := ⟨_, rfl⟩
  have hzW : W1.heap.size = w.heap.size + 2 := by rw [hW1]; simp
  have p0 : W1.cell? ⟨w.heap.size, 0, none⟩ = some (.int .i64 n) := by rw [hW1]; go_simp
  have p1 : W1.cell? ⟨w.heap.size, 1, none⟩ = some (.slice A ps.length cap) := by rw [hW1]; go_simp
  have HBW := Lib.hid (show Below w.heap.size w W1 from by rw [hW1]; exact ((Below.refl _ _).alloc (Nat.le_refl _) _).alloc (by simp) _)
  have HO0 := Lib.hid (show IOwn W1 (w.heap.size + 1) (.slice (some ⟨w.heap.size + 1, 0, none⟩) 0 0) [] from by
    have h1 := own_empty (w.alloc (.cells #[.int .i64 n, .slice A ps.length cap] 32)) (w.heap.size + 1) (by simp)
    rw [hW1]; simpa using h1)
  have HW1 := Lib.hid hW1
  have HZW := Lib.hid hzW
  have hl1 : w.heap.size < W1.heap.size := by omega
  clear hW1 hzW
  go_enter Try.func76, Try.ntmps76
  go_upto_region 2 with (fail)
  rw [← HW1.out]
  clear HW1
  go_wp2_with (go_at_call 101; refine (H.out _ HBW.out).mono ?_; rintro e w1 ⟨rfl, hb1⟩; have HB1 := Lib.hid (HBW.out.trans (hb1.mono HBW.out.size)); have hw1 : w.heap.size < w1.heap.size := (by have := hb1.size; omega); have a0 := (hb1.cell (p := ⟨w.heap.size, 0, none⟩) hl1).trans p0; have a1 := (hb1.cell (p := ⟨w.heap.size, 1, none⟩) hl1).trans p1; have HO1 := Lib.hid (HO0.out.on hb1); have hz1W := hb1.size; clear hb1)
  go_ret2
  exact ⟨w.heap.size + 1, 0, 0, rfl, by omega, .inl rfl, HB1.out, by have := HZW.out; omega⟩

set_option maxHeartbeats 4000000 in
set_option maxRecDepth 100000 in
theorem sneed_yes (N : Nat) (A : Option Addr) (cap : Nat) (ps : List Pp) (AV : Option Addr) (capv : Nat) (vs : List Vv) (w : World) (h : PAt w A ps) (hv : VAt w AV vs) (hb : goodV N ps vs = true) :
    Calls Try.prog 76 #[nv N A ps.length cap, .slice AV vs.length capv] w (GivesA w (needL ps vs) true) := by
  have hgd := goodV_of hb
  have hm : ps.length ≤ maxLen := by have := hgd.1.2.2.1; unfold maxLen; omega
  have hmv : vs.length ≤ maxLen := by have := hgd.2.1; unfold maxLen; omega
  have H := Lib.hid (fun w' (hb' : Below w.heap.size w w') => sgoodv_v hb A cap AV capv w' (h.kept hb' (Nat.le_refl _)) hm (hv.kept hb' (Nat.le_refl _)) hmv)
  have HA := Lib.hid h
  have HVV := Lib.hid hv
  have HG := Lib.hid hgd
  have hvl := hgd.2.1
  have hl10 := hgd.1.2.2.1
  have hN8 : N ≤ 8 := by have := hgd.1.2.1; omega
  obtain ⟨i0, hi0, hz0, hz1, hz2⟩ := info_parts infoI
  clear h hm hv hmv hb hgd
  obtain ⟨W1, hW1⟩ : ∃ W1, W1 = (w.alloc (.cells #[.int .i64 (N : Int), .slice A ps.length cap] 32)).alloc (.cells #[] 3) := ⟨_, rfl⟩
  have hzW : W1.heap.size = w.heap.size + 2 := by rw [hW1]; simp
  have p0 : W1.cell? ⟨w.heap.size, 0, none⟩ = some (.int .i64 (N : Int)) := by rw [hW1]; go_simp
  have p1 : W1.cell? ⟨w.heap.size, 1, none⟩ = some (.slice A ps.length cap) := by rw [hW1]; go_simp
  have HBW := Lib.hid (show Below w.heap.size w W1 from by rw [hW1]; exact ((Below.refl _ _).alloc (Nat.le_refl _) _).alloc (by simp) _)
  have HO0 := Lib.hid (show IOwn W1 (w.heap.size + 1) (.slice (some ⟨w.heap.size + 1, 0, none⟩) 0 0) [] from by
    have h1 := own_empty (w.alloc (.cells #[.int .i64 (N : Int), .slice A ps.length cap] 32)) (w.heap.size + 1) (by simp)
    rw [hW1]; simpa using h1)
  have HW1 := Lib.hid hW1
  have HZW := Lib.hid hzW
  have hl1 : w.heap.size < W1.heap.size := by omega
  clear hW1 hzW
  go_enter Try.func76, Try.ntmps76
  go_upto_region 2 with (fail)
  rw [← HW1.out]
  clear HW1
  go_wp2_with (go_at_call 101; refine (H.out _ HBW.out).mono ?_; rintro e w1 ⟨rfl, hb1⟩; have HB1 := Lib.hid (HBW.out.trans (hb1.mono HBW.out.size)); have hw1 : w.heap.size < w1.heap.size := (by have := hb1.size; omega); have a0 := (hb1.cell (p := ⟨w.heap.size, 0, none⟩) hl1).trans p0; have a1 := (hb1.cell (p := ⟨w.heap.size, 1, none⟩) hl1).trans p1; have HO1 := Lib.hid (HO0.out.on hb1); have hz1W := hb1.size; clear hb1; refine Hid.out ?_)
  obtain ⟨B, hB⟩ : ∃ B, B = w.heap.size + 1 := ⟨_, rfl⟩
  have HOB := Lib.hid (show IOwn w1 B (.slice (some ⟨w.heap.size + 1, 0, none⟩) 0 0) [] from by rw [hB]; exact HO1.out)
  have hBw : w.heap.size < B := by omega
  have hB1 : B ≤ w1.heap.size := by omega
  have hzw1 := HZW.out
  clear HO0 HO1 hB
  refine Lib.hid ?_
  go_wp2_with fail
  go_loopw [6, 7] (fun v i wr => ∃ k : Nat, k ≤ vs.length ∧ i = .int .i64 (k : Int) ∧ Hid (IOwn wr B v (selTo (needB ps vs) vs k)) ∧ Hid (v ≠ .slice none 0 0) ∧ Hid (Below B w1 wr)) (fun _ i _ => vs.length - (intOf i).toNat)
  case atStart => exact ⟨0, Nat.zero_le _, rfl, HOB, Lib.hid (by simp), Lib.hid (Below.refl _ _)⟩
  case round =>
    clear HOB
    obtain ⟨k, hk, rfl, hown, hvn, hb⟩ := hrel
    obtain ⟨gv, cv, rfl, hgv⟩ := own_slice hown.out hvn.out
    have hzr := hb.out.size
    by_cases hlt : k < vs.length
    · obtain ⟨b, off, hA, hbl0, g0, g1, g2, g3⟩ := HVV.out.at_ hlt
      subst hA
      have hbr := Lib.hid (HB1.out.trans (hb.out.mono (by omega)))
      have hk0 : (0 : Int) ≤ (k : Int) := by omega
      have hkn : (k : Int) < (vs.length : Int) := by omega
      obtain ⟨i, u, hat, hu, hu1, huN, hu8, hpi, hti⟩ := valve_ok HG.out hlt
      have HSEL := Lib.hid (selTo_succ (needB ps vs) vs k hlt)
      have HAT := Lib.hid hat
      have hil := selTo_len (needB ps vs) vs k
      have HQ := Lib.hid (needB_at (vs := vs) hpi hti)
      clear hpi hti hat
      generalize vAt vs k = v at *
      obtain ⟨id, pp, nd, sh⟩ := v
      dsimp only at g0 g1 g2 g3 hu HAT HSEL
      subst hu
      have h0 := (hbr.out.cell (p := ⟨b, off + k * 4, none⟩) hbl0).trans g0
      have h1 := (hbr.out.cell (p := ⟨b, off + k * 4 + 1, none⟩) hbl0).trans g1
      have h2 := (hbr.out.cell (p := ⟨b, off + k * 4 + 2, none⟩) hbl0).trans g2
      have b0 := (hb.out.cell (p := ⟨w.heap.size, 0, none⟩) hBw).trans a0
      have b1 := (hb.out.cell (p := ⟨w.heap.size, 1, none⟩) hBw).trans a1
      have hbl : b < wr.heap.size := by omega
      have hwr : w.heap.size < wr.heap.size := by omega
      obtain ⟨s, hs⟩ : ∃ s, s = coB ps vs (one u) := ⟨_, rfl⟩
      have HSPR := Lib.hid (fun g1 o1 c1 g2 o2 c2 wx (hbx : Below wr.heap.size wr wx) (l1 : LAt wx g1 o1 c1 [(u : Int)]) (l2 : LAt wx g2 o2 c2 []) => by
        have h7 := spread_any N A cap ps (some ⟨b, off, none⟩) capv vs false g1 o1 c1 g2 o2 c2 [(u : Int)] [] wx (HA.out.kept (hbr.out.trans (hbx.mono (by omega))) (Nat.le_refl _)) (HVV.out.kept (hbr.out.trans (hbx.mono (by omega))) (Nat.le_refl _)) HG.out.1 hvl l1 l2 (ls_node hu1 huN)
        rw [bar_all, sOf_node1 u (by omega), ← hs] at h7
        exact h7)
      rw [← hs] at HQ
      clear g0 g1 g2 g3 hs
      go_upto_region 7 with (fail)
      refine wp_region_held_drew (S := fun w' => w'.cell? ⟨w.heap.size, 0, none⟩ = some (.int .i64 (N : Int)) ∧ w'.cell? ⟨w.heap.size, 1, none⟩ = some (.slice A ps.length cap) ∧ w'.cell? ⟨b, off + k * 4 + 2, none⟩ = some (.int .i64 (u : Int))) (by kernel_rfl) (by exact ⟨b0, b1, h2⟩) (fun hHeld => ?_)
      refine wpAnyH_take (i := 0) (v := .agg #[.int .i64 (N : Int), .slice A ps.length cap]) rfl (by kernel_rfl) (by kernel_rfl) (by kernel_rfl) (fun _ _ _ h => h) (Or.inl ⟨by rfl, ?_⟩) (by assumption) ?_
      · (intro w hSw; (try dsimp only at hSw); go_simp)
      simp only [Act.put, List.setIfInBounds_toArray]
      refine wpAnyH_take (i := 1) (v := .slice (some ⟨b, off, none⟩) vs.length capv) rfl (by kernel_rfl) (by kernel_rfl) (by kernel_rfl) (fun _ _ _ h => h) (Or.inl ⟨by rfl, ?_⟩) (by assumption) ?_
      · (intro w hSw; (try dsimp only at hSw); go_simp)
      simp only [Act.put]
      refine wpAnyH_take (i := 2) (v := .slice (some ⟨b, off, none⟩) vs.length capv) rfl (by kernel_rfl) (by kernel_rfl) (by kernel_rfl) (fun _ _ _ h => h) (Or.inl ⟨by rfl, ?_⟩) (by assumption) ?_
      · (intro w hSw; (try dsimp only at hSw); go_simp)
      simp only [Act.put]
      refine wpAnyH_take (i := 3) (v := .int .i64 (k : Int)) rfl (by kernel_rfl) (by kernel_rfl) (by kernel_rfl) (fun _ _ _ h => h) (Or.inl ⟨by rfl, ?_⟩) (by assumption) ?_
      · (intro w hSw; (try dsimp only at hSw); go_simp)
      simp only [Act.put]
      refine wpAnyH_take (i := 4) (v := .pointer (some ⟨b, off + k * 4, none⟩)) rfl (by kernel_rfl) (by kernel_rfl) (by kernel_rfl) (fun _ _ _ h => h) (Or.inl ⟨by rfl, ?_⟩) (by assumption) ?_
      · (intro w hSw; (try dsimp only at hSw); go_simp)
      simp only [Act.put]
      refine wpAnyH_take (i := 5) (v := .pointer (some ⟨b, off + k * 4 + 2, none⟩)) rfl (by kernel_rfl) (by kernel_rfl) (by kernel_rfl) (fun _ _ _ h => h) (Or.inl ⟨by rfl, ?_⟩) (by assumption) ?_
      · (intro w hSw; (try dsimp only at hSw); go_simp)
      simp only [Act.put]
      refine wpAnyH_take (i := 6) (v := .int .i64 (u : Int)) rfl (by kernel_rfl) (by kernel_rfl) (by kernel_rfl) (fun _ _ _ h => h) (Or.inl ⟨by rfl, ?_⟩) (by assumption) ?_
      · (intro w hSw; (try dsimp only at hSw); go_simp)
      simp only [Act.put]
      refine wpAnyH_ready (rs := [7, 8]) (by kernel_rfl) (by simp) ?_
      refine AllReadyH.cons rfl (fun K hK => ?_) (AllReadyH.cons rfl (fun K hK => ?_) AllReadyH.nil)
      · go_simp
        refine hK.out _ _ (by first | assumption | go_keep) (fun hHeld => ?_)
        clear hK K
        refine wpAnyH_ready (rs := [8]) (by kernel_rfl) (by simp) ?_
        refine AllReadyH.cons rfl (fun K hK => ?_) AllReadyH.nil
        go_simp
        refine hK.out _ _ (by first | assumption | go_keep) (fun hHeld => ?_)
        clear hK K
        have HBX := Lib.hid (show Below wr.heap.size wr ((wr.drew.alloc (.cells #[iv (u : Int)] 3)).alloc (.cells #[] 3)) from (((Below.refl wr.heap.size wr).drew.alloc (Nat.le_refl _) _).alloc (by simp) _))
        refine wpAnyH_ready (rs := [9]) (by kernel_rfl) (by simp) ?_
        refine AllReadyH.cons rfl (fun K hK => ?_) AllReadyH.nil
        go_simp
        go_at_call 123
        refine (HSPR.out (wr.heap.size) 0 1 (wr.heap.size + 1) 0 0 _ HBX.out (lat_new (lat_one wr.drew (u : Int)) _) (show LAt ((wr.drew.alloc (.cells #[iv (u : Int)] 3)).alloc (.cells #[] 3)) (wr.heap.size + 1) 0 0 [] from by have h8 := lat_nil (wr.drew.alloc (.cells #[iv (u : Int)] 3)); simpa using h8)).mono ?_
        rintro e w3 ⟨e1, eo1, ec1, e2, eo2, ec2, rfl, hl1x, hl2x, hb3⟩
        have HL2 := Lib.hid hl2x
        have HB3 := Lib.hid (HBX.out.trans (hb3.mono (by simp; omega)))
        clear hl1x hl2x
        refine hK.out _ _ (by rcases hHeld with ⟨q0, q1, q2⟩; exact ⟨(hb3.cell (p := ⟨w.heap.size, 0, none⟩) (by simp; omega)).trans q0, (hb3.cell (p := ⟨w.heap.size, 1, none⟩) (by simp; omega)).trans q1, (hb3.cell (p := ⟨b, off + k * 4 + 2, none⟩) (by simp; omega)).trans q2⟩) (fun hHeld => ?_)
        clear hK K
        clear hb3
        refine wpAnyH_take (i := 10) (v := .tuple #[.slice (some ⟨e1, eo1, none⟩) (nodesL N s true).length ec1, .slice (some ⟨e2, eo2, none⟩) (idxL ps.length s true).length ec2]) rfl (by kernel_rfl) (by kernel_rfl) (by kernel_rfl) (fun _ _ _ h => h) (Or.inl ⟨by rfl, ?_⟩) (by assumption) ?_
        · (intro w hSw; (try dsimp only at hSw); go_simp)
        simp only [Act.put]
        refine wpAnyH_take (i := 11) (v := .slice (some ⟨e1, eo1, none⟩) (nodesL N s true).length ec1) rfl (by kernel_rfl) (by kernel_rfl) (by kernel_rfl) (fun _ _ _ h => h) (Or.inl ⟨by rfl, ?_⟩) (by assumption) ?_
        · (intro w hSw; (try dsimp only at hSw); go_simp)
        simp only [Act.put]
        refine wpAnyH_take (i := 12) (v := .slice (some ⟨e2, eo2, none⟩) (idxL ps.length s true).length ec2) rfl (by kernel_rfl) (by kernel_rfl) (by kernel_rfl) (fun _ _ _ h => h) (Or.inl ⟨by rfl, ?_⟩) (by assumption) ?_
        · (intro w hSw; (try dsimp only at hSw); go_simp)
        simp only [Act.put]
        refine wpAnyH_ready (rs := [13]) (by kernel_rfl) (by simp) ?_
        refine AllReadyH.cons rfl (fun K hK => ?_) AllReadyH.nil
        go_simp
        refine hK.out _ _ (by first | assumption | go_keep) (fun hHeld => ?_)
        clear hK K
        refine wpAnyH_ready (rs := [14]) (by kernel_rfl) (by simp) ?_
        refine AllReadyH.cons rfl (fun K hK => ?_) AllReadyH.nil
        go_simp
        refine hK.out _ _ (by first | assumption | go_keep) (fun hHeld => ?_)
        clear hK K
        refine wpAnyH_done (by kernel_rfl) ?_ _
        have hzz3 := HB3.out.size
        have f0 := (HB3.out.cell (p := ⟨w.heap.size, 0, none⟩) hwr).trans b0
        have f1 := (HB3.out.cell (p := ⟨w.heap.size, 1, none⟩) hwr).trans b1
        have k0 := (HB3.out.cell (p := ⟨b, off + k * 4, none⟩) hbl).trans h0
        have k1 := (HB3.out.cell (p := ⟨b, off + k * 4 + 1, none⟩) hbl).trans h1
        have HBR3 := Lib.hid (hbr.out.trans (HB3.out.mono (by omega)))
        have HOW := Lib.hid (show IOwn w3 B (.slice (some ⟨gv, 0, none⟩) (selTo (needB ps vs) vs k).length cv) (selTo (needB ps vs) vs k) from hown.out.on HB3.out)
        have HBB3 := Lib.hid (show Below B w1 w3 from hb.out.trans (HB3.out.mono (by omega)))
        obtain ⟨qb, hqb⟩ : ∃ qb, s (9 + i) = qb := ⟨_, rfl⟩
        have HH := Lib.hid (fun wx (hbx : Below w3.heap.size w3 wx) => has_b (x := (i : Int)) wx (HL2.out.kept hbx) (by have := idxL_len ps.length s true; omega) ((hasB_idx HAT.out.1).trans hqb))
        have HF := Lib.hid (fun wx (hbx : Below w3.heap.size w3 wx) => find_at (n := (N : Int)) (cap := cap) (good_ids HG.out.1) HAT.out wx (HA.out.kept (HBR3.out.trans (hbx.mono (by omega))) (Nat.le_refl _)) (by omega))
        have HQ2 := Lib.hid (HQ.out.trans hqb)
        have hb3l : b < w3.heap.size := by omega
        have hw3l : w.heap.size < w3.heap.size := by omega
        clear hqb b0 b1 h0 h1 h2 HB3 hHeld
        have hG := @cell_g
        go_wp2_with fail
        refine region_below (by kernel_rfl) (by kernel_rfl) ?_
        repeat (first | go_big_quiet_step ((first | (go_at_call 119; exact met_at HF.out) | (go_at_call 96; exact met_at HH.out))))
        refine wpQuiet_nil ?_
        intro w2 hb2
        clear hG
        have e0 := (hb2.cell (p := ⟨b, off + k * 4, none⟩) hb3l).trans k0
        have hzw2 := hb2.size
        have HO2 := Lib.hid (HOW.out.on hb2)
        have HB2 := Lib.hid (HBB3.out.trans (hb2.mono (by omega)))
        clear hb2 k0 k1 f0 f1
        cases qb with
        | true =>
          have HN := Lib.hid (show selTo (needB ps vs) vs (k + 1) = selTo (needB ps vs) vs k ++ [id] by rw [HSEL.out, if_pos HQ2.out])
          have ho := HO2.out
          unfold IOwn at ho
          go_wp2_with (at_builtin; go_must (refine wpList_append_own _ rfl _ _ 26 rfl B 3 i0 (.int .i64 0) 1 8 Try.underlying26 hi0 hz0 hz1 hz2 rfl (by decide) _ _ _ rfl (ho.alloc _) ⟨w2.heap.size, 0, none⟩ 1 1 [iv id] rfl rfl (cell_one_new _ _ _) ?zac2 ?zac3 ?zac4 ?zac5 ?_))
          case zac2 => intro u hu; simp at hu; subst hu; rfl
          case zac3 => unfold maxLen; omega
          case zac4 => omega
          case zac5 => simp; omega
          intro v' w5 hown' hgrow hnil
          have hown3 := Lib.hid (IOwn.push hown')
          rw [← HN.out] at hown3
          have hB3 := Lib.hid ((HB2.out.alloc (by omega) _).grown hgrow (by simp; omega) (fun g hg => (ho.lt g hg).1))
          have hvn3 := Lib.hid (show v' ≠ .slice none 0 0 from fun e => by simp [e] at hnil)
          clear hown' hgrow hnil ho
          go_wp2_with fail
          go_roundw
          case rel => exact ⟨k + 1, by omega, by go_num, hown3, hvn3, hB3⟩
          case measure => simp [intOf]; omega
        | false =>
          have HN := Lib.hid (show selTo (needB ps vs) vs (k + 1) = selTo (needB ps vs) vs k by rw [HSEL.out, if_neg (by rw [HQ2.out]; simp)])
          have HO3 := Lib.hid (show IOwn w2 B (.slice (some ⟨gv, 0, none⟩) (selTo (needB ps vs) vs k).length cv) (selTo (needB ps vs) vs (k + 1)) from by rw [HN.out]; exact HO2.out)
          clear HN
          go_wp2_with fail
          go_roundw
          case rel => exact ⟨k + 1, by omega, by go_num, HO3, hvn, HB2⟩
          case measure => simp [intOf]; omega
      · go_simp
        refine hK.out _ _ (by first | assumption | go_keep) (fun hHeld => ?_)
        clear hK K
        refine wpAnyH_ready (rs := [7]) (by kernel_rfl) (by simp) ?_
        refine AllReadyH.cons rfl (fun K hK => ?_) AllReadyH.nil
        go_simp
        refine hK.out _ _ (by first | assumption | go_keep) (fun hHeld => ?_)
        clear hK K
        have HBX := Lib.hid (show Below wr.heap.size wr ((wr.drew.alloc (.cells #[] 3)).alloc (.cells #[iv (u : Int)] 3)) from (((Below.refl wr.heap.size wr).drew.alloc (Nat.le_refl _) _).alloc (by simp) _))
        refine wpAnyH_ready (rs := [9]) (by kernel_rfl) (by simp) ?_
        refine AllReadyH.cons rfl (fun K hK => ?_) AllReadyH.nil
        go_simp
        go_at_call 123
        refine (HSPR.out (wr.heap.size + 1) 0 1 (wr.heap.size) 0 0 _ HBX.out (show LAt ((wr.drew.alloc (.cells #[] 3)).alloc (.cells #[iv (u : Int)] 3)) (wr.heap.size + 1) 0 1 [(u : Int)] from by have h8 := lat_one (wr.drew.alloc (.cells #[] 3)) (u : Int); simpa using h8) (lat_new (lat_nil wr.drew) _)).mono ?_
        rintro e w3 ⟨e1, eo1, ec1, e2, eo2, ec2, rfl, hl1x, hl2x, hb3⟩
        have HL2 := Lib.hid hl2x
        have HB3 := Lib.hid (HBX.out.trans (hb3.mono (by simp; omega)))
        clear hl1x hl2x
        refine hK.out _ _ (by rcases hHeld with ⟨q0, q1, q2⟩; exact ⟨(hb3.cell (p := ⟨w.heap.size, 0, none⟩) (by simp; omega)).trans q0, (hb3.cell (p := ⟨w.heap.size, 1, none⟩) (by simp; omega)).trans q1, (hb3.cell (p := ⟨b, off + k * 4 + 2, none⟩) (by simp; omega)).trans q2⟩) (fun hHeld => ?_)
        clear hK K
        clear hb3
        refine wpAnyH_take (i := 10) (v := .tuple #[.slice (some ⟨e1, eo1, none⟩) (nodesL N s true).length ec1, .slice (some ⟨e2, eo2, none⟩) (idxL ps.length s true).length ec2]) rfl (by kernel_rfl) (by kernel_rfl) (by kernel_rfl) (fun _ _ _ h => h) (Or.inl ⟨by rfl, ?_⟩) (by assumption) ?_
        · (intro w hSw; (try dsimp only at hSw); go_simp)
        simp only [Act.put]
        refine wpAnyH_take (i := 11) (v := .slice (some ⟨e1, eo1, none⟩) (nodesL N s true).length ec1) rfl (by kernel_rfl) (by kernel_rfl) (by kernel_rfl) (fun _ _ _ h => h) (Or.inl ⟨by rfl, ?_⟩) (by assumption) ?_
        · (intro w hSw; (try dsimp only at hSw); go_simp)
        simp only [Act.put]
        refine wpAnyH_take (i := 12) (v := .slice (some ⟨e2, eo2, none⟩) (idxL ps.length s true).length ec2) rfl (by kernel_rfl) (by kernel_rfl) (by kernel_rfl) (fun _ _ _ h => h) (Or.inl ⟨by rfl, ?_⟩) (by assumption) ?_
        · (intro w hSw; (try dsimp only at hSw); go_simp)
        simp only [Act.put]
        refine wpAnyH_ready (rs := [13]) (by kernel_rfl) (by simp) ?_
        refine AllReadyH.cons rfl (fun K hK => ?_) AllReadyH.nil
        go_simp
        refine hK.out _ _ (by first | assumption | go_keep) (fun hHeld => ?_)
        clear hK K
        refine wpAnyH_ready (rs := [14]) (by kernel_rfl) (by simp) ?_
        refine AllReadyH.cons rfl (fun K hK => ?_) AllReadyH.nil
        go_simp
        refine hK.out _ _ (by first | assumption | go_keep) (fun hHeld => ?_)
        clear hK K
        refine wpAnyH_done (by kernel_rfl) ?_ _
        have hzz3 := HB3.out.size
        have f0 := (HB3.out.cell (p := ⟨w.heap.size, 0, none⟩) hwr).trans b0
        have f1 := (HB3.out.cell (p := ⟨w.heap.size, 1, none⟩) hwr).trans b1
        have k0 := (HB3.out.cell (p := ⟨b, off + k * 4, none⟩) hbl).trans h0
        have k1 := (HB3.out.cell (p := ⟨b, off + k * 4 + 1, none⟩) hbl).trans h1
        have HBR3 := Lib.hid (hbr.out.trans (HB3.out.mono (by omega)))
        have HOW := Lib.hid (show IOwn w3 B (.slice (some ⟨gv, 0, none⟩) (selTo (needB ps vs) vs k).length cv) (selTo (needB ps vs) vs k) from hown.out.on HB3.out)
        have HBB3 := Lib.hid (show Below B w1 w3 from hb.out.trans (HB3.out.mono (by omega)))
        obtain ⟨qb, hqb⟩ : ∃ qb, s (9 + i) = qb := ⟨_, rfl⟩
        have HH := Lib.hid (fun wx (hbx : Below w3.heap.size w3 wx) => has_b (x := (i : Int)) wx (HL2.out.kept hbx) (by have := idxL_len ps.length s true; omega) ((hasB_idx HAT.out.1).trans hqb))
        have HF := Lib.hid (fun wx (hbx : Below w3.heap.size w3 wx) => find_at (n := (N : Int)) (cap := cap) (good_ids HG.out.1) HAT.out wx (HA.out.kept (HBR3.out.trans (hbx.mono (by omega))) (Nat.le_refl _)) (by omega))
        have HQ2 := Lib.hid (HQ.out.trans hqb)
        have hb3l : b < w3.heap.size := by omega
        have hw3l : w.heap.size < w3.heap.size := by omega
        clear hqb b0 b1 h0 h1 h2 HB3 hHeld
        have hG := @cell_g
        go_wp2_with fail
        refine region_below (by kernel_rfl) (by kernel_rfl) ?_
        repeat (first | go_big_quiet_step ((first | (go_at_call 119; exact met_at HF.out) | (go_at_call 96; exact met_at HH.out))))
        refine wpQuiet_nil ?_
        intro w2 hb2
        clear hG
        have e0 := (hb2.cell (p := ⟨b, off + k * 4, none⟩) hb3l).trans k0
        have hzw2 := hb2.size
        have HO2 := Lib.hid (HOW.out.on hb2)
        have HB2 := Lib.hid (HBB3.out.trans (hb2.mono (by omega)))
        clear hb2 k0 k1 f0 f1
        cases qb with
        | true =>
          have HN := Lib.hid (show selTo (needB ps vs) vs (k + 1) = selTo (needB ps vs) vs k ++ [id] by rw [HSEL.out, if_pos HQ2.out])
          have ho := HO2.out
          unfold IOwn at ho
          go_wp2_with (at_builtin; go_must (refine wpList_append_own _ rfl _ _ 26 rfl B 3 i0 (.int .i64 0) 1 8 Try.underlying26 hi0 hz0 hz1 hz2 rfl (by decide) _ _ _ rfl (ho.alloc _) ⟨w2.heap.size, 0, none⟩ 1 1 [iv id] rfl rfl (cell_one_new _ _ _) ?zbc2 ?zbc3 ?zbc4 ?zbc5 ?_))
          case zbc2 => intro u hu; simp at hu; subst hu; rfl
          case zbc3 => unfold maxLen; omega
          case zbc4 => omega
          case zbc5 => simp; omega
          intro v' w5 hown' hgrow hnil
          have hown3 := Lib.hid (IOwn.push hown')
          rw [← HN.out] at hown3
          have hB3 := Lib.hid ((HB2.out.alloc (by omega) _).grown hgrow (by simp; omega) (fun g hg => (ho.lt g hg).1))
          have hvn3 := Lib.hid (show v' ≠ .slice none 0 0 from fun e => by simp [e] at hnil)
          clear hown' hgrow hnil ho
          go_wp2_with fail
          go_roundw
          case rel => exact ⟨k + 1, by omega, by go_num, hown3, hvn3, hB3⟩
          case measure => simp [intOf]; omega
        | false =>
          have HN := Lib.hid (show selTo (needB ps vs) vs (k + 1) = selTo (needB ps vs) vs k by rw [HSEL.out, if_neg (by rw [HQ2.out]; simp)])
          have HO3 := Lib.hid (show IOwn w2 B (.slice (some ⟨gv, 0, none⟩) (selTo (needB ps vs) vs k).length cv) (selTo (needB ps vs) vs (k + 1)) from by rw [HN.out]; exact HO2.out)
          clear HN
          go_wp2_with fail
          go_roundw
          case rel => exact ⟨k + 1, by omega, by go_num, HO3, hvn, HB2⟩
          case measure => simp [intOf]; omega
    · have hfin := selTo_all (needB ps vs) vs k (by omega)
      have hown2 := hown.out
      have HF := Lib.hid hfin
      clear hfin
      go_wp2_with fail
      go_ret2
      rw [HF.out] at hown2
      exact ⟨gv, 0, cv, by rw [HF.out]; rfl, by omega, hown2.iat, HB1.out.trans (hb.out.mono (by omega)), iown_lt' hown2⟩
end Go.Proofs.Ytbljmibaemgfeaa.S2

namespace Go.Proofs.Ytbljmibaemgfeaa.S2
open Go.RowKit Go.Sort P2 P4

theorem hasB_idxF {M : Nat} {s : Nat → Bool} {i : Nat} (h : i < M) : hasB (idxL M s false) (i : Int) = !(s (9 + i)) := by
  unfold hasB
  rw [Bool.eq_iff_iff, decide_eq_true_eq, idxL_mem]
  constructor
  · rintro ⟨v, hv, _, h2⟩
    have e : i = v := by omega
    rw [e]; simp [h2]
  · intro h2; exact ⟨i, rfl, h, by simpa using h2⟩

set_option maxHeartbeats 4000000 in
set_option maxRecDepth 100000 in
theorem scut_any (i : Nat) (N X : Nat) (A : Option Addr) (cap : Nat) (ps : List Pp) (AV : Option Addr) (capv : Nat) (vs : List Vv) (x : Int) (AC : Option Addr) (cc : Nat) (P : List Int) (w : World) (h : PAt w A ps) (hv : VAt w AV vs) (hg : P2.Good N ps) (hvl : vs.length ≤ 10) (hx1 : 1 ≤ X) (hx2 : X ≤ N) (hi : At ps x i) (hc : IAt w AC P) (hcl : P.length ≤ 1048576) :
    Calls Try.prog 97 #[nv N A ps.length cap, .slice AV vs.length capv, .int .i64 (X : Int), .int .i64 x, .slice AC P.length cc] w fun e w' => e = .returned (.bool (cutB ps vs X i P)) ∧ Below w.heap.size w w' := by
  have HSH := Lib.hid (fun w' (hb : Below w.heap.size w w') => sshut_any AV capv vs AC cc P w' (hv.kept hb (Nat.le_refl _)) hvl (hc.kept hb (Nat.le_refl _)) hcl)
  have HDR := Lib.hid (fun A2 cap2 w' (hb : Below w.heap.size w w') (h2 : VAt w' A2 (shutL vs P vs.length)) => by
    have h7 := sdry_any N X A cap ps A2 cap2 (shutL vs P vs.length) (wetP ps vs X P) (wet_shut ps vs P X).symm w' (h.kept hb (Nat.le_refl _)) h2 hg (by rw [shutL_len]; exact hvl) hx1 hx2
    exact h7)
  have HFI := Lib.hid (fun w' (hb : Below w.heap.size w w') => find_at (n := N) (A := A) (cap := cap) (good_ids hg) hi w' (h.kept hb (Nat.le_refl _)) (by have := hg.2.2.1; omega))
  have HCU := Lib.hid (show hasB (idxL ps.length (wetP ps vs X P) false) (i : Int) = cutB ps vs X i P from hasB_idxF hi.1)
  have hil := idxL_len ps.length (wetP ps vs X P) false
  have hl10 := hg.2.2.1
  clear h hv hg hc hcl hi
  obtain ⟨W1, hW1⟩ : ∃ W1, W1 = w.alloc (.cells #[.int .i64 (N : Int), .slice A ps.length cap] 32) := ⟨_, rfl⟩
  have p0 : W1.cell? ⟨w.heap.size, 0, none⟩ = some (.int .i64 (N : Int)) := by rw [hW1]; go_simp
  have p1 : W1.cell? ⟨w.heap.size, 1, none⟩ = some (.slice A ps.length cap) := by rw [hW1]; go_simp
  have HBW := Lib.hid (show Below w.heap.size w W1 from by rw [hW1]; exact (Below.refl _ _).alloc (Nat.le_refl _) _)
  have HL1 := Lib.hid (show w.heap.size < W1.heap.size by rw [hW1]; simp)
  have HW1 := Lib.hid hW1
  clear hW1
  go_enter Try.func97, Try.ntmps97
  go_upto_region 1 with (fail)
  rw [← HW1.out]
  clear HW1
  refine wp_region_held_drew (S := fun w' => w'.cell? ⟨w.heap.size, 0, none⟩ = some (.int .i64 (N : Int)) ∧ w'.cell? ⟨w.heap.size, 1, none⟩ = some (.slice A ps.length cap)) (by kernel_rfl) (by exact ⟨p0, p1⟩) (fun hHeld => ?_)
  refine wpAnyH_take (i := 0) (v := .agg #[.int .i64 (N : Int), .slice A ps.length cap]) rfl (by kernel_rfl) (by kernel_rfl) (by kernel_rfl) (fun _ _ _ h => h) (Or.inl ⟨by rfl, ?_⟩) (by assumption) ?_
  · (intro w hSw; (try dsimp only at hSw); go_simp)
  simp only [Act.put, List.setIfInBounds_toArray]
  refine wpAnyH_take (i := 1) (v := .slice AV vs.length capv) rfl (by kernel_rfl) (by kernel_rfl) (by kernel_rfl) (fun _ _ _ h => h) (Or.inl ⟨by rfl, ?_⟩) (by assumption) ?_
  · (intro w hSw; (try dsimp only at hSw); go_simp)
  simp only [Act.put]
  refine wpAnyH_take (i := 2) (v := .slice AC P.length cc) rfl (by kernel_rfl) (by kernel_rfl) (by kernel_rfl) (fun _ _ _ h => h) (Or.inl ⟨by rfl, ?_⟩) (by assumption) ?_
  · (intro w hSw; (try dsimp only at hSw); go_simp)
  simp only [Act.put]
  refine wpAnyH_take (i := 4) (v := .int .i64 (X : Int)) rfl (by kernel_rfl) (by kernel_rfl) (by kernel_rfl) (fun _ _ _ h => h) (Or.inl ⟨by rfl, ?_⟩) (by assumption) ?_
  · (intro w hSw; (try dsimp only at hSw); go_simp)
  simp only [Act.put]
  have HBD := Lib.hid HBW.out.drew
  refine wpAnyH_ready (rs := [3]) (by kernel_rfl) (by simp) ?_
  refine AllReadyH.cons rfl (fun K hK => ?_) AllReadyH.nil
  go_simp
  go_at_call 149
  refine (HSH.out _ HBD.out).mono ?_
  rintro e w3 ⟨g3, c3, rfl, hv3, hb3⟩
  have HV3 := Lib.hid hv3
  have HB3 := Lib.hid (HBD.out.trans (hb3.mono HBD.out.size))
  have hz3 : w.heap.size < w3.heap.size := by have h1 := hb3.size; have h2 := HL1.out; exact Nat.lt_of_lt_of_le h2 h1
  clear hv3
  refine hK.out _ _ (by rcases hHeld with ⟨q0, q1⟩; exact ⟨(hb3.cell (p := ⟨w.heap.size, 0, none⟩) (by exact HL1.out)).trans q0, (hb3.cell (p := ⟨w.heap.size, 1, none⟩) (by exact HL1.out)).trans q1⟩) (fun hHeld => ?_)
  clear hK K
  clear hb3
  refine wpAnyH_ready (rs := [5]) (by kernel_rfl) (by simp) ?_
  refine AllReadyH.cons rfl (fun K hK => ?_) AllReadyH.nil
  go_simp
  go_at_call 136
  refine (HDR.out _ _ _ HB3.out HV3.out).mono ?_
  rintro e w4 ⟨g1, o1, c1, g2, o2, c2, rfl, hg1, hL1, hL2, hb4⟩
  have HL1r := Lib.hid hL1
  have HL2r := Lib.hid hL2
  have HB4 := Lib.hid (HB3.out.trans (hb4.mono HB3.out.size))
  have hz4 : w.heap.size < w4.heap.size := by have h1 := hb4.size; omega
  clear hL1 hL2 hg1
  refine hK.out _ _ (by rcases hHeld with ⟨q0, q1⟩; exact ⟨(hb4.cell (p := ⟨w.heap.size, 0, none⟩) (by dsimp only; omega)).trans q0, (hb4.cell (p := ⟨w.heap.size, 1, none⟩) (by dsimp only; omega)).trans q1⟩) (fun hHeld => ?_)
  clear hK K
  clear hb4
  refine wpAnyH_take (i := 6) (v := .tuple #[.slice (some ⟨g1, o1, none⟩) (nodesL N (wetP ps vs X P) false).length c1, .slice (some ⟨g2, o2, none⟩) (idxL ps.length (wetP ps vs X P) false).length c2]) rfl (by kernel_rfl) (by kernel_rfl) (by kernel_rfl) (fun _ _ _ h => h) (Or.inl ⟨by rfl, ?_⟩) (by assumption) ?_
  · (intro w hSw; (try dsimp only at hSw); go_simp)
  simp only [Act.put]
  refine wpAnyH_take (i := 7) (v := .slice (some ⟨g1, o1, none⟩) (nodesL N (wetP ps vs X P) false).length c1) rfl (by kernel_rfl) (by kernel_rfl) (by kernel_rfl) (fun _ _ _ h => h) (Or.inl ⟨by rfl, ?_⟩) (by assumption) ?_
  · (intro w hSw; (try dsimp only at hSw); go_simp)
  simp only [Act.put]
  refine wpAnyH_take (i := 8) (v := .slice (some ⟨g2, o2, none⟩) (idxL ps.length (wetP ps vs X P) false).length c2) rfl (by kernel_rfl) (by kernel_rfl) (by kernel_rfl) (fun _ _ _ h => h) (Or.inl ⟨by rfl, ?_⟩) (by assumption) ?_
  · (intro w hSw; (try dsimp only at hSw); go_simp)
  simp only [Act.put]
  refine wpAnyH_ready (rs := [9]) (by kernel_rfl) (by simp) ?_
  refine AllReadyH.cons rfl (fun K hK => ?_) AllReadyH.nil
  go_simp
  refine hK.out _ _ (by first | assumption | go_keep) (fun hHeld => ?_)
  clear hK K
  refine wpAnyH_ready (rs := [10]) (by kernel_rfl) (by simp) ?_
  refine AllReadyH.cons rfl (fun K hK => ?_) AllReadyH.nil
  go_simp
  refine hK.out _ _ (by first | assumption | go_keep) (fun hHeld => ?_)
  clear hK K
  obtain ⟨d0, d1⟩ := hHeld
  refine wpAnyH_done (by kernel_rfl) ?_ _
  go_wp2_with (first
    | (go_at_call 119; refine (HFI.out _ HB4.out).mono ?_; rintro e w5 ⟨rfl, hb5⟩; have HB5 := Lib.hid (HB4.out.trans (hb5.mono HB4.out.size)); have HL5 := Lib.hid (HL2r.out.kept hb5); clear hb5)
    | (go_at_call 96; refine (has_b _ HL5.out (by omega) HCU.out).mono ?_; rintro e w6 ⟨rfl, hb6⟩; have HB6 := Lib.hid (HB5.out.trans (hb6.mono HB5.out.size)); clear hb6))
  go_ret
  exact ⟨rfl, HB6.out⟩

/-- The sum over the first k of some nodes. -/
def sumTo (cu l : List Int) (k : Nat) : Int := sumL cu (l.take k)
theorem sumTo_succ (cu l : List Int) (k : Nat) (h : k < l.length) : sumTo cu l (k + 1) = sumTo cu l k + cu.getD (l.getD k 0 - 1).toNat 0 := by
  unfold sumTo
  rw [List.take_succ_eq_append_getElem h, sumL_snoc]
  simp [List.getD, h]
theorem sumTo_all (cu l : List Int) (k : Nat) (h : l.length ≤ k) : sumTo cu l k = sumL cu l := by unfold sumTo; rw [List.take_of_length_le h]
theorem sumTo_bd {cu l : List Int} (h : ∀ x, x ∈ cu → 0 ≤ x ∧ x ≤ 1000) (k : Nat) (hl : l.length ≤ 100) : 0 ≤ sumTo cu l k ∧ sumTo cu l k ≤ 100000 := by
  have h1 := sumL_bd h (l.take k)
  have h2 : (l.take k).length ≤ 100 := Nat.le_trans (List.length_take_le' _ _) hl
  unfold sumTo
  omega
theorem getD_bd {cu : List Int} (h : ∀ x, x ∈ cu → 0 ≤ x ∧ x ≤ 1000) (i : Nat) : 0 ≤ cu.getD i 0 ∧ cu.getD i 0 ≤ 1000 := by
  by_cases hv : i < cu.length
  · have := h _ (List.getElem_mem hv)
    simpa [List.getD, hv] using this
  · simp [List.getD, hv]

set_option maxHeartbeats 4000000 in
set_option maxRecDepth 100000 in
theorem sharm_any (N X : Nat) (A : Option Addr) (cap : Nat) (ps : List Pp) (AV : Option Addr) (capv : Nat) (vs : List Vv) (AC : Option Addr) (cc : Nat) (P : List Int) (AU : Option Addr) (cu' : Nat) (cu : List Int) (w : World) (h : PAt w A ps) (hv : VAt w AV vs) (hg : P2.Good N ps) (hvl : vs.length ≤ 10) (hx1 : 1 ≤ X) (hx2 : X ≤ N) (hc : IAt w AC P) (hcl : P.length ≤ 1048576) (hu : IAt w AU cu) (hcu : Cust N cu) :
    Calls Try.prog 92 #[nv N A ps.length cap, .slice AV vs.length capv, .int .i64 (X : Int), .slice AC P.length cc, .slice AU cu.length cu'] w fun e w' => e = .returned (.int .i64 (sumL cu (nodesL N (wetP ps vs X P) false))) ∧ Below w.heap.size w w' := by
  have HSH := Lib.hid (fun w' (hb : Below w.heap.size w w') => sshut_any AV capv vs AC cc P w' (hv.kept hb (Nat.le_refl _)) hvl (hc.kept hb (Nat.le_refl _)) hcl)
  have HDR := Lib.hid (fun A2 cap2 w' (hb : Below w.heap.size w w') (h2 : VAt w' A2 (shutL vs P vs.length)) => by
    have h7 := sdry_any N X A cap ps A2 cap2 (shutL vs P vs.length) (wetP ps vs X P) (wet_shut ps vs P X).symm w' (h.kept hb (Nat.le_refl _)) h2 hg (by rw [shutL_len]; exact hvl) hx1 hx2
    exact h7)
  have HU := Lib.hid hu
  have HCU := Lib.hid hcu.2
  have hcul : cu.length = N := by have := hcu.1; omega
  have hnl := nodesL_len N (wetP ps vs X P) false
  have hN8 : N ≤ 8 := by have := hg.2.1; omega
  have HMEM := Lib.hid (fun (k : Nat) (hk : k < (nodesL N (wetP ps vs X P) false).length) => (nodesL_mem (n := N) (s := wetP ps vs X P) (b := false) (y := (nodesL N (wetP ps vs X P) false).getD k 0)).1 (by simp [List.getD, hk]))
  clear h hv hg hc hcl hu hcu
  generalize nodesL N (wetP ps vs X P) false = nl at *
  obtain ⟨W1, hW1⟩ : ∃ W1, W1 = w.alloc (.cells #[.int .i64 (N : Int), .slice A ps.length cap] 32) := ⟨_, rfl⟩
  have p0 : W1.cell? ⟨w.heap.size, 0, none⟩ = some (.int .i64 (N : Int)) := by rw [hW1]; go_simp
  have p1 : W1.cell? ⟨w.heap.size, 1, none⟩ = some (.slice A ps.length cap) := by rw [hW1]; go_simp
  have HBW := Lib.hid (show Below w.heap.size w W1 from by rw [hW1]; exact (Below.refl _ _).alloc (Nat.le_refl _) _)
  have HL1 := Lib.hid (show w.heap.size < W1.heap.size by rw [hW1]; simp)
  have HW1 := Lib.hid hW1
  clear hW1
  go_enter Try.func92, Try.ntmps92
  go_upto_region 1 with (fail)
  rw [← HW1.out]
  clear HW1
  refine wp_region_held_drew (S := fun w' => w'.cell? ⟨w.heap.size, 0, none⟩ = some (.int .i64 (N : Int)) ∧ w'.cell? ⟨w.heap.size, 1, none⟩ = some (.slice A ps.length cap)) (by kernel_rfl) (by exact ⟨p0, p1⟩) (fun hHeld => ?_)
  refine wpAnyH_take (i := 0) (v := .agg #[.int .i64 (N : Int), .slice A ps.length cap]) rfl (by kernel_rfl) (by kernel_rfl) (by kernel_rfl) (fun _ _ _ h => h) (Or.inl ⟨by rfl, ?_⟩) (by assumption) ?_
  · (intro w hSw; (try dsimp only at hSw); go_simp)
  simp only [Act.put, List.setIfInBounds_toArray]
  refine wpAnyH_take (i := 1) (v := .slice AV vs.length capv) rfl (by kernel_rfl) (by kernel_rfl) (by kernel_rfl) (fun _ _ _ h => h) (Or.inl ⟨by rfl, ?_⟩) (by assumption) ?_
  · (intro w hSw; (try dsimp only at hSw); go_simp)
  simp only [Act.put]
  refine wpAnyH_take (i := 2) (v := .slice AC P.length cc) rfl (by kernel_rfl) (by kernel_rfl) (by kernel_rfl) (fun _ _ _ h => h) (Or.inl ⟨by rfl, ?_⟩) (by assumption) ?_
  · (intro w hSw; (try dsimp only at hSw); go_simp)
  simp only [Act.put]
  refine wpAnyH_take (i := 4) (v := .int .i64 (X : Int)) rfl (by kernel_rfl) (by kernel_rfl) (by kernel_rfl) (fun _ _ _ h => h) (Or.inl ⟨by rfl, ?_⟩) (by assumption) ?_
  · (intro w hSw; (try dsimp only at hSw); go_simp)
  simp only [Act.put]
  have HBD := Lib.hid HBW.out.drew
  refine wpAnyH_ready (rs := [3]) (by kernel_rfl) (by simp) ?_
  refine AllReadyH.cons rfl (fun K hK => ?_) AllReadyH.nil
  go_simp
  go_at_call 149
  refine (HSH.out _ HBD.out).mono ?_
  rintro e w3 ⟨g3, c3, rfl, hv3, hb3⟩
  have HV3 := Lib.hid hv3
  have HB3 := Lib.hid (HBD.out.trans (hb3.mono HBD.out.size))
  have hz3 : w.heap.size < w3.heap.size := by have h1 := hb3.size; have h2 := HL1.out; exact Nat.lt_of_lt_of_le h2 h1
  clear hv3
  refine hK.out _ _ (by rcases hHeld with ⟨q0, q1⟩; exact ⟨(hb3.cell (p := ⟨w.heap.size, 0, none⟩) (by exact HL1.out)).trans q0, (hb3.cell (p := ⟨w.heap.size, 1, none⟩) (by exact HL1.out)).trans q1⟩) (fun hHeld => ?_)
  clear hK K
  clear hb3
  refine wpAnyH_ready (rs := [5]) (by kernel_rfl) (by simp) ?_
  refine AllReadyH.cons rfl (fun K hK => ?_) AllReadyH.nil
  go_simp
  go_at_call 136
  refine (HDR.out _ _ _ HB3.out HV3.out).mono ?_
  rintro e w4 ⟨g1, o1, c1, g2, o2, c2, rfl, hg1, hL1, hL2, hb4⟩
  have HL1r := Lib.hid hL1
  have HL2r := Lib.hid hL2
  have HB4 := Lib.hid (HB3.out.trans (hb4.mono HB3.out.size))
  have hz4 : w.heap.size < w4.heap.size := by have h1 := hb4.size; omega
  clear hL1 hL2 hg1
  refine hK.out _ _ (by rcases hHeld with ⟨q0, q1⟩; exact ⟨(hb4.cell (p := ⟨w.heap.size, 0, none⟩) (by dsimp only; omega)).trans q0, (hb4.cell (p := ⟨w.heap.size, 1, none⟩) (by dsimp only; omega)).trans q1⟩) (fun hHeld => ?_)
  clear hK K
  clear hb4
  refine wpAnyH_take (i := 6) (v := .tuple #[.slice (some ⟨g1, o1, none⟩) nl.length c1, .slice (some ⟨g2, o2, none⟩) (idxL ps.length (wetP ps vs X P) false).length c2]) rfl (by kernel_rfl) (by kernel_rfl) (by kernel_rfl) (fun _ _ _ h => h) (Or.inl ⟨by rfl, ?_⟩) (by assumption) ?_
  · (intro w hSw; (try dsimp only at hSw); go_simp)
  simp only [Act.put]
  refine wpAnyH_take (i := 7) (v := .slice (some ⟨g1, o1, none⟩) nl.length c1) rfl (by kernel_rfl) (by kernel_rfl) (by kernel_rfl) (fun _ _ _ h => h) (Or.inl ⟨by rfl, ?_⟩) (by assumption) ?_
  · (intro w hSw; (try dsimp only at hSw); go_simp)
  simp only [Act.put]
  refine wpAnyH_take (i := 8) (v := .slice (some ⟨g2, o2, none⟩) (idxL ps.length (wetP ps vs X P) false).length c2) rfl (by kernel_rfl) (by kernel_rfl) (by kernel_rfl) (fun _ _ _ h => h) (Or.inl ⟨by rfl, ?_⟩) (by assumption) ?_
  · (intro w hSw; (try dsimp only at hSw); go_simp)
  simp only [Act.put]
  refine wpAnyH_ready (rs := [9]) (by kernel_rfl) (by simp) ?_
  refine AllReadyH.cons rfl (fun K hK => ?_) AllReadyH.nil
  go_simp
  refine hK.out _ _ (by first | assumption | go_keep) (fun hHeld => ?_)
  clear hK K
  refine wpAnyH_ready (rs := [10]) (by kernel_rfl) (by simp) ?_
  refine AllReadyH.cons rfl (fun K hK => ?_) AllReadyH.nil
  go_simp
  refine hK.out _ _ (by first | assumption | go_keep) (fun hHeld => ?_)
  clear hK K
  obtain ⟨d0, d1⟩ := hHeld
  refine wpAnyH_done (by kernel_rfl) ?_ _
  clear d0 d1
  go_wp2_with fail
  go_loopw [13, 14] (fun s i wr => ∃ k : Nat, k ≤ nl.length ∧ i = .int .i64 (k : Int) ∧ s = .int .i64 (sumTo cu nl k) ∧ wr = w4) (fun _ i _ => nl.length - (intOf i).toNat)
  case atStart => exact ⟨0, Nat.zero_le _, rfl, rfl, rfl⟩
  case round =>
    obtain ⟨k, hk, rfl, rfl, rfl⟩ := hrel
    by_cases hlt : k < nl.length
    · have hcell := HL1r.out.2.2.2 k hlt
      obtain ⟨v, hvv, hv1, hvN, _⟩ := HMEM.out k hlt
      have HST := Lib.hid (sumTo_succ cu nl k hlt)
      have hbd := sumTo_bd HCU.out k (l := nl) (by omega)
      rw [hvv] at hcell HST
      obtain ⟨u, rfl⟩ : ∃ u : Nat, v = u + 1 := ⟨v - 1, by omega⟩
      obtain ⟨b, off, hA, hbl, hc0⟩ := (HU.out.kept HB4.out (Nat.le_refl _)).at_ (i := u) (by omega)
      subst hA
      have hgb := getD_bd HCU.out u
      have hu0 : (0 : Int) ≤ (u : Int) := by omega
      have hun : (u : Int) < (cu.length : Int) := by omega
      have hk0 : (0 : Int) ≤ (k : Int) := by omega
      have hkn : (k : Int) < (nl.length : Int) := by omega
      have e1 : (((u + 1 : Nat) : Int) - 1).toNat = u := by omega
      rw [e1] at HST
      have hu1 : ((u + 1 : Nat) : Int) - 1 = (u : Int) := by omega
      have hcast : iv ((u + 1 : Nat) : Int) = .int .i64 ((u : Int) + 1) := by rw [Int.natCast_add]; rfl
      rw [hcast] at hcell
      generalize cu.getD u 0 = q at *
      generalize sumTo cu nl k = sk at *
      clear hvv e1 hu1 hcast
      go_wp2_with fail
      go_roundw
      case rel => exact ⟨k + 1, by omega, by go_num, by rw [HST.out], by first | trivial | rfl⟩
      case measure => simp [intOf]; omega
    · have hfin := Lib.hid (sumTo_all cu nl k (by omega))
      go_wp2_with fail
      go_ret
      exact ⟨by rw [hfin.out]; rfl, HB4.out⟩
end Go.Proofs.Ytbljmibaemgfeaa.S2

namespace Go.Proofs.Ytbljmibaemgfeaa.S2
open Go.RowKit Go.Sort P2 P4

def inB (x lo hi : Int) : Bool := decide (lo ≤ x ∧ x ≤ hi)
theorem sinr_any (x lo hi : Int) (w : World) : Calls Try.prog 148 #[.int .i64 x, .int .i64 lo, .int .i64 hi] w fun e w' => e = .returned (.bool (inB x lo hi)) ∧ w' = w := by
  by_cases h1 : lo ≤ x
  · by_cases h2 : x ≤ hi
    · have e : inB x lo hi = true := by simp [inB, h1, h2]
      rw [e]; clear e
      go_enter Try.func148, Try.ntmps148
      go_wp2
      go_ret
      exact ⟨rfl, rfl⟩
    · have e : inB x lo hi = false := by simp [inB, h2]
      rw [e]; clear e
      go_enter Try.func148, Try.ntmps148
      go_wp2
      go_ret
      exact ⟨rfl, rfl⟩
  · have e : inB x lo hi = false := by simp [inB, h1]
    rw [e]; clear e
    go_enter Try.func148, Try.ntmps148
    go_wp2
    go_ret
    exact ⟨rfl, rfl⟩
theorem inr_v {x lo hi : Int} {v : Bool} (h : inB x lo hi = v) (w : World) : Calls Try.prog 148 #[.int .i64 x, .int .i64 lo, .int .i64 hi] w fun e w' => e = .returned (.bool v) ∧ Below w.heap.size w w' := by
  rw [← h]; exact (sinr_any x lo hi w).mono fun _ _ ⟨he, hw⟩ => ⟨he, by rw [hw]; exact Below.refl _ _⟩

/-- Rising numbers within a range. -/
def RisTo (l : List Int) (lo hi : Int) (k : Nat) : Prop := ∀ j, j < k → (lo ≤ l.getD j 0 ∧ l.getD j 0 ≤ hi) ∧ (0 < j → l.getD (j - 1) 0 < l.getD j 0)
open Classical in
noncomputable def risB (l : List Int) (lo hi : Int) : Bool := decide (RisTo l lo hi l.length)
theorem risB_of {l : List Int} {lo hi : Int} (h : risB l lo hi = true) : RisTo l lo hi l.length := by simpa [risB] using h
theorem risB_mk {l : List Int} {lo hi : Int} (h : RisTo l lo hi l.length) : risB l lo hi = true := by simpa [risB] using h
theorem risB_no {l : List Int} {lo hi : Int} (h : ¬ RisTo l lo hi l.length) : risB l lo hi = false := by simpa [risB] using h
theorem RisTo.zero (l : List Int) (lo hi : Int) : RisTo l lo hi 0 := fun j h => by omega
theorem RisTo.next {l : List Int} {lo hi : Int} {k : Nat} (h : RisTo l lo hi k) (h1 : lo ≤ l.getD k 0 ∧ l.getD k 0 ≤ hi) (h2 : 0 < k → l.getD (k - 1) 0 < l.getD k 0) : RisTo l lo hi (k + 1) := by
  intro j hj
  by_cases e : j = k
  · subst e; exact ⟨h1, h2⟩
  · exact h j (by omega)
theorem RisTo.asc {l : List Int} {lo hi : Int} (h : RisTo l lo hi l.length) : Asc l := by
  unfold Asc
  rw [List.pairwise_iff_getElem]
  have key : ∀ d i, i + d + 1 < l.length → l.getD i 0 < l.getD (i + d + 1) 0 := by
    intro d
    induction d with
    | zero => intro i hi; have := (h (i + 1) hi).2 (by omega); simpa using this
    | succ d ih =>
      intro i hi
      have h1 := ih i (by omega)
      have h2 := (h (i + (d + 1) + 1) hi).2 (by omega)
      have e : i + (d + 1) + 1 - 1 = i + d + 1 := by omega
      rw [e] at h2
      omega
  intro i j hi hj hij
  have := key (j - i - 1) i (by omega)
  have e : i + (j - i - 1) + 1 = j := by omega
  rw [e] at this
  simpa [List.getD, hi, hj] using this
theorem ris_of_pl {n : Int} {ps : List Pp} {vs : List Vv} {l : List Int} (hg : P4.Good n ps vs) (hp : Pl vs l) : RisTo l 1 99 l.length := by
  intro j hj
  have e : l.getD j 0 = l[j] := by simp [List.getD, hj]
  constructor
  · rw [e]
    obtain ⟨v, hv, _, he⟩ := openL_mem.1 (hp.2 _ (List.getElem_mem hj))
    obtain ⟨k, hk, rfl⟩ := mem_vAt hv
    have := (hg.2.2 k hk).1
    rw [← he]; exact ⟨this.1, this.2.1⟩
  · intro h0
    have e2 : l.getD (j - 1) 0 = l[j - 1] := by simp [List.getD, show j - 1 < l.length by omega]
    rw [e, e2]
    exact (List.pairwise_iff_getElem.1 hp.1) (j - 1) j (by omega) hj (by omega)

set_option maxHeartbeats 4000000 in
set_option maxRecDepth 100000 in
theorem srising_any (A : Option Addr) (cap : Nat) (l : List Int) (lo hi : Int) (w : World) (h : IAt w A l) (hl : l.length ≤ 1048576) :
    Calls Try.prog 139 #[.slice A l.length cap, .int .i64 lo, .int .i64 hi] w fun e w' => e = .returned (.bool (risB l lo hi)) ∧ Below w.heap.size w w' := by
  have HA := Lib.hid h
  clear h
  go_enter Try.func139, Try.ntmps139
  go_wp2
  go_loopw [7] (fun i wr => ∃ k : Nat, k ≤ l.length ∧ i = .int .i64 (k : Int) ∧ Hid (RisTo l lo hi k) ∧ Hid (Below w.heap.size w wr)) (fun i _ => l.length - (intOf i).toNat)
  case atStart => exact ⟨0, Nat.zero_le _, rfl, Lib.hid (RisTo.zero _ _ _), Lib.hid (Below.refl _ _)⟩
  case round =>
    obtain ⟨k, hk, rfl, hr, hb⟩ := hrel
    have hG := @cell_g
    by_cases hlt : k < l.length
    · obtain ⟨b, off, hA, hbl, h0⟩ := (HA.out.kept hb.out (Nat.le_refl _)).at_ hlt
      subst hA
      have hk0 : (0 : Int) ≤ (k : Int) := by omega
      have hkn : (k : Int) < (l.length : Int) := by omega
      obtain ⟨x, hx⟩ : ∃ x, l.getD k 0 = x := ⟨_, rfl⟩
      have HX := Lib.hid hx
      rw [hx] at h0
      clear hx
      obtain ⟨f, hf⟩ : ∃ f, inB x lo hi = f := ⟨_, rfl⟩
      have HI := Lib.hid (fun (w' : World) (_ : Below wr.heap.size wr w') => inr_v hf w')
      have HF := Lib.hid hf
      clear hf
      cases f with
      | false =>
        have HR := Lib.hid (show risB l lo hi = false from risB_no (fun h => by have h1 := (h k hlt).1; rw [HX.out] at h1; have := HF.out; simp [inB, h1] at this))
        go_wp2
        refine region_below (by kernel_rfl) (by kernel_rfl) ?_
        repeat (first | go_big_quiet_step ((go_at_call 148; exact met_at HI.out)))
        refine wpQuiet_nil ?_
        intro w2 hb2
        clear hG
        go_wp2_with fail
        go_ret
        exact ⟨by rw [HR.out]; rfl, hb.out.trans (hb2.mono hb.out.size)⟩
      | true =>
        have hin : lo ≤ x ∧ x ≤ hi := by have := HF.out; simpa [inB] using this
        by_cases hk00 : k = 0
        · have HN := Lib.hid (hr.out.next (by rw [HX.out]; exact hin) (fun h => by omega))
          have hd0 : decide (0 < k) = false := by rw [hk00]; rfl
          clear hin hk00
          go_wp2
          refine region_below (by kernel_rfl) (by kernel_rfl) ?_
          repeat (first | go_big_quiet_step ((go_at_call 148; exact met_at HI.out)))
          refine wpQuiet_nil ?_
          intro w2 hb2
          clear hG
          go_wp2_with fail
          go_roundw
          case rel => exact ⟨k + 1, by omega, by go_num, HN, Lib.hid (hb.out.trans (hb2.mono hb.out.size))⟩
          case measure => simp [intOf]; omega
        · obtain ⟨j, rfl⟩ : ∃ j, k = j + 1 := ⟨k - 1, by omega⟩
          obtain ⟨b', off', hA', hbl', f0⟩ := (HA.out.kept hb.out (Nat.le_refl _)).at_ (show j < l.length by omega)
          simp only [Option.some.injEq, Addr.mk.injEq, and_true] at hA'
          obtain ⟨rfl, rfl⟩ := hA'
          obtain ⟨y, hy⟩ : ∃ y, l.getD j 0 = y := ⟨_, rfl⟩
          have HY := Lib.hid hy
          rw [hy] at f0
          have hj0 : (0 : Int) ≤ (j : Int) := by omega
          have hjn : (j : Int) < (l.length : Int) := by omega
          have hjp : (0 : Int) < (j : Int) + 1 := by omega
          clear hy hk00
          by_cases hxy : x ≤ y
          · have HR := Lib.hid (show risB l lo hi = false from risB_no (fun h => by have h1 := (h (j + 1) hlt).2 (by omega); rw [HX.out, Nat.add_sub_cancel, HY.out] at h1; omega))
            have hd : decide (x ≤ y) = true := by simpa using hxy
            clear hin
            go_wp2
            refine region_below (by kernel_rfl) (by kernel_rfl) ?_
            repeat (first | go_big_quiet_step ((go_at_call 148; exact met_at HI.out)))
            refine wpQuiet_nil ?_
            intro w2 hb2
            clear hG
            go_wp2_with fail
            go_ret
            exact ⟨by rw [HR.out]; rfl, hb.out.trans (hb2.mono hb.out.size)⟩
          · have HN := Lib.hid (hr.out.next (by rw [HX.out]; exact hin) (fun h => by rw [HX.out, Nat.add_sub_cancel, HY.out]; omega))
            have hxy2 : y < x := by omega
            have hd : decide (x ≤ y) = false := by simpa using hxy2
            clear hxy hin
            go_wp2
            refine region_below (by kernel_rfl) (by kernel_rfl) ?_
            repeat (first | go_big_quiet_step ((go_at_call 148; exact met_at HI.out)))
            refine wpQuiet_nil ?_
            intro w2 hb2
            clear hG
            go_wp2_with fail
            go_roundw
            case rel => exact ⟨j + 1 + 1, by omega, by go_num, HN, Lib.hid (hb.out.trans (hb2.mono hb.out.size))⟩
            case measure => simp [intOf]; omega
    · have e : k = l.length := by omega
      subst e
      have HR := Lib.hid (risB_mk hr.out)
      clear hG
      go_wp2
      go_ret
      exact ⟨by rw [HR.out]; rfl, hb.out⟩
theorem rising_v {l : List Int} {lo hi : Int} {v : Bool} (hv : risB l lo hi = v) (A : Option Addr) (cap : Nat) (w : World) (h : IAt w A l) (hl : l.length ≤ 1048576) :
    Calls Try.prog 139 #[.slice A l.length cap, .int .i64 lo, .int .i64 hi] w fun e w' => e = .returned (.bool v) ∧ Below w.heap.size w w' := by
  rw [← hv]; exact srising_any A cap l lo hi w h hl

set_option maxHeartbeats 2000000 in
theorem sasked_any (n : Int) (A : Option Addr) (cap : Nat) (ps : List Pp) (AV : Option Addr) (capv : Nat) (vs : List Vv) (X x : Int) (w : World) (h : PAt w A ps) (hm : ps.length ≤ maxLen) (hv : VAt w AV vs) (hmv : vs.length ≤ maxLen) :
    Calls Try.prog 85 #[nv n A ps.length cap, .slice AV vs.length capv, .int .i64 X, .int .i64 x] w fun e w' => e = .returned (.bool (askB n ps vs X x)) ∧ Below w.heap.size w w' := by
  obtain ⟨g, hgv⟩ : ∃ g, goodV n ps vs = g := ⟨_, rfl⟩
  obtain ⟨d, hnd⟩ : ∃ d, nodeB n ps X = d := ⟨_, rfl⟩
  have H := Lib.hid (fun w' (hb' : Below w.heap.size w w') => sgoodv_v hgv A cap AV capv w' (h.kept hb' (Nat.le_refl _)) hm (hv.kept hb' (Nat.le_refl _)) hmv)
  have HN := Lib.hid (fun w' (hb' : Below w.heap.size w w') => snode_v hnd A cap w' (h.kept hb' (Nat.le_refl _)) hm)
  have HB0 := Lib.hid (show Below w.heap.size w (w.alloc (.cells #[.int .i64 n, .slice A ps.length cap] 32)) from (Below.refl _ _).alloc (Nat.le_refl _) _)
  have HG := Lib.hid hgv
  have HD := Lib.hid hnd
  have HA := Lib.hid h
  clear h hv hm hmv hgv hnd
  cases g with
  | false =>
    have HR := Lib.hid (show askB n ps vs X x = false from askB_no (fun h => by have h1 := h.1; rw [HG.out] at h1; cases h1))
    go_enter Try.func85, Try.ntmps85
    go_wp2_with (go_at_call 101; refine (H.out _ HB0.out).mono ?_; rintro e w1 ⟨rfl, hb1⟩)
    go_ret
    exact ⟨by rw [HR.out]; rfl, HB0.out.trans (hb1.mono (by simp))⟩
  | true =>
    cases d with
    | false =>
      have HR := Lib.hid (show askB n ps vs X x = false from askB_no (fun h => by have h1 := h.2.1; rw [HD.out] at h1; cases h1))
      go_enter Try.func85, Try.ntmps85
      go_wp2_with (first
        | (go_at_call 101; refine (H.out _ HB0.out).mono ?_; rintro e w1 ⟨rfl, hb1⟩; have HB1 := Lib.hid (HB0.out.trans (hb1.mono (by simp))); have hb1' : Below (w.heap.size + 1) (w.alloc (.cells #[.int .i64 n, .slice A ps.length cap] 32)) w1 := (by simpa using hb1); obtain ⟨b0, b1⟩ := box2 hb1'; clear hb1 hb1')
        | (go_at_call 102; refine (HN.out _ HB1.out).mono ?_; rintro e w2 ⟨rfl, hb2⟩; have HB2 := Lib.hid (HB1.out.trans (hb2.mono HB1.out.size)); clear hb2))
      go_ret
      exact ⟨by rw [HR.out]; rfl, HB2.out⟩
    | true =>
      have HGd := Lib.hid (goodV_of HG.out)
      have hl10 := HGd.out.1.2.2.1
      by_cases hx : ∃ i, At ps x i
      · obtain ⟨i, hi⟩ := hx
        have HR := Lib.hid (show askB n ps vs X x = true from askB_mk ⟨HG.out, HD.out, i, hi⟩)
        have HF := Lib.hid (fun w' (hb' : Below w.heap.size w w') => find_at (n := n) (A := A) (cap := cap) (good_ids HGd.out.1) hi w' (HA.out.kept hb' (Nat.le_refl _)) (by omega))
        have hi0 : (0 : Int) ≤ (i : Int) := by omega
        clear hi
        go_enter Try.func85, Try.ntmps85
        go_wp2_with (first
          | (go_at_call 101; refine (H.out _ HB0.out).mono ?_; rintro e w1 ⟨rfl, hb1⟩; have HB1 := Lib.hid (HB0.out.trans (hb1.mono (by simp))); have hb1' : Below (w.heap.size + 1) (w.alloc (.cells #[.int .i64 n, .slice A ps.length cap] 32)) w1 := (by simpa using hb1); have HX1 := Lib.hid hb1'; obtain ⟨b0, b1⟩ := box2 hb1'; clear hb1 hb1')
          | (go_at_call 102; refine (HN.out _ HB1.out).mono ?_; rintro e w2 ⟨rfl, hb2⟩; have HB2 := Lib.hid (HB1.out.trans (hb2.mono HB1.out.size)); have hx2 := on_call HX1.out hb2; clear b0 b1; obtain ⟨b0, b1⟩ := box2 hx2; clear hb2 hx2)
          | (go_at_call 119; refine (HF.out _ HB2.out).mono ?_; rintro e w3 ⟨rfl, hb3⟩; have HB3 := Lib.hid (HB2.out.trans (hb3.mono HB2.out.size)); clear hb3))
        go_ret
        exact ⟨by rw [HR.out]; rfl, HB3.out⟩
      · have HR := Lib.hid (show askB n ps vs X x = false from askB_no (fun h => hx h.2.2))
        have hno : ∀ i, i < ps.length → (pAt ps i).id ≠ x := fun i h1 h2 => hx ⟨i, h1, h2⟩
        have HF := Lib.hid (fun w' (hb' : Below w.heap.size w w') => (find_any n A cap ps x w' (HA.out.kept hb' (Nat.le_refl _)) (by omega)).mono (R' := fun e w2 => e = .returned (.int .i64 (-1)) ∧ Below w'.heap.size w' w2) fun _ _ ⟨⟨r, he, hr⟩, hb⟩ => ⟨by rw [he, find_no hr hno], hb⟩)
        clear hx hno
        go_enter Try.func85, Try.ntmps85
        go_wp2_with (first
          | (go_at_call 101; refine (H.out _ HB0.out).mono ?_; rintro e w1 ⟨rfl, hb1⟩; have HB1 := Lib.hid (HB0.out.trans (hb1.mono (by simp))); have hb1' : Below (w.heap.size + 1) (w.alloc (.cells #[.int .i64 n, .slice A ps.length cap] 32)) w1 := (by simpa using hb1); have HX1 := Lib.hid hb1'; obtain ⟨b0, b1⟩ := box2 hb1'; clear hb1 hb1')
          | (go_at_call 102; refine (HN.out _ HB1.out).mono ?_; rintro e w2 ⟨rfl, hb2⟩; have HB2 := Lib.hid (HB1.out.trans (hb2.mono HB1.out.size)); have hx2 := on_call HX1.out hb2; clear b0 b1; obtain ⟨b0, b1⟩ := box2 hx2; clear hb2 hx2)
          | (go_at_call 119; refine (HF.out _ HB2.out).mono ?_; rintro e w3 ⟨rfl, hb3⟩; have HB3 := Lib.hid (HB2.out.trans (hb3.mono HB2.out.size)); clear hb3))
        go_ret
        exact ⟨by rw [HR.out]; rfl, HB3.out⟩
theorem asked_v {n : Int} {ps : List Pp} {vs : List Vv} {X x : Int} {v : Bool} (hq : askB n ps vs X x = v) (A : Option Addr) (cap : Nat) (AV : Option Addr) (capv : Nat) (w : World) (h : PAt w A ps) (hm : ps.length ≤ maxLen) (hv : VAt w AV vs) (hmv : vs.length ≤ maxLen) :
    Calls Try.prog 85 #[nv n A ps.length cap, .slice AV vs.length capv, .int .i64 X, .int .i64 x] w fun e w' => e = .returned (.bool v) ∧ Below w.heap.size w w' := by
  rw [← hq]; exact sasked_any n A cap ps AV capv vs X x w h hm hv hmv
end Go.Proofs.Ytbljmibaemgfeaa.S2

namespace Go.Proofs.Ytbljmibaemgfeaa.S2
open Go.RowKit Go.Sort P2 P4

set_option maxHeartbeats 2000000 in
theorem splan_no1 (n : Int) (A : Option Addr) (cap : Nat) (ps : List Pp) (AV : Option Addr) (capv : Nat) (vs : List Vv) (X x : Int) (AC : Option Addr) (cc : Nat) (l : List Int) (w : World) (h : PAt w A ps) (hm : ps.length ≤ maxLen) (hv : VAt w AV vs) (hmv : vs.length ≤ maxLen) (hq : askB n ps vs X x = false) :
    Calls Try.prog 80 #[nv n A ps.length cap, .slice AV vs.length capv, .int .i64 X, .int .i64 x, .slice AC l.length cc] w fun e w' => e = .returned (.bool false) ∧ Below w.heap.size w w' := by
  have H := Lib.hid (fun w' (hb' : Below w.heap.size w w') => asked_v hq A cap AV capv w' (h.kept hb' (Nat.le_refl _)) hm (hv.kept hb' (Nat.le_refl _)) hmv)
  have HB0 := Lib.hid (show Below w.heap.size w (w.alloc (.cells #[.int .i64 n, .slice A ps.length cap] 32)) from (Below.refl _ _).alloc (Nat.le_refl _) _)
  clear h hm hv hmv hq
  go_enter Try.func80, Try.ntmps80
  go_wp2_with ((go_at_call 85; refine (H.out _ HB0.out).mono ?_; rintro e w1 ⟨rfl, hb1⟩; have HB1 := Lib.hid (HB0.out.trans (hb1.mono (by simp))); have hb1' : Below (w.heap.size + 1) (w.alloc (.cells #[.int .i64 n, .slice A ps.length cap] 32)) w1 := (by simpa using hb1); have HX1 := Lib.hid hb1'; obtain ⟨b0, b1⟩ := box2 hb1'; clear hb1 hb1'))
  go_ret
  exact ⟨rfl, HB1.out⟩
set_option maxHeartbeats 2000000 in
theorem splan_no2 (n : Int) (A : Option Addr) (cap : Nat) (ps : List Pp) (AV : Option Addr) (capv : Nat) (vs : List Vv) (X x : Int) (AC : Option Addr) (cc : Nat) (l : List Int) (w : World) (h : PAt w A ps) (hm : ps.length ≤ maxLen) (hv : VAt w AV vs) (hmv : vs.length ≤ maxLen) (hc : IAt w AC l) (hcl : l.length ≤ 1048576) (hq : askB n ps vs X x = true) (hr : risB l 1 99 = false) :
    Calls Try.prog 80 #[nv n A ps.length cap, .slice AV vs.length capv, .int .i64 X, .int .i64 x, .slice AC l.length cc] w fun e w' => e = .returned (.bool false) ∧ Below w.heap.size w w' := by
  have H := Lib.hid (fun w' (hb' : Below w.heap.size w w') => asked_v hq A cap AV capv w' (h.kept hb' (Nat.le_refl _)) hm (hv.kept hb' (Nat.le_refl _)) hmv)
  have HR := Lib.hid (fun w' (hb' : Below w.heap.size w w') => rising_v hr AC cc w' (hc.kept hb' (Nat.le_refl _)) hcl)
  have HB0 := Lib.hid (show Below w.heap.size w (w.alloc (.cells #[.int .i64 n, .slice A ps.length cap] 32)) from (Below.refl _ _).alloc (Nat.le_refl _) _)
  clear h hm hv hmv hq hc hcl hr
  go_enter Try.func80, Try.ntmps80
  go_wp2_with (first
    | (go_at_call 85; refine (H.out _ HB0.out).mono ?_; rintro e w1 ⟨rfl, hb1⟩; have HB1 := Lib.hid (HB0.out.trans (hb1.mono (by simp))); have hb1' : Below (w.heap.size + 1) (w.alloc (.cells #[.int .i64 n, .slice A ps.length cap] 32)) w1 := (by simpa using hb1); have HX1 := Lib.hid hb1'; obtain ⟨b0, b1⟩ := box2 hb1'; clear hb1 hb1')
    | (go_at_call 139; refine (HR.out _ HB1.out).mono ?_; rintro e w2 ⟨rfl, hb2⟩; have HB2 := Lib.hid (HB1.out.trans (hb2.mono HB1.out.size)); have hx2 := on_call HX1.out hb2; have HX2 := Lib.hid hx2; clear b0 b1; obtain ⟨b0, b1⟩ := box2 hx2; clear hb2 hx2))
  go_ret
  exact ⟨rfl, HB2.out⟩

theorem in_open {vs : List Vv} {l : List Int} {k : Nat} (h : ∀ j, j < k → l.getD j 0 ∈ openL vs) (hx : l.getD k 0 ∈ openL vs) : ∀ j, j < k + 1 → l.getD j 0 ∈ openL vs := by
  intro j hj
  by_cases e : j = k
  · subst e; exact hx
  · exact h j (by omega)
theorem pl_all {vs : List Vv} {l : List Int} (hr : RisTo l 1 99 l.length) (h : ∀ j, j < l.length → l.getD j 0 ∈ openL vs) : Pl vs l := by
  refine ⟨hr.asc, fun x hx => ?_⟩
  obtain ⟨j, hj⟩ := List.getElem?_of_mem hx
  have hl := (List.getElem?_eq_some_iff.1 hj).1
  have := h j hl
  have e : l.getD j 0 = x := by simp [List.getD, hj]
  rwa [e] at this

set_option maxHeartbeats 4000000 in
set_option maxRecDepth 100000 in
theorem splan_in (i N X : Nat) (A : Option Addr) (cap : Nat) (ps : List Pp) (AV : Option Addr) (capv : Nat) (vs : List Vv) (x : Int) (AC : Option Addr) (cc : Nat) (l : List Int) (w : World) (h : PAt w A ps) (hm : ps.length ≤ maxLen) (hv : VAt w AV vs) (hmv : vs.length ≤ maxLen) (hc : IAt w AC l) (hcl : l.length ≤ 1048576) (hq : askB N ps vs X x = true) (hi : At ps x i) (hr : risB l 1 99 = true) :
    Calls Try.prog 80 #[nv N A ps.length cap, .slice AV vs.length capv, .int .i64 (X : Int), .int .i64 x, .slice AC l.length cc] w fun e w' => e = .returned (.bool (plB vs l && cutB ps vs X i l)) ∧ Below w.heap.size w w' := by
  have hgd := goodV_of (askB_of hq).1
  have hnx := nodeB_of (askB_of hq).2.1
  have H := Lib.hid (fun w' (hb' : Below w.heap.size w w') => asked_v hq A cap AV capv w' (h.kept hb' (Nat.le_refl _)) hm (hv.kept hb' (Nat.le_refl _)) hmv)
  have HR := Lib.hid (fun w' (hb' : Below w.heap.size w w') => rising_v hr AC cc w' (hc.kept hb' (Nat.le_refl _)) hcl)
  have HOP := Lib.hid (fun w' (hb' : Below w.heap.size w w') => sopen_any AV capv vs w' (hv.kept hb' (Nat.le_refl _)) hgd.2.1)
  have HCUT := Lib.hid (fun w' (hb' : Below w.heap.size w w') => scut_any i N X A cap ps AV capv vs x AC cc l w' (h.kept hb' (Nat.le_refl _)) (hv.kept hb' (Nat.le_refl _)) hgd.1 hgd.2.1 (by have := hnx.2.1; omega) (by have := hnx.2.2; omega) hi (hc.kept hb' (Nat.le_refl _)) hcl)
  have HC := Lib.hid hc
  have HRI := Lib.hid (risB_of hr)
  have hol := List.length_filter_le (fun v : Vv => !v.sh) vs
  have hol2 : (openL vs).length ≤ 10 := by unfold openL; rw [List.length_map]; have := hgd.2.1; omega
  have HB0 := Lib.hid (show Below w.heap.size w (w.alloc (.cells #[.int .i64 (N : Int), .slice A ps.length cap] 32)) from (Below.refl _ _).alloc (Nat.le_refl _) _)
  clear h hm hv hmv hq hc hr hgd hnx hi hol
  go_enter Try.func80, Try.ntmps80
  go_wp2_with (first
    | (go_at_call 85; refine (H.out _ HB0.out).mono ?_; rintro e w1 ⟨rfl, hb1⟩; have HB1 := Lib.hid (HB0.out.trans (hb1.mono (by simp))); have hb1' : Below (w.heap.size + 1) (w.alloc (.cells #[.int .i64 (N : Int), .slice A ps.length cap] 32)) w1 := (by simpa using hb1); have HX1 := Lib.hid hb1'; obtain ⟨b0, b1⟩ := box2 hb1'; clear hb1 hb1')
    | (go_at_call 139; refine (HR.out _ HB1.out).mono ?_; rintro e w2 ⟨rfl, hb2⟩; have HB2 := Lib.hid (HB1.out.trans (hb2.mono HB1.out.size)); have hx2 := on_call HX1.out hb2; have HX2 := Lib.hid hx2; clear b0 b1; obtain ⟨b0, b1⟩ := box2 hx2; clear hb2 hx2)
    | (go_at_call 95; refine (HOP.out _ HB2.out).mono ?_; rintro e w3 ⟨g3, c3, rfl, hg3, hO3, hb3⟩; have HO3 := Lib.hid hO3.iat; have HB3 := Lib.hid (HB2.out.trans (hb3.mono HB2.out.size)); have hx3 := on_call HX2.out hb3; have HX3 := Lib.hid hx3; clear b0 b1 hO3 hg3; obtain ⟨b0, b1⟩ := box2 hx3; clear hb3 hx3; refine Hid.out ?_))
  have HHAS := Lib.hid (fun y => has_any (some ⟨g3, 0, none⟩) c3 (openL vs) y w3 HO3.out (by omega))
  have HL := Lib.hid (HC.out.kept HB3.out (Nat.le_refl _))
  refine Lib.hid ?_
  go_wp2_with fail
  go_loopw [12] (fun i wr => ∃ k : Nat, k ≤ l.length ∧ i = .int .i64 (k : Int) ∧ Hid (∀ j, j < k → l.getD j 0 ∈ openL vs) ∧ wr = w3) (fun i _ => l.length - (intOf i).toNat)
  case atStart => exact ⟨0, Nat.zero_le _, rfl, Lib.hid (fun j hj => by omega), rfl⟩
  case round =>
    obtain ⟨k, hk, rfl, hin, rfl⟩ := hrel
    by_cases hlt : k < l.length
    · obtain ⟨b, off, hA, hbl, h0⟩ := HL.out.at_ hlt
      subst hA
      have hk0 : (0 : Int) ≤ (k : Int) := by omega
      have hkn : (k : Int) < (l.length : Int) := by omega
      obtain ⟨y, hy⟩ : ∃ y, l.getD k 0 = y := ⟨_, rfl⟩
      have HY := Lib.hid hy
      rw [hy] at h0
      have HH := Lib.hid (HHAS.out y)
      clear hy
      cases hq : hasB (openL vs) y with
      | true =>
        have hm : y ∈ openL vs := by simpa [hasB] using hq
        have HN := Lib.hid (in_open hin.out (by rw [HY.out]; exact hm))
        rw [hq] at HH
        clear hm hq hin
        go_wp2_with (go_at_call 96; refine HH.out.mono ?_; rintro e w' ⟨rfl, hw⟩; replace hw := hw.symm; subst hw)
        go_roundw
        case rel => exact ⟨k + 1, by omega, by go_num, HN, by first | trivial | rfl⟩
        case measure => simp [intOf]; omega
      | false =>
        have hm : y ∉ openL vs := by intro hm; simp [hasB, hm] at hq
        have HR2 := Lib.hid (plB_no (pl_no_mem hlt HY.out hm))
        rw [hq] at HH
        clear hm hq hin
        go_wp2_with (go_at_call 96; refine HH.out.mono ?_; rintro e w' ⟨rfl, hw⟩; replace hw := hw.symm; subst hw)
        go_ret
        exact ⟨by rw [HR2.out]; rfl, HB3.out⟩
    · have e : k = l.length := by omega
      subst e
      have HR2 := Lib.hid (plB_mk (pl_all HRI.out hin.out))
      go_wp2_with (go_at_call 97; refine (HCUT.out _ HB3.out).mono ?_; rintro e w4 ⟨rfl, hb4⟩; have HB4 := Lib.hid (HB3.out.trans (hb4.mono HB3.out.size)); clear hb4)
      go_ret
      exact ⟨by rw [HR2.out]; rfl, HB4.out⟩

set_option maxHeartbeats 1000000 in
theorem sisplan_of (v : Bool) (n : Int) (A : Option Addr) (cap : Nat) (ps : List Pp) (AV : Option Addr) (capv : Nat) (vs : List Vv) (X x : Int) (AC : Option Addr) (cc : Nat) (l : List Int) (w : World) (hs : ∀ w', Below w.heap.size w w' → Calls Try.prog 80 #[nv n A ps.length cap, .slice AV vs.length capv, .int .i64 X, .int .i64 x, .slice AC l.length cc] w' fun e w'' => e = .returned (.bool v) ∧ Below w'.heap.size w' w'') :
    Calls Try.prog 17 #[nv n A ps.length cap, .slice AV vs.length capv, .int .i64 X, .int .i64 x, .slice AC l.length cc] w fun e w' => e = .returned (.bool v) ∧ Below w.heap.size w w' := by
  have HS := Lib.hid hs
  have HB0 := Lib.hid (show Below w.heap.size w (w.alloc (.cells #[.int .i64 n, .slice A ps.length cap] 32)) from (Below.refl _ _).alloc (Nat.le_refl _) _)
  clear hs
  go_enter Try.func17, Try.ntmps17
  go_wp2_with (go_at_call 80; refine (HS.out _ HB0.out).mono ?_; rintro e w1 ⟨rfl, hb1⟩; have HB1 := Lib.hid (HB0.out.trans (hb1.mono (by simp))); clear hb1)
  go_ret
  exact ⟨rfl, HB1.out⟩
end Go.Proofs.Ytbljmibaemgfeaa.S2

namespace Go.Proofs.Ytbljmibaemgfeaa.S2
open Go.RowKit Go.Sort P2 P4

set_option maxHeartbeats 2000000 in
set_option maxRecDepth 100000 in
theorem shope_no1 (n : Int) (A : Option Addr) (cap : Nat) (ps : List Pp) (AV : Option Addr) (capv : Nat) (vs : List Vv) (x : Int) (w : World) (h : PAt w A ps) (hm : ps.length ≤ maxLen) (hv : VAt w AV vs) (hmv : vs.length ≤ maxLen) (hb : goodV n ps vs = false) :
    Calls Try.prog 37 #[nv n A ps.length cap, .slice AV vs.length capv, .int .i64 x] w (GivesA w [] false) := by
  have H := Lib.hid (fun w' (hb' : Below w.heap.size w w') => sgoodv_v hb A cap AV capv w' (h.kept hb' (Nat.le_refl _)) hm (hv.kept hb' (Nat.le_refl _)) hmv)
  clear h hm hv hmv hb
  obtain ⟨W1, hW1⟩ : ∃ W1, W1 = (w.alloc (.cells #[.int .i64 n, .slice A ps.length cap] 32)).alloc (.cells #[] 3) := ⟨_, rfl⟩
  have hzW : W1.heap.size = w.heap.size + 2 := by rw [hW1]; simp
  have p0 : W1.cell? ⟨w.heap.size, 0, none⟩ = some (.int .i64 n) := by rw [hW1]; go_simp
  have p1 : W1.cell? ⟨w.heap.size, 1, none⟩ = some (.slice A ps.length cap) := by rw [hW1]; go_simp
  have HBW := Lib.hid (show Below w.heap.size w W1 from by rw [hW1]; exact ((Below.refl _ _).alloc (Nat.le_refl _) _).alloc (by simp) _)
  have HO0 := Lib.hid (show IOwn W1 (w.heap.size + 1) (.slice (some ⟨w.heap.size + 1, 0, none⟩) 0 0) [] from by
    have h1 := own_empty (w.alloc (.cells #[.int .i64 n, .slice A ps.length cap] 32)) (w.heap.size + 1) (by simp)
    rw [hW1]; simpa using h1)
  have HW1 := Lib.hid hW1
  have HZW := Lib.hid hzW
  have hl1 : w.heap.size < W1.heap.size := by omega
  clear hW1 hzW
  go_enter Try.func37, Try.ntmps37
  go_upto_region 2 with (fail)
  rw [← HW1.out]
  clear HW1
  go_wp2_with (go_at_call 101; refine (H.out _ HBW.out).mono ?_; rintro e w1 ⟨rfl, hb1⟩; have HB1 := Lib.hid (HBW.out.trans (hb1.mono HBW.out.size)); have hz1W := hb1.size; clear hb1)
  go_ret2
  exact ⟨w.heap.size + 1, 0, 0, rfl, by omega, .inl rfl, HB1.out, by have := HZW.out; omega⟩
set_option maxHeartbeats 2000000 in
set_option maxRecDepth 100000 in
theorem shope_no2 (n : Int) (A : Option Addr) (cap : Nat) (ps : List Pp) (AV : Option Addr) (capv : Nat) (vs : List Vv) (x : Int) (w : World) (h : PAt w A ps) (hm : ps.length ≤ maxLen) (hv : VAt w AV vs) (hmv : vs.length ≤ maxLen) (hb : goodV n ps vs = true) (hx : nodeB n ps x = false) :
    Calls Try.prog 37 #[nv n A ps.length cap, .slice AV vs.length capv, .int .i64 x] w (GivesA w [] false) := by
  have H := Lib.hid (fun w' (hb' : Below w.heap.size w w') => sgoodv_v hb A cap AV capv w' (h.kept hb' (Nat.le_refl _)) hm (hv.kept hb' (Nat.le_refl _)) hmv)
  have HN := Lib.hid (fun w' (hb' : Below w.heap.size w w') => snode_v hx A cap w' (h.kept hb' (Nat.le_refl _)) hm)
  clear h hm hv hmv hb hx
  obtain ⟨W1, hW1⟩ : ∃ W1, W1 = (w.alloc (.cells #[.int .i64 n, .slice A ps.length cap] 32)).alloc (.cells #[] 3) := ⟨_, rfl⟩
  have hzW : W1.heap.size = w.heap.size + 2 := by rw [hW1]; simp
  have p0 : W1.cell? ⟨w.heap.size, 0, none⟩ = some (.int .i64 n) := by rw [hW1]; go_simp
  have p1 : W1.cell? ⟨w.heap.size, 1, none⟩ = some (.slice A ps.length cap) := by rw [hW1]; go_simp
  have HBW := Lib.hid (show Below w.heap.size w W1 from by rw [hW1]; exact ((Below.refl _ _).alloc (Nat.le_refl _) _).alloc (by simp) _)
  have HO0 := Lib.hid (show IOwn W1 (w.heap.size + 1) (.slice (some ⟨w.heap.size + 1, 0, none⟩) 0 0) [] from by
    have h1 := own_empty (w.alloc (.cells #[.int .i64 n, .slice A ps.length cap] 32)) (w.heap.size + 1) (by simp)
    rw [hW1]; simpa using h1)
  have HW1 := Lib.hid hW1
  have HZW := Lib.hid hzW
  have hl1 : w.heap.size < W1.heap.size := by omega
  clear hW1 hzW
  go_enter Try.func37, Try.ntmps37
  go_upto_region 2 with (fail)
  rw [← HW1.out]
  clear HW1
  go_wp2_with (first
    | (go_at_call 101; refine (H.out _ HBW.out).mono ?_; rintro e w1 ⟨rfl, hb1⟩; have HB1 := Lib.hid (HBW.out.trans (hb1.mono HBW.out.size)); have a0 := (hb1.cell (p := ⟨w.heap.size, 0, none⟩) hl1).trans p0; have a1 := (hb1.cell (p := ⟨w.heap.size, 1, none⟩) hl1).trans p1; have hz1W := hb1.size; clear hb1)
    | (go_at_call 102; refine (HN.out _ HB1.out).mono ?_; rintro e w2 ⟨rfl, hb2⟩; have HB2 := Lib.hid (HB1.out.trans (hb2.mono HB1.out.size)); have hz2W := hb2.size; clear hb2))
  go_ret2
  exact ⟨w.heap.size + 1, 0, 0, rfl, by omega, .inl rfl, HB2.out, by have := HZW.out; omega⟩

set_option maxHeartbeats 8000000 in
set_option maxRecDepth 100000 in
theorem shope_yes (N X : Nat) (A : Option Addr) (cap : Nat) (ps : List Pp) (AV : Option Addr) (capv : Nat) (vs : List Vv) (w : World) (h : PAt w A ps) (hm : ps.length ≤ maxLen) (hv : VAt w AV vs) (hmv : vs.length ≤ maxLen) (hb : goodV N ps vs = true) (hx : nodeB N ps X = true) :
    Calls Try.prog 37 #[nv N A ps.length cap, .slice AV vs.length capv, .int .i64 (X : Int)] w (GivesA w (pipesL ps ps.length (wetP ps vs X (openL vs)) true) true) := by
  have hgd := goodV_of hb
  have hnx := nodeB_of hx
  have H := Lib.hid (fun w' (hb' : Below w.heap.size w w') => sgoodv_v hb A cap AV capv w' (h.kept hb' (Nat.le_refl _)) hm (hv.kept hb' (Nat.le_refl _)) hmv)
  have HN := Lib.hid (fun w' (hb' : Below w.heap.size w w') => snode_v hx A cap w' (h.kept hb' (Nat.le_refl _)) hm)
  have hol := List.length_filter_le (fun v : Vv => !v.sh) vs
  have hol2 : (openL vs).length ≤ 10 := by unfold openL; rw [List.length_map]; have := hgd.2.1; omega
  have HOP := Lib.hid (fun w' (hb' : Below w.heap.size w w') => sopen_any AV capv vs w' (hv.kept hb' (Nat.le_refl _)) hgd.2.1)
  have HCU := Lib.hid (fun (i : Nat) (x : Int) (hi : At ps x i) AC cc w' (hb' : Below w.heap.size w w') (hc : IAt w' AC (openL vs)) => scut_any i N X A cap ps AV capv vs x AC cc (openL vs) w' (h.kept hb' (Nat.le_refl _)) (hv.kept hb' (Nat.le_refl _)) hgd.1 hgd.2.1 (by have := hnx.2.1; omega) (by have := hnx.2.2; omega) hi hc (by omega))
  have HA := Lib.hid h
  have HCW := Lib.hid (fun i => show cutB ps vs X i (openL vs) = !(wetP ps vs X (openL vs) (9 + i)) from rfl)
  obtain ⟨i0, hi0, hz0, hz1, hz2⟩ := info_parts infoI
  have hl10 := hgd.1.2.2.1
  clear h hm hv hmv hb hx hgd hnx hol
  obtain ⟨W1, hW1⟩ : ∃ W1, W1 = (w.alloc (.cells #[.int .i64 (N : Int), .slice A ps.length cap] 32)).alloc (.cells #[] 3) := ⟨_, rfl⟩
  have hzW : W1.heap.size = w.heap.size + 2 := by rw [hW1]; simp
  have p0 : W1.cell? ⟨w.heap.size, 0, none⟩ = some (.int .i64 (N : Int)) := by rw [hW1]; go_simp
  have p1 : W1.cell? ⟨w.heap.size, 1, none⟩ = some (.slice A ps.length cap) := by rw [hW1]; go_simp
  have HBW := Lib.hid (show Below w.heap.size w W1 from by rw [hW1]; exact ((Below.refl _ _).alloc (Nat.le_refl _) _).alloc (by simp) _)
  have HO0 := Lib.hid (show IOwn W1 (w.heap.size + 1) (.slice (some ⟨w.heap.size + 1, 0, none⟩) 0 0) [] from by
    have h1 := own_empty (w.alloc (.cells #[.int .i64 (N : Int), .slice A ps.length cap] 32)) (w.heap.size + 1) (by simp)
    rw [hW1]; simpa using h1)
  have HW1 := Lib.hid hW1
  have HZW := Lib.hid hzW
  have hl1 : w.heap.size < W1.heap.size := by omega
  clear hW1 hzW
  go_enter Try.func37, Try.ntmps37
  go_upto_region 2 with (fail)
  rw [← HW1.out]
  clear HW1
  go_wp2_with (first
    | (go_at_call 101; refine (H.out _ HBW.out).mono ?_; rintro e w1 ⟨rfl, hb1⟩; have HB1 := Lib.hid (HBW.out.trans (hb1.mono HBW.out.size)); have a0 := (hb1.cell (p := ⟨w.heap.size, 0, none⟩) hl1).trans p0; have a1 := (hb1.cell (p := ⟨w.heap.size, 1, none⟩) hl1).trans p1; have HO1 := Lib.hid (HO0.out.on hb1); have hz1W := hb1.size; clear hb1)
    | (go_at_call 102; refine (HN.out _ HB1.out).mono ?_; rintro e w2 ⟨rfl, hb2⟩; have HB2 := Lib.hid (HB1.out.trans (hb2.mono HB1.out.size)); have hw1 : w.heap.size < w1.heap.size := (by omega); have c0 := (hb2.cell (p := ⟨w.heap.size, 0, none⟩) hw1).trans a0; have c1 := (hb2.cell (p := ⟨w.heap.size, 1, none⟩) hw1).trans a1; have HO2 := Lib.hid (HO1.out.on hb2); have hz2W := hb2.size; clear hb2; refine Hid.out ?_))
  clear a0 a1 HO0 HO1
  obtain ⟨B, hB⟩ : ∃ B, B = w.heap.size + 1 := ⟨_, rfl⟩
  have HOB := Lib.hid (show IOwn w2 B (.slice (some ⟨w.heap.size + 1, 0, none⟩) 0 0) [] from by rw [hB]; exact HO2.out)
  have hBw : w.heap.size < B := by omega
  have hB1 : B ≤ w2.heap.size := by have := HZW.out; omega
  clear HO2 hB
  refine Lib.hid ?_
  go_wp2_with fail
  go_loopw [8, 9] (fun v i wr => ∃ k : Nat, k ≤ ps.length ∧ i = .int .i64 (k : Int) ∧ Hid (IOwn wr B v (pipesL ps k (wetP ps vs X (openL vs)) true)) ∧ Hid (v ≠ .slice none 0 0) ∧ Hid (Below B w2 wr)) (fun _ i _ => ps.length - (intOf i).toNat)
  case atStart => exact ⟨0, Nat.zero_le _, rfl, HOB, Lib.hid (by simp), Lib.hid (Below.refl _ _)⟩
  case round =>
    clear HOB
    obtain ⟨k, hk, rfl, hown, hvn, hb⟩ := hrel
    obtain ⟨gv, cv, rfl, hgv⟩ := own_slice hown.out hvn.out
    have hzr := hb.out.size
    have hbr := Lib.hid (HB2.out.trans (hb.out.mono (by omega)))
    have b0 := (hb.out.cell (p := ⟨w.heap.size, 0, none⟩) hBw).trans c0
    have b1 := (hb.out.cell (p := ⟨w.heap.size, 1, none⟩) hBw).trans c1
    by_cases hlt : k < ps.length
    · obtain ⟨b, off, hA, hbl, h0, h1, h2, h3⟩ := (HA.out.kept hbr.out (Nat.le_refl _)).at_ hlt
      subst hA
      have hk0 : (0 : Int) ≤ (k : Int) := by omega
      have hkn : (k : Int) < (ps.length : Int) := by omega
      have HST := Lib.hid (pipesL_succ ps k (wetP ps vs X (openL vs)) true)
      have HCUT := Lib.hid (HCU.out k (pAt ps k).id ⟨hlt, rfl⟩)
      have HCK := Lib.hid (HCW.out k)
      have hil := pipesL_len ps k (wetP ps vs X (openL vs)) true
      obtain ⟨sm, hsm⟩ : ∃ sm, wetP ps vs X (openL vs) (9 + k) = sm := ⟨_, rfl⟩
      rw [hsm] at HCK HST
      rw [HCK.out] at HCUT
      clear h1 h2 h3 hsm HCK
      generalize (pAt ps k).id = x at *
      go_upto_region 7 with (fail)
      have HDR0 := Lib.hid (Below.refl wr.heap.size wr)
      refine wp_region_held_drew (S := fun w' => w'.cell? ⟨w.heap.size, 0, none⟩ = some (.int .i64 (N : Int)) ∧ w'.cell? ⟨w.heap.size, 1, none⟩ = some (.slice (some ⟨b, off, none⟩) ps.length cap) ∧ w'.cell? ⟨b, off + k * 4, none⟩ = some (.int .i64 x)) (by kernel_rfl) (by exact ⟨b0, b1, h0⟩) (fun hHeld => ?_)
      refine wpAnyH_take (i := 0) (v := .agg #[.int .i64 (N : Int), .slice (some ⟨b, off, none⟩) ps.length cap]) rfl (by kernel_rfl) (by kernel_rfl) (by kernel_rfl) (fun _ _ _ h => h) (Or.inl ⟨by rfl, ?_⟩) (by assumption) ?_
      · (intro w hSw; (try dsimp only at hSw); go_simp)
      simp only [Act.put, List.setIfInBounds_toArray]
      refine wpAnyH_take (i := 1) (v := .slice AV vs.length capv) rfl (by kernel_rfl) (by kernel_rfl) (by kernel_rfl) (fun _ _ _ h => h) (Or.inl ⟨by rfl, ?_⟩) (by assumption) ?_
      · (intro w hSw; (try dsimp only at hSw); go_simp)
      simp only [Act.put]
      refine wpAnyH_take (i := 2) (v := .int .i64 (X : Int)) rfl (by kernel_rfl) (by kernel_rfl) (by kernel_rfl) (fun _ _ _ h => h) (Or.inl ⟨by rfl, ?_⟩) (by assumption) ?_
      · (intro w hSw; (try dsimp only at hSw); go_simp)
      simp only [Act.put]
      refine wpAnyH_take (i := 3) (v := .pointer (some ⟨w.heap.size, 1, none⟩)) rfl (by kernel_rfl) (by kernel_rfl) (by kernel_rfl) (fun _ _ _ h => h) (Or.inl ⟨by rfl, ?_⟩) (by assumption) ?_
      · (intro w hSw; (try dsimp only at hSw); go_simp)
      simp only [Act.put]
      refine wpAnyH_take (i := 4) (v := .slice (some ⟨b, off, none⟩) ps.length cap) rfl (by kernel_rfl) (by kernel_rfl) (by kernel_rfl) (fun _ _ _ h => h) (Or.inl ⟨by rfl, ?_⟩) (by assumption) ?_
      · (intro w hSw; (try dsimp only at hSw); go_simp)
      simp only [Act.put]
      refine wpAnyH_take (i := 5) (v := .int .i64 (k : Int)) rfl (by kernel_rfl) (by kernel_rfl) (by kernel_rfl) (fun _ _ _ h => h) (Or.inl ⟨by rfl, ?_⟩) (by assumption) ?_
      · (intro w hSw; (try dsimp only at hSw); go_simp)
      simp only [Act.put]
      refine wpAnyH_take (i := 6) (v := .pointer (some ⟨b, off + k * 4, none⟩)) rfl (by kernel_rfl) (by kernel_rfl) (by kernel_rfl) (fun _ _ _ h => h) (Or.inl ⟨by rfl, ?_⟩) (by assumption) ?_
      · (intro w hSw; (try dsimp only at hSw); go_simp)
      simp only [Act.put]
      refine wpAnyH_take (i := 7) (v := .pointer (some ⟨b, off + k * 4, none⟩)) rfl (by kernel_rfl) (by kernel_rfl) (by kernel_rfl) (fun _ _ _ h => h) (Or.inl ⟨by rfl, ?_⟩) (by assumption) ?_
      · (intro w hSw; (try dsimp only at hSw); go_simp)
      simp only [Act.put]
      refine wpAnyH_take (i := 8) (v := .int .i64 x) rfl (by kernel_rfl) (by kernel_rfl) (by kernel_rfl) (fun _ _ _ h => h) (Or.inl ⟨by rfl, ?_⟩) (by assumption) ?_
      · (intro w hSw; (try dsimp only at hSw); go_simp)
      simp only [Act.put]
      refine wpAnyH_take (i := 9) (v := .slice AV vs.length capv) rfl (by kernel_rfl) (by kernel_rfl) (by kernel_rfl) (fun _ _ _ h => h) (Or.inl ⟨by rfl, ?_⟩) (by assumption) ?_
      · (intro w hSw; (try dsimp only at hSw); go_simp)
      simp only [Act.put]
      have HBD := Lib.hid hbr.out.drew
      have HBD2 := Lib.hid hb.out.drew
      have HD0 := Lib.hid HDR0.out.drew
      refine wpAnyH_ready (rs := [10]) (by kernel_rfl) (by simp) ?_
      refine AllReadyH.cons rfl (fun K hK => ?_) AllReadyH.nil
      go_simp
      go_at_call 95
      refine (HOP.out _ HBD.out).mono ?_
      rintro e w3 ⟨g3, c3, rfl, hg3, hO3, hb3⟩
      have HO3 := Lib.hid hO3.iat
      have HB3 := Lib.hid (HBD.out.trans (hb3.mono HBD.out.size))
      have HC3 := Lib.hid (HBD2.out.trans (hb3.mono (Nat.le_trans hB1 HBD2.out.size)))
      have HD3 := Lib.hid (HD0.out.trans (hb3.mono HD0.out.size))
      have hz3 := hb3.size
      simp at hz3
      clear hO3 hg3
      refine hK.out _ _ (by rcases hHeld with ⟨q0, q1, q2⟩; exact ⟨(hb3.cell (p := ⟨w.heap.size, 0, none⟩) (by show w.heap.size < wr.heap.size; omega)).trans q0, (hb3.cell (p := ⟨w.heap.size, 1, none⟩) (by show w.heap.size < wr.heap.size; omega)).trans q1, (hb3.cell (p := ⟨b, off + k * 4, none⟩) (by show b < wr.heap.size; omega)).trans q2⟩) (fun hHeld => ?_)
      clear hK K
      clear hb3
      refine wpAnyH_ready (rs := [11]) (by kernel_rfl) (by simp) ?_
      refine AllReadyH.cons rfl (fun K hK => ?_) AllReadyH.nil
      go_simp
      go_at_call 97
      refine (HCUT.out _ _ _ HB3.out HO3.out).mono ?_
      rintro e w4 ⟨rfl, hb4⟩
      have HB4 := Lib.hid (HB3.out.trans (hb4.mono HB3.out.size))
      have HC4 := Lib.hid (HC3.out.trans (hb4.mono (Nat.le_trans hB1 HC3.out.size)))
      have HD4 := Lib.hid (HD3.out.trans (hb4.mono HD3.out.size))
      have hz4 := hb4.size
      refine hK.out _ _ (by rcases hHeld with ⟨q0, q1, q2⟩; exact ⟨(hb4.cell (p := ⟨w.heap.size, 0, none⟩) (by dsimp only; omega)).trans q0, (hb4.cell (p := ⟨w.heap.size, 1, none⟩) (by dsimp only; omega)).trans q1, (hb4.cell (p := ⟨b, off + k * 4, none⟩) (by dsimp only; omega)).trans q2⟩) (fun hHeld => ?_)
      clear hK K
      clear hb4
      refine wpAnyH_ready (rs := [12]) (by kernel_rfl) (by simp) ?_
      refine AllReadyH.cons rfl (fun K hK => ?_) AllReadyH.nil
      go_simp
      refine hK.out _ _ (by first | assumption | go_keep) (fun hHeld => ?_)
      clear hK K
      obtain ⟨d0, d1, d2⟩ := hHeld
      refine wpAnyH_done (by kernel_rfl) ?_ _
      have ho4 := Lib.hid (hown.out.on (show Below wr.heap.size wr w4 from HD4.out))
      cases sm with
      | true =>
        have HN2 := Lib.hid (show pipesL ps (k + 1) (wetP ps vs X (openL vs)) true = pipesL ps k (wetP ps vs X (openL vs)) true ++ [x] by rw [HST.out, if_pos rfl])
        have ho := ho4.out
        unfold IOwn at ho
        clear HST
        go_wp2_with (at_builtin; go_must (refine wpList_append_own _ rfl _ _ 26 rfl B 3 i0 (.int .i64 0) 1 8 Try.underlying26 hi0 hz0 hz1 hz2 rfl (by decide) _ _ _ rfl (ho.alloc _) ⟨w4.heap.size, 0, none⟩ 1 1 [iv x] rfl rfl (cell_one_new _ _ _) ?d2 ?d3 ?d4 ?d5 ?_))
        case d2 => intro u hu; simp at hu; subst hu; rfl
        case d3 => unfold maxLen; omega
        case d4 => omega
        case d5 => simp; omega
        intro v' w5 hown' hgrow hnil
        have hown3 := Lib.hid (IOwn.push hown')
        rw [← HN2.out] at hown3
        have hB3 := Lib.hid ((HC4.out.alloc (by omega) _).grown hgrow (by simp; omega) (fun g hg => (ho.lt g hg).1))
        have hvn3 := Lib.hid (show v' ≠ .slice none 0 0 from fun e => hnil e)
        clear hown' hgrow hnil ho
        go_wp2_with fail
        go_roundw
        case rel => exact ⟨k + 1, by omega, by go_num, hown3, hvn3, hB3⟩
        case measure => simp [intOf]; omega
      | false =>
        have HN2 := Lib.hid (show pipesL ps (k + 1) (wetP ps vs X (openL vs)) true = pipesL ps k (wetP ps vs X (openL vs)) true by rw [HST.out, if_neg (by simp)])
        have ho5 := Lib.hid (show IOwn w4 B (.slice (some ⟨gv, 0, none⟩) (pipesL ps k (wetP ps vs X (openL vs)) true).length cv) (pipesL ps (k + 1) (wetP ps vs X (openL vs)) true) from by rw [HN2.out]; exact ho4.out)
        clear HST ho4 HN2
        go_wp2_with fail
        go_roundw
        case rel => exact ⟨k + 1, by omega, by go_num, ho5, Lib.hid (by simp), HC4⟩
        case measure => simp [intOf]; omega
    · have e : k = ps.length := by omega
      subst e
      go_wp2_with fail
      go_ret2
      exact ⟨gv, 0, cv, rfl, by omega, hown.out.iat, hbr.out, iown_lt' hown.out⟩
end Go.Proofs.Ytbljmibaemgfeaa.S2
