/- Valves that are turned; copies of valves; marks in what was turned: contracts. Conditions: each theorem's own premises. -/
import Derived.Test.YtmkpgkhfbhdhgaaSValIs
import Derived.Test.YtmkpgkhfbhdhgaaValIs
import Derived.Test.YtmkpgkhfbhdhgaaIdxOne
import Derived.Test.YtmkpgkhfbhdhgaaVMark
import Derived.Laws.CopyRow
namespace Go.Proofs.Ytmkpgkhfbhdhgaa.S2
open Go.RowKit P2 P4

/-- The valve at a place turned. -/
def turnL (vs : List Vv) (i : Nat) (sh : Bool) : List Vv := vs.set i ⟨(vAt vs i).id, (vAt vs i).pp, (vAt vs i).nd, sh⟩
theorem turnL_len (vs : List Vv) (i : Nat) (sh : Bool) : (turnL vs i sh).length = vs.length := by simp [turnL]
theorem turnL_at (vs : List Vv) (i j : Nat) (sh : Bool) (hi : i < vs.length) : vAt (turnL vs i sh) j = if j = i then ⟨(vAt vs i).id, (vAt vs i).pp, (vAt vs i).nd, sh⟩ else vAt vs j := by
  unfold vAt turnL
  by_cases e : j = i
  · subst e
    simp [List.getD, hi]
    simp [vAt, List.getD, hi]
  · have e2 : ¬ i = j := fun h => e h.symm
    simp [List.getD, e, e2]
theorem turnL_cell (vs : List Vv) (i : Nat) (sh : Bool) (hi : i < vs.length) (j : Nat) : vcell (turnL vs i sh) j = if j = i * 4 + 3 then .bool sh else vcell vs j := by
  unfold vcell
  rw [turnL_at vs i (j / 4) sh hi]
  by_cases e : j / 4 = i
  · rw [if_pos e]
    subst e
    by_cases h0 : j % 4 = 0
    · rw [if_pos h0, if_pos h0, if_neg (by omega)]
    · rw [if_neg h0, if_neg h0]
      by_cases h1 : j % 4 = 1
      · rw [if_pos h1, if_pos h1, if_neg (by omega)]
      · rw [if_neg h1, if_neg h1]
        by_cases h2 : j % 4 = 2
        · rw [if_pos h2, if_pos h2, if_neg (by omega)]
        · rw [if_neg h2, if_neg h2, if_pos (by omega)]
  · have e3 : ¬ j = i * 4 + 3 := by omega
    rw [if_neg e, if_neg e3]
theorem first_one {vs : List Vv} {q : Vv → Bool} {r s : Int} (h : FirstV vs q r) (h2 : FirstV vs q s) : r = s := by
  rcases h with ⟨rfl, h⟩ | ⟨i, hi, rfl, hq, hn⟩
  · rcases h2 with ⟨rfl, _⟩ | ⟨j, hj, rfl, hq2, _⟩
    · rfl
    · rw [h j hj] at hq2; cases hq2
  · rcases h2 with ⟨rfl, h2⟩ | ⟨j, hj, rfl, hq2, hn2⟩
    · rw [h2 i hi] at hq; cases hq
    · by_cases a : i < j
      · rw [hn2 i a] at hq; cases hq
      · by_cases b : j < i
        · rw [hn j b] at hq2; cases hq2
        · have : i = j := by omega
          rw [this]
theorem first_ex (vs : List Vv) (q : Vv → Bool) : ∃ r, FirstV vs q r := by
  by_cases h : ∃ i, i < vs.length ∧ q (vAt vs i) = true
  · obtain ⟨i, hi, hq, hn⟩ : ∃ i, i < vs.length ∧ q (vAt vs i) = true ∧ ∀ j, j < i → q (vAt vs j) = false := by
      obtain ⟨i, hi, hq⟩ := h
      induction i using Nat.strongRecOn with
      | ind i ih =>
        by_cases hx : ∃ j, j < i ∧ q (vAt vs j) = true
        · obtain ⟨j, hj, hqj⟩ := hx
          exact ih j hj (by omega) hqj
        · exact ⟨i, hi, hq, fun j hj => by
            cases hv : q (vAt vs j) with
            | false => rfl
            | true => exact absurd ⟨j, hj, hv⟩ hx⟩
    exact ⟨(i : Int), .inr ⟨i, hi, rfl, hq, hn⟩⟩
  · exact ⟨-1, .inl ⟨rfl, fun i hi => by
      cases hv : q (vAt vs i) with
      | false => rfl
      | true => exact absurd ⟨i, hi, hv⟩ h⟩⟩
/-- Valves beside a bool, in a block of the call's own: as the program gives them; as the model does. -/
def GivesVI (w : World) (l : List Vv) (ok : Bool) (e : Ending) (w' : World) : Prop :=
  ∃ g, e = .returned (.tuple #[.slice (some ⟨g, 0, none⟩) l.length l.length, .bool ok]) ∧ w.heap.size ≤ g ∧ VRow w' g l ∧ Below w.heap.size w w'
def GivesVA (w : World) (l : List Vv) (ok : Bool) (e : Ending) (w' : World) : Prop :=
  ∃ g cap, e = .returned (.tuple #[.slice (some ⟨g, 0, none⟩) l.length cap, .bool ok]) ∧ w.heap.size ≤ g ∧ VAt w' (some ⟨g, 0, none⟩) l ∧ Below w.heap.size w w' ∧ g < w'.heap.size
theorem vrow_empty (w : World) : VRow (w.alloc (.cells #[] 59)) w.heap.size [] := World.rowIs_alloc w #[] 59 _ (fun i hi => by simp at hi)
theorem GivesVI.none {w w1 : World} (hb : Below w.heap.size w w1) : GivesVI w [] false (.returned (.tuple #[.slice (some ⟨w1.heap.size, 0, none⟩) 0 0, .bool false])) (w1.alloc (.cells #[] 59)) :=
  ⟨w1.heap.size, rfl, hb.size, vrow_empty w1, hb.alloc hb.size _⟩
theorem GivesVI.any {w : World} {l : List Vv} {ok : Bool} {e : Ending} {w' : World} (h : GivesVI w l ok e w') : GivesVA w l ok e w' := by
  obtain ⟨g, he, hg, hr, hb⟩ := h
  exact ⟨g, l.length, he, hg, hr.at_, hb, hr.lt⟩
theorem VAt.low {w w' : World} {g o B : Nat} {l : List Vv} (h : VAt w (some ⟨g, o, none⟩) l) (hb : Below B w w') (hg : g < B) : VAt w' (some ⟨g, o, none⟩) l := by
  rcases h with h | ⟨b, off, hA, hlt, h⟩
  · exact .inl h
  · simp only [Option.some.injEq, Addr.mk.injEq, and_true] at hA
    obtain ⟨rfl, rfl⟩ := hA
    refine .inr ⟨g, o, rfl, Nat.lt_of_lt_of_le hlt hb.size, fun i hi => ?_⟩
    have hc : ∀ k, w'.cell? ⟨g, k, none⟩ = w.cell? ⟨g, k, none⟩ := fun k => hb.cell (p := ⟨g, k, none⟩) hg
    rw [hc, hc, hc, hc]
    exact h i hi
theorem VAt.far {w w' : World} {g o x : Nat} {l : List Vv} (h : VAt w (some ⟨g, o, none⟩) l) (hb : w.grownBy w' (some x)) (hg : g ≠ x) : VAt w' (some ⟨g, o, none⟩) l := by
  rcases h with h | ⟨b, off, hA, hlt, h⟩
  · exact .inl h
  · simp only [Option.some.injEq, Addr.mk.injEq, and_true] at hA
    obtain ⟨rfl, rfl⟩ := hA
    refine .inr ⟨g, o, rfl, Nat.lt_of_lt_of_le hlt hb.size, fun i hi => ?_⟩
    have hc : ∀ k, w'.cell? ⟨g, k, none⟩ = w.cell? ⟨g, k, none⟩ := fun k => hb.cell_far ⟨g, k, none⟩ hlt (by simp; omega)
    rw [hc, hc, hc, hc]
    exact h i hi
theorem MAt.low {w w' : World} {g m n B : Nat} (h : MAt w g m n) (hb : Below B w w') (hg : g < B) : MAt w' g m n :=
  ⟨h.1.imp id (fun h => Nat.lt_of_lt_of_le h hb.size), fun j hj => (hb.cell (p := ⟨g, j, none⟩) hg).trans (h.2 j hj)⟩
theorem MAt.far {w w' : World} {g m n x : Nat} (h : MAt w g m n) (hb : w.grownBy w' (some x)) (hg : g ≠ x) : MAt w' g m n := by
  rcases h with ⟨h0, h⟩
  refine ⟨h0.imp id (fun h => Nat.lt_of_lt_of_le h hb.size), fun j hj => ?_⟩
  rcases h0 with h0 | h0
  · omega
  · exact (hb.cell_far ⟨g, j, none⟩ h0 (by simp; omega)).trans (h j hj)
theorem markvr_i (g m : Nat) (mi : Int) (l : List Vv) (w : World) (h : VRow w g l) (hn : l.length ≤ 1048576) (hm : m ≤ 104857600) (hmi : mi = (m : Int)) :
    Calls Try.prog 26 #[.slice (some ⟨g, 0, none⟩) l.length l.length, .int .i64 mi] w fun e w' => e = .returned (.int .i64 (mi + (l.length : Int) * 4)) ∧ MAt w' g m l.length ∧ w.grownBy w' (some g) := by
  subst hmi
  obtain ⟨xs, hx, ho⟩ := vrow_own h hn
  exact (markvx_any g g l.length m l.length xs hx w ho hn hm).mono fun _ _ ⟨he, ho, hg⟩ => ⟨by rw [he]; congr 2, own_marks ho, hg⟩
theorem heldvr_i (g cap m n : Nat) (mi : Int) (w : World) (h : MAt w g m n) (hn : n ≤ 1048576) (hm : m ≤ 104857600) (hmi : mi = (m : Int)) :
    Calls Try.prog 37 #[.slice (some ⟨g, 0, none⟩) n cap, .int .i64 mi] w fun e w' => e = .returned (.int .i64 (mi + (n : Int) * 4)) ∧ Below w.heap.size w w' := by
  subst hmi
  exact (heldvx_any g cap m n w h hn hm).mono fun _ _ ⟨he, hb⟩ => ⟨by rw [he]; congr 2, hb⟩
/-- The cells of valves, in a list. -/
def vcl (vs : List Vv) : List Value := (List.range (vs.length * 4)).map (vcell vs)
theorem vcl_len (vs : List Vv) : (vcl vs).length = vs.length * 4 := by simp [vcl]
theorem vcl_get {vs : List Vv} {j : Nat} {u : Value} (h : (vcl vs)[j]? = some u) : j < vs.length * 4 ∧ u = vcell vs j := by
  have hj : j < vs.length * 4 := by
    have := (List.getElem?_eq_some_iff.1 h).1
    rwa [vcl_len] at this
  refine ⟨hj, ?_⟩
  simp [vcl, hj] at h
  exact h.symm
theorem vcl_one (vs : List Vv) : ∀ u ∈ vcl vs, u.oneCell' = true := by
  intro u hu
  obtain ⟨j, _, rfl⟩ := List.mem_map.1 hu
  unfold vcell
  repeat' split
  all_goals rfl
theorem vcl_at {w : World} {b off : Nat} {vs : List Vv} (h : VAt w (some ⟨b, off, none⟩) vs) : ∀ j u, (vcl vs)[j]? = some u → w.cell? ((⟨b, off, none⟩ : Addr).add j) = some u := by
  intro j u hu
  obtain ⟨hj, rfl⟩ := vcl_get hu
  have hadd : (⟨b, off, none⟩ : Addr).add j = ⟨b, off + j, none⟩ := by unfold Addr.add; split <;> simp_all
  rw [hadd]
  obtain ⟨b', off', hA, _, h0, h1, h2, h3⟩ := h.at_ (i := j / 4) (by omega)
  simp only [Option.some.injEq, Addr.mk.injEq, and_true] at hA
  obtain ⟨rfl, rfl⟩ := hA
  have hd : j = j / 4 * 4 + j % 4 := by omega
  have hr : j % 4 = 0 ∨ j % 4 = 1 ∨ j % 4 = 2 ∨ j % 4 = 3 := by omega
  generalize hq : j / 4 = q at *
  rcases hr with hr | hr | hr | hr
  · rw [show j = q * 4 by omega, vcell0]; exact h0
  · rw [show j = q * 4 + 1 by omega, vcell1]; exact h1
  · rw [show j = q * 4 + 2 by omega, vcell2]; exact h2
  · rw [show j = q * 4 + 3 by omega, vcell3]; exact h3
theorem run_copyV (w : World) (ty : TypeId) (g : Nat) (vs : List Vv) (b off sCap : Nat) (hs : VAt w (some ⟨b, off, none⟩) vs) (f : Nat → Value) (h : w.rowIs g 59 (vs.length * 4) f) :
    ∃ w', (Builtin.copy_ #[33, 33] ty #[.slice (some ⟨g, 0, none⟩) vs.length vs.length, .slice (some ⟨b, off, none⟩) vs.length sCap]).run Try.prog w = .ok (goInt vs.length) w' ∧ VRow w' g vs ∧ w.grownBy w' (some g) := by
  obtain ⟨cur, hg, hsz, hcur⟩ := h
  have hl := run_loadCells_list (P := Try.prog) w ⟨b, off, none⟩ (vcl vs) (vcl_at hs)
  have hst := run_storeCells_at Try.prog g 0 59 (vcl vs) 0 cur w hg (by rw [vcl_len]; omega) (vcl_one vs)
  rw [vcl_len] at hl
  have hd : (cur.toList.take (0 + 0) ++ vcl vs ++ cur.toList.drop (0 + 0 + (vcl vs).length)) = vcl vs := by
    rw [List.drop_eq_nil_of_le (by simp [vcl_len]; omega)]
    simp
  rw [hd] at hst
  obtain ⟨i0, hi, hz0, hz1, hz2⟩ := info_parts infoV
  refine ⟨w.setRow g (vcl vs).toArray, ?_, ⟨_, setRow_heap w g cur _ _ _ hg, ?_, ?_⟩, ⟨rfl, rfl, rfl, by simp [World.setRow], fun k hk hne => setRow_other w g k _ (by intro e; subst e; exact hne rfl)⟩⟩
  · simp [Builtin.copy_, run_underlying Try.underlying33, Builtin.lenOf, Builtin.firstCells, sizeOf, typeInfo, hi, hz1, hl, hst]
  · simp [vcl_len]
  · intro i hi
    simp [vcl, hi]
end Go.Proofs.Ytmkpgkhfbhdhgaa.S2
