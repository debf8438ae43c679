/- Valves in memory: what is read of them; the laws' copies and comparisons of them: contracts. Conditions: each theorem's own premises. -/
import Derived.Test.YtbljmibaemgfeaaEqOne
import Derived.Test.YtbljmibaemgfeaaValOne
namespace Go.Proofs.Ytbljmibaemgfeaa.S2
open Go.RowKit P2 P4

/-- A valve as a value. -/
abbrev vvl (v : Vv) : Value := .agg #[.int .i64 v.id, .int .i64 v.pp, .int .i64 v.nd, .bool v.sh]
/-- The valves vs lie there. -/
def VAt (w : World) (A : Option Addr) (vs : List Vv) : Prop :=
  vs = [] ∨ ∃ b off, A = some ⟨b, off, none⟩ ∧ b < w.heap.size ∧ ∀ i, i < vs.length →
    w.cell? ⟨b, off + i * 4, none⟩ = some (.int .i64 (vAt vs i).id) ∧ w.cell? ⟨b, off + i * 4 + 1, none⟩ = some (.int .i64 (vAt vs i).pp) ∧
    w.cell? ⟨b, off + i * 4 + 2, none⟩ = some (.int .i64 (vAt vs i).nd) ∧ w.cell? ⟨b, off + i * 4 + 3, none⟩ = some (.bool (vAt vs i).sh)
theorem VAt.kept {w w' : World} {A : Option Addr} {vs : List Vv} {B : Nat} (h : VAt w A vs) (hb : Below B w w') (hB : w.heap.size ≤ B) : VAt w' A vs := by
  rcases h with h | ⟨b, off, hA, hlt, h⟩
  · exact .inl h
  · refine .inr ⟨b, off, hA, Nat.lt_of_lt_of_le hlt hb.size, fun i hi => ?_⟩
    obtain ⟨h0, h1, h2, h3⟩ := h i hi
    have hc : ∀ o, w'.cell? ⟨b, o, none⟩ = w.cell? ⟨b, o, none⟩ := fun o => hb.cell (p := ⟨b, o, none⟩) (by show b < B; omega)
    rw [hc, hc, hc, hc]
    exact ⟨h0, h1, h2, h3⟩
theorem VAt.at_ {w : World} {A : Option Addr} {vs : List Vv} (h : VAt w A vs) {i : Nat} (hi : i < vs.length) : ∃ b off, A = some ⟨b, off, none⟩ ∧ b < w.heap.size ∧
    w.cell? ⟨b, off + i * 4, none⟩ = some (.int .i64 (vAt vs i).id) ∧ w.cell? ⟨b, off + i * 4 + 1, none⟩ = some (.int .i64 (vAt vs i).pp) ∧
    w.cell? ⟨b, off + i * 4 + 2, none⟩ = some (.int .i64 (vAt vs i).nd) ∧ w.cell? ⟨b, off + i * 4 + 3, none⟩ = some (.bool (vAt vs i).sh) := by
  rcases h with h | ⟨b, off, hA, hlt, h⟩
  · subst h; simp at hi
  · exact ⟨b, off, hA, hlt, h i hi⟩

/-- The cells of a row of valves. -/
def vcell (vs : List Vv) (i : Nat) : Value :=
  if i % 4 = 0 then .int .i64 (vAt vs (i / 4)).id else if i % 4 = 1 then .int .i64 (vAt vs (i / 4)).pp else if i % 4 = 2 then .int .i64 (vAt vs (i / 4)).nd else .bool (vAt vs (i / 4)).sh
theorem vcell0 (vs : List Vv) (i : Nat) : vcell vs (i * 4) = .int .i64 (vAt vs i).id := by
  have a : i * 4 % 4 = 0 := by omega
  have b : i * 4 / 4 = i := by omega
  simp [vcell, a, b]
theorem vcell1 (vs : List Vv) (i : Nat) : vcell vs (i * 4 + 1) = .int .i64 (vAt vs i).pp := by
  have a : (i * 4 + 1) % 4 = 1 := by omega
  have b : (i * 4 + 1) / 4 = i := by omega
  simp [vcell, a, b]
theorem vcell2 (vs : List Vv) (i : Nat) : vcell vs (i * 4 + 2) = .int .i64 (vAt vs i).nd := by
  have a : (i * 4 + 2) % 4 = 2 := by omega
  have b : (i * 4 + 2) / 4 = i := by omega
  simp [vcell, a, b]
theorem vcell3 (vs : List Vv) (i : Nat) : vcell vs (i * 4 + 3) = .bool (vAt vs i).sh := by
  have a : (i * 4 + 3) % 4 = 3 := by omega
  have b : (i * 4 + 3) / 4 = i := by omega
  simp [vcell, a, b]

/-- A row of valves in a block of its own. -/
def VRow (w : World) (g : Nat) (vs : List Vv) : Prop := w.rowIs g 60 (vs.length * 4) (vcell vs)
theorem VRow.at_ {w : World} {g : Nat} {vs : List Vv} (h : VRow w g vs) : VAt w (some ⟨g, 0, none⟩) vs := by
  refine .inr ⟨g, 0, rfl, h.lt, fun i hi => ?_⟩
  simp only [Nat.zero_add]
  rw [h.cell (by omega), h.cell (by omega), h.cell (by omega), h.cell (by omega), vcell0, vcell1, vcell2, vcell3]
  exact ⟨rfl, rfl, rfl, rfl⟩
theorem VRow.kept {w w' : World} {B g : Nat} {vs : List Vv} (h : VRow w g vs) (hb : Below B w w') (hg : g < B) : VRow w' g vs := rowIs_below h hb hg

/-- The first k valves are written. -/
def vzero (i : Nat) : Value := if i % 4 = 3 then .bool false else .int .i64 0
def vfill (vs : List Vv) (k : Nat) (i : Nat) : Value := if i < k * 4 then vcell vs i else vzero i
theorem vfill_step {w : World} {g n : Nat} {t : TypeId} {vs : List Vv} {k : Nat} (h : w.rowIs g t n (vfill vs k)) :
    ((((w.setCell ⟨g, k * 4, none⟩ (.int .i64 (vAt vs k).id)).setCell ⟨g, k * 4 + 1, none⟩ (.int .i64 (vAt vs k).pp)).setCell ⟨g, k * 4 + 2, none⟩ (.int .i64 (vAt vs k).nd)).setCell ⟨g, k * 4 + 3, none⟩ (.bool (vAt vs k).sh)).rowIs g t n (vfill vs (k + 1)) := by
  refine ((((h.set _ _).set _ _).set _ _).set _ _).congr fun i _ => ?_
  unfold vfill
  by_cases h3 : i = k * 4 + 3
  · subst h3; rw [if_pos rfl, if_pos (by omega), vcell3]
  · rw [if_neg h3]
    by_cases h2 : i = k * 4 + 2
    · subst h2; rw [if_pos rfl, if_pos (by omega), vcell2]
    · rw [if_neg h2]
      by_cases h1 : i = k * 4 + 1
      · subst h1; rw [if_pos rfl, if_pos (by omega), vcell1]
      · rw [if_neg h1]
        by_cases h0 : i = k * 4
        · subst h0; rw [if_pos rfl, if_pos (by omega), vcell0]
        · rw [if_neg h0]
          by_cases hk : i < k * 4
          · rw [if_pos hk, if_pos (by omega)]
          · rw [if_neg hk, if_neg (by omega)]
theorem vfill_all {w : World} {g : Nat} {t : TypeId} {vs : List Vv} {k : Nat} (h : w.rowIs g t (vs.length * 4) (vfill vs k)) (hk : vs.length ≤ k) : w.rowIs g t (vs.length * 4) (vcell vs) :=
  h.congr fun i hi => by unfold vfill; rw [if_pos (by omega)]

theorem infoV : (Try.prog.info? 60).map (fun i => (i.zero, i.size, i.bytes)) = some (some (.agg #[.int .i64 0, .int .i64 0, .int .i64 0, .bool false]), 4, 32) := by kernel_rfl

theorem tovalve_any (v : Vv) (w : World) :
    Calls Try.prog 42 #[vvl v] w fun e w' => e = .returned (vvl v) ∧ Below w.heap.size w w' := by
  obtain ⟨id, pp, nd, sh⟩ := v
  go_enter Try.func42, Try.ntmps42
  go_wp2
  refine bodyPost_ret (v := .agg #[.int .i64 id, .int .i64 pp, .int .i64 nd, .bool sh]) (by simp [results, Try.results42, go_sem]) rfl ⟨rfl, ?_⟩
  exact (((Below.refl _ _).alloc (Nat.le_refl _) _).alloc (by simp) _).alloc (by simp; omega) _

theorem made_valves (w : World) (vs : List Vv) : (w.alloc (.cells (madeCells (Value.agg #[.int .i64 0, .int .i64 0, .int .i64 0, .bool false]).cells (vs.length * 4)) 60)).rowIs w.heap.size 60 (vs.length * 4) (vfill vs 0) := by
  refine ⟨_, Go.Deep.blk_alloc_new _ _, size_madeCells _ _, fun i hi => ?_⟩
  have e : vfill vs 0 i = vzero i := by unfold vfill; rw [if_neg (by omega)]
  rw [e]
  have h4 : i % 4 < 4 := Nat.mod_lt _ (by omega)
  have hz : (Value.agg #[.int .i64 0, .int .i64 0, .int .i64 0, .bool false]).cells = #[.int .i64 0, .int .i64 0, .int .i64 0, .bool false] := rfl
  rw [hz]
  simp only [madeCells]
  rw [Array.getElem?_map, Array.getElem?_range, if_pos hi]
  simp only [Option.map_some]
  congr 1
  show (#[Value.int .i64 0, .int .i64 0, .int .i64 0, .bool false])[i % 4]! = _
  unfold vzero
  generalize i % 4 = r at h4
  match r, h4 with
  | 0, _ => rfl
  | 1, _ => rfl
  | 2, _ => rfl
  | 3, _ => rfl

set_option maxHeartbeats 1000000 in
theorem tovalves_any (A : Option Addr) (cap : Nat) (vs : List Vv) (w : World) (h : VAt w A vs) (hn : vs.length ≤ 1048576) :
    Calls Try.prog 19 #[.slice A vs.length cap] w fun e w' => (∃ g, e = .returned (.slice (some ⟨g, 0, none⟩) vs.length vs.length) ∧ w.heap.size ≤ g ∧ VRow w' g vs) ∧ Below w.heap.size w w' := by
  have HA := Lib.hid h
  clear h
  have hmk : ∃ w1 : World, (Instr.makeSlice 34 (.int .i64 (vs.length : Int)) (.int .i64 (vs.length : Int))).run Try.prog w = .ok (.slice (some ⟨w.heap.size, 0, none⟩) vs.length vs.length) w1 ∧ w1.rowIs w.heap.size 60 (vs.length * 4) (vfill vs 0) ∧ Below w.heap.size w w1 := by
    obtain ⟨i0, hi, hz0, hz1, hz2⟩ := info_parts infoV
    have hr := run_make (P := Try.prog) w 34 60 i0 _ Try.underlying34 hi hz0 .i64 .i64 vs.length vs.length (by omega) (Int.le_refl _) (by rw [hz2]; omega) (by omega)
    simp only [Int.toNat_natCast] at hr
    rw [hz1] at hr
    exact ⟨_, hr, made_valves _ _, (Below.refl _ _).alloc (Nat.le_refl _) _⟩
  obtain ⟨w1, hmk, hrow, hb1⟩ := hmk
  have HR := Lib.hid hrow
  clear hrow
  go_enter Try.func19, Try.ntmps19
  go_wp2
  clear hmk
  go_loopw [4] (fun i wr => ∃ k : Nat, k ≤ vs.length ∧ i = .int .i64 k ∧ Hid (wr.rowIs w.heap.size 60 (vs.length * 4) (vfill vs k)) ∧ Below w.heap.size w wr) (fun i _ => vs.length - (intOf i).toNat)
  case atStart => exact ⟨0, Nat.zero_le _, rfl, HR, hb1⟩
  case round =>
    obtain ⟨k, hk, rfl, hrow, hb⟩ := hrel
    by_cases hlt : k < vs.length
    · obtain ⟨b, off, hA, hbl, h0, h1, h2, h3⟩ := HA.out.at_ hlt
      subst hA
      obtain ⟨hc, hf⟩ := bcell hb
      have hgl := hrow.out.lt
      have H1 := Lib.hid (fun w => tovalve_any (vAt vs k) w)
      have hst := Lib.hid (fun (w1 : World) (h : w1.rowIs w.heap.size 60 (vs.length * 4) (vfill vs k)) => vfill_step h)
      generalize vAt vs k = p at *
      go_wp2_with (go_at_call 42; refine (H1.out _).mono ?_; rintro e w2 ⟨rfl, hb2⟩; have hrow2 := Lib.hid (rowIs_below hrow.out hb2 hgl); have hfz : ∀ o, w2.frozen? ⟨w.heap.size, o, none⟩ = false := fun o => hrow2.out.frozen o; have c0 := hrow2.out.cell (i := k * 4) (by omega); have c1 := hrow2.out.cell (i := k * 4 + 1) (by omega); have c2 := hrow2.out.cell (i := k * 4 + 2) (by omega); have c3 := hrow2.out.cell (i := k * 4 + 3) (by omega))
      have hst' := hst.out _ hrow2.out
      go_roundw
      case rel => exact ⟨k + 1, by omega, by go_num, Lib.hid hst', ((((hb.trans (hb2.mono (by omega))).setCell (p := ⟨w.heap.size, k * 4, none⟩) (Nat.le_refl _) _).setCell (p := ⟨w.heap.size, k * 4 + 1, none⟩) (Nat.le_refl _) _).setCell (p := ⟨w.heap.size, k * 4 + 2, none⟩) (Nat.le_refl _) _).setCell (p := ⟨w.heap.size, k * 4 + 3, none⟩) (Nat.le_refl _) _⟩
      case measure => simp [intOf]; omega
    · have hfin := Lib.hid (vfill_all hrow.out (by omega))
      go_wp2
      go_ret
      exact ⟨⟨_, rfl, Nat.le_refl _, hfin.out⟩, hb⟩

theorem szvalves_any (A : Option Addr) (len cap : Nat) (r0 : Int) (h0 : 0 ≤ r0) (h9 : r0 ≤ 1048576) (w : World) (hm : len ≤ maxLen) :
    Calls Try.prog 16 #[.slice A len cap, .int .i64 r0] w fun e w' => (∃ r : Int, e = .returned (.int .i64 r) ∧ (r < 0 ∨ (0 ≤ r ∧ r ≤ r0 ∧ len ≤ 1048576))) ∧ w' = w := by
  unfold maxLen at hm
  by_cases h0 : (len : Int) ≤ r0
  · go_enter Try.func16, Try.ntmps16
    go_wp2
    go_ret
    exact ⟨⟨_, rfl, .inr ⟨by omega, by omega, by omega⟩⟩, rfl⟩
  · go_enter Try.func16, Try.ntmps16
    go_wp2
    go_ret
    exact ⟨⟨_, rfl, .inl (by omega)⟩, rfl⟩

theorem eqvalve_same (v : Vv) (w : World) :
    Calls Try.prog 84 #[vvl v, vvl v] w fun e w' => e = .returned (.bool true) ∧ Below w.heap.size w w' := by
  obtain ⟨id, pp, nd, sh⟩ := v
  cases sh
  all_goals
    go_enter Try.func84, Try.ntmps84
    go_wp2
    go_ret
    exact ⟨rfl, ((Below.refl _ _).alloc (Nat.le_refl _) _).alloc (by simp) _⟩

set_option maxHeartbeats 1000000 in
theorem eqvalves_same (A A2 : Option Addr) (cap cap2 : Nat) (vs : List Vv) (w : World) (h : VAt w A vs) (h2 : VAt w A2 vs) (hn : vs.length ≤ 1048576) :
    Calls Try.prog 23 #[.slice A vs.length cap, .slice A2 vs.length cap2] w fun e w' => e = .returned (.bool true) ∧ Below w.heap.size w w' := by
  have HA := Lib.hid h
  have HA2 := Lib.hid h2
  clear h h2
  go_enter Try.func23, Try.ntmps23
  go_wp2
  go_loopw [5] (fun i wr => ∃ k : Nat, k ≤ vs.length ∧ i = .int .i64 k ∧ Below w.heap.size w wr) (fun i _ => vs.length - (intOf i).toNat)
  case atStart => exact ⟨0, Nat.zero_le _, rfl, Below.refl _ _⟩
  case round =>
    obtain ⟨k, hk, rfl, hb⟩ := hrel
    by_cases hlt : k < vs.length
    · obtain ⟨b, off, hA, hbl, h0, h1, h2, h3⟩ := HA.out.at_ hlt
      obtain ⟨b2, off2, hA2, hbl2, g0, g1, g2, g3⟩ := HA2.out.at_ hlt
      subst hA hA2
      obtain ⟨hc, hf⟩ := bcell hb
      have hz := hb.size
      have hbw : b < wr.heap.size := by omega
      have hbw2 : b2 < wr.heap.size := by omega
      have hk0i : (0 : Int) ≤ (k : Int) := by omega
      have hk1i : (k : Int) < (vs.length : Int) := by omega
      have H1 := Lib.hid (fun w => eqvalve_same (vAt vs k) w)
      have hG := @cell_g
      generalize vAt vs k = p at *
      go_wp2
      refine region_below (by kernel_rfl) (by kernel_rfl) ?_
      repeat (first | go_big_quiet_step ((go_at_call 84; exact met H1.out)))
      refine wpQuiet_nil ?_
      intro w1 hb1
      go_wp2
      go_roundw
      case rel => exact ⟨k + 1, by omega, by go_num, hb.trans (hb1.mono hz)⟩
      case measure => simp [intOf]; omega
    · go_wp2
      go_ret
      exact ⟨rfl, hb⟩
end Go.Proofs.Ytbljmibaemgfeaa.S2
