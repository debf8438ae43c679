/- Lists of curves: what is read; the laws' copies, comparisons and counts of them; an argument opened: contracts. Conditions: each theorem's own premises. -/
import Derived.Test.YtmehhojnefoedaaCvKit
namespace Go.Proofs.Ytmehhojnefoedaa.S7
open Go.RowKit Go.Sort Go.ChangeShapes Go.WideShapes Go.Deep Go.Joins P7

abbrev rw_ (ls : List (List Cp)) (i : Nat) : List Cp := ls.getD i []
/-- The curves ls lie there. -/
def SAt (w : World) (A : Option Addr) (ls : List (List Cp)) : Prop :=
  ls = [] ∨ ∃ b off, A = some ⟨b, off, none⟩ ∧ b < w.heap.size ∧ ∀ i, i < ls.length → ∃ B c, w.cell? ⟨b, off + i, none⟩ = some (.slice B (rw_ ls i).length c) ∧ CAt w B (rw_ ls i)
theorem SAt.kept {w w' : World} {A : Option Addr} {ls : List (List Cp)} {S : Nat} (h : SAt w A ls) (hb : Below S w w') (hS : w.heap.size ≤ S) : SAt w' A ls := by
  rcases h with h | ⟨b, off, hA, hlt, h⟩
  · exact .inl h
  · refine .inr ⟨b, off, hA, Nat.lt_of_lt_of_le hlt hb.size, fun i hi => ?_⟩
    obtain ⟨B, c, hc, hI⟩ := h i hi
    exact ⟨B, c, (hb.cell (p := ⟨b, off + i, none⟩) (by show b < S; omega)).trans hc, hI.kept hb hS⟩
theorem SAt.at_ {w : World} {A : Option Addr} {ls : List (List Cp)} (h : SAt w A ls) {i : Nat} (hi : i < ls.length) : ∃ b off B c, A = some ⟨b, off, none⟩ ∧ b < w.heap.size ∧ w.cell? ⟨b, off + i, none⟩ = some (.slice B (rw_ ls i).length c) ∧ CAt w B (rw_ ls i) := by
  rcases h with h | ⟨b, off, hA, hlt, h⟩
  · subst h; simp at hi
  · obtain ⟨B, c, hc, hI⟩ := h i hi
    exact ⟨b, off, B, c, hA, hlt, hc, hI⟩
/-- Copies of the curves ls lie there, each no longer than its room. -/
def SCp (w : World) (A : Option Addr) (ls : List (List Cp)) : Prop :=
  ls = [] ∨ ∃ b off, A = some ⟨b, off, none⟩ ∧ b < w.heap.size ∧ ∀ i, i < ls.length → ∃ B c, w.cell? ⟨b, off + i, none⟩ = some (.slice B (rw_ ls i).length c) ∧ CAt w B (rw_ ls i) ∧ (rw_ ls i).length ≤ c ∧ c ≤ 1048576
theorem SCp.sat {w : World} {A : Option Addr} {ls : List (List Cp)} (h : SCp w A ls) : SAt w A ls := by
  rcases h with h | ⟨b, off, hA, hlt, h⟩
  · exact .inl h
  · refine .inr ⟨b, off, hA, hlt, fun i hi => ?_⟩
    obtain ⟨B, c, hc, hI, _⟩ := h i hi
    exact ⟨B, c, hc, hI⟩
theorem SCp.kept {w w' : World} {A : Option Addr} {ls : List (List Cp)} {S : Nat} (h : SCp w A ls) (hb : Below S w w') (hS : w.heap.size ≤ S) : SCp w' A ls := by
  rcases h with h | ⟨b, off, hA, hlt, h⟩
  · exact .inl h
  · refine .inr ⟨b, off, hA, Nat.lt_of_lt_of_le hlt hb.size, fun i hi => ?_⟩
    obtain ⟨B, c, hc, hI, h2⟩ := h i hi
    exact ⟨B, c, (hb.cell (p := ⟨b, off + i, none⟩) (by show b < S; omega)).trans hc, hI.kept hb hS, h2⟩
theorem SCp.at_ {w : World} {A : Option Addr} {ls : List (List Cp)} (h : SCp w A ls) {i : Nat} (hi : i < ls.length) : ∃ b off B c, A = some ⟨b, off, none⟩ ∧ b < w.heap.size ∧ w.cell? ⟨b, off + i, none⟩ = some (.slice B (rw_ ls i).length c) ∧ CAt w B (rw_ ls i) ∧ (rw_ ls i).length ≤ c ∧ c ≤ 1048576 := by
  rcases h with h | ⟨b, off, hA, hlt, h⟩
  · subst h; simp at hi
  · obtain ⟨B, c, hc, hI⟩ := h i hi
    exact ⟨b, off, B, c, hA, hlt, hc, hI⟩

set_option maxHeartbeats 2000000 in
theorem eqss_same (A A2 : Option Addr) (cap cap2 : Nat) (ls : List (List Cp)) (w : World) (h : SAt w A ls) (h2 : SAt w A2 ls) (hn : ls.length ≤ 1048576) (hr : ∀ i, i < ls.length → (rw_ ls i).length ≤ 1048576) :
    Calls Try.prog 27 #[.slice A ls.length cap, .slice A2 ls.length cap2] w fun e w' => e = .returned (.bool true) ∧ Below w.heap.size w w' := by
  have HA := Lib.hid h
  have HA2 := Lib.hid h2
  have HR := Lib.hid hr
  clear h h2 hr
  go_enter Try.func27, Try.ntmps27
  go_wp2
  go_loopw [5] (fun i wr => ∃ k : Nat, k ≤ ls.length ∧ i = .int .i64 k ∧ Below w.heap.size w wr) (fun i _ => ls.length - (intOf i).toNat)
  case atStart => exact ⟨0, Nat.zero_le _, rfl, Below.refl _ _⟩
  case round =>
    obtain ⟨k, hk, rfl, hb⟩ := hrel
    by_cases hlt : k < ls.length
    · obtain ⟨b, off, B, c, hA, hbl, h0, hI⟩ := (HA.out.kept hb (Nat.le_refl _)).at_ hlt
      obtain ⟨b2, off2, B2, c2, hA2, hbl2, g0, hI2⟩ := (HA2.out.kept hb (Nat.le_refl _)).at_ hlt
      subst hA hA2
      have hk0i : (0 : Int) ≤ (k : Int) := by omega
      have hk1i : (k : Int) < (ls.length : Int) := by omega
      have hrk := HR.out k hlt
      have HE := Lib.hid (fun w' (hb' : Below wr.heap.size wr w') => eqcps_same B B2 c c2 (rw_ ls k) w' (hI.kept hb' (Nat.le_refl _)) (hI2.kept hb' (Nat.le_refl _)) (by omega))
      clear hI hI2
      generalize (rw_ ls k).length = n at *
      have hG := @cell_g
      go_wp2
      refine region_below (by kernel_rfl) (by kernel_rfl) ?_
      repeat (first | go_big_quiet_step ((go_at_call 18; exact met_at (fun w' hb' => HE.out w' hb'))))
      refine wpQuiet_nil ?_
      intro w1 hb1
      go_wp2
      go_roundw
      case rel => exact ⟨k + 1, by omega, by go_num, hb.trans (hb1.mono hb.size)⟩
      case measure => simp [intOf]; omega
    · go_wp2
      go_ret
      exact ⟨rfl, hb⟩

set_option maxHeartbeats 2000000 in
theorem szss_any (A : Option Addr) (cap : Nat) (ls : List (List Cp)) (r0 : Int) (w : World) (h : SAt w A ls) (hm : ls.length ≤ maxLen) (hr : ∀ i, i < ls.length → (rw_ ls i).length ≤ maxLen) (h0 : 0 ≤ r0) (h9 : r0 ≤ 1048576) :
    Calls Try.prog 23 #[.slice A ls.length cap, .int .i64 r0] w fun e w' => (∃ r : Int, e = .returned (.int .i64 r) ∧ (r < 0 ∨ (0 ≤ r ∧ r ≤ r0 ∧ ls.length ≤ 1048576 ∧ ∀ i, i < ls.length → (rw_ ls i).length ≤ 1048576))) ∧ Below w.heap.size w w' := by
  have HA := Lib.hid h
  have HR := Lib.hid hr
  clear h hr
  have hm' : ls.length ≤ 9223372036854775807 := by unfold maxLen at hm; omega
  clear hm
  by_cases hl : (ls.length : Int) ≤ r0
  · go_enter Try.func23, Try.ntmps23
    go_wp2
    go_loopw [1, 5] (fun r i wr => ∃ (k : Nat) (x : Int), k ≤ ls.length ∧ r = .int .i64 x ∧ 0 ≤ x ∧ x ≤ r0 ∧ i = .int .i64 k ∧ Hid (∀ i, i < k → (rw_ ls i).length ≤ 1048576) ∧ Below w.heap.size w wr) (fun _ i _ => ls.length - (intOf i).toNat)
    case atStart => exact ⟨0, r0 - (ls.length : Int), Nat.zero_le _, rfl, by omega, by omega, rfl, Lib.hid (fun i h => absurd h (by omega)), Below.refl _ _⟩
    case round =>
      obtain ⟨k, x, hk, rfl, hx0, hx9, rfl, hall, hb⟩ := hrel
      by_cases hlt : k < ls.length
      · obtain ⟨b, off, B, c, hA, hbl, c0, hI⟩ := (HA.out.kept hb (Nat.le_refl _)).at_ hlt
        subst hA
        have HC := Lib.hid (fun w => szcps_any B (rw_ ls k).length c x w (HR.out k hlt) hx0 (by omega))
        obtain ⟨n, hn⟩ : ∃ n, n = (rw_ ls k).length := ⟨_, rfl⟩
        rw [← hn] at c0 HC
        have HN := Lib.hid hn
        clear hI hn
        go_wp2_with (go_at_call 14; refine (HC.out _).mono ?_; rintro e w2 ⟨⟨r, rfl, hr⟩, hb2⟩; refine Hid.out ?_)
        by_cases hr0 : r < 0
        · refine Lib.hid ?_
          go_wp2
          go_ret
          exact ⟨⟨_, rfl, .inl (by omega)⟩, hb.trans (hb2.mono hb.size)⟩
        · obtain ⟨hr1, hr2, hr3⟩ : 0 ≤ r ∧ r ≤ x ∧ n ≤ 1048576 := by rcases hr with h | h; exact absurd h hr0; exact h
          have HX := Lib.hid (show ∀ i, i < k + 1 → (rw_ ls i).length ≤ 1048576 from fun i hi => by
            by_cases e : i = k
            · subst e; rw [← HN.out]; exact hr3
            · exact hall.out i (by omega))
          clear hr
          refine Lib.hid ?_
          go_wp2
          go_roundw
          case rel => exact ⟨k + 1, r, by omega, rfl, by omega, by omega, by go_num, HX, hb.trans (hb2.mono hb.size)⟩
          case measure => simp [intOf]; omega
      · have e : k = ls.length := by omega
        subst e
        go_wp2
        go_ret
        exact ⟨⟨_, rfl, .inr ⟨by omega, by omega, by omega, hall.out⟩⟩, hb⟩
  · go_enter Try.func23, Try.ntmps23
    go_wp2
    go_ret
    exact ⟨⟨_, rfl, .inl (by omega)⟩, Below.refl _ _⟩

/-- A row whose first k elements are copies of the curves, each in a block of its own. -/
def sfill (ls : List (List Cp)) (G : Nat → Nat) (k i : Nat) : Value := if i < k then .slice (some ⟨G i, 0, none⟩) (rw_ ls i).length (rw_ ls i).length else .slice none 0 0
def SFill (w : World) (g : Nat) (ls : List (List Cp)) (k : Nat) : Prop :=
  ∃ G : Nat → Nat, w.rowIs g 25 ls.length (sfill ls G k) ∧ ∀ i, i < k → g < G i ∧ G i < w.heap.size ∧ CAt w (some ⟨G i, 0, none⟩) (rw_ ls i)
theorem SFill.kept {w w' : World} {g k : Nat} {ls : List (List Cp)} (h : SFill w g ls k) (hb : Below w.heap.size w w') : SFill w' g ls k := by
  obtain ⟨G, hr, hG⟩ := h
  exact ⟨G, rowIs_below hr hb hr.lt, fun i hi => ⟨(hG i hi).1, Nat.lt_of_lt_of_le (hG i hi).2.1 hb.size, (hG i hi).2.2.kept hb (Nat.le_refl _)⟩⟩
theorem SFill.put {w : World} {g k x : Nat} {ls : List (List Cp)} (h : SFill w g ls k) (hx : g < x) (hxl : x < w.heap.size) (hc : CAt w (some ⟨x, 0, none⟩) (rw_ ls k)) :
    SFill (w.setCell ⟨g, k, none⟩ (.slice (some ⟨x, 0, none⟩) (rw_ ls k).length (rw_ ls k).length)) g ls (k + 1) := by
  obtain ⟨G, hr, hG⟩ := h
  have hgr := grown_set (grown_refl w (some g)) k (.slice (some ⟨x, 0, none⟩) (rw_ ls k).length (rw_ ls k).length)
  refine ⟨fun i => if i = k then x else G i, (hr.set k _).congr fun i _ => ?_, fun i hi => ?_⟩
  · unfold sfill
    by_cases e : i = k
    · subst e; simp
    · dsimp only
      rw [if_neg e]
      by_cases hi : i < k
      · rw [if_pos hi, if_pos (by omega), if_neg e]
      · rw [if_neg hi, if_neg (by omega)]
  · by_cases e : i = k
    · subst e
      dsimp only
      rw [if_pos rfl]
      exact ⟨hx, by simpa using hxl, hc.far hgr (by omega)⟩
    · dsimp only
      rw [if_neg e]
      obtain ⟨a, b, c⟩ := hG i (by omega)
      exact ⟨a, by simpa using b, c.far hgr (by omega)⟩
theorem SFill.all {w : World} {g k : Nat} {ls : List (List Cp)} (h : SFill w g ls k) (hk : ls.length ≤ k) (hrr : ∀ i, i < ls.length → (rw_ ls i).length ≤ 1048576) : SCp w (some ⟨g, 0, none⟩) ls := by
  obtain ⟨G, hr, hG⟩ := h
  refine .inr ⟨g, 0, rfl, hr.lt, fun i hi => ⟨some ⟨G i, 0, none⟩, (rw_ ls i).length, ?_, (hG i (by omega)).2.2, Nat.le_refl _, hrr i hi⟩⟩
  rw [Nat.zero_add, hr.cell hi]
  unfold sfill
  rw [if_pos (by omega)]
theorem infoCS : (Try.prog.info? 25).map (fun i => (i.zero, i.size, i.bytes)) = some (some (.slice none 0 0), 1, 24) := by kernel_rfl
theorem made_curves (w : World) (ls : List (List Cp)) : SFill (w.alloc (.cells (madeCells (Value.slice none 0 0).cells (ls.length * 1)) 25)) w.heap.size ls 0 := by
  refine ⟨fun _ => 0, ⟨_, Go.Deep.blk_alloc_new _ _, by rw [Nat.mul_one]; exact size_madeCells _ _, fun i hi => ?_⟩, fun i hi => absurd hi (by omega)⟩
  have e : sfill ls (fun _ => 0) 0 i = .slice none 0 0 := by unfold sfill; rw [if_neg (by omega)]
  rw [e, Nat.mul_one]
  have hz : (Value.slice none 0 0).cells = #[.slice none 0 0] := rfl
  rw [hz]
  simp only [madeCells]
  rw [Array.getElem?_map, Array.getElem?_range, if_pos hi]
  simp [Nat.mod_one]
set_option maxHeartbeats 2000000 in
theorem toss_any (A : Option Addr) (cap : Nat) (ls : List (List Cp)) (w : World) (h : SAt w A ls) (hn : ls.length ≤ 1048576) (hr : ∀ i, i < ls.length → (rw_ ls i).length ≤ 1048576) :
    Calls Try.prog 25 #[.slice A ls.length cap] w fun e w' => (∃ g, e = .returned (.slice (some ⟨g, 0, none⟩) ls.length ls.length) ∧ w.heap.size ≤ g ∧ SCp w' (some ⟨g, 0, none⟩) ls) ∧ Below w.heap.size w w' := by
  have HA := Lib.hid h
  have HR := Lib.hid hr
  clear h hr
  have hmk : ∃ w1 : World, (Instr.makeSlice 35 (.int .i64 (ls.length : Int)) (.int .i64 (ls.length : Int))).run Try.prog w = .ok (.slice (some ⟨w.heap.size, 0, none⟩) ls.length ls.length) w1 ∧ SFill w1 w.heap.size ls 0 ∧ Below w.heap.size w w1 := by
    obtain ⟨i0, hi, hz0, hz1, hz2⟩ := info_parts infoCS
    have hr := run_make (P := Try.prog) w 35 25 i0 _ Try.underlying35 hi hz0 .i64 .i64 ls.length ls.length (by omega) (Int.le_refl _) (by rw [hz2]; omega) (by omega)
    simp only [Int.toNat_natCast] at hr
    rw [hz1] at hr
    exact ⟨_, hr, made_curves _ _, (Below.refl _ _).alloc (Nat.le_refl _) _⟩
  obtain ⟨w1, hmk, hrow, hb1⟩ := hmk
  have HRW := Lib.hid hrow
  clear hrow
  go_enter Try.func25, Try.ntmps25
  go_wp2
  clear hmk
  go_loopw [4] (fun i wr => ∃ k : Nat, k ≤ ls.length ∧ i = .int .i64 k ∧ Hid (SFill wr w.heap.size ls k) ∧ Below w.heap.size w wr) (fun i _ => ls.length - (intOf i).toNat)
  case atStart => exact ⟨0, Nat.zero_le _, rfl, HRW, hb1⟩
  case round =>
    obtain ⟨k, hk, rfl, hrow, hb⟩ := hrel
    by_cases hlt : k < ls.length
    · obtain ⟨b, off, B, c, hA, hbl, c0, hI⟩ := (HA.out.kept hb (Nat.le_refl _)).at_ hlt
      subst hA
      have HT := Lib.hid (tocps_any B c (rw_ ls k) wr hI (HR.out k hlt))
      have HP := Lib.hid (fun (w2 : World) (x : Nat) (h : SFill w2 w.heap.size ls k) => h.put (x := x))
      generalize (rw_ ls k).length = n at *
      have hgl : w.heap.size < wr.heap.size := by obtain ⟨G, hr, _⟩ := hrow.out; exact hr.lt
      clear hI
      go_wp2_with (go_at_call 16; refine HT.out.mono ?_; rintro e w2 ⟨⟨g, rfl, hg, hrw⟩, hb2⟩; have HROW := Lib.hid hrw; have HF := Lib.hid (hrow.out.kept hb2); have hcell : ∃ u, w2.cell? ⟨w.heap.size, k, none⟩ = some u := (by obtain ⟨G, hr, _⟩ := HF.out; exact ⟨_, hr.cell hlt⟩); have hfz : ∀ o, w2.frozen? ⟨w.heap.size, o, none⟩ = false := (fun o => by obtain ⟨G, hr, _⟩ := HF.out; exact hr.frozen o); obtain ⟨u, hu⟩ := hcell; clear hrw)
      have hst' := HP.out w2 g HF.out (by omega) HROW.out.lt HROW.out.at_
      go_roundw
      case rel => exact ⟨k + 1, by omega, by go_num, Lib.hid hst', (hb.trans (hb2.mono (by omega))).setCell (p := ⟨w.heap.size, k, none⟩) (Nat.le_refl _) _⟩
      case measure => simp [intOf]; omega
    · have hfin := Lib.hid (hrow.out.all (by omega) HR.out)
      go_wp2
      go_ret
      exact ⟨⟨_, rfl, Nat.le_refl _, hfin.out⟩, hb⟩

section
variable {H : Type} {enc : TypeId × Value → H} {w : World}
set_option maxRecDepth 100000 in
theorem curves_at {fuel : Nat} {v : Value} {x : DataW H × List MemPlace} (h : DataW.trod enc Try.prog w 0 (fun _ => true) true fuel 32 [v] = some x) :
    ∃ (A : Option Addr) (cap : Nat) (ls : List (List Cp)), v = .slice A ls.length cap ∧ SAt w A ls ∧ ls.length ≤ maxLen ∧ ∀ i, i < ls.length → (rw_ ls i).length ≤ maxLen := by
  rcases open_slice Try.underlying32 h with ⟨hcs, _⟩ | ⟨a, len, cap, m, n, D, Pl, hcs, _, hl, hm, hmm, _, hi⟩
  · injection hcs with hcs
    exact ⟨none, 0, [], hcs, .inl rfl, by simp, fun i h => absurd h (by simp)⟩
  · injection hcs with hcs
    have hm' : len ≤ m := by rw [hmm]; split <;> omega
    have h4 : Try.prog.cellsOf 22 = 1 := by kernel_rfl
    have hq : ∀ i, ∃ q : Option Addr × Nat × List Cp, i < len → w.cell? (a.add i) = some (.slice q.1 q.2.2.length q.2.1) ∧ CAt w q.1 q.2.2 ∧ q.2.2.length ≤ maxLen := by
      intro i
      by_cases hil : i < len
      · obtain ⟨cs', hc, ht⟩ := hi i (by omega)
        rw [h4] at hc
        obtain ⟨h5, _, hat⟩ := World.cells?_some hc
        match cs', h5 with
        | [c], _ =>
          obtain ⟨B, cp, cs, rfl, hC, hM⟩ := cps_open ht
          refine ⟨(B, cp, cs), fun _ => ⟨?_, hC, hM⟩⟩
          have := hat 0 (by simp)
          simpa [Addr.add] using this
      · exact ⟨(none, 0, []), fun h => absurd h hil⟩
    obtain ⟨f, hf⟩ := Classical.axiomOfChoice hq
    have hlen : ((List.range len).map fun i => (f i).2.2).length = len := by simp
    have hrow : ∀ i, i < len → rw_ ((List.range len).map fun i => (f i).2.2) i = (f i).2.2 := fun i hi => by simp [rw_, List.getD, hi]
    refine ⟨some a, cap, (List.range len).map fun i => (f i).2.2, by rw [hcs, hlen], ?_, by rw [hlen]; omega, fun i hi' => by rw [hlen] at hi'; rw [hrow i hi']; exact (hf i hi').2.2⟩
    by_cases h0 : len = 0
    · subst h0; exact .inl rfl
    · obtain ⟨b, off, spot⟩ := a
      have hspot : spot = none := by
        have := (hf 0 (by omega)).1
        simpa [Addr.add] using World.cell?_spot this
      subst hspot
      have hbl : b < w.heap.size := by
        have := World.block_lt_of_cell? w _ (hf 0 (by omega)).1
        rw [add_plus] at this
        exact this
      refine .inr ⟨b, off, rfl, hbl, fun i hi' => ?_⟩
      rw [hlen] at hi'
      rw [hrow i hi']
      have := (hf i hi').1
      rw [add_plus] at this
      exact ⟨_, _, this, (hf i hi').2.1⟩
set_option maxRecDepth 100000 in
theorem curves_open {r : Reach} {b0 : Nat} {v : Value} {d : DataW H} {p : List MemPlace} (hv : Value.okWide Try.prog w r b0 32 v) (h : DataW.Trod enc Try.prog w 0 (fun _ => true) true 32 v d p) :
    ∃ (A : Option Addr) (cap : Nat) (ls : List (List Cp)), v = .slice A ls.length cap ∧ SAt w A ls ∧ ls.length ≤ maxLen ∧ ∀ i, i < ls.length → (rw_ ls i).length ≤ maxLen := by
  obtain ⟨a, len, cp, rfl⟩ := okWide_slice Try.underlying32 hv
  obtain ⟨fuel, h⟩ := h
  exact curves_at (v := .slice a len cp) h
end
end Go.Proofs.Ytmehhojnefoedaa.S7
