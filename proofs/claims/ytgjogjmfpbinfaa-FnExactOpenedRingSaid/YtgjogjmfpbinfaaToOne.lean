/- The laws' copies of pipes and networks: contracts. Conditions: each theorem's own premises. -/
import Derived.Test.YtgjogjmfpbinfaaGoodOne
import Derived.Deep.OwnRows
namespace Go.Proofs.Ytgjogjmfpbinfaa.S2
open Go.RowKit P2

/-- The cells of a row of pipes. -/
def pcell (ps : List Pp) (i : Nat) : Value :=
  .int .i64 (if i % 4 = 0 then (pAt ps (i / 4)).id else if i % 4 = 1 then (pAt ps (i / 4)).fr else if i % 4 = 2 then (pAt ps (i / 4)).to else (pAt ps (i / 4)).sz)
theorem pcell0 (ps : List Pp) (i : Nat) : pcell ps (i * 4) = .int .i64 (pAt ps i).id := by
  have a : i * 4 % 4 = 0 := by omega
  have b : i * 4 / 4 = i := by omega
  simp [pcell, a, b]
theorem pcell1 (ps : List Pp) (i : Nat) : pcell ps (i * 4 + 1) = .int .i64 (pAt ps i).fr := by
  have a : (i * 4 + 1) % 4 = 1 := by omega
  have b : (i * 4 + 1) / 4 = i := by omega
  simp [pcell, a, b]
theorem pcell2 (ps : List Pp) (i : Nat) : pcell ps (i * 4 + 2) = .int .i64 (pAt ps i).to := by
  have a : (i * 4 + 2) % 4 = 2 := by omega
  have b : (i * 4 + 2) / 4 = i := by omega
  simp [pcell, a, b]
theorem pcell3 (ps : List Pp) (i : Nat) : pcell ps (i * 4 + 3) = .int .i64 (pAt ps i).sz := by
  have a : (i * 4 + 3) % 4 = 3 := by omega
  have b : (i * 4 + 3) / 4 = i := by omega
  simp [pcell, a, b]

/-- A row of pipes in a block of its own. -/
def PRow (w : World) (g : Nat) (ps : List Pp) : Prop := w.rowIs g 75 (ps.length * 4) (pcell ps)
theorem PRow.at_ {w : World} {g : Nat} {ps : List Pp} (h : PRow w g ps) : PAt w (some ⟨g, 0, none⟩) ps := by
  refine .inr ⟨g, 0, rfl, h.lt, fun i hi => ?_⟩
  simp only [Nat.zero_add]
  rw [h.cell (by omega), h.cell (by omega), h.cell (by omega), h.cell (by omega), pcell0, pcell1, pcell2, pcell3]
  exact ⟨rfl, rfl, rfl, rfl⟩
theorem rowIs_below {w w' : World} {B g n : Nat} {t : TypeId} {f : Nat → Value} (h : w.rowIs g t n f) (hb : Below B w w') (hg : g < B) : w'.rowIs g t n f := h.of_block (hb.block g hg)
theorem PRow.kept {w w' : World} {B g : Nat} {ps : List Pp} (h : PRow w g ps) (hb : Below B w w') (hg : g < B) : PRow w' g ps := rowIs_below h hb hg

/-- The first k pipes are written. -/
def fill (ps : List Pp) (k : Nat) (i : Nat) : Value := if i < k * 4 then pcell ps i else .int .i64 0
theorem fill_step {w : World} {g n : Nat} {t : TypeId} {ps : List Pp} {k : Nat} (h : w.rowIs g t n (fill ps k)) :
    ((((w.setCell ⟨g, k * 4, none⟩ (.int .i64 (pAt ps k).id)).setCell ⟨g, k * 4 + 1, none⟩ (.int .i64 (pAt ps k).fr)).setCell ⟨g, k * 4 + 2, none⟩ (.int .i64 (pAt ps k).to)).setCell ⟨g, k * 4 + 3, none⟩ (.int .i64 (pAt ps k).sz)).rowIs g t n (fill ps (k + 1)) := by
  refine ((((h.set _ _).set _ _).set _ _).set _ _).congr fun i _ => ?_
  unfold fill
  by_cases h3 : i = k * 4 + 3
  · subst h3; rw [if_pos rfl, if_pos (by omega), pcell3]
  · rw [if_neg h3]
    by_cases h2 : i = k * 4 + 2
    · subst h2; rw [if_pos rfl, if_pos (by omega), pcell2]
    · rw [if_neg h2]
      by_cases h1 : i = k * 4 + 1
      · subst h1; rw [if_pos rfl, if_pos (by omega), pcell1]
      · rw [if_neg h1]
        by_cases h0 : i = k * 4
        · subst h0; rw [if_pos rfl, if_pos (by omega), pcell0]
        · rw [if_neg h0]
          by_cases hk : i < k * 4
          · rw [if_pos hk, if_pos (by omega)]
          · rw [if_neg hk, if_neg (by omega)]
theorem fill_all {w : World} {g : Nat} {t : TypeId} {ps : List Pp} {k : Nat} (h : w.rowIs g t (ps.length * 4) (fill ps k)) (hk : ps.length ≤ k) : w.rowIs g t (ps.length * 4) (pcell ps) :=
  h.congr fun i hi => by unfold fill; rw [if_pos (by omega)]

theorem infoP : (Try.prog.info? 75).map (fun i => (i.zero, i.size, i.bytes)) = some (some (.agg #[.int .i64 0, .int .i64 0, .int .i64 0, .int .i64 0]), 4, 32) := by kernel_rfl

theorem topipe_any (p : Pp) (w : World) :
    Calls Try.prog 201 #[pv p] w fun e w' => e = .returned (pv p) ∧ Below w.heap.size w w' := by
  obtain ⟨id, fr, to, sz⟩ := p
  go_enter Try.func201, Try.ntmps201
  go_wp2
  refine bodyPost_ret (v := .agg #[.int .i64 id, .int .i64 fr, .int .i64 to, .int .i64 sz]) (by simp [results, Try.results201, go_sem]) rfl ⟨rfl, ?_⟩
  exact (((Below.refl _ _).alloc (Nat.le_refl _) _).alloc (by simp) _).alloc (by simp; omega) _

theorem made_pipes (w : World) (ps : List Pp) : (w.alloc (.cells (madeCells (Value.agg #[.int .i64 0, .int .i64 0, .int .i64 0, .int .i64 0]).cells (ps.length * 4)) 75)).rowIs w.heap.size 75 (ps.length * 4) (fill ps 0) := by
  refine ⟨_, Go.Deep.blk_alloc_new _ _, size_madeCells _ _, fun i hi => ?_⟩
  have e : fill ps 0 i = .int .i64 0 := by unfold fill; rw [if_neg (by omega)]
  rw [e]
  have h4 : i % 4 < 4 := Nat.mod_lt _ (by omega)
  have hz : (Value.agg #[.int .i64 0, .int .i64 0, .int .i64 0, .int .i64 0]).cells = #[.int .i64 0, .int .i64 0, .int .i64 0, .int .i64 0] := rfl
  rw [hz]
  simp only [madeCells]
  rw [Array.getElem?_map, Array.getElem?_range, if_pos hi]
  simp only [Option.map_some]
  congr 1
  show (#[Value.int .i64 0, .int .i64 0, .int .i64 0, .int .i64 0])[i % 4]! = _
  generalize i % 4 = r at h4
  match r, h4 with
  | 0, _ => rfl
  | 1, _ => rfl
  | 2, _ => rfl
  | 3, _ => rfl

set_option maxHeartbeats 1000000 in
theorem topipes_any (A : Option Addr) (cap : Nat) (ps : List Pp) (w : World) (h : PAt w A ps) (hn : ps.length ≤ 1048576) :
    Calls Try.prog 114 #[.slice A ps.length cap] w fun e w' => (∃ g, e = .returned (.slice (some ⟨g, 0, none⟩) ps.length ps.length) ∧ w.heap.size ≤ g ∧ PRow w' g ps) ∧ Below w.heap.size w w' := by
  have HA := Lib.hid h
  clear h
  have hmk : ∃ w1 : World, (Instr.makeSlice 28 (.int .i64 (ps.length : Int)) (.int .i64 (ps.length : Int))).run Try.prog w = .ok (.slice (some ⟨w.heap.size, 0, none⟩) ps.length ps.length) w1 ∧ w1.rowIs w.heap.size 75 (ps.length * 4) (fill ps 0) ∧ Below w.heap.size w w1 := by
    obtain ⟨i0, hi, hz0, hz1, hz2⟩ := info_parts infoP
    have hr := run_make (P := Try.prog) w 28 75 i0 _ Try.underlying28 hi hz0 .i64 .i64 ps.length ps.length (by omega) (Int.le_refl _) (by rw [hz2]; omega) (by omega)
    simp only [Int.toNat_natCast] at hr
    rw [hz1] at hr
    exact ⟨_, hr, made_pipes _ _, (Below.refl _ _).alloc (Nat.le_refl _) _⟩
  obtain ⟨w1, hmk, hrow, hb1⟩ := hmk
  have HR := Lib.hid hrow
  clear hrow
  go_enter Try.func114, Try.ntmps114
  go_wp2
  clear hmk
  go_loopw [4] (fun i wr => ∃ k : Nat, k ≤ ps.length ∧ i = .int .i64 k ∧ Hid (wr.rowIs w.heap.size 75 (ps.length * 4) (fill ps k)) ∧ Below w.heap.size w wr) (fun i _ => ps.length - (intOf i).toNat)
  case atStart => exact ⟨0, Nat.zero_le _, rfl, HR, hb1⟩
  case round =>
    obtain ⟨k, hk, rfl, hrow, hb⟩ := hrel
    by_cases hlt : k < ps.length
    · obtain ⟨b, off, hA, hbl, h0, h1, h2, h3⟩ := HA.out.at_ hlt
      subst hA
      obtain ⟨hc, hf⟩ := bcell hb
      have hgl := hrow.out.lt
      have H1 := Lib.hid (fun w => topipe_any (pAt ps k) w)
      have hst := Lib.hid (fun (w1 : World) (h : w1.rowIs w.heap.size 75 (ps.length * 4) (fill ps k)) => fill_step h)
      generalize pAt ps k = p at *
      go_wp2_with (go_at_call 201; refine (H1.out _).mono ?_; rintro e w2 ⟨rfl, hb2⟩; have hrow2 := Lib.hid (rowIs_below hrow.out hb2 hgl); have hfz : ∀ o, w2.frozen? ⟨w.heap.size, o, none⟩ = false := fun o => hrow2.out.frozen o; have c0 := hrow2.out.cell (i := k * 4) (by omega); have c1 := hrow2.out.cell (i := k * 4 + 1) (by omega); have c2 := hrow2.out.cell (i := k * 4 + 2) (by omega); have c3 := hrow2.out.cell (i := k * 4 + 3) (by omega))
      have hst' := hst.out _ hrow2.out
      go_roundw
      case rel => exact ⟨k + 1, by omega, by go_num, Lib.hid hst', ((((hb.trans (hb2.mono (by omega))).setCell (p := ⟨w.heap.size, k * 4, none⟩) (Nat.le_refl _) _).setCell (p := ⟨w.heap.size, k * 4 + 1, none⟩) (Nat.le_refl _) _).setCell (p := ⟨w.heap.size, k * 4 + 2, none⟩) (Nat.le_refl _) _).setCell (p := ⟨w.heap.size, k * 4 + 3, none⟩) (Nat.le_refl _) _⟩
      case measure => simp [intOf]; omega
    · have hfin := Lib.hid (fill_all hrow.out (by omega))
      go_wp2
      go_ret
      exact ⟨⟨_, rfl, Nat.le_refl _, hfin.out⟩, hb⟩

/-- A result that is a network's copy. -/
def ToPost (n : Int) (ps : List Pp) (w : World) (e : Ending) (w' : World) : Prop := (∃ g, e = .returned (nv n (some ⟨g, 0, none⟩) ps.length ps.length) ∧ w.heap.size ≤ g ∧ PRow w' g ps) ∧ Below w.heap.size w w'

set_option maxHeartbeats 1000000 in
theorem tonet_any (n : Int) (A : Option Addr) (cap : Nat) (ps : List Pp) (w : World) (h : PAt w A ps) (hn : ps.length ≤ 1048576) :
    Calls Try.prog 21 #[nv n A ps.length cap] w (ToPost n ps w) := by
  have H := Lib.hid (fun w' (hb : Below w.heap.size w w') => topipes_any A cap ps w' (h.kept hb (Nat.le_refl _)) hn)
  clear h
  go_enter Try.func21, Try.ntmps21
  go_wp2_with (go_at_call 114; refine (H.out _ ?_).mono ?_; (exact ((((Below.refl _ _).alloc (Nat.le_refl _) _).alloc (by simp) _).alloc (by simp; omega) _)); rintro e w1 ⟨⟨g, rfl, hg, hrow⟩, hb1⟩; obtain ⟨hc, hf⟩ := bcell hb1)
  have hg' : w.heap.size + 3 ≤ g := by simp at hg; omega
  refine bodyPost_ret (v := nv n (some ⟨g, 0, none⟩) ps.length ps.length) (by simp [results, Try.results21, go_sem, hc]) rfl ⟨⟨g, rfl, by omega, ?_⟩, ?_⟩
  · exact ((hrow.setOther (by show g ≠ w.heap.size + 1 + 1; omega) _).setOther (by show g ≠ w.heap.size + 1; omega) _).setOther (by show g ≠ w.heap.size + 1; omega) _
  · exact ((((((Below.refl _ _).alloc (Nat.le_refl _) _).alloc (by simp) _).alloc (by simp; omega) _).trans (hb1.mono (by simp; omega))).setCell (by show w.heap.size ≤ w.heap.size + 1 + 1; omega) _ |>.setCell (by show w.heap.size ≤ w.heap.size + 1; omega) _).setCell (by show w.heap.size ≤ w.heap.size + 1; omega) _

theorem szpipes_any (A : Option Addr) (len cap : Nat) (w : World) (hm : len ≤ maxLen) :
    Calls Try.prog 111 #[.slice A len cap, .int .i64 1048576] w fun e w' => (∃ r : Int, e = .returned (.int .i64 r) ∧ (r < 0 ∨ (0 ≤ r ∧ len ≤ 1048576))) ∧ w' = w := by
  unfold maxLen at hm
  by_cases h0 : len ≤ 1048576
  · go_enter Try.func111, Try.ntmps111
    go_wp2
    go_ret
    exact ⟨⟨_, rfl, .inr ⟨by omega, h0⟩⟩, rfl⟩
  · go_enter Try.func111, Try.ntmps111
    go_wp2
    go_ret
    exact ⟨⟨_, rfl, .inl (by omega)⟩, rfl⟩
theorem sznet_any (n : Int) (A : Option Addr) (len cap : Nat) (w : World) (hm : len ≤ maxLen) :
    Calls Try.prog 19 #[nv n A len cap, .int .i64 1048576] w fun e w' => (∃ r : Int, e = .returned (.int .i64 r) ∧ (r < 0 ∨ (0 ≤ r ∧ len ≤ 1048576))) ∧ Below w.heap.size w w' := by
  have H := Lib.hid (fun w => szpipes_any A len cap w hm)
  clear hm
  go_enter Try.func19, Try.ntmps19
  go_wp2_with (go_at_call 111; refine (H.out _).mono ?_; rintro e w1 ⟨⟨r, rfl, hr⟩, rfl⟩)
  all_goals
    go_ret
    first
      | exact ⟨⟨_, rfl, hr⟩, (Below.refl _ _).alloc (Nat.le_refl _) _⟩
      | exact ⟨⟨_, rfl, .inl (by omega)⟩, (Below.refl _ _).alloc (Nat.le_refl _) _⟩
end Go.Proofs.Ytgjogjmfpbinfaa.S2
