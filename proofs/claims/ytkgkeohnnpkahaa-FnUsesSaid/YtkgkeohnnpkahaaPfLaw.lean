/- The laws' helpers on profiles: sizes, copies, comparisons, marks written and found; what calls give; boxes of one cell. Conditions: each theorem's own premises. -/
import Derived.Test.YtkgkeohnnpkahaaPfGood
namespace Go.Proofs.Ytkgkeohnnpkahaa.S6
open Go.RowKit P6

/-! ### Boxes of one cell -/
theorem on_base {w0 a b : World} {S : Nat} (h : Below S w0 a) (hS : S ≤ w0.heap.size) (hb : Below a.heap.size a b) : Below S w0 b :=
  h.trans (hb.mono (Nat.le_trans hS h.size))
theorem box_at {w : World} {x : Value} {t : TypeId} : (w.alloc (.cells #[x] t)).cell? ⟨w.heap.size, 0, none⟩ = some x := by
  rw [World.cell?_alloc_at _ _ _ _ rfl]; rfl
theorem alloc_below (w : World) (o : Obj) : Below w.heap.size w (w.alloc o) := (Below.refl _ _).alloc (Nat.le_refl _) o
theorem alloc_size (w : World) (o : Obj) : (w.alloc o).heap.size = w.heap.size + 1 := by simp
theorem box21 {w w' : World} {x y : Value} {t u : TypeId} (h : Below (w.heap.size + 2) ((w.alloc (.cells #[x] t)).alloc (.cells #[y] u)) w') : w'.cell? ⟨w.heap.size, 0, none⟩ = some x ∧ w'.cell? ⟨w.heap.size + 1, 0, none⟩ = some y := by
  have h0 := h.cell (p := ⟨w.heap.size, 0, none⟩) (by show w.heap.size < w.heap.size + 2; omega)
  have h1 := h.cell (p := ⟨w.heap.size + 1, 0, none⟩) (by show w.heap.size + 1 < w.heap.size + 2; omega)
  have e1 : (w.alloc (.cells #[x] t)).heap.size = w.heap.size + 1 := by simp
  rw [h0, h1, World.cell?_alloc_past (w := w.alloc (.cells #[x] t)) _ _ _ (by simp), World.cell?_alloc_at _ _ _ _ rfl, World.cell?_alloc_at (w := w.alloc (.cells #[x] t)) _ _ _ _ e1.symm]
  exact ⟨rfl, rfl⟩
theorem under2 {w w' : World} {o o2 : Obj} (h : Below (w.heap.size + 2) ((w.alloc o).alloc o2) w') : Below w.heap.size w w' :=
  (((Below.refl _ _).alloc (Nat.le_refl _) o).alloc (by simp) o2).trans (h.mono (by omega))

/-! ### What a call gives -/
def GivesPA (w : World) (l : List Int) (ok : Bool) (e : Ending) (w' : World) : Prop :=
  ∃ g o cap, e = .returned (.tuple #[dv (some ⟨g, o, none⟩) l.length cap, .bool ok]) ∧ w.heap.size ≤ g ∧ IAt w' (some ⟨g, o, none⟩) l ∧ Below w.heap.size w w' ∧ g < w'.heap.size
def GivesPI (w : World) (l : List Int) (ok : Bool) (e : Ending) (w' : World) : Prop :=
  ∃ g cap, e = .returned (.tuple #[dv (some ⟨g, 0, none⟩) l.length cap, .bool ok]) ∧ w.heap.size ≤ g ∧ IOwn w' w.heap.size (.slice (some ⟨g, 0, none⟩) l.length cap) l ∧ Below w.heap.size w w'
def GivesP1A (w : World) (l : List Int) (e : Ending) (w' : World) : Prop :=
  ∃ g o cap, e = .returned (dv (some ⟨g, o, none⟩) l.length cap) ∧ w.heap.size ≤ g ∧ IAt w' (some ⟨g, o, none⟩) l ∧ Below w.heap.size w w' ∧ g < w'.heap.size
def GivesP1I (w : World) (l : List Int) (e : Ending) (w' : World) : Prop :=
  ∃ g cap, e = .returned (dv (some ⟨g, 0, none⟩) l.length cap) ∧ w.heap.size ≤ g ∧ IOwn w' w.heap.size (.slice (some ⟨g, 0, none⟩) l.length cap) l ∧ Below w.heap.size w w'
def GivesPN (w : World) (e : Ending) (w' : World) : Prop := e = .returned (.tuple #[dv none 0 0, .bool false]) ∧ Below w.heap.size w w'
theorem GivesPI.any {w : World} {l : List Int} {ok : Bool} {e : Ending} {w' : World} (h : GivesPI w l ok e w') : GivesPA w l ok e w' := by
  obtain ⟨g, cap, he, hg, ho, hb⟩ := h
  exact ⟨g, 0, cap, he, hg, ho.iat, hb, (World.ownsRow.lt ho g rfl).2⟩
theorem GivesP1I.any {w : World} {l : List Int} {e : Ending} {w' : World} (h : GivesP1I w l e w') : GivesP1A w l e w' := by
  obtain ⟨g, cap, he, hg, ho, hb⟩ := h
  exact ⟨g, 0, cap, he, hg, ho.iat, hb, (World.ownsRow.lt ho g rfl).2⟩

/-! ### Sizes, copies, comparisons -/
theorem szints_any (A : Option Addr) (len cap : Nat) (left : Int) (w : World) (hm : len ≤ maxLen) (h0 : 0 ≤ left) (h9 : left ≤ 1048576) :
    Calls Try.prog 80 #[.slice A len cap, .int .i64 left] w fun e w' => (∃ r : Int, e = .returned (.int .i64 r) ∧ (r < 0 ∨ (0 ≤ r ∧ r ≤ 1048576 ∧ len ≤ 1048576))) ∧ w' = w := by
  unfold maxLen at hm
  by_cases hl : (len : Int) ≤ left
  · go_enter Try.func80, Try.ntmps80
    go_wp2
    go_ret
    exact ⟨⟨_, rfl, .inr ⟨by omega, by omega, by omega⟩⟩, rfl⟩
  · go_enter Try.func80, Try.ntmps80
    go_wp2
    go_ret
    exact ⟨⟨_, rfl, .inl (by omega)⟩, rfl⟩
theorem szprof_any (A : Option Addr) (len cap : Nat) (left : Int) (w : World) (hm : len ≤ maxLen) (h0 : 0 ≤ left) (h9 : left ≤ 1048576) :
    Calls Try.prog 44 #[dv A len cap, .int .i64 left] w fun e w' => (∃ r : Int, e = .returned (.int .i64 r) ∧ (r < 0 ∨ (0 ≤ r ∧ r ≤ 1048576 ∧ len ≤ 1048576))) ∧ Below w.heap.size w w' := by
  have H := Lib.hid (fun w => szints_any A len cap left w hm h0 h9)
  clear hm
  go_enter Try.func44, Try.ntmps44
  go_wp2_with (go_at_call 80; refine (H.out _).mono ?_; rintro e w1 ⟨⟨r, rfl, hr⟩, rfl⟩)
  all_goals
    go_ret
    first
      | exact ⟨⟨_, rfl, hr⟩, (Below.refl _ _).alloc (Nat.le_refl _) _⟩
      | exact ⟨⟨_, rfl, .inl (by omega)⟩, (Below.refl _ _).alloc (Nat.le_refl _) _⟩

set_option maxHeartbeats 1000000 in
theorem toprof_any (A : Option Addr) (cap : Nat) (l : List Int) (w : World) (h : IAt w A l) (hn : l.length ≤ 1048576) :
    Calls Try.prog 46 #[dv A l.length cap] w fun e w' => (∃ g, e = .returned (dv (some ⟨g, 0, none⟩) l.length l.length) ∧ w.heap.size ≤ g ∧ IOwn w' w.heap.size (.slice (some ⟨g, 0, none⟩) l.length l.length) l) ∧ Below w.heap.size w w' := by
  have H := Lib.hid (fun w' (hb : Below w.heap.size w w') => toints_any A cap l w' (h.kept hb (Nat.le_refl _)) hn)
  clear h
  go_enter Try.func46, Try.ntmps46
  go_wp2_with (go_at_call 81; refine (H.out _ ?_).mono ?_; (exact ((((Below.refl _ _).alloc (Nat.le_refl _) _).alloc (by simp) _).alloc (by simp; omega) _)); rintro e w1 ⟨⟨g, rfl, hg, hrow⟩, hb1⟩; obtain ⟨hc, hf⟩ := bcell hb1)
  have hg' : w.heap.size + 3 ≤ g := by simp at hg; omega
  have hsz : (((w.alloc (.cells #[.slice A l.length cap] 49)).alloc (.cells #[.slice none 0 0] 26)).alloc (.cells #[.slice none 0 0] 26)).heap.size = w.heap.size + 3 := by simp
  refine bodyPost_ret (v := dv (some ⟨g, 0, none⟩) l.length l.length) (by simp [results, Try.results46, go_sem, hc]) rfl ⟨⟨g, rfl, by omega, ?_⟩, ?_⟩
  · have hlow := own_lower (B' := w.heap.size) hrow (by simp; omega)
    refine IOwn.far (x := w.heap.size + 1) (IOwn.far (x := w.heap.size + 1 + 1) hlow (grown_set (grown_refl _ _) _ _) (by omega)) (grown_set (grown_refl _ _) _ _) (by omega)
  · exact (((((Below.refl _ _).alloc (Nat.le_refl _) _).alloc (by simp) _).alloc (by simp; omega) _).trans (hb1.mono (by simp; omega))).setCell (by show w.heap.size ≤ w.heap.size + 1 + 1; omega) _ |>.setCell (by show w.heap.size ≤ w.heap.size + 1; omega) _

theorem eqprof_same (A A2 : Option Addr) (cap cap2 : Nat) (l : List Int) (w : World) (h : IAt w A l) (h2 : IAt w A2 l) (hn : l.length ≤ 1048576) :
    Calls Try.prog 47 #[dv A l.length cap, dv A2 l.length cap2] w fun e w' => e = .returned (.bool true) ∧ Below w.heap.size w w' := by
  have H := Lib.hid (fun w' (hb : Below w.heap.size w w') => eqints_same A A2 cap cap2 l w' (h.kept hb (Nat.le_refl _)) (h2.kept hb (Nat.le_refl _)) hn)
  clear h h2
  go_enter Try.func47, Try.ntmps47
  go_wp2_with (go_at_call 51; refine (H.out _ ?_).mono ?_; (exact ((Below.refl _ _).alloc (Nat.le_refl _) _).alloc (by simp) _); rintro e w1 ⟨rfl, hb1⟩)
  go_ret
  exact ⟨rfl, (((Below.refl _ _).alloc (Nat.le_refl _) _).alloc (by simp) _).trans (hb1.mono (by simp; omega))⟩

/-! ### Marks -/
theorem markprof_i (B g cap m : Nat) (mi : Int) (l : List Int) (w : World) (h : IOwn w B (.slice (some ⟨g, 0, none⟩) l.length cap) l) (hn : l.length ≤ 1048576) (hm : m ≤ 104857600) (hmi : mi = (m : Int)) :
    Calls Try.prog 49 #[dv (some ⟨g, 0, none⟩) l.length cap, .int .i64 mi] w fun e w' => e = .returned (.int .i64 (mi + (l.length : Int))) ∧ IOwn w' B (.slice (some ⟨g, 0, none⟩) l.length cap) (marksI m l.length) ∧ w.grownBy w' (some g) := by
  have H := Lib.hid (fun w' (hb : Below w.heap.size w w') => markints_i B g cap m mi l w' (h.on hb) hn hm hmi)
  clear h hmi hn hm
  generalize mi + (l.length : Int) = z at *
  go_enter Try.func49, Try.ntmps49
  go_wp2_with (go_at_call 52; refine (H.out _ ?_).mono ?_; (exact (Below.refl _ _).alloc (Nat.le_refl _) _); rintro e w1 ⟨rfl, ho1, hg1⟩)
  go_ret
  refine ⟨rfl, ho1, ⟨hg1.os, hg1.tape, hg1.output, by have := hg1.size; simp at this; omega, fun k hk hne => ?_⟩⟩
  rw [hg1.block k (by simp; omega) hne]
  exact ((Below.refl w.heap.size w).alloc (Nat.le_refl _) _).block k hk
theorem heldprof_i (A : Option Addr) (cap m n : Nat) (mi : Int) (w : World) (h : IAt w A (marksI m n)) (hn : n ≤ 1048576) (hm : m ≤ 1048576) (hmi : mi = (m : Int)) :
    Calls Try.prog 50 #[dv A n cap, .int .i64 mi] w fun e w' => e = .returned (.int .i64 (mi + (n : Int))) ∧ Below w.heap.size w w' := by
  have H := Lib.hid (fun w' (hb : Below w.heap.size w w') => heldints_i A cap m n mi w' (h.kept hb (Nat.le_refl _)) hn hm hmi)
  have h0 : 0 ≤ mi + (n : Int) := by omega
  clear h hmi hn hm
  generalize mi + (n : Int) = z at *
  go_enter Try.func50, Try.ntmps50
  go_wp2_with (go_at_call 53; refine (H.out _ ?_).mono ?_; (exact (Below.refl _ _).alloc (Nat.le_refl _) _); rintro e w1 ⟨rfl, hb1⟩)
  go_ret
  exact ⟨rfl, ((Below.refl _ _).alloc (Nat.le_refl _) _).trans (hb1.mono (by simp))⟩
theorem markints_nil (m : Int) (w : World) :
    Calls Try.prog 52 #[.slice none 0 0, .int .i64 m] w fun e w' => e = .returned (.int .i64 m) ∧ w' = w := by
  go_enter Try.func52, Try.ntmps52
  go_wp2
  go_loopw [1, 5] (fun k i wr => k = .int .i64 m ∧ i = .int .i64 0 ∧ wr = w) (fun _ _ _ => 0)
  case atStart => exact ⟨rfl, rfl, rfl⟩
  case round =>
    obtain ⟨rfl, rfl, rfl⟩ := hrel
    go_wp2
    go_ret
    exact ⟨rfl, rfl⟩
theorem heldints_nil (m : Int) (w : World) :
    Calls Try.prog 53 #[.slice none 0 0, .int .i64 m] w fun e w' => e = .returned (.int .i64 m) ∧ w' = w := by
  go_enter Try.func53, Try.ntmps53
  go_wp2
  go_loopw [1, 5] (fun k i wr => k = .int .i64 m ∧ i = .int .i64 0 ∧ wr = w) (fun _ _ _ => 0)
  case atStart => exact ⟨rfl, rfl, rfl⟩
  case round =>
    obtain ⟨rfl, rfl, rfl⟩ := hrel
    go_wp2
    go_ret
    exact ⟨rfl, rfl⟩
theorem markprof_nil (m : Int) (w : World) :
    Calls Try.prog 49 #[dv none 0 0, .int .i64 m] w fun e w' => e = .returned (.int .i64 m) ∧ Below w.heap.size w w' := by
  have H := Lib.hid (fun w => markints_nil m w)
  go_enter Try.func49, Try.ntmps49
  go_wp2_with (go_at_call 52; refine (H.out _).mono ?_; rintro e w1 ⟨rfl, rfl⟩)
  go_ret
  exact ⟨rfl, (Below.refl _ _).alloc (Nat.le_refl _) _⟩
theorem heldprof_nil (m : Int) (w : World) (h0 : 0 ≤ m) :
    Calls Try.prog 50 #[dv none 0 0, .int .i64 m] w fun e w' => e = .returned (.int .i64 m) ∧ Below w.heap.size w w' := by
  have H := Lib.hid (fun w => heldints_nil m w)
  go_enter Try.func50, Try.ntmps50
  go_wp2_with (go_at_call 53; refine (H.out _).mono ?_; rintro e w1 ⟨rfl, rfl⟩)
  go_ret
  exact ⟨rfl, (Below.refl _ _).alloc (Nat.le_refl _) _⟩

/-! ### A law's argument that is a profile, opened -/
section
variable {H : Type} {enc : TypeId × Value → H} {w : World}
open Go.ChangeShapes Go.WideShapes Go.Deep Go.Joins
theorem ints_at {fuel : Nat} {v : Value} {x : DataW H × List MemPlace} (h : DataW.trod enc Try.prog w 0 (fun _ => true) true fuel 24 [v] = some x) :
    ∃ (A : Option Addr) (cap : Nat) (l : List Int), v = .slice A l.length cap ∧ IAt w A l ∧ l.length ≤ maxLen := by
  rcases open_slice Try.underlying24 h with ⟨hcs, _⟩ | ⟨a', len, cp, m, n, D, Pl, hcs, _, hl, hm, hmm, _, hi⟩
  · injection hcs with hcs
    exact ⟨none, 0, [], hcs, .inl rfl, by simp⟩
  · injection hcs with hcs
    have hm' : len ≤ m := by rw [hmm]; split <;> omega
    have hq : ∀ i, ∃ x : Int, i < len → w.cell? (a'.add i) = some (iv x) := by
      intro i
      by_cases hil : i < len
      · obtain ⟨cs', hc, ht⟩ := hi i (by omega)
        rw [intsOne] at hc
        obtain ⟨h4, _, hat⟩ := World.cells?_some hc
        match cs', h4 with
        | [c], _ =>
          obtain ⟨x, e, _⟩ := DataW.trod_int (cs := [c]) Try.underlying3 ht
          injection e with e
          refine ⟨x, fun _ => ?_⟩
          have := hat 0 (by simp)
          rw [e] at this
          simpa [Addr.add] using this
      · exact ⟨0, fun h => absurd h hil⟩
    obtain ⟨f, hf⟩ := Classical.axiomOfChoice hq
    have hlen : ((List.range len).map f).length = len := by simp
    refine ⟨some a', cp, (List.range len).map f, by rw [hlen]; exact hcs, ?_, by rw [hlen]; omega⟩
    by_cases h0 : len = 0
    · subst h0; exact .inl rfl
    · obtain ⟨b, off, spot⟩ := a'
      have hspot : spot = none := by
        have := hf 0 (by omega)
        simpa [Addr.add] using World.cell?_spot this
      subst hspot
      have hbl : b < w.heap.size := by
        have := World.block_lt_of_cell? w _ (hf 0 (by omega))
        rw [add_plus] at this
        exact this
      refine .inr ⟨b, off, rfl, hbl, fun i hi' => ?_⟩
      rw [hlen] at hi'
      have e : ((List.range len).map f).getD i 0 = f i := by simp [List.getD, hi']
      have := hf i hi'
      rw [add_plus] at this
      rw [e]; exact this
theorem array1 {α : Type} {cs : Array α} (h : cs.size = 1) : ∃ c0, cs = #[c0] := by
  obtain ⟨l⟩ := cs
  match l, h with
  | [c0], _ => exact ⟨c0, rfl⟩
theorem open_agg1 {P : Program} {r : Reach} {b0 : Nat} {t : TypeId} {f0 : Field} {v : Value} {d : DataW H} {p : List MemPlace} {base : Nat} {spare : Nat → Bool} {held : Bool} (hs : P.underlying t = some (.struct #[f0])) (hone : oneCellFields P #[f0] = true) (hC : P.cellsOf t = 1)
    (hv : Value.okWide P w r b0 t v) (h : DataW.Trod enc P w base spare held t v d p) :
    ∃ (v0 : Value) (y0 : DataW H × List MemPlace) (n : Nat), v = .agg #[v0] ∧ DataW.trod enc P w base spare held n f0.type [v0] = some y0 := by
  obtain ⟨cs, rfl, hsz⟩ := okWide_struct hs hv
  obtain ⟨c0, rfl⟩ := array1 (hsz.trans hC)
  obtain ⟨fuel, hf⟩ := h
  obtain ⟨xs, n, _, _, hl, hlen, hg⟩ := DataW.trod_struct hs hf
  match xs, hlen with
  | [y0], _ =>
    obtain ⟨o0, k0⟩ := hone_of hone 0 f0 rfl
    exact ⟨c0, y0, n, rfl, by simpa [Value.cells, o0, k0] using hg 0 f0 rfl⟩
set_option maxRecDepth 100000 in
theorem prof_open {r : Reach} {b0 : Nat} {v : Value} {d : DataW H} {p : List MemPlace} (hv : Value.okWide Try.prog w r b0 49 v) (h : DataW.Trod enc Try.prog w 0 (fun _ => true) true 49 v d p) :
    ∃ (A : Option Addr) (cap : Nat) (l : List Int), v = dv A l.length cap ∧ IAt w A l ∧ l.length ≤ maxLen := by
  obtain ⟨v0, y0, n, rfl, h0⟩ := open_agg1 Try.underlying49 (by kernel_rfl) (by kernel_rfl) hv h
  obtain ⟨A, cap, l, rfl, hA, hm⟩ := ints_at h0
  exact ⟨A, cap, l, rfl, hA, hm⟩
end
end Go.Proofs.Ytkgkeohnnpkahaa.S6
