/- How the laws draw their arguments: the cursor's next, pick and among; where a draw starts: contracts. Conditions: each theorem's own premises. -/
import Derived.Test.YtidlpoambmeiiaaChecked
import Derived.WalkKit
import Derived.ProofKit
import Derived.IntWalk
import Derived.Lib.Hide
import Derived.Deep.QuietTactic
import Derived.BigQuiet
import Derived.WalkSpells
import Derived.WalkLawsBesides
import Derived.WalkSmall
import Derived.Laws.Bits64
import Derived.Laws.Bits64b
import Derived.Laws.BitsAllLaws
import Derived.Outline
import Derived.Deep.OwnRows
import Derived.Laws.IdiomStrings
import Derived.OwnWalk
namespace Go.Proofs.Ytidlpoambmeiiaa.S1
open Go.RowKit

/-- The bytes from which is drawn: nil, or a row below B. -/
def Cd (B : Nat) (a : Option Addr) (n : Nat) (w : World) : Prop :=
  n = 0 ∨ ∃ b off, a = some ⟨b, off, none⟩ ∧ b < B ∧ ∀ j, j < n → ∃ v : Nat, v ≤ 255 ∧ w.cell? ⟨b, off + j, none⟩ = some (.int .u8 (v : Int))
/-- The cursor in its block: how often it has been asked is at most K. -/
def Cur (g : Nat) (a : Option Addr) (n cap K : Nat) (w : World) : Prop :=
  ∃ (k : Nat) (sd : Int), k ≤ K ∧ w.heap[g]? = some (.cells #[.slice a n cap, .int .i64 (k : Int), .int .u64 sd] 78 (0, 0))
theorem Cd.grown {B : Nat} {a : Option Addr} {n : Nat} {w w' : World} {g : Nat} (h : Cd B a n w) (hg : w.grownBy w' (some g)) (hB : B ≤ g) : Cd B a n w' := by
  rcases h with h | ⟨b, off, ha, hb, hc⟩
  · exact .inl h
  · refine .inr ⟨b, off, ha, hb, fun j hj => ?_⟩
    obtain ⟨v, hv, hcv⟩ := hc j hj
    exact ⟨v, hv, hg.cell hcv (by simp; omega)⟩
theorem Cur.cells {g : Nat} {a : Option Addr} {n cap K : Nat} {w : World} (h : Cur g a n cap K w) : ∃ (k : Nat) (sd : Int), w.heap[g]? = some (.cells #[.slice a n cap, .int .i64 (k : Int), .int .u64 sd] 78 (0, 0)) ∧ k ≤ K ∧ g < w.heap.size ∧ w.cell? ⟨g, 0, none⟩ = some (.slice a n cap) ∧ w.cell? ⟨g, 1, none⟩ = some (.int .i64 (k : Int)) ∧ w.cell? ⟨g, 2, none⟩ = some (.int .u64 sd) ∧
    w.frozen? ⟨g, 1, none⟩ = false ∧ w.frozen? ⟨g, 2, none⟩ = false := by
  obtain ⟨k, sd, hk, hg⟩ := h
  refine ⟨k, sd, hg, hk, (Array.getElem?_eq_some_iff.1 hg).1, ?_, ?_, ?_, ?_, ?_⟩
  · simp [World.cell?, hg]
  · simp [World.cell?, hg]
  · simp [World.cell?, hg]
  · simp [World.frozen?, hg]
  · simp [World.frozen?, hg]
theorem heap_set {w : World} {g i : Nat} {c : Array Value} {t : TypeId} {v : Value} (h : w.heap[g]? = some (.cells c t (0, 0))) : (w.setCell ⟨g, i, none⟩ v).heap[g]? = some (.cells (c.setIfInBounds i v) t (0, 0)) := by
  unfold World.setCell
  simp [Array.getElem?_modify, h]
theorem cur_after {g : Nat} {a : Option Addr} {n cap K k : Nat} {sd : Int} {w : World} (h : w.heap[g]? = some (.cells #[.slice a n cap, .int .i64 (k : Int), .int .u64 sd] 78 (0, 0))) (hk : k ≤ K) (m m2 : Nat) (x : Int) :
    Cur g a n cap (K + 1) ((((w.drewN m).setCell ⟨g, 1, none⟩ (.int .i64 ((k : Int) + 1))).setCell ⟨g, 2, none⟩ (.int .u64 x)).drewN m2) := by
  refine ⟨k + 1, x, by omega, ?_⟩
  have h1 := heap_set (i := 2) (v := .int .u64 x) (heap_set (i := 1) (v := .int .i64 ((k : Int) + 1)) (show (w.drewN m).heap[g]? = _ from h))
  exact h1
theorem grown_set {w w1 : World} {g i : Nat} {v : Value} (h : w.grownBy w1 (some g)) : w.grownBy (w1.setCell ⟨g, i, none⟩ v) (some g) := by
  refine ⟨h.os, h.tape, h.output, by simpa using h.size, fun k hk hne => ?_⟩
  rw [Below.heap_setCell w1 ⟨g, i, none⟩ v k (fun e => hne (by rw [e]))]
  exact h.block k hk hne
theorem grown_draw {w w1 : World} {row : Option Nat} (h : w.grownBy w1 row) (m : Nat) : w.grownBy (w1.drewN m) row := ⟨h.os, h.tape, h.output, h.size, h.block⟩
theorem grown_after (w : World) (g m m2 : Nat) (x y : Value) : w.grownBy ((((w.drewN m).setCell ⟨g, 1, none⟩ x).setCell ⟨g, 2, none⟩ y).drewN m2) (some g) :=
  grown_draw (grown_set (grown_set (grown_draw (World.grownBy.refl w (some g)) m))) m2
theorem grown_trans {w w1 w2 : World} {row : Option Nat} (h : w.grownBy w1 row) (h2 : w1.grownBy w2 row) : w.grownBy w2 row :=
  ⟨h2.os.trans h.os, h2.tape.trans h.tape, h2.output.trans h.output, Nat.le_trans h.size h2.size, fun k hk hne => (h2.block k (Nat.lt_of_lt_of_le hk h.size) hne).trans (h.block k hk hne)⟩
theorem low_byte (x : Int) : 0 ≤ wrap64 (bits BinOp.and IntKind.u64 (IntKind.u64.wrap x / 1099511627776) 255) ∧ wrap64 (bits BinOp.and IntKind.u64 (IntKind.u64.wrap x / 1099511627776) 255) ≤ 255 := by
  have hb : 0 ≤ IntKind.u64.wrap x / 1099511627776 ∧ IntKind.u64.wrap x / 1099511627776 < 18446744073709551616 := by
    rw [IntKind.wrap_u64]
    constructor <;> omega
  obtain ⟨u, hu⟩ : ∃ u : Nat, IntKind.u64.wrap x / 1099511627776 = (u : Int) := ⟨_, (Int.toNat_of_nonneg hb.1).symm⟩
  rw [hu] at hb ⊢
  rw [show (255 : Int) = ((255 : Nat) : Int) from rfl, bits_and_u64_nat u 255 (by omega) (by omega)]
  have h1 : u &&& 255 ≤ 255 := Nat.and_le_right
  have h2 : ((u &&& 255 : Nat) : Int) ≤ 255 := by omega
  rw [show wrap64 ((u &&& 255 : Nat) : Int) = ((u &&& 255 : Nat) : Int) from IntWalk.wrap64_in _ (by omega)]
  exact ⟨by omega, h2⟩
set_option maxHeartbeats 1000000 in
theorem next_any (B g : Nat) (a : Option Addr) (n cap K : Nat) (w : World) (hn : n ≤ 65536) (hK : K ≤ 1000000) (hBg : B ≤ g) (hc : Cd B a n w) (hcur : Cur g a n cap K w) :
    Calls Try.prog 86 #[.pointer (some ⟨g, 0, none⟩)] w fun e w' => ∃ r : Int, e = .returned (.int .i64 r) ∧ 0 ≤ r ∧ r ≤ 255 ∧ Cur g a n cap (K + 1) w' ∧ w.grownBy w' (some g) := by
  obtain ⟨k, sd, hcur0', hk, hgs, c0, c1, c2, f1, f2⟩ := hcur.cells
  have hcur0 := Lib.hid hcur0'
  clear hcur0' hcur
  by_cases hlt : k < n
  · have hlt' : decide ((k : Int) < (n : Int)) = true := by simp; omega
    rcases hc with hc | ⟨b, off, rfl, hb, hcell⟩
    · omega
    · obtain ⟨v, hv, hcv⟩ := hcell k hlt
      clear hcell
      have hne : b ≠ g := by omega
      have hk0 : (0 : Int) ≤ (k : Int) := by omega
      have hkn : (k : Int) < (n : Int) := by omega
      go_enter Try.func86, Try.ntmps86
      go_wp2
      go_quiet (fail)
      go_wp2
      go_quiet (fail)
      go_wp2
      go_quiet (fail)
      go_wp2
      go_ret
      exact ⟨_, rfl, by omega, by omega, cur_after hcur0.out hk _ _ _, grown_after _ _ _ _ _ _⟩
  · have hkn : (n : Int) ≤ (k : Int) := by omega
    have hk0 : (0 : Int) ≤ (k : Int) := by omega
    clear hc hlt
    go_enter Try.func86, Try.ntmps86
    go_wp2
    go_quiet (fail)
    go_wp2
    go_quiet (fail)
    go_wp2
    go_ret
    exact ⟨_, rfl, (low_byte _).1, (low_byte _).2, cur_after hcur0.out hk _ _ _, grown_after _ _ _ _ _ _⟩
/-- The cursor over its bytes. -/
structure St (B g : Nat) (a : Option Addr) (n cap K : Nat) (w : World) : Prop where
  cd : Cd B a n w
  cur : Cur g a n cap K w
  bg : B ≤ g
  few : n ≤ 65536
theorem St.more {B g : Nat} {a : Option Addr} {n cap K K' : Nat} {w : World} (h : St B g a n cap K w) (hK : K ≤ K') : St B g a n cap K' w := by
  obtain ⟨k, sd, hk, hg⟩ := h.cur
  exact ⟨h.cd, ⟨k, sd, by omega, hg⟩, h.bg, h.few⟩
theorem St.other {B g : Nat} {a : Option Addr} {n cap K : Nat} {w w' : World} (h : St B g a n cap K w) (hb : Below w.heap.size w w') : St B g a n cap K w' := by
  obtain ⟨k, sd, hk, hg⟩ := h.cur
  have hlt : g < w.heap.size := (Array.getElem?_eq_some_iff.1 hg).1
  refine ⟨?_, ⟨k, sd, hk, by rw [hb.block g hlt]; exact hg⟩, h.bg, h.few⟩
  rcases h.cd with h0 | ⟨b, off, ha, hbB, hc⟩
  · exact .inl h0
  · refine .inr ⟨b, off, ha, hbB, fun j hj => ?_⟩
    obtain ⟨v, hv, hcv⟩ := hc j hj
    have hbg := h.bg
    exact ⟨v, hv, (hb.cell (p := ⟨b, off + j, none⟩) (show b < w.heap.size by omega)).trans hcv⟩
theorem next_st (B g : Nat) (a : Option Addr) (n cap K : Nat) (w : World) (hK : K ≤ 1000000) (h : St B g a n cap K w) :
    Calls Try.prog 86 #[.pointer (some ⟨g, 0, none⟩)] w fun e w' => ∃ r : Int, e = .returned (.int .i64 r) ∧ 0 ≤ r ∧ r ≤ 255 ∧ St B g a n cap (K + 1) w' ∧ w.grownBy w' (some g) :=
  (next_any B g a n cap K w h.few hK h.bg h.cd h.cur).mono fun _ _ ⟨r, he, h0, h1, hc, hg⟩ => ⟨r, he, h0, h1, ⟨h.cd.grown hg h.bg, hc, h.bg, h.few⟩, hg⟩
theorem tmod_bd (x m : Int) (hx : 0 ≤ x) (hm : 0 < m) : 0 ≤ x.tmod m ∧ x.tmod m < m := by
  rw [Int.tmod_eq_emod_of_nonneg hx]
  exact ⟨Int.emod_nonneg _ (by omega), Int.emod_lt_of_pos _ hm⟩
theorem emod_bd (x m : Int) (hm : 0 < m) : 0 ≤ x % m ∧ x % m < m := ⟨Int.emod_nonneg _ (by omega), Int.emod_lt_of_pos _ hm⟩
/-- pick. -/
theorem pick_any (B g : Nat) (a : Option Addr) (n cap K : Nat) (m : Int) (w : World) (hK : K ≤ 900000) (h1 : 1 ≤ m) (h2 : m ≤ 1000000) (h : St B g a n cap K w) :
    Calls Try.prog 78 #[.pointer (some ⟨g, 0, none⟩), .int .i64 m] w fun e w' => ∃ r : Int, e = .returned (.int .i64 r) ∧ 0 ≤ r ∧ r < m ∧ St B g a n cap (K + 2) w' ∧ w.grownBy w' (some g) := by
  have HS := Lib.hid h
  clear h
  by_cases hm1 : m ≤ 1
  · go_enter Try.func78, Try.ntmps78
    go_wp2_with fail
    go_ret
    exact ⟨0, rfl, by omega, by omega, HS.out.more (by omega), World.grownBy.refl _ _⟩
  · by_cases hm2 : m ≤ 200
    · go_enter Try.func78, Try.ntmps78
      go_wp2_with (go_at_call 86; refine (next_st B g a n cap K _ (by omega) HS.out).mono ?_; rintro e w1 ⟨r, rfl, hr0, hr1, hs1, hg1⟩; refine Hid.out ?_)
      have HS1 := Lib.hid hs1
      have HG1 := Lib.hid hg1
      have hbd := Lib.hid (emod_bd r m (by omega))
      clear hs1 hg1
      refine Lib.hid ?_
      go_wp2_with fail
      go_ret
      exact ⟨_, rfl, hbd.out.1, hbd.out.2, HS1.out.more (by omega), HG1.out⟩
    · go_enter Try.func78, Try.ntmps78
      go_wp2_with (go_at_call 86; refine (next_st B g a n cap K _ (by omega) HS.out).mono ?_; rintro e w1 ⟨r, rfl, hr0, hr1, hs1, hg1⟩; refine Hid.out ?_)
      have HS1 := Lib.hid hs1
      have HG1 := Lib.hid hg1
      clear hs1 hg1
      refine Lib.hid ?_
      go_wp2_with (go_at_call 86; refine (next_st B g a n cap (K + 1) _ (by omega) HS1.out).mono ?_; rintro e w2 ⟨r2, rfl, hr20, hr21, hs2, hg2⟩; refine Hid.out ?_)
      have HS2 := Lib.hid hs2
      have HG2 := Lib.hid hg2
      have hbd := Lib.hid (emod_bd (r * 256 + r2) m (by omega))
      clear hs2 hg2
      refine Lib.hid ?_
      go_wp2_with fail
      go_ret
      exact ⟨_, rfl, hbd.out.1, hbd.out.2, HS2.out, grown_trans HG1.out HG2.out⟩
/-- Numbers lie in a row of their own. -/
def Ti (b : Nat) (zs : List Int) (w : World) : Prop := ∀ j, j < zs.length → w.cell? ⟨b, j, none⟩ = some (.int .i64 (zs.getD j 0))
theorem ti_new (w : World) (zs : List Int) (t : TypeId) : Ti w.heap.size zs (w.alloc (.cells (zs.map (Value.int .i64)).toArray t)) := fun j hj => by
  rw [World.cell?_alloc_at _ _ _ _ rfl]
  simp [List.getD, hj]
theorem ti_lt {b : Nat} {zs : List Int} {w : World} (h : Ti b zs w) (h0 : 0 < zs.length) : b < w.heap.size := by
  have h00 := h 0 h0
  refine Decidable.byContradiction fun hlt => ?_
  unfold World.cell? at h00
  rw [Array.getElem?_eq_none (by simpa using hlt)] at h00
  cases h00
theorem grown_below {w w' : World} {g B : Nat} (h : w.grownBy w' (some g)) (hB : B ≤ g) (hBw : B ≤ w.heap.size) : Below B w w' :=
  ⟨h.os, h.tape, h.output, h.size, fun k hk => h.block k (by omega) (by simp; omega)⟩
/-- among: one of the numbers. -/
theorem among_any (B g : Nat) (a : Option Addr) (n cap K b N c : Nat) (zs : List Int) (w : World) (hN : N = zs.length) (hK : K ≤ 900000) (h0 : 1 ≤ zs.length) (h1 : zs.length ≤ 1000) (h : St B g a n cap K w) (ht : Ti b zs w) (hne : b ≠ g) :
    Calls Try.prog 77 #[.pointer (some ⟨g, 0, none⟩), .slice (some ⟨b, 0, none⟩) N c] w fun e w' => (∃ z : Int, e = .returned (.int .i64 z)) ∧ St B g a n cap (K + 2) w' ∧ w.grownBy w' (some g) := by
  subst hN
  have HS := Lib.hid h
  have HT := Lib.hid ht
  have hb := ti_lt ht h0
  clear h ht
  go_enter Try.func77, Try.ntmps77
  go_wp2_with (go_at_call 78; refine (pick_any B g a n cap K _ _ hK (by omega) (by omega) HS.out).mono ?_; rintro e w1 ⟨r, rfl, hr0, hr1, hs1, hg1⟩; refine Hid.out ?_)
  obtain ⟨j, rfl⟩ : ∃ j : Nat, r = (j : Int) := ⟨r.toNat, by omega⟩
  have hj : j < zs.length := by omega
  have hc : w1.cell? ⟨b, j, none⟩ = some (.int .i64 (zs.getD j 0)) := hg1.cell (HT.out j hj) (by simp; omega)
  have HS1 := Lib.hid hs1
  have HG1 := Lib.hid hg1
  clear hs1 hg1 HT
  generalize zs.getD j 0 = z at hc
  refine Lib.hid ?_
  go_wp2_with fail
  go_ret
  exact ⟨⟨z, rfl⟩, HS1.out, HG1.out⟩
theorem st_start {a : Option Addr} {n : Nat} (cap : Nat) {w : World} (h : Cd w.heap.size a n w) (hn : n ≤ 65536) : St w.heap.size w.heap.size a n cap 0 (w.alloc (.cells #[.slice a n cap, .int .i64 0, .int .u64 0] 78)) := by
  refine ⟨?_, ⟨0, 0, Nat.le_refl _, by simpa using (MapKept.heap_alloc w (.cells #[.slice a n cap, .int .i64 0, .int .u64 0] 78)).1⟩, Nat.le_refl _, hn⟩
  rcases h with h0 | ⟨b, off, ha, hb, hc⟩
  · exact .inl h0
  · refine .inr ⟨b, off, ha, hb, fun j hj => ?_⟩
    obtain ⟨v, hv, hcv⟩ := hc j hj
    exact ⟨v, hv, (World.cell?_alloc_past _ _ _ hb).trans hcv⟩
theorem Cd.later {B : Nat} {a : Option Addr} {n : Nat} {w w' : World} (h : Cd B a n w) (hb : Below w.heap.size w w') (hB : B ≤ w.heap.size) : Cd w'.heap.size a n w' := by
  rcases h with h0 | ⟨b, off, ha, hbB, hc⟩
  · exact .inl h0
  · refine .inr ⟨b, off, ha, by have := hb.size; omega, fun j hj => ?_⟩
    obtain ⟨v, hv, hcv⟩ := hc j hj
    exact ⟨v, hv, (hb.cell (p := ⟨b, off + j, none⟩) (show b < w.heap.size by omega)).trans hcv⟩
theorem below_of_start {w w1 : World} {o : Obj} (h : (w.alloc o).grownBy w1 (some w.heap.size)) : Below w.heap.size w w1 :=
  ((Below.refl _ _).alloc (Nat.le_refl _) o).trans (grown_below h (Nat.le_refl _) (by simp))
theorem st_far {B g : Nat} {a : Option Addr} {n cap K b i : Nat} {v : Value} {w : World} (h : St B g a n cap K w) (hne : b ≠ g) (hB : B ≤ b) : St B g a n cap K (w.setCell ⟨b, i, none⟩ v) := by
  obtain ⟨k, sd, hk, hg⟩ := h.cur
  refine ⟨?_, ⟨k, sd, hk, by rw [Below.heap_setCell w ⟨b, i, none⟩ v g (Ne.symm hne)]; exact hg⟩, h.bg, h.few⟩
  rcases h.cd with h0 | ⟨c, off, ha, hbB, hc⟩
  · exact .inl h0
  · refine .inr ⟨c, off, ha, hbB, fun j hj => ?_⟩
    obtain ⟨u, hu, hcv⟩ := hc j hj
    refine ⟨u, hu, ?_⟩
    have : (w.setCell ⟨b, i, none⟩ v).heap[c]? = w.heap[c]? := Below.heap_setCell w ⟨b, i, none⟩ v c (show c ≠ b by omega)
    unfold World.cell? at hcv ⊢
    simp only at hcv ⊢
    rw [this]; exact hcv
theorem st_new {B g : Nat} {a : Option Addr} {n cap K : Nat} {w : World} (h : St B g a n cap K w) (o : Obj) : St B g a n cap K (w.alloc o) := h.other ((Below.refl _ _).alloc (Nat.le_refl _) o)
theorem grown_setnew {w w1 : World} {g b i : Nat} {v : Value} (h : w.grownBy w1 (some g)) (hb : w.heap.size ≤ b) : w.grownBy (w1.setCell ⟨b, i, none⟩ v) (some g) := by
  refine ⟨h.os, h.tape, h.output, by simpa using h.size, fun k hk hne => ?_⟩
  rw [Below.heap_setCell w1 ⟨b, i, none⟩ v k (show k ≠ b by omega)]
  exact h.block k hk hne
theorem grown_new {w w1 : World} {g : Nat} (h : w.grownBy w1 (some g)) (o : Obj) : w.grownBy (w1.alloc o) (some g) := grown_trans h (World.grownBy_alloc w1 o (some g))
theorem ti_take {b N : Nat} {zs : List Int} {w : World} (h : Ti b zs w) (hN : N ≤ zs.length) : Ti b (zs.take N) w := fun j hj => by
  have hl : j < N := by rw [List.length_take] at hj; omega
  have := h j (by omega)
  simp [List.getD, hl] at this ⊢
  exact this
theorem ti_grown {b g : Nat} {zs : List Int} {w w' : World} (h : Ti b zs w) (hg : w.grownBy w' (some g)) (hne : b ≠ g) : Ti b zs w' := fun j hj => hg.cell (h j hj) (by simp; omega)
end Go.Proofs.Ytidlpoambmeiiaa.S1
