/- The network and the node that the law of PipesAt draws: contracts. Conditions: each theorem's own premises. -/
import Derived.Test.YtgjogjmfpbinfaaChecked
import Derived.WalkKit
import Derived.ProofKit
import Derived.IntWalk
import Derived.Lib.Hide
import Derived.Deep.QuietTactic
import Derived.BigQuiet
import Derived.WalkSpells
import Derived.WalkLawsBesides
import Derived.WalkSmall
import Derived.Laws.Bits64
import Derived.Laws.Bits64b
import Derived.Laws.BitsAllLaws
import Derived.Outline
import Derived.Deep.OwnRows
import Derived.Laws.IdiomStrings
import Derived.OwnWalk
import Derived.OpenShut
import Derived.StillTailTactics
import Derived.Test.YtgjogjmfpbinfaaKQ
import Derived.OneCell
import Derived.Lib.SmallJoins
import Derived.Lib.OwnKind
import Derived.Deep.DeepCutAuto
namespace Go.Proofs.Ytgjogjmfpbinfaa.S1
open Go.RowKit

/-- The bytes from which is drawn: nil, or a row below B. -/
def Cd (B : Nat) (a : Option Addr) (n : Nat) (w : World) : Prop :=
  n = 0 ∨ ∃ b off, a = some ⟨b, off, none⟩ ∧ b < B ∧ ∀ j, j < n → ∃ v : Nat, v ≤ 255 ∧ w.cell? ⟨b, off + j, none⟩ = some (.int .u8 (v : Int))
/-- The cursor in its block: how often it has been asked is at most K. -/
def Cur (g : Nat) (a : Option Addr) (n cap K : Nat) (w : World) : Prop :=
  ∃ (k : Nat) (sd : Int), k ≤ K ∧ w.heap[g]? = some (.cells #[.slice a n cap, .int .i64 (k : Int), .int .u64 sd] 129 (0, 0))
theorem Cd.grown {B : Nat} {a : Option Addr} {n : Nat} {w w' : World} {g : Nat} (h : Cd B a n w) (hg : w.grownBy w' (some g)) (hB : B ≤ g) : Cd B a n w' := by
  rcases h with h | ⟨b, off, ha, hb, hc⟩
  · exact .inl h
  · refine .inr ⟨b, off, ha, hb, fun j hj => ?_⟩
    obtain ⟨v, hv, hcv⟩ := hc j hj
    exact ⟨v, hv, hg.cell hcv (by simp; omega)⟩
theorem Cur.cells {g : Nat} {a : Option Addr} {n cap K : Nat} {w : World} (h : Cur g a n cap K w) : ∃ (k : Nat) (sd : Int), w.heap[g]? = some (.cells #[.slice a n cap, .int .i64 (k : Int), .int .u64 sd] 129 (0, 0)) ∧ k ≤ K ∧ g < w.heap.size ∧ w.cell? ⟨g, 0, none⟩ = some (.slice a n cap) ∧ w.cell? ⟨g, 1, none⟩ = some (.int .i64 (k : Int)) ∧ w.cell? ⟨g, 2, none⟩ = some (.int .u64 sd) ∧
    w.frozen? ⟨g, 1, none⟩ = false ∧ w.frozen? ⟨g, 2, none⟩ = false := by
  obtain ⟨k, sd, hk, hg⟩ := h
  refine ⟨k, sd, hg, hk, (Array.getElem?_eq_some_iff.1 hg).1, ?_, ?_, ?_, ?_, ?_⟩
  · simp [World.cell?, hg]
  · simp [World.cell?, hg]
  · simp [World.cell?, hg]
  · simp [World.frozen?, hg]
  · simp [World.frozen?, hg]
theorem heap_set {w : World} {g i : Nat} {c : Array Value} {t : TypeId} {v : Value} (h : w.heap[g]? = some (.cells c t (0, 0))) : (w.setCell ⟨g, i, none⟩ v).heap[g]? = some (.cells (c.setIfInBounds i v) t (0, 0)) := by
  unfold World.setCell
  simp [Array.getElem?_modify, h]
theorem cur_after {g : Nat} {a : Option Addr} {n cap K k : Nat} {sd : Int} {w : World} (h : w.heap[g]? = some (.cells #[.slice a n cap, .int .i64 (k : Int), .int .u64 sd] 129 (0, 0))) (hk : k ≤ K) (m m2 : Nat) (x : Int) :
    Cur g a n cap (K + 1) ((((w.drewN m).setCell ⟨g, 1, none⟩ (.int .i64 ((k : Int) + 1))).setCell ⟨g, 2, none⟩ (.int .u64 x)).drewN m2) := by
  refine ⟨k + 1, x, by omega, ?_⟩
  have h1 := heap_set (i := 2) (v := .int .u64 x) (heap_set (i := 1) (v := .int .i64 ((k : Int) + 1)) (show (w.drewN m).heap[g]? = _ from h))
  exact h1
theorem grown_set {w w1 : World} {g i : Nat} {v : Value} (h : w.grownBy w1 (some g)) : w.grownBy (w1.setCell ⟨g, i, none⟩ v) (some g) := by
  refine ⟨h.os, h.tape, h.output, by simpa using h.size, fun k hk hne => ?_⟩
  rw [Below.heap_setCell w1 ⟨g, i, none⟩ v k (fun e => hne (by rw [e]))]
  exact h.block k hk hne
theorem grown_draw {w w1 : World} {row : Option Nat} (h : w.grownBy w1 row) (m : Nat) : w.grownBy (w1.drewN m) row := ⟨h.os, h.tape, h.output, h.size, h.block⟩
theorem grown_after (w : World) (g m m2 : Nat) (x y : Value) : w.grownBy ((((w.drewN m).setCell ⟨g, 1, none⟩ x).setCell ⟨g, 2, none⟩ y).drewN m2) (some g) :=
  grown_draw (grown_set (grown_set (grown_draw (World.grownBy.refl w (some g)) m))) m2
theorem grown_trans {w w1 w2 : World} {row : Option Nat} (h : w.grownBy w1 row) (h2 : w1.grownBy w2 row) : w.grownBy w2 row :=
  ⟨h2.os.trans h.os, h2.tape.trans h.tape, h2.output.trans h.output, Nat.le_trans h.size h2.size, fun k hk hne => (h2.block k (Nat.lt_of_lt_of_le hk h.size) hne).trans (h.block k hk hne)⟩
theorem low_byte (x : Int) : 0 ≤ wrap64 (bits BinOp.and IntKind.u64 (IntKind.u64.wrap x / 1099511627776) 255) ∧ wrap64 (bits BinOp.and IntKind.u64 (IntKind.u64.wrap x / 1099511627776) 255) ≤ 255 := by
  have hb : 0 ≤ IntKind.u64.wrap x / 1099511627776 ∧ IntKind.u64.wrap x / 1099511627776 < 18446744073709551616 := by
    rw [IntKind.wrap_u64]
    constructor <;> omega
  obtain ⟨u, hu⟩ : ∃ u : Nat, IntKind.u64.wrap x / 1099511627776 = (u : Int) := ⟨_, (Int.toNat_of_nonneg hb.1).symm⟩
  rw [hu] at hb ⊢
  rw [show (255 : Int) = ((255 : Nat) : Int) from rfl, bits_and_u64_nat u 255 (by omega) (by omega)]
  have h1 : u &&& 255 ≤ 255 := Nat.and_le_right
  have h2 : ((u &&& 255 : Nat) : Int) ≤ 255 := by omega
  rw [show wrap64 ((u &&& 255 : Nat) : Int) = ((u &&& 255 : Nat) : Int) from IntWalk.wrap64_in _ (by omega)]
  exact ⟨by omega, h2⟩
set_option maxHeartbeats 1000000 in
theorem next_any (B g : Nat) (a : Option Addr) (n cap K : Nat) (w : World) (hn : n ≤ 65536) (hK : K ≤ 1000000) (hBg : B ≤ g) (hc : Cd B a n w) (hcur : Cur g a n cap K w) :
    Calls Try.prog 211 #[.pointer (some ⟨g, 0, none⟩)] w fun e w' => ∃ r : Int, e = .returned (.int .i64 r) ∧ 0 ≤ r ∧ r ≤ 255 ∧ Cur g a n cap (K + 1) w' ∧ w.grownBy w' (some g) := by
  obtain ⟨k, sd, hcur0', hk, hgs, c0, c1, c2, f1, f2⟩ := hcur.cells
  have hcur0 := Lib.hid hcur0'
  clear hcur0' hcur
  by_cases hlt : k < n
  · have hlt' : decide ((k : Int) < (n : Int)) = true := by simp; omega
    rcases hc with hc | ⟨b, off, rfl, hb, hcell⟩
    · omega
    · obtain ⟨v, hv, hcv⟩ := hcell k hlt
      clear hcell
      have hne : b ≠ g := by omega
      have hk0 : (0 : Int) ≤ (k : Int) := by omega
      have hkn : (k : Int) < (n : Int) := by omega
      go_enter Try.func211, Try.ntmps211
      go_wp2
      go_quiet (fail)
      go_wp2
      go_quiet (fail)
      go_wp2
      go_quiet (fail)
      go_wp2
      go_ret
      exact ⟨_, rfl, by omega, by omega, cur_after hcur0.out hk _ _ _, grown_after _ _ _ _ _ _⟩
  · have hkn : (n : Int) ≤ (k : Int) := by omega
    have hk0 : (0 : Int) ≤ (k : Int) := by omega
    clear hc hlt
    go_enter Try.func211, Try.ntmps211
    go_wp2
    go_quiet (fail)
    go_wp2
    go_quiet (fail)
    go_wp2
    go_ret
    exact ⟨_, rfl, (low_byte _).1, (low_byte _).2, cur_after hcur0.out hk _ _ _, grown_after _ _ _ _ _ _⟩
/-- The cursor over its bytes. -/
structure St (B g : Nat) (a : Option Addr) (n cap K : Nat) (w : World) : Prop where
  cd : Cd B a n w
  cur : Cur g a n cap K w
  bg : B ≤ g
  few : n ≤ 65536
theorem St.more {B g : Nat} {a : Option Addr} {n cap K K' : Nat} {w : World} (h : St B g a n cap K w) (hK : K ≤ K') : St B g a n cap K' w := by
  obtain ⟨k, sd, hk, hg⟩ := h.cur
  exact ⟨h.cd, ⟨k, sd, by omega, hg⟩, h.bg, h.few⟩
theorem St.other {B g : Nat} {a : Option Addr} {n cap K : Nat} {w w' : World} (h : St B g a n cap K w) (hb : Below w.heap.size w w') : St B g a n cap K w' := by
  obtain ⟨k, sd, hk, hg⟩ := h.cur
  have hlt : g < w.heap.size := (Array.getElem?_eq_some_iff.1 hg).1
  refine ⟨?_, ⟨k, sd, hk, by rw [hb.block g hlt]; exact hg⟩, h.bg, h.few⟩
  rcases h.cd with h0 | ⟨b, off, ha, hbB, hc⟩
  · exact .inl h0
  · refine .inr ⟨b, off, ha, hbB, fun j hj => ?_⟩
    obtain ⟨v, hv, hcv⟩ := hc j hj
    have hbg := h.bg
    exact ⟨v, hv, (hb.cell (p := ⟨b, off + j, none⟩) (show b < w.heap.size by omega)).trans hcv⟩
theorem next_st (B g : Nat) (a : Option Addr) (n cap K : Nat) (w : World) (hK : K ≤ 1000000) (h : St B g a n cap K w) :
    Calls Try.prog 211 #[.pointer (some ⟨g, 0, none⟩)] w fun e w' => ∃ r : Int, e = .returned (.int .i64 r) ∧ 0 ≤ r ∧ r ≤ 255 ∧ St B g a n cap (K + 1) w' ∧ w.grownBy w' (some g) :=
  (next_any B g a n cap K w h.few hK h.bg h.cd h.cur).mono fun _ _ ⟨r, he, h0, h1, hc, hg⟩ => ⟨r, he, h0, h1, ⟨h.cd.grown hg h.bg, hc, h.bg, h.few⟩, hg⟩
theorem tmod_bd (x m : Int) (hx : 0 ≤ x) (hm : 0 < m) : 0 ≤ x.tmod m ∧ x.tmod m < m := by
  rw [Int.tmod_eq_emod_of_nonneg hx]
  exact ⟨Int.emod_nonneg _ (by omega), Int.emod_lt_of_pos _ hm⟩
theorem emod_bd (x m : Int) (hm : 0 < m) : 0 ≤ x % m ∧ x % m < m := ⟨Int.emod_nonneg _ (by omega), Int.emod_lt_of_pos _ hm⟩
/-- pick. -/
theorem pick_any (B g : Nat) (a : Option Addr) (n cap K : Nat) (m : Int) (w : World) (hK : K ≤ 900000) (h1 : 1 ≤ m) (h2 : m ≤ 1000000) (h : St B g a n cap K w) :
    Calls Try.prog 149 #[.pointer (some ⟨g, 0, none⟩), .int .i64 m] w fun e w' => ∃ r : Int, e = .returned (.int .i64 r) ∧ 0 ≤ r ∧ r < m ∧ St B g a n cap (K + 2) w' ∧ w.grownBy w' (some g) := by
  have HS := Lib.hid h
  clear h
  by_cases hm1 : m ≤ 1
  · go_enter Try.func149, Try.ntmps149
    go_wp2_with fail
    go_ret
    exact ⟨0, rfl, by omega, by omega, HS.out.more (by omega), World.grownBy.refl _ _⟩
  · by_cases hm2 : m ≤ 200
    · go_enter Try.func149, Try.ntmps149
      go_wp2_with (go_at_call 211; refine (next_st B g a n cap K _ (by omega) HS.out).mono ?_; rintro e w1 ⟨r, rfl, hr0, hr1, hs1, hg1⟩; refine Hid.out ?_)
      have HS1 := Lib.hid hs1
      have HG1 := Lib.hid hg1
      have hbd := Lib.hid (emod_bd r m (by omega))
      clear hs1 hg1
      refine Lib.hid ?_
      go_wp2_with fail
      go_ret
      exact ⟨_, rfl, hbd.out.1, hbd.out.2, HS1.out.more (by omega), HG1.out⟩
    · go_enter Try.func149, Try.ntmps149
      go_wp2_with (go_at_call 211; refine (next_st B g a n cap K _ (by omega) HS.out).mono ?_; rintro e w1 ⟨r, rfl, hr0, hr1, hs1, hg1⟩; refine Hid.out ?_)
      have HS1 := Lib.hid hs1
      have HG1 := Lib.hid hg1
      clear hs1 hg1
      refine Lib.hid ?_
      go_wp2_with (go_at_call 211; refine (next_st B g a n cap (K + 1) _ (by omega) HS1.out).mono ?_; rintro e w2 ⟨r2, rfl, hr20, hr21, hs2, hg2⟩; refine Hid.out ?_)
      have HS2 := Lib.hid hs2
      have HG2 := Lib.hid hg2
      have hbd := Lib.hid (emod_bd (r * 256 + r2) m (by omega))
      clear hs2 hg2
      refine Lib.hid ?_
      go_wp2_with fail
      go_ret
      exact ⟨_, rfl, hbd.out.1, hbd.out.2, HS2.out, grown_trans HG1.out HG2.out⟩
/-- Numbers lie in a row of their own. -/
def Ti (b : Nat) (zs : List Int) (w : World) : Prop := ∀ j, j < zs.length → w.cell? ⟨b, j, none⟩ = some (.int .i64 (zs.getD j 0))
theorem ti_new (w : World) (zs : List Int) (t : TypeId) : Ti w.heap.size zs (w.alloc (.cells (zs.map (Value.int .i64)).toArray t)) := fun j hj => by
  rw [World.cell?_alloc_at _ _ _ _ rfl]
  simp [List.getD, hj]
theorem ti_lt {b : Nat} {zs : List Int} {w : World} (h : Ti b zs w) (h0 : 0 < zs.length) : b < w.heap.size := by
  have h00 := h 0 h0
  refine Decidable.byContradiction fun hlt => ?_
  unfold World.cell? at h00
  rw [Array.getElem?_eq_none (by simpa using hlt)] at h00
  cases h00
theorem grown_below {w w' : World} {g B : Nat} (h : w.grownBy w' (some g)) (hB : B ≤ g) (hBw : B ≤ w.heap.size) : Below B w w' :=
  ⟨h.os, h.tape, h.output, h.size, fun k hk => h.block k (by omega) (by simp; omega)⟩
/-- among: one of the numbers. -/
theorem among_any (B g : Nat) (a : Option Addr) (n cap K b N c : Nat) (zs : List Int) (w : World) (hN : N = zs.length) (hK : K ≤ 900000) (h0 : 1 ≤ zs.length) (h1 : zs.length ≤ 1000) (h : St B g a n cap K w) (ht : Ti b zs w) (hne : b ≠ g) :
    Calls Try.prog 150 #[.pointer (some ⟨g, 0, none⟩), .slice (some ⟨b, 0, none⟩) N c] w fun e w' => (∃ z : Int, e = .returned (.int .i64 z)) ∧ St B g a n cap (K + 2) w' ∧ w.grownBy w' (some g) := by
  subst hN
  have HS := Lib.hid h
  have HT := Lib.hid ht
  have hb := ti_lt ht h0
  clear h ht
  go_enter Try.func150, Try.ntmps150
  go_wp2_with (go_at_call 149; refine (pick_any B g a n cap K _ _ hK (by omega) (by omega) HS.out).mono ?_; rintro e w1 ⟨r, rfl, hr0, hr1, hs1, hg1⟩; refine Hid.out ?_)
  obtain ⟨j, rfl⟩ : ∃ j : Nat, r = (j : Int) := ⟨r.toNat, by omega⟩
  have hj : j < zs.length := by omega
  have hc : w1.cell? ⟨b, j, none⟩ = some (.int .i64 (zs.getD j 0)) := hg1.cell (HT.out j hj) (by simp; omega)
  have HS1 := Lib.hid hs1
  have HG1 := Lib.hid hg1
  clear hs1 hg1 HT
  generalize zs.getD j 0 = z at hc
  refine Lib.hid ?_
  go_wp2_with fail
  go_ret
  exact ⟨⟨z, rfl⟩, HS1.out, HG1.out⟩
theorem st_start {a : Option Addr} {n : Nat} (cap : Nat) {w : World} (h : Cd w.heap.size a n w) (hn : n ≤ 65536) : St w.heap.size w.heap.size a n cap 0 (w.alloc (.cells #[.slice a n cap, .int .i64 0, .int .u64 0] 129)) := by
  refine ⟨?_, ⟨0, 0, Nat.le_refl _, by simpa using (MapKept.heap_alloc w (.cells #[.slice a n cap, .int .i64 0, .int .u64 0] 129)).1⟩, Nat.le_refl _, hn⟩
  rcases h with h0 | ⟨b, off, ha, hb, hc⟩
  · exact .inl h0
  · refine .inr ⟨b, off, ha, hb, fun j hj => ?_⟩
    obtain ⟨v, hv, hcv⟩ := hc j hj
    exact ⟨v, hv, (World.cell?_alloc_past _ _ _ hb).trans hcv⟩
theorem Cd.later {B : Nat} {a : Option Addr} {n : Nat} {w w' : World} (h : Cd B a n w) (hb : Below w.heap.size w w') (hB : B ≤ w.heap.size) : Cd w'.heap.size a n w' := by
  rcases h with h0 | ⟨b, off, ha, hbB, hc⟩
  · exact .inl h0
  · refine .inr ⟨b, off, ha, by have := hb.size; omega, fun j hj => ?_⟩
    obtain ⟨v, hv, hcv⟩ := hc j hj
    exact ⟨v, hv, (hb.cell (p := ⟨b, off + j, none⟩) (show b < w.heap.size by omega)).trans hcv⟩
theorem below_of_start {w w1 : World} {o : Obj} (h : (w.alloc o).grownBy w1 (some w.heap.size)) : Below w.heap.size w w1 :=
  ((Below.refl _ _).alloc (Nat.le_refl _) o).trans (grown_below h (Nat.le_refl _) (by simp))
theorem st_far {B g : Nat} {a : Option Addr} {n cap K b i : Nat} {v : Value} {w : World} (h : St B g a n cap K w) (hne : b ≠ g) (hB : B ≤ b) : St B g a n cap K (w.setCell ⟨b, i, none⟩ v) := by
  obtain ⟨k, sd, hk, hg⟩ := h.cur
  refine ⟨?_, ⟨k, sd, hk, by rw [Below.heap_setCell w ⟨b, i, none⟩ v g (Ne.symm hne)]; exact hg⟩, h.bg, h.few⟩
  rcases h.cd with h0 | ⟨c, off, ha, hbB, hc⟩
  · exact .inl h0
  · refine .inr ⟨c, off, ha, hbB, fun j hj => ?_⟩
    obtain ⟨u, hu, hcv⟩ := hc j hj
    refine ⟨u, hu, ?_⟩
    have : (w.setCell ⟨b, i, none⟩ v).heap[c]? = w.heap[c]? := Below.heap_setCell w ⟨b, i, none⟩ v c (show c ≠ b by omega)
    unfold World.cell? at hcv ⊢
    simp only at hcv ⊢
    rw [this]; exact hcv
theorem st_new {B g : Nat} {a : Option Addr} {n cap K : Nat} {w : World} (h : St B g a n cap K w) (o : Obj) : St B g a n cap K (w.alloc o) := h.other ((Below.refl _ _).alloc (Nat.le_refl _) o)
theorem grown_setnew {w w1 : World} {g b i : Nat} {v : Value} (h : w.grownBy w1 (some g)) (hb : w.heap.size ≤ b) : w.grownBy (w1.setCell ⟨b, i, none⟩ v) (some g) := by
  refine ⟨h.os, h.tape, h.output, by simpa using h.size, fun k hk hne => ?_⟩
  rw [Below.heap_setCell w1 ⟨b, i, none⟩ v k (show k ≠ b by omega)]
  exact h.block k hk hne
theorem grown_new {w w1 : World} {g : Nat} (h : w.grownBy w1 (some g)) (o : Obj) : w.grownBy (w1.alloc o) (some g) := grown_trans h (World.grownBy_alloc w1 o (some g))
theorem ti_take {b N : Nat} {zs : List Int} {w : World} (h : Ti b zs w) (hN : N ≤ zs.length) : Ti b (zs.take N) w := fun j hj => by
  have hl : j < N := by rw [List.length_take] at hj; omega
  have := h j (by omega)
  simp [List.getD, hl] at this ⊢
  exact this
theorem ti_grown {b g : Nat} {zs : List Int} {w w' : World} (h : Ti b zs w) (hg : w.grownBy w' (some g)) (hne : b ≠ g) : Ti b zs w' := fun j hj => hg.cell (h j hj) (by simp; omega)
end Go.Proofs.Ytgjogjmfpbinfaa.S1

namespace Go.Proofs.Ytgjogjmfpbinfaa.S1
open Go.RowKit Go.ChangeShapes Go.WideShapes Go.ChangeAt
open Go.Lib

/-- What the walk is told of the bytes that came in. -/
def IsRow (k : IntKind) (w : World) (a : Option Addr) (len cap : Nat) (zs : List Int) : Prop :=
  (a = none ∧ len = 0 ∧ cap = 0 ∧ zs = []) ∨
  ∃ x, a = some x ∧ len ≤ cap ∧ cap ≤ maxLen ∧ zs.length = cap ∧ (∀ i, i < zs.length → w.cell? (x.add i) = some (.int k (zs.getD i 0))) ∧ ∀ n ∈ zs, (Lit.int k n).wf = true

theorem cd_of_row {w : World} {a : Option Addr} {len cap : Nat} {zs : List Int} (h : IsRow .u8 w a len cap zs) : Cd w.heap.size a len w := by
  rcases h with ⟨_, h0, _⟩ | ⟨x, rfl, hl, _, hz, hc, hwf⟩
  · exact .inl h0
  · by_cases h0 : len = 0
    · exact .inl h0
    · obtain ⟨b, off, rfl, hat⟩ := ints_at hc (by omega)
      refine .inr ⟨b, off, rfl, ?_, fun j hj => ?_⟩
      · have h00 := hat 0 (by omega)
        refine Decidable.byContradiction fun hlt => ?_
        unfold World.cell? at h00
        rw [Array.getElem?_eq_none (by simpa using hlt)] at h00
        cases h00
      · have hj' : j < zs.length := by omega
        have hm : zs.getD j 0 ∈ zs := by
          have e : zs.getD j 0 = zs[j] := by simp [List.getD, hj']
          rw [e]; exact List.getElem_mem hj'
        have hw := hwf _ hm
        have hb : 0 ≤ zs.getD j 0 ∧ zs.getD j 0 ≤ 255 := by
          have e1 : IntKind.u8.min = 0 := rfl
          have e2 : IntKind.u8.max = 255 := rfl
          simpa [Lit.wf, e1, e2] using hw
        exact ⟨(zs.getD j 0).toNat, by omega, by rw [hat j hj', Int.toNat_of_nonneg hb.1]⟩

section
variable {H : Type} {enc : TypeId × Value → H} {w : World}
set_option maxRecDepth 100000 in
theorem code_open {r : Reach} {b0 : Nat} {v : Value} {d : DataW H} {p : List MemPlace} (hv : Value.okWide Try.prog w r b0 55 v) (h : DataW.Trod enc Try.prog w 0 (fun _ => true) true 55 v d p) :
    ∃ (A : Option Addr) (len cap : Nat), v = .slice A len cap ∧ Cd w.heap.size A len w := by
  obtain ⟨a0, len0, cap0, rfl⟩ := okWide_slice Try.underlying55 hv
  refine ⟨a0, len0, cap0, rfl, ?_⟩
  obtain ⟨fuel, hf⟩ := h
  rcases open_ints Try.underlying55 Try.underlying5 (by kernel_rfl) hf with ⟨hcs, _⟩ | ⟨x, l, c, zs, hcs, _, hl, hm, hz, _, hcell, hwz⟩
  · simp [Value.cells] at hcs
    obtain ⟨rfl, rfl, rfl⟩ := hcs
    exact .inl rfl
  · simp [Value.cells] at hcs
    obtain ⟨rfl, rfl, rfl⟩ := hcs
    exact cd_of_row (zs := zs) (.inr ⟨_, rfl, hl, hm, by simpa using hz, hcell, hwz⟩)
end
end Go.Proofs.Ytgjogjmfpbinfaa.S1

namespace Go.Proofs.Ytgjogjmfpbinfaa.S1
open Go.RowKit
/-- one. -/
theorem one_any (B g : Nat) (a : Option Addr) (n cap K : Nat) (m : Int) (w : World) (hK : K ≤ 900000) (h1 : 1 ≤ m) (h2 : m ≤ 1000000) (h : St B g a n cap K w) :
    Calls Try.prog 151 #[.pointer (some ⟨g, 0, none⟩), .int .i64 m] w fun e w' => ∃ r : Bool, e = .returned (.bool r) ∧ St B g a n cap (K + 2) w' ∧ w.grownBy w' (some g) := by
  have HS := Lib.hid h
  clear h
  go_enter Try.func151, Try.ntmps151
  go_wp2_with (go_at_call 149; refine (pick_any B g a n cap K m _ hK h1 h2 HS.out).mono ?_; rintro e w1 ⟨r, rfl, hr0, hr1, hs1, hg1⟩)
  go_ret
  exact ⟨_, rfl, hs1, hg1⟩
end Go.Proofs.Ytgjogjmfpbinfaa.S1
namespace Go.Proofs.Ytgjogjmfpbinfaa.S2
open Go.RowKit P2

theorem st_row {B g gv : Nat} {a : Option Addr} {n cap K : Nat} {w w' : World} (h : S1.St B g a n cap K w) (hg : w.grownBy w' (some gv)) (hlt : g < gv) : S1.St B g a n cap K w' := by
  obtain ⟨k, sd, hk, hh⟩ := h.cur
  have hB := h.bg
  refine ⟨?_, ⟨k, sd, hk, ?_⟩, h.bg, h.few⟩
  · rcases h.cd with h0 | ⟨b, off, ha, hbB, hc⟩
    · exact .inl h0
    · refine .inr ⟨b, off, ha, hbB, fun j hj => ?_⟩
      obtain ⟨u, hu, hcv⟩ := hc j hj
      exact ⟨u, hu, hg.cell hcv (by simp; omega)⟩
  · have hlt2 : g < w.heap.size := (Array.getElem?_eq_some_iff.1 hh).1
    rw [hg.block g hlt2 (by simp; omega)]; exact hh
theorem grown_row {w w1 w2 : World} {g gv : Nat} (h : w.grownBy w1 (some g)) (h2 : w1.grownBy w2 (some gv)) (hg : w.heap.size ≤ gv) : w.grownBy w2 (some g) :=
  ⟨h2.os.trans h.os, h2.tape.trans h.tape, h2.output.trans h.output, Nat.le_trans h.size h2.size, fun k hk hne => (h2.block k (Nat.lt_of_lt_of_le hk h.size) (by simp; omega)).trans (h.block k hk hne)⟩
/-- A network in a box of its own. -/
def TN (w : World) (T : Nat) (x v : Value) : Prop := w.heap[T]? = some (.cells #[x, v] 30 (0, 0))
theorem TN.lt {w : World} {T : Nat} {x v : Value} (h : TN w T x v) : T < w.heap.size := (Array.getElem?_eq_some_iff.1 h).1
theorem TN.cell {w : World} {T : Nat} {x v : Value} (h : TN w T x v) : w.cell? ⟨T, 0, none⟩ = some x ∧ w.cell? ⟨T, 1, none⟩ = some v := by
  rw [cell_of_row w T 0 _ 30 (0, 0) h, cell_of_row w T 1 _ 30 (0, 0) h]
  exact ⟨rfl, rfl⟩
theorem TN.frozen {w : World} {T : Nat} {x v : Value} (h : TN w T x v) (o : Nat) : w.frozen? ⟨T, o, none⟩ = false := by
  unfold TN at h
  simp [World.frozen?, h]
theorem TN.set1 {w : World} {T : Nat} {x v : Value} (h : TN w T x v) (u : Value) : TN (w.setCell ⟨T, 1, none⟩ u) T x u := by
  unfold TN at h ⊢
  simp [World.setCell, Array.getElem?_modify, h]
theorem TN.kept {w w' : World} {T : Nat} {x v : Value} (h : TN w T x v) (hb : w'.heap[T]? = w.heap[T]?) : TN w' T x v := hb.trans h
theorem TN.below {w w' : World} {T : Nat} {x v : Value} (h : TN w T x v) (hb : Below w.heap.size w w') : TN w' T x v := h.kept (hb.block T h.lt)
theorem TN.other {w : World} {T : Nat} {x v : Value} (h : TN w T x v) {p : Addr} (u : Value) (hp : T ≠ p.block) : TN (w.setCell p u) T x v := h.kept (Below.heap_setCell _ _ _ _ (by intro e; exact hp (by rw [e])))
theorem TN.grown {w w' : World} {T g : Nat} {x v : Value} (h : TN w T x v) (hg : w.grownBy w' (some g)) (hne : T ≠ g) : TN w' T x v := h.kept (hg.block T h.lt (by simp; exact hne))
theorem TN.made (w : World) (x v : Value) : TN (w.alloc (.cells #[x, v] 30)) w.heap.size x v := by
  unfold TN
  simpa using (MapKept.heap_alloc w (.cells #[x, v] 30)).1
theorem grown_some {w w' : World} {row : Option Nat} (h : w.grownBy w' row) (X : Nat) (hX : ∀ k, row = some k → k = X) : w.grownBy w' (some X) :=
  ⟨h.os, h.tape, h.output, h.size, fun k hk hne => h.block k hk (fun e => hne (by rw [hX k e.symm]))⟩
theorem own_net {w : World} {base T n : Nat} {x v u : Value} {xs : List Value} (h : w.ownsRow base 75 4 u n xs) (hb : TN w T x v) : u.ownBlock ≠ some T := by
  intro e
  obtain ⟨c, fz, hc⟩ := Lib.ownsRow_kind h T e
  unfold TN at hb
  rw [hb] at hc
  injection hc with hc
  injection hc with _ h2 _
  exact absurd h2 (by decide)
/-- A network under way: the cursor, what has changed, the pipes so far in a row of its own, the network in its box. -/
structure NI (w wr : World) (B g : Nat) (a : Option Addr) (n cap K T : Nat) (N : Int) (v : Value) (ps : List Pp) : Prop where
  st : S1.St B g a n cap K wr
  gr : w.grownBy wr (some g)
  own : wr.ownsRow w.heap.size 75 4 v ps.length (pcs ps)
  box : TN wr T (.int .i64 N) v
  res : TN wr w.heap.size (.int .i64 0) (.slice none 0 0)
  lo : w.heap.size < T
  gw : g < w.heap.size
theorem NI.alloc {w wr : World} {B g : Nat} {a : Option Addr} {n cap K T : Nat} {N : Int} {v : Value} {ps : List Pp} (h : NI w wr B g a n cap K T N v ps) (ob : Obj) : NI w (wr.alloc ob) B g a n cap K T N v ps :=
  ⟨S1.st_new h.st _, S1.grown_new h.gr _, h.own.alloc _, h.box.below (alloc_below _ _), h.res.below (alloc_below _ _), h.lo, h.gw⟩
theorem NI.call {w wr w2 : World} {B g : Nat} {a : Option Addr} {n cap K K' T : Nat} {N : Int} {v : Value} {ps : List Pp} (h : NI w wr B g a n cap K T N v ps) (hs : S1.St B g a n cap K' w2) (hg : wr.grownBy w2 (some g)) : NI w w2 B g a n cap K' T N v ps :=
  ⟨hs, S1.grown_trans h.gr hg, World.ownsRow.kept h.own hg (.inr (fun e => by have := (h.own.lt g e).1; have := h.gw; omega)), h.box.grown hg (by have := h.lo; have := h.gw; omega), h.res.grown hg (by have := h.gw; omega), h.lo, h.gw⟩
theorem NI.more {w wr : World} {B g : Nat} {a : Option Addr} {n cap K K' T : Nat} {N : Int} {v : Value} {ps : List Pp} (h : NI w wr B g a n cap K T N v ps) (hK : K ≤ K') : NI w wr B g a n cap K' T N v ps := ⟨h.st.more hK, h.gr, h.own, h.box, h.res, h.lo, h.gw⟩
/-- A pipe is appended and the row stored in the network's box. -/
theorem NI.push {w wr w2 : World} {B g : Nat} {a : Option Addr} {n cap K T : Nat} {N : Int} {v v' : Value} {ps : List Pp} {p : Pp} (h : NI w wr B g a n cap K T N v ps) (hg : wr.grownBy w2 v.ownBlock) (ho : w2.ownsRow w.heap.size 75 4 v' (ps.length + 1) (pcs ps ++ pcs4 p)) : NI w (w2.setCell ⟨T, 1, none⟩ v') B g a n cap K T N v' (ps ++ [p]) := by
  have hlt := h.box.lt
  have hlo := h.lo
  have hgw := h.gw
  have hgz := h.gr.size
  have hbg := h.st.bg
  obtain ⟨X, hX, hgX, hloX, hTX, hRX⟩ : ∃ X, (∀ k, v.ownBlock = some k → k = X) ∧ g < X ∧ w.heap.size ≤ X ∧ T ≠ X ∧ w.heap.size ≠ X := by
    rcases Go.Joins.ownsRow_forms h.own with ⟨hv, _⟩ | ⟨q, c, hv⟩
    · exact ⟨wr.heap.size, fun k hk => by rw [hv] at hk; simp [Value.ownBlock] at hk, by omega, hgz, by omega, by omega⟩
    · have hq : v.ownBlock = some q := by rw [hv]; rfl
      have h1 := h.own.lt q hq
      have h2 := own_net h.own h.box
      have h3 := own_net h.own h.res
      exact ⟨q, fun k hk => by rw [hq] at hk; injection hk with hk; exact hk.symm, by omega, h1.1, fun e => h2 (by rw [hq, e]), fun e => h3 (by rw [hq, e])⟩
  have hg2 := grown_some hg X hX
  have hb2 := h.box.grown hg2 hTX
  have hne := own_net ho hb2
  refine ⟨S1.st_far (st_row h.st hg2 hgX) (by omega) (by omega), S1.grown_setnew (grown_row h.gr hg2 hloX) (Nat.le_of_lt h.lo), ?_, hb2.set1 _, (h.res.grown hg2 hRX).other _ (by have := h.lo; show w.heap.size ≠ T; omega), h.lo, h.gw⟩
  have ho2 := ownsRow_setCell_other ho (a := ⟨T, 1, none⟩) hne v'
  rw [pcs_snoc, List.length_append]
  exact ho2
/-- Between the append and the store: the network's box lies as it lay. -/
theorem NI.mid {w wr w2 : World} {B g : Nat} {a : Option Addr} {n cap K T : Nat} {N : Int} {v v' : Value} {ps : List Pp} {L : List Value} (h : NI w wr B g a n cap K T N v ps) (hg : wr.grownBy w2 v.ownBlock) (ho : w2.ownsRow w.heap.size 75 4 v' (ps.length + 1) (pcs ps ++ L)) : w2.cell? ⟨T, 0, none⟩ = some (.int .i64 N) ∧ w2.cell? ⟨T, 1, none⟩ = some v ∧ w2.frozen? ⟨T, 1, none⟩ = false ∧ ∃ q c, v' = .slice (some ⟨q, 0, none⟩) (ps.length + 1) c := by
  have hb : TN w2 T (.int .i64 N) v := TN.kept h.box (hg.block T h.box.lt (fun e => own_net h.own h.box e.symm))
  exact ⟨hb.cell.1, hb.cell.2, hb.frozen 1, Go.Joins.ownsRow_form ho (by omega)⟩
/-- The number of nodes is written. -/
theorem TN.put0 {w : World} {T : Nat} {x v : Value} (h : TN w T x v) (u : Value) : TN (w.setCell ⟨T, 0, none⟩ u) T u v := by
  unfold TN at h ⊢
  simp [World.setCell, Array.getElem?_modify, h]
theorem NI.nodes {w wr : World} {B g : Nat} {a : Option Addr} {n cap K T : Nat} {N : Int} {v : Value} {ps : List Pp} (h : NI w wr B g a n cap K T N v ps) (M : Int) : NI w (wr.setCell ⟨T, 0, none⟩ (.int .i64 M)) B g a n cap K T M v ps :=
  ⟨S1.st_far h.st (by have := h.lo; have := h.gw; omega) (by have := h.lo; have := h.gw; have := h.st.bg; omega), S1.grown_setnew h.gr (Nat.le_of_lt h.lo), ownsRow_setCell_other h.own (a := ⟨T, 0, none⟩) (own_net h.own h.box) _, h.box.put0 _, h.res.other _ (by have := h.lo; show w.heap.size ≠ T; omega), h.lo, h.gw⟩
/-- A box beside the row and the network is written. -/
theorem NI.box' {w wr : World} {B g : Nat} {a : Option Addr} {n cap K T : Nat} {N : Int} {v : Value} {ps : List Pp} (h : NI w wr B g a n cap K T N v ps) (X i : Nat) (u : Value) (hX : w.heap.size < X) (hT : T ≠ X) (hv : v.ownBlock ≠ some X) : NI w (wr.setCell ⟨X, i, none⟩ u) B g a n cap K T N v ps :=
  ⟨S1.st_far h.st (by have := h.gw; omega) (by have := h.gw; have := h.st.bg; omega), S1.grown_setnew h.gr (Nat.le_of_lt hX), ownsRow_setCell_other h.own (a := ⟨X, i, none⟩) hv _, h.box.other _ hT, h.res.other _ (by show w.heap.size ≠ X; omega), h.lo, h.gw⟩
/-- A new block is in no row. -/
theorem NI.new {w wr : World} {B g : Nat} {a : Option Addr} {n cap K T : Nat} {N : Int} {v : Value} {ps : List Pp} (h : NI w wr B g a n cap K T N v ps) : v.ownBlock ≠ some wr.heap.size := fun e => by have := (h.own.lt _ e).2; omega
theorem NI.start {w wr : World} {B g : Nat} {a : Option Addr} {n cap K : Nat} (N : Int) (h : S1.St B g a n cap K wr) (hg : w.grownBy wr (some g)) (hgw : g < w.heap.size) (hr : TN wr w.heap.size (.int .i64 0) (.slice none 0 0)) : NI w (wr.alloc (nb N none 0 0)) B g a n cap K wr.heap.size N (.slice none 0 0) [] :=
  ⟨S1.st_new h _, S1.grown_new hg _, World.ownsRow_nil _ _ _ _, TN.made _ _ _, hr.below (alloc_below _ _), hr.lt, hgw⟩
/-- A pipe in a box of its own. -/
def PX (w : World) (P : Nat) (p : Pp) : Prop := w.heap[P]? = some (.cells #[.int .i64 p.id, .int .i64 p.fr, .int .i64 p.to, .int .i64 p.sz] 75 (0, 0))
theorem PX.lt {w : World} {P : Nat} {p : Pp} (h : PX w P p) : P < w.heap.size := (Array.getElem?_eq_some_iff.1 h).1
theorem PX.cells {w : World} {P : Nat} {p : Pp} (h : PX w P p) : w.cell? ⟨P, 0, none⟩ = some (.int .i64 p.id) ∧ w.cell? ⟨P, 1, none⟩ = some (.int .i64 p.fr) ∧ w.cell? ⟨P, 2, none⟩ = some (.int .i64 p.to) ∧ w.cell? ⟨P, 3, none⟩ = some (.int .i64 p.sz) := by
  rw [cell_of_row w P 0 _ 75 (0, 0) h, cell_of_row w P 1 _ 75 (0, 0) h, cell_of_row w P 2 _ 75 (0, 0) h, cell_of_row w P 3 _ 75 (0, 0) h]
  exact ⟨rfl, rfl, rfl, rfl⟩
theorem PX.frozen {w : World} {P : Nat} {p : Pp} (h : PX w P p) (o : Nat) : w.frozen? ⟨P, o, none⟩ = false := by
  unfold PX at h
  simp [World.frozen?, h]
theorem PX.made (w : World) (p : Pp) : PX (w.alloc (.cells #[.int .i64 p.id, .int .i64 p.fr, .int .i64 p.to, .int .i64 p.sz] 75)) w.heap.size p := by
  unfold PX
  simpa using (MapKept.heap_alloc w (.cells #[.int .i64 p.id, .int .i64 p.fr, .int .i64 p.to, .int .i64 p.sz] 75)).1
theorem PX.grown {w w' : World} {P g : Nat} {p : Pp} (h : PX w P p) (hg : w.grownBy w' (some g)) (hne : P ≠ g) : PX w' P p := (hg.block P h.lt (by simp; exact hne)).trans h
theorem PX.whole {w : World} {P : Nat} {p : Pp} (h : PX w P p) (q : Pp) : PX ((((w.setCell ⟨P, 0, none⟩ (.int .i64 q.id)).setCell ⟨P, 1, none⟩ (.int .i64 q.fr)).setCell ⟨P, 2, none⟩ (.int .i64 q.to)).setCell ⟨P, 3, none⟩ (.int .i64 q.sz)) P q := by
  unfold PX at h ⊢
  simp [World.setCell, Array.getElem?_modify, h]
theorem PX.one {w : World} {P : Nat} {p : Pp} (h : PX w P p) (x : Int) : PX (w.setCell ⟨P, 0, none⟩ (.int .i64 x)) P ⟨x, p.fr, p.to, p.sz⟩ ∧ PX (w.setCell ⟨P, 2, none⟩ (.int .i64 x)) P ⟨p.id, p.fr, x, p.sz⟩ ∧ PX (w.setCell ⟨P, 3, none⟩ (.int .i64 x)) P ⟨p.id, p.fr, p.to, x⟩ := by
  unfold PX at h ⊢
  refine ⟨?_, ?_, ?_⟩ <;> simp [World.setCell, Array.getElem?_modify, h]
theorem NI.swap {w wr : World} {B g : Nat} {a : Option Addr} {n cap K T : Nat} {N : Int} {v : Value} {ps : List Pp} (h : NI w wr B g a n cap K T N v ps) (X : Nat) (p : Pp) (hX : w.heap.size < X) (hT : T ≠ X) (hv : v.ownBlock ≠ some X) : NI w ((((wr.setCell ⟨X, 0, none⟩ (.int .i64 p.id)).setCell ⟨X, 1, none⟩ (.int .i64 p.fr)).setCell ⟨X, 2, none⟩ (.int .i64 p.to)).setCell ⟨X, 3, none⟩ (.int .i64 p.sz)) B g a n cap K T N v ps :=
  (((h.box' X 0 _ hX hT hv).box' X 1 _ hX hT hv).box' X 2 _ hX hT hv).box' X 3 _ hX hT hv
theorem cells_newP (w : World) (p : Pp) : ∀ j u, (pcs4 p)[j]? = some u → (w.alloc (.cells #[.int .i64 p.id, .int .i64 p.fr, .int .i64 p.to, .int .i64 p.sz] 75)).cell? ((⟨w.heap.size, 0, none⟩ : Addr).add j) = some u := by
  intro j u hu
  have := PX.cells (PX.made w p)
  match j, hu with
  | 0, hu => rw [add_plus, Nat.zero_add, this.1]; simpa [pcs4] using hu
  | 1, hu => rw [add_plus, Nat.zero_add, this.2.1]; simpa [pcs4] using hu
  | 2, hu => rw [add_plus, Nat.zero_add, this.2.2.1]; simpa [pcs4] using hu
  | 3, hu => rw [add_plus, Nat.zero_add, this.2.2.2]; simpa [pcs4] using hu
  | j + 4, hu => simp [pcs4] at hu
theorem nat_in {r m : Int} (h0 : 0 ≤ r) (h9 : r < m) : ∃ k : Nat, r = (k : Int) ∧ (k : Int) < m := ⟨r.toNat, by omega, by omega⟩
/-- What a drawn network is: its nodes, its pipes in a row that is nil or its own. -/
def NetPost (B g : Nat) (a : Option Addr) (n cap K m : Nat) (w : World) (e : Ending) (w' : World) : Prop :=
  ∃ (N : Int) (v : Value) (ps : List Pp), e = .returned (.agg #[.int .i64 N, v]) ∧ (0 ≤ N ∧ N ≤ 9) ∧ ps.length ≤ m ∧ w'.ownsRow w.heap.size 75 4 v ps.length (pcs ps) ∧ S1.St B g a n cap K w' ∧ w.grownBy w' (some g)
theorem NI.drew {w wr : World} {B g : Nat} {a : Option Addr} {n cap K T : Nat} {N : Int} {v : Value} {ps : List Pp} (h : NI w wr B g a n cap K T N v ps) : NI w wr.drew B g a n cap K T N v ps :=
  h.call (h.st.other ((Below.refl _ _).drew)) (by have h := World.grownBy.refl wr (some g); exact ⟨h.os, h.tape, h.output, h.size, h.block⟩)
theorem NI.done {w wr : World} {B g : Nat} {a : Option Addr} {n cap K K' T m : Nat} {N : Int} {v : Value} {ps : List Pp} (h : NI w wr B g a n cap K T N v ps) (hK : K ≤ K') (hN : 0 ≤ N ∧ N ≤ 9) (hm : ps.length ≤ m) : NetPost B g a n cap K' m w (.returned (.agg #[.int .i64 N, v])) ((wr.setCell ⟨w.heap.size, 0, none⟩ (.int .i64 N)).setCell ⟨w.heap.size, 1, none⟩ v) := by
  have hne := own_net h.own h.res
  have hg : w.heap.size ≠ g := by have := h.gw; omega
  have hB : B ≤ w.heap.size := by have := h.gw; have := h.st.bg; omega
  have h1 := ownsRow_setCell_other h.own (a := ⟨w.heap.size, 0, none⟩) hne (.int .i64 N)
  exact ⟨N, v, ps, rfl, hN, hm, ownsRow_setCell_other h1 (a := ⟨w.heap.size, 1, none⟩) hne v, (S1.st_far (S1.st_far h.st hg hB) hg hB).more hK, S1.grown_setnew (S1.grown_setnew h.gr (Nat.le_refl _)) (Nat.le_refl _)⟩
end Go.Proofs.Ytgjogjmfpbinfaa.S2

namespace Go.Proofs.Ytgjogjmfpbinfaa.S2
open Go.RowKit Go.Sort P2

set_option maxHeartbeats 1500000 in
set_option maxRecDepth 100000 in
theorem network_any (B g : Nat) (a : Option Addr) (n cap KC : Nat) (w : World) (hK : KC ≤ 800000) (h : S1.St B g a n cap KC w) (hgw : g < w.heap.size) :
    Calls Try.prog 212 #[.pointer (some ⟨g, 0, none⟩)] w (NetPost B g a n cap (KC + 200) 11 w) := by
  have HS1 := Lib.hid (S1.st_new h (nb 0 none 0 0))
  have hBg := h.bg
  obtain ⟨i0, hi0, hz0, hz1, hz2⟩ := info_parts infoP
  have HG1 := Lib.hid (show w.grownBy (w.alloc (nb 0 none 0 0)) (some g) from World.grownBy_alloc w _ (some g))
  have HR1 := Lib.hid (TN.made w (.int .i64 0) (.slice none 0 0))
  clear h
  go_enter Try.func212, Try.ntmps212
  refine Hid.out ?_
  refine Lib.hid ?_
  go_wp2_with (first | (go_at_call 149; refine (S1.pick_any B g a n cap KC 7 _ (by omega) (by omega) (by omega) HS1.out).mono ?_; rintro e w1 ⟨r0, rfl, hr0, hr9, hs, hg⟩; refine Hid.out ?_) | fail)
  obtain ⟨N0, rfl, hN0⟩ := nat_in hr0 hr9
  obtain ⟨N, hNN⟩ : ∃ N : Nat, 1 + (N0 : Int) = (N : Int) := ⟨1 + N0, by omega⟩
  have hN1 : 1 ≤ N := by omega
  have hN7 : N ≤ 7 := by omega
  have hNW : wrap64 (1 + (N0 : Int)) = (N : Int) := by rw [hNN]; exact IntWalk.wrap64_in _ (by omega)
  have HP0 := Lib.hid (NI.start (N : Int) hs (S1.grown_trans HG1.out hg) hgw (HR1.out.grown hg (by omega)))
  have hz1' := HP0.out.lo
  have hRc := HP0.out.res.cell
  have hzT := HP0.out.box.lt
  obtain ⟨T, hT⟩ : ∃ T, w1.heap.size = T := ⟨_, rfl⟩
  rw [hT] at HP0 hz1' hzT
  clear hs hg HS1 HG1 HR1 hr0 hr9
  refine Lib.hid ?_
  go_wp2_with fail
  go_loopw [4, 5] (fun id nd wr => ∃ (k I : Nat) (A : Option Addr) (c : Nat) (ps : List Pp), id = .int .i64 (I : Int) ∧ nd = .int .i64 (k : Int) ∧ 2 ≤ k ∧ k ≤ 8 ∧ I ≤ 3 * k ∧ ps.length + 2 ≤ k ∧ Hid (NI w wr B g a n cap (KC + 2 + 10 * k) T (N : Int) (.slice A ps.length c) ps)) (fun _ nd _ => 9 - (intOf nd).toNat)
  case atStart => exact ⟨2, 0, none, 0, [], rfl, rfl, by omega, by omega, by omega, by simp, Lib.hid (HP0.out.more (by omega))⟩
  case round =>
    clear HP0
    obtain ⟨k, I, A, c, ps, rfl, rfl, hk2, hk8, hIk, hpl, HP⟩ := hrel
    obtain ⟨c0, c1⟩ := HP.out.box.cell
    have hTl := HP.out.box.lt
    by_cases hlt : k ≤ N
    · have hltI : (k : Int) ≤ (N : Int) := by omega
      refine Hid.out ?_
      refine Lib.hid ?_
      go_wp2_with (first | (go_at_call 151; refine (S1.one_any B g a n cap (KC + 2 + 10 * k) 10 _ (by omega) (by omega) (by omega) HP.out.st).mono ?_; rintro e w3 ⟨b3, rfl, hs, hg⟩; refine Hid.out ?_) | fail)
      have HP3 := Lib.hid (HP.out.call hs hg)
      clear hs hg c0 c1 HP
      cases b3 with
      | true =>
        refine Lib.hid ?_
        go_wp2_with fail
        go_roundw
        case rel => exact ⟨k + 1, I, A, c, ps, rfl, by go_num, by omega, by omega, by omega, by omega, Lib.hid (HP3.out.more (by omega))⟩
        case measure => simp [intOf]; omega
      | false =>
        refine Lib.hid ?_
        go_wp2_with (first | (go_at_call 149; refine (S1.pick_any B g a n cap (KC + 2 + 10 * k + 2) 3 _ (by omega) (by omega) (by omega) HP3.out.st).mono ?_; rintro e w4 ⟨r4, rfl, hr40, hr49, hs, hg⟩; refine Hid.out ?_) | fail)
        have HP4 := Lib.hid (HP3.out.call hs hg)
        clear hs hg
        obtain ⟨R4, rfl, hR4⟩ := nat_in hr40 hr49
        obtain ⟨J, hJ⟩ : ∃ J : Nat, (I : Int) + 1 + (R4 : Int) = (J : Int) := ⟨I + 1 + R4, by omega⟩
        have hJ3 : J ≤ 3 * (k + 1) := by omega
        have hk1 : (1 : Int) ≤ (k : Int) - 1 := by omega
        have hk9 : (k : Int) - 1 ≤ 1000000 := by omega
        clear hr40 hr49 HP3
        refine Lib.hid ?_
        go_wp2_with (first | (go_at_call 149; refine (S1.pick_any B g a n cap (KC + 2 + 10 * k + 4) ((k : Int) - 1) _ (by omega) hk1 hk9 HP4.out.st).mono ?_; rintro e w5 ⟨r5, rfl, hr50, hr59, hs, hg⟩; refine Hid.out ?_) | fail)
        have HP5 := Lib.hid (HP4.out.call hs hg)
        clear hs hg
        obtain ⟨R5, rfl, hR5⟩ := nat_in hr50 hr59
        obtain ⟨F, hF⟩ : ∃ F : Nat, 1 + (R5 : Int) = (F : Int) := ⟨1 + R5, by omega⟩
        clear hr50 hr59 HP4
        refine Lib.hid ?_
        go_wp2_with (first | (go_at_call 149; refine (S1.pick_any B g a n cap (KC + 2 + 10 * k + 6) 9 _ (by omega) (by omega) (by omega) HP5.out.st).mono ?_; rintro e w6 ⟨r6, rfl, hr60, hr69, hs, hg⟩; refine Hid.out ?_) | fail)
        have HP6 := Lib.hid (HP5.out.call hs hg)
        clear hs hg
        obtain ⟨R6, rfl, hR6⟩ := nat_in hr60 hr69
        obtain ⟨Z, hZ⟩ : ∃ Z : Nat, 1 + (R6 : Int) = (Z : Int) := ⟨1 + R6, by omega⟩
        clear hr60 hr69 HP5
        have hPT : T < w6.heap.size := HP6.out.box.lt
        have hPR : w.heap.size < w6.heap.size := by omega
        have hPv := HP6.out.new
        have HPb := Lib.hid (HP6.out.alloc (.cells #[.int .i64 (J : Int), .int .i64 (F : Int), .int .i64 (k : Int), .int .i64 (Z : Int)] 75))
        have HX6 := Lib.hid (PX.made w6 ⟨J, F, k, Z⟩)
        obtain ⟨P, hP⟩ : ∃ P, w6.heap.size = P := ⟨_, rfl⟩
        rw [hP] at hPT hPR hPv
        rw [hP] at HX6
        refine Lib.hid ?_
        go_wp2_with (first | (go_at_call 151; refine (S1.one_any B g a n cap (KC + 2 + 10 * k + 8) 2 _ (by omega) (by omega) (by omega) HPb.out.st).mono ?_; rintro e w7 ⟨b7, rfl, hs, hg⟩; refine Hid.out ?_) | fail)
        have HP7 := Lib.hid (HPb.out.call hs hg)
        have HX7 := Lib.hid (HX6.out.grown hg (by omega))
        clear hs hg HX6 HPb HP6
        have hz7 := HX7.out.lt
        cases b7 with
        | false =>
          have hc1 := HP7.out.box.cell.2
          have hcf := HP7.out.box.frozen 1
          obtain ⟨x0, x1, x2, x3⟩ := HX7.out.cells
          dsimp only at x0 x1 x2 x3
          refine Lib.hid ?_
          have hCN := cells_newP w7 ⟨J, F, k, Z⟩
          go_wp2_with (at_builtin; go_must (refine wpList_append_own _ rfl _ _ 28 rfl w.heap.size 75 i0 _ 4 32 Try.underlying28 hi0 hz0 hz1 hz2 rfl (by omega) _ _ _ rfl (HP7.out.own.alloc _) ⟨w7.heap.size, 0, none⟩ 1 1 (pcs4 ⟨J, F, k, Z⟩) rfl rfl hCN (by intro u hu; simp [pcs4] at hu; rcases hu with rfl | rfl | rfl | rfl <;> rfl) (by unfold maxLen; omega) (by omega) (by simp; omega) ?_))
          intro v' w8 hown' hgrow hnil
          obtain ⟨d0, d1, df, q, c', rfl⟩ := (HP7.out.alloc _).mid hgrow hown'
          have HPn := Lib.hid ((HP7.out.alloc _).push hgrow hown')
          clear hown' hgrow hnil
          go_wp2_with fail
          go_roundw
          case rel => exact ⟨k + 1, J, some ⟨q, 0, none⟩, c', ps ++ [⟨J, F, k, Z⟩], rfl, by go_num, by omega, by omega, by omega, by rw [List.length_append]; simp; omega, Lib.hid (by have := HPn.out.more (show KC + 2 + 10 * k + 8 + 2 ≤ KC + 2 + 10 * (k + 1) by omega); rw [List.length_append]; exact this)⟩
          case measure => simp [intOf]; omega
        | true =>
          have HX8 := Lib.hid (HX7.out.whole ⟨J, k, F, Z⟩)
          have HP8 := Lib.hid (HP7.out.swap P ⟨J, k, F, Z⟩ hPR (by omega) hPv)
          have hxf := HX7.out.frozen
          obtain ⟨x0, x1, x2, x3⟩ := HX7.out.cells
          obtain ⟨y0, y1, y2, y3⟩ := HX8.out.cells
          have hc1 := HP8.out.box.cell.2
          have hcf := HP8.out.box.frozen 1
          dsimp only at x0 x1 x2 x3 y0 y1 y2 y3 hc1 hcf HP8
          refine Lib.hid ?_
          have hCN := cells_newP ((((w7.setCell ⟨P, 0, none⟩ (.int .i64 (J : Int))).setCell ⟨P, 1, none⟩ (.int .i64 (k : Int))).setCell ⟨P, 2, none⟩ (.int .i64 (F : Int))).setCell ⟨P, 3, none⟩ (.int .i64 (Z : Int))) ⟨J, k, F, Z⟩
          rw [show ((((w7.setCell ⟨P, 0, none⟩ (.int .i64 (J : Int))).setCell ⟨P, 1, none⟩ (.int .i64 (k : Int))).setCell ⟨P, 2, none⟩ (.int .i64 (F : Int))).setCell ⟨P, 3, none⟩ (.int .i64 (Z : Int))).heap.size = w7.heap.size from by simp] at hCN
          go_wp2_with (at_builtin; go_must (refine wpList_append_own _ rfl _ _ 28 rfl w.heap.size 75 i0 _ 4 32 Try.underlying28 hi0 hz0 hz1 hz2 rfl (by omega) _ _ _ rfl (HP8.out.own.alloc _) ⟨w7.heap.size, 0, none⟩ 1 1 (pcs4 ⟨J, k, F, Z⟩) rfl rfl hCN (by intro u hu; simp [pcs4] at hu; rcases hu with rfl | rfl | rfl | rfl <;> rfl) (by unfold maxLen; omega) (by omega) (by simp; omega) ?_))
          intro v' w8 hown' hgrow hnil
          obtain ⟨d0, d1, df, q, c', rfl⟩ := (HP8.out.alloc _).mid hgrow hown'
          have HPn := Lib.hid ((HP8.out.alloc _).push hgrow hown')
          clear hown' hgrow hnil
          go_wp2_with fail
          go_roundw
          case rel => exact ⟨k + 1, J, some ⟨q, 0, none⟩, c', ps ++ [⟨J, k, F, Z⟩], rfl, by go_num, by omega, by omega, by omega, by rw [List.length_append]; simp; omega, Lib.hid (by have := HPn.out.more (show KC + 2 + 10 * k + 8 + 2 ≤ KC + 2 + 10 * (k + 1) by omega); rw [List.length_append]; exact this)⟩
          case measure => simp [intOf]; omega
    · have hltI : ¬ (k : Int) ≤ (N : Int) := by omega
      have HPx := Lib.hid (HP.out.more (show KC + 2 + 10 * k ≤ KC + 100 by omega))
      have hp6 : ps.length ≤ 6 := by omega
      have hI24 : I ≤ 24 := by omega
      clear HP hpl hIk
      refine Hid.out ?_
      refine Lib.hid ?_
      go_wp2_with (first | (go_at_call 149; refine (S1.pick_any B g a n cap (KC + 100) 4 _ (by omega) (by omega) (by omega) HPx.out.st).mono ?_; rintro e w3 ⟨r3, rfl, hr30, hr39, hs, hg⟩; refine Hid.out ?_) | fail)
      have HP3 := Lib.hid (HPx.out.call hs hg)
      clear hs hg
      obtain ⟨R, rfl, hR⟩ := nat_in hr30 hr39
      clear hr30 hr39 HPx c0 c1 hTl
      refine Lib.hid ?_
      go_wp2_with fail
      go_loopw [4, 7] (fun id q wr => ∃ (r j I : Nat) (A : Option Addr) (c : Nat) (ps : List Pp), r + j = R ∧ I ≤ 24 + 3 * j ∧ id = .int .i64 (I : Int) ∧ q = .int .i64 (r : Int) ∧ ps.length ≤ 6 + j ∧ Hid (NI w wr B g a n cap (KC + 102 + 10 * j) T (N : Int) (.slice A ps.length c) ps)) (fun _ q _ => (intOf q).toNat)
      case atStart => exact ⟨R, 0, I, A, c, ps, by omega, by omega, rfl, rfl, by omega, Lib.hid (HP3.out.more (by omega))⟩
      case round =>
        clear HP3
        obtain ⟨r, j, I, A, c, ps, hrj, hIj, rfl, rfl, hpl, HP⟩ := hrel
        obtain ⟨c0, c1⟩ := HP.out.box.cell
        have hTl := HP.out.box.lt
        have hl10 : (ps.length : Int) < 10 := by omega
        have hRl : w.heap.size < wr.heap.size := HP.out.res.lt
        by_cases hr0 : 0 < r
        · have hrI : (0 : Int) < (r : Int) := by omega
          by_cases hN2 : 1 < N
          · have hNI : (1 : Int) < (N : Int) := by omega
            have hNn : (N : Int) ≠ 0 := by omega
            refine Hid.out ?_
            refine Lib.hid ?_
            go_wp2_with (first | (go_at_call 149; refine (S1.pick_any B g a n cap (KC + 102 + 10 * j) 3 _ (by omega) (by omega) (by omega) HP.out.st).mono ?_; rintro e w4 ⟨r4, rfl, hr40, hr49, hs, hg⟩; refine Hid.out ?_) | fail)
            have HP4 := Lib.hid (HP.out.call hs hg)
            clear hs hg
            obtain ⟨R4, rfl, hR4⟩ := nat_in hr40 hr49
            obtain ⟨J, hJ⟩ : ∃ J : Nat, (I : Int) + 1 + (R4 : Int) = (J : Int) := ⟨I + 1 + R4, by omega⟩
            have hJ3 : J ≤ 24 + 3 * (j + 1) := by omega
            have d0 := HP4.out.box.cell.1
            have hk1 : (1 : Int) ≤ (N : Int) := by omega
            have hk9 : (N : Int) ≤ 1000000 := by omega
            clear hr40 hr49 HP c0 c1 hTl
            refine Lib.hid ?_
            go_wp2_with (first | (go_at_call 149; refine (S1.pick_any B g a n cap (KC + 102 + 10 * j + 2) (N : Int) _ (by omega) hk1 hk9 HP4.out.st).mono ?_; rintro e wq ⟨r5, rfl, hr50, hr59, hs, hg⟩; refine Hid.out ?_) | fail)
            have HP5 := Lib.hid (HP4.out.call hs hg)
            clear hs hg
            obtain ⟨R5, rfl, hR5⟩ := nat_in hr50 hr59
            obtain ⟨F, hF⟩ : ∃ F : Nat, 1 + (R5 : Int) = (F : Int) := ⟨1 + R5, by omega⟩
            have hF8 : F ≤ 8 := by omega
            obtain ⟨M, hM, hM9⟩ : ∃ M : Nat, (F : Int).tmod (N : Int) = (M : Int) ∧ M < N := by
              have := S1.tmod_bd (F : Int) (N : Int) (by omega) (by omega)
              exact ⟨((F : Int).tmod (N : Int)).toNat, by omega, by omega⟩
            obtain ⟨Y, hY⟩ : ∃ Y : Nat, 1 + (M : Int) = (Y : Int) := ⟨1 + M, by omega⟩
            have hYw : IntKind.i64.wrap (Y : Int) = (Y : Int) := IntWalk.i64_in (Y : Int) (by omega)
            clear hr50 hr59 HP4 d0
            obtain ⟨c0, c1⟩ := HP5.out.box.cell
            have hTq := HP5.out.box.lt
            have HPd := Lib.hid HP5.out.drew
            refine Lib.hid ?_
            go_upto_region 17 with (fail)
            refine wp_region_held_drew (S := fun w' => w'.cell? ⟨T, 0, none⟩ = some (.int .i64 (N : Int))) (by kernel_rfl) (by exact c0) (fun hHeld => ?_)
            refine wpAnyH_take (i := 0) (v := .pointer (some ⟨T, 1, none⟩)) rfl (by kernel_rfl) (by kernel_rfl) (by kernel_rfl) (fun _ _ _ h => h) (Or.inl ⟨by rfl, ?_⟩) (by assumption) ?_
            · (intro w hSw; (try dsimp only at hSw); go_simp)
            simp only [Act.put, List.setIfInBounds_toArray]
            refine wpAnyH_take (i := 2) (v := .int .i64 (J : Int)) rfl (by kernel_rfl) (by kernel_rfl) (by kernel_rfl) (fun _ _ _ h => h) (Or.inl ⟨by rfl, ?_⟩) (by assumption) ?_
            · (intro w hSw; (try dsimp only at hSw); go_simp)
            simp only [Act.put]
            refine wpAnyH_take (i := 3) (v := .int .i64 (F : Int)) rfl (by kernel_rfl) (by kernel_rfl) (by kernel_rfl) (fun _ _ _ h => h) (Or.inl ⟨by rfl, ?_⟩) (by assumption) ?_
            · (intro w hSw; (try dsimp only at hSw); go_simp)
            simp only [Act.put]
            refine wpAnyH_take (i := 4) (v := .int .i64 (F : Int)) rfl (by kernel_rfl) (by kernel_rfl) (by kernel_rfl) (fun _ _ _ h => h) (Or.inl ⟨by rfl, ?_⟩) (by assumption) ?_
            · (intro w hSw; (try dsimp only at hSw); go_simp)
            simp only [Act.put]
            refine wpAnyH_take (i := 5) (v := .pointer (some ⟨T, 0, none⟩)) rfl (by kernel_rfl) (by kernel_rfl) (by kernel_rfl) (fun _ _ _ h => h) (Or.inl ⟨by rfl, ?_⟩) (by assumption) ?_
            · (intro w hSw; (try dsimp only at hSw); go_simp)
            simp only [Act.put]
            refine wpAnyH_take (i := 6) (v := .int .i64 (N : Int)) rfl (by kernel_rfl) (by kernel_rfl) (by kernel_rfl) (fun _ _ _ h => h) (Or.inl ⟨by rfl, ?_⟩) (by assumption) ?_
            · (intro w hSw; (try dsimp only at hSw); go_simp)
            simp only [Act.put]
            refine wpAnyH_take (i := 7) (v := .int .i64 (M : Int)) rfl (by kernel_rfl) (by kernel_rfl) (by kernel_rfl) (fun _ _ _ h => h) (Or.inl ⟨by rfl, ?_⟩) (by assumption) ?_
            · (intro w hSw; (try dsimp only at hSw); go_simp; (try first | omega | assumption))
            simp only [Act.put]
            refine wpAnyH_take (i := 8) (v := .int .i64 (Y : Int)) rfl (by kernel_rfl) (by kernel_rfl) (by kernel_rfl) (fun _ _ _ h => h) (Or.inl ⟨by rfl, ?_⟩) (by assumption) ?_
            · (intro w hSw; (try dsimp only at hSw); go_simp; (try first | omega | assumption))
            simp only [Act.put]
            refine wpAnyH_take (i := 9) (v := .pointer (some ⟨g, 0, none⟩)) rfl (by kernel_rfl) (by kernel_rfl) (by kernel_rfl) (fun _ _ _ h => h) (Or.inl ⟨by rfl, ?_⟩) (by assumption) ?_
            · (intro w hSw; (try dsimp only at hSw); go_simp)
            simp only [Act.put]
            refine wpAnyH_ready (rs := [1, 10]) (by kernel_rfl) (by simp) ?_
            refine AllReadyH.cons rfl (fun K hK => ?_) (AllReadyH.cons rfl (fun K hK => ?_) AllReadyH.nil)
            · skip
              go_simp
              refine hK.out _ _ (by first | assumption | go_keep) (fun hHeld => ?_)
              clear hK K
              refine wpAnyH_ready (rs := [10]) (by kernel_rfl) (by simp) ?_
              refine AllReadyH.cons rfl (fun K hK => ?_) AllReadyH.nil
              go_simp
              go_at_call 149
              refine (S1.pick_any B g a n cap (KC + 102 + 10 * j + 4) 9 _ (by omega) (by omega) (by omega) HPd.out.st).mono ?_
              rintro e w5 ⟨r7, rfl, hr70, hr79, hs, hg⟩
              obtain ⟨R7, rfl, hR7⟩ := nat_in hr70 hr79
              obtain ⟨Z, hZ⟩ : ∃ Z : Nat, 1 + (R7 : Int) = (Z : Int) := ⟨1 + R7, by omega⟩
              have hZw : IntKind.i64.wrap (Z : Int) = (Z : Int) := IntWalk.i64_in (Z : Int) (by omega)
              have HP6 := Lib.hid (HPd.out.call hs hg)
              clear hs hg hr70 hr79
              obtain ⟨e0, e1⟩ := HP6.out.box.cell
              have hT6 := HP6.out.box.lt
              have hRl6 : w.heap.size < w5.heap.size := HP6.out.res.lt
              refine hK.out _ _ (by exact e0) (fun hHeld => ?_)
              clear hK K
              refine wpAnyH_take (i := 11) (v := .int .i64 (Z : Int)) rfl (by kernel_rfl) (by kernel_rfl) (by kernel_rfl) (fun _ _ _ h => h) (Or.inl ⟨by rfl, ?_⟩) (by assumption) ?_
              · (intro w hSw; (try dsimp only at hSw); go_simp; (try first | omega | assumption))
              simp only [Act.put]
              refine wpAnyH_take (i := 12) (v := .agg #[.int .i64 (J : Int), .int .i64 (F : Int), .int .i64 (Y : Int), .int .i64 (Z : Int)]) rfl (by kernel_rfl) (by kernel_rfl) (by kernel_rfl) (fun _ _ _ h => h) (Or.inl ⟨by rfl, ?_⟩) (by assumption) ?_
              · (intro w hSw; (try dsimp only at hSw); go_simp)
              simp only [Act.put]
              refine wpAnyH_ready (rs := [13]) (by kernel_rfl) (by simp) ?_
              refine AllReadyH.cons rfl (fun K hK => ?_) AllReadyH.nil
              go_simp
              refine hK.out _ _ (by first | assumption | go_keep) (fun hHeld => ?_)
              clear hK K
              refine wpAnyH_ready (rs := [14]) (by kernel_rfl) (by simp) ?_
              refine AllReadyH.cons rfl (fun K hK => ?_) AllReadyH.nil
              refine step_append_own _ (by rfl) _ _ _ (by rfl) w.heap.size 75 i0 _ 4 32 Try.underlying28 hi0 hz0 hz1 hz2 rfl (by omega) (.slice A ps.length c) ps.length (pcs ps) (by rfl) (HP6.out.own.alloc _) ⟨w5.heap.size, 0, none⟩ 1 1 (pcs4 ⟨J, F, Y, Z⟩) (by rfl) rfl (cells_newP w5 ⟨J, F, Y, Z⟩) (by intro u hu; simp [pcs4] at hu; rcases hu with rfl | rfl | rfl | rfl <;> rfl) (by simp only [maxLen]; omega) (by omega) (by simp; omega) ?_
              intro v' w8 hown' hgrow hnil
              obtain ⟨d0, d1, df, q, c', rfl⟩ := (HP6.out.alloc _).mid hgrow hown'
              have HPn := Lib.hid ((HP6.out.alloc _).push hgrow hown')
              clear hown' hgrow hnil
              refine hK.out _ _ (by exact d0) (fun hHeld => ?_)
              clear hK K
              refine wpAnyH_take (i := 15) (v := .pointer (some ⟨T, 1, none⟩)) rfl (by kernel_rfl) (by kernel_rfl) (by kernel_rfl) (fun _ _ _ h => h) (Or.inl ⟨by rfl, ?_⟩) (by assumption) ?_
              · (intro w hSw; (try dsimp only at hSw); go_simp)
              simp only [Act.put]
              refine wpAnyH_ready (rs := [16]) (by kernel_rfl) (by simp) ?_
              refine AllReadyH.cons rfl (fun K hK => ?_) AllReadyH.nil
              go_simp
              refine hK.out _ _ (by exact HPn.out.box.cell.1) (fun hHeld => ?_)
              clear hK K
              refine wpAnyH_done (by kernel_rfl) ?_ _
              clear HP5 HPd HP6 c0 c1
              go_wp2_with fail
              go_roundw
              case rel => exact ⟨r - 1, j + 1, J, some ⟨q, 0, none⟩, c', ps ++ [⟨J, F, Y, Z⟩], by omega, by omega, rfl, by congr 1; omega, by rw [List.length_append]; simp; omega, Lib.hid (by have := HPn.out.more (show KC + 102 + 10 * j + 4 + 2 ≤ KC + 102 + 10 * (j + 1) by omega); rw [List.length_append]; exact this)⟩
              case measure => simp [intOf]; omega
            · skip
              go_simp
              go_at_call 149
              refine (S1.pick_any B g a n cap (KC + 102 + 10 * j + 4) 9 _ (by omega) (by omega) (by omega) HPd.out.st).mono ?_
              rintro e w5 ⟨r7, rfl, hr70, hr79, hs, hg⟩
              obtain ⟨R7, rfl, hR7⟩ := nat_in hr70 hr79
              obtain ⟨Z, hZ⟩ : ∃ Z : Nat, 1 + (R7 : Int) = (Z : Int) := ⟨1 + R7, by omega⟩
              have hZw : IntKind.i64.wrap (Z : Int) = (Z : Int) := IntWalk.i64_in (Z : Int) (by omega)
              have HP6 := Lib.hid (HPd.out.call hs hg)
              clear hs hg hr70 hr79
              obtain ⟨e0, e1⟩ := HP6.out.box.cell
              have hT6 := HP6.out.box.lt
              have hRl6 : w.heap.size < w5.heap.size := HP6.out.res.lt
              refine hK.out _ _ (by exact e0) (fun hHeld => ?_)
              clear hK K
              refine wpAnyH_take (i := 11) (v := .int .i64 (Z : Int)) rfl (by kernel_rfl) (by kernel_rfl) (by kernel_rfl) (fun _ _ _ h => h) (Or.inl ⟨by rfl, ?_⟩) (by assumption) ?_
              · (intro w hSw; (try dsimp only at hSw); go_simp; (try first | omega | assumption))
              simp only [Act.put]
              refine wpAnyH_take (i := 12) (v := .agg #[.int .i64 (J : Int), .int .i64 (F : Int), .int .i64 (Y : Int), .int .i64 (Z : Int)]) rfl (by kernel_rfl) (by kernel_rfl) (by kernel_rfl) (fun _ _ _ h => h) (Or.inl ⟨by rfl, ?_⟩) (by assumption) ?_
              · (intro w hSw; (try dsimp only at hSw); go_simp)
              simp only [Act.put]
              refine wpAnyH_ready (rs := [1, 13]) (by kernel_rfl) (by simp) ?_
              refine AllReadyH.cons rfl (fun K hK => ?_) (AllReadyH.cons rfl (fun K hK => ?_) AllReadyH.nil)
              · skip
                go_simp
                refine hK.out _ _ (by first | assumption | go_keep) (fun hHeld => ?_)
                clear hK K
                refine wpAnyH_ready (rs := [13]) (by kernel_rfl) (by simp) ?_
                refine AllReadyH.cons rfl (fun K hK => ?_) AllReadyH.nil
                go_simp
                refine hK.out _ _ (by first | assumption | go_keep) (fun hHeld => ?_)
                clear hK K
                refine wpAnyH_ready (rs := [14]) (by kernel_rfl) (by simp) ?_
                refine AllReadyH.cons rfl (fun K hK => ?_) AllReadyH.nil
                refine step_append_own _ (by rfl) _ _ _ (by rfl) w.heap.size 75 i0 _ 4 32 Try.underlying28 hi0 hz0 hz1 hz2 rfl (by omega) (.slice A ps.length c) ps.length (pcs ps) (by rfl) (HP6.out.own.alloc _) ⟨w5.heap.size, 0, none⟩ 1 1 (pcs4 ⟨J, F, Y, Z⟩) (by rfl) rfl (cells_newP w5 ⟨J, F, Y, Z⟩) (by intro u hu; simp [pcs4] at hu; rcases hu with rfl | rfl | rfl | rfl <;> rfl) (by simp only [maxLen]; omega) (by omega) (by simp; omega) ?_
                intro v' w8 hown' hgrow hnil
                obtain ⟨d0, d1, df, q, c', rfl⟩ := (HP6.out.alloc _).mid hgrow hown'
                have HPn := Lib.hid ((HP6.out.alloc _).push hgrow hown')
                clear hown' hgrow hnil
                refine hK.out _ _ (by exact d0) (fun hHeld => ?_)
                clear hK K
                refine wpAnyH_take (i := 15) (v := .pointer (some ⟨T, 1, none⟩)) rfl (by kernel_rfl) (by kernel_rfl) (by kernel_rfl) (fun _ _ _ h => h) (Or.inl ⟨by rfl, ?_⟩) (by assumption) ?_
                · (intro w hSw; (try dsimp only at hSw); go_simp)
                simp only [Act.put]
                refine wpAnyH_ready (rs := [16]) (by kernel_rfl) (by simp) ?_
                refine AllReadyH.cons rfl (fun K hK => ?_) AllReadyH.nil
                go_simp
                refine hK.out _ _ (by exact HPn.out.box.cell.1) (fun hHeld => ?_)
                clear hK K
                refine wpAnyH_done (by kernel_rfl) ?_ _
                clear HP5 HPd HP6 c0 c1
                go_wp2_with fail
                go_roundw
                case rel => exact ⟨r - 1, j + 1, J, some ⟨q, 0, none⟩, c', ps ++ [⟨J, F, Y, Z⟩], by omega, by omega, rfl, by congr 1; omega, by rw [List.length_append]; simp; omega, Lib.hid (by have := HPn.out.more (show KC + 102 + 10 * j + 4 + 2 ≤ KC + 102 + 10 * (j + 1) by omega); rw [List.length_append]; exact this)⟩
                case measure => simp [intOf]; omega
              · skip
                go_simp
                refine hK.out _ _ (by first | assumption | go_keep) (fun hHeld => ?_)
                clear hK K
                refine wpAnyH_ready (rs := [1]) (by kernel_rfl) (by simp) ?_
                refine AllReadyH.cons rfl (fun K hK => ?_) AllReadyH.nil
                go_simp
                refine hK.out _ _ (by first | assumption | go_keep) (fun hHeld => ?_)
                clear hK K
                refine wpAnyH_ready (rs := [14]) (by kernel_rfl) (by simp) ?_
                refine AllReadyH.cons rfl (fun K hK => ?_) AllReadyH.nil
                refine step_append_own _ (by rfl) _ _ _ (by rfl) w.heap.size 75 i0 _ 4 32 Try.underlying28 hi0 hz0 hz1 hz2 rfl (by omega) (.slice A ps.length c) ps.length (pcs ps) (by rfl) (HP6.out.own.alloc _) ⟨w5.heap.size, 0, none⟩ 1 1 (pcs4 ⟨J, F, Y, Z⟩) (by rfl) rfl (cells_newP w5 ⟨J, F, Y, Z⟩) (by intro u hu; simp [pcs4] at hu; rcases hu with rfl | rfl | rfl | rfl <;> rfl) (by simp only [maxLen]; omega) (by omega) (by simp; omega) ?_
                intro v' w8 hown' hgrow hnil
                obtain ⟨d0, d1, df, q, c', rfl⟩ := (HP6.out.alloc _).mid hgrow hown'
                have HPn := Lib.hid ((HP6.out.alloc _).push hgrow hown')
                clear hown' hgrow hnil
                refine hK.out _ _ (by exact d0) (fun hHeld => ?_)
                clear hK K
                refine wpAnyH_take (i := 15) (v := .pointer (some ⟨T, 1, none⟩)) rfl (by kernel_rfl) (by kernel_rfl) (by kernel_rfl) (fun _ _ _ h => h) (Or.inl ⟨by rfl, ?_⟩) (by assumption) ?_
                · (intro w hSw; (try dsimp only at hSw); go_simp)
                simp only [Act.put]
                refine wpAnyH_ready (rs := [16]) (by kernel_rfl) (by simp) ?_
                refine AllReadyH.cons rfl (fun K hK => ?_) AllReadyH.nil
                go_simp
                refine hK.out _ _ (by exact HPn.out.box.cell.1) (fun hHeld => ?_)
                clear hK K
                refine wpAnyH_done (by kernel_rfl) ?_ _
                clear HP5 HPd HP6 c0 c1
                go_wp2_with fail
                go_roundw
                case rel => exact ⟨r - 1, j + 1, J, some ⟨q, 0, none⟩, c', ps ++ [⟨J, F, Y, Z⟩], by omega, by omega, rfl, by congr 1; omega, by rw [List.length_append]; simp; omega, Lib.hid (by have := HPn.out.more (show KC + 102 + 10 * j + 4 + 2 ≤ KC + 102 + 10 * (j + 1) by omega); rw [List.length_append]; exact this)⟩
                case measure => simp [intOf]; omega
          · have hNI : ¬ (1 : Int) < (N : Int) := by omega
            have hRc := HP.out.res.cell
            have hRf := HP.out.res.frozen
            obtain ⟨r0, r1⟩ := hRc
            go_wp2_with fail
            refine bodyPost_ret (v := .agg #[.int .i64 (N : Int), .slice A ps.length c]) (by simp [results, Try.results212, go_sem, r0, r1]) rfl (HP.out.done (by omega) (by omega) (by omega))
        · have hrI : ¬ (0 : Int) < (r : Int) := by omega
          have hRc := HP.out.res.cell
          have hRf := HP.out.res.frozen
          obtain ⟨r0, r1⟩ := hRc
          go_wp2_with fail
          refine bodyPost_ret (v := .agg #[.int .i64 (N : Int), .slice A ps.length c]) (by simp [results, Try.results212, go_sem, r0, r1]) rfl (HP.out.done (by omega) (by omega) (by omega))
end Go.Proofs.Ytgjogjmfpbinfaa.S2

namespace Go.Proofs.Ytgjogjmfpbinfaa.S1
open Go.RowKit
/-- among, and that it is one of them. -/
theorem among_mem (B g : Nat) (a : Option Addr) (n cap K b N c : Nat) (zs : List Int) (w : World) (hN : N = zs.length) (hK : K ≤ 900000) (h0 : 1 ≤ zs.length) (h1 : zs.length ≤ 1000) (h : St B g a n cap K w) (ht : Ti b zs w) (hne : b ≠ g) :
    Calls Try.prog 150 #[.pointer (some ⟨g, 0, none⟩), .slice (some ⟨b, 0, none⟩) N c] w fun e w' => (∃ z : Int, e = .returned (.int .i64 z) ∧ z ∈ zs) ∧ St B g a n cap (K + 2) w' ∧ w.grownBy w' (some g) := by
  subst hN
  have HS := Lib.hid h
  have HT := Lib.hid ht
  have hb := ti_lt ht h0
  clear h ht
  go_enter Try.func150, Try.ntmps150
  go_wp2_with (go_at_call 149; refine (pick_any B g a n cap K _ _ hK (by omega) (by omega) HS.out).mono ?_; rintro e w1 ⟨r, rfl, hr0, hr1, hs1, hg1⟩; refine Hid.out ?_)
  obtain ⟨j, rfl⟩ : ∃ j : Nat, r = (j : Int) := ⟨r.toNat, by omega⟩
  have hj : j < zs.length := by omega
  have hc : w1.cell? ⟨b, j, none⟩ = some (.int .i64 (zs.getD j 0)) := hg1.cell (HT.out j hj) (by simp; omega)
  have HS1 := Lib.hid hs1
  have HG1 := Lib.hid hg1
  have HM := Lib.hid (show zs.getD j 0 ∈ zs by rw [List.getD_eq_getElem?_getD, List.getElem?_eq_getElem hj]; exact List.getElem_mem hj)
  clear hs1 hg1 HT
  generalize zs.getD j 0 = z at hc HM
  refine Lib.hid ?_
  go_wp2_with fail
  go_ret
  exact ⟨⟨z, rfl, HM.out⟩, HS1.out, HG1.out⟩
end Go.Proofs.Ytgjogjmfpbinfaa.S1
namespace Go.Proofs.Ytgjogjmfpbinfaa.S2
open Go.RowKit Go.Sort P2

theorem most_any (x y : Int) (w : World) : Calls Try.prog 175 #[.int .i64 x, .int .i64 y] w fun e w' => e = .returned (.int .i64 (if x > y then x else y)) ∧ w' = w := by
  by_cases h : x > y
  · have h2 : y < x := h
    rw [if_pos h]
    clear h
    go_enter Try.func175, Try.ntmps175
    go_wp2
    go_ret
    exact ⟨rfl, rfl⟩
  · have h2 : ¬ y < x := h
    rw [if_neg h]
    clear h
    go_enter Try.func175, Try.ntmps175
    go_wp2
    go_ret
    exact ⟨rfl, rfl⟩
theorem ownP_lower {w : World} {B B' n k : Nat} {t : TypeId} {v : Value} {xs : List Value} (h : w.ownsRow B t k v n xs) (hB : B' ≤ B) : w.ownsRow B' t k v n xs := by
  refine ⟨h.1, ?_⟩
  rcases h.2 with h2 | ⟨g, cap, cur, hv, hb, rest⟩
  · exact .inl h2
  · exact .inr ⟨g, cap, cur, hv, by omega, rest⟩
theorem ownP_slice {w : World} {B n : Nat} {v : Value} {xs : List Value} (h : w.ownsRow B 75 4 v n xs) : ∃ A c, v = .slice A n c := by
  rcases Go.Joins.ownsRow_forms h with ⟨hv, hn⟩ | ⟨q, c, hv⟩
  · exact ⟨none, 0, by rw [hv, hn]⟩
  · exact ⟨_, _, hv⟩
theorem NI.from {w w1 : World} {B g : Nat} {a : Option Addr} {n cap K : Nat} {N : Int} {v : Value} {ps : List Pp} (hs : S1.St B g a n cap K w1) (hg : (w.alloc (nb 0 none 0 0)).grownBy w1 (some g)) (hgw : g < w.heap.size) (ho : w1.ownsRow (w.alloc (nb 0 none 0 0)).heap.size 75 4 v ps.length (pcs ps)) :
    NI w (w1.alloc (.cells #[.int .i64 N, v] 30)) B g a n cap K w1.heap.size N v ps := by
  have hr : TN w1 w.heap.size (.int .i64 0) (.slice none 0 0) := (TN.made w (.int .i64 0) (.slice none 0 0)).grown hg (by omega)
  have h1 := ownP_lower ho (show w.heap.size ≤ (w.alloc (nb 0 none 0 0)).heap.size by simp)
  exact ⟨S1.st_new hs _, S1.grown_new (S1.grown_trans (World.grownBy_alloc w _ (some g)) hg) _, h1.alloc _, TN.made _ _ _, hr.below (alloc_below _ _), hr.lt, hgw⟩
theorem PX.below {w w' : World} {P : Nat} {p : Pp} (h : PX w P p) (hb : Below w.heap.size w w') : PX w' P p := (hb.block P h.lt).trans h
theorem in9 {z : Int} {zs : List Int} (h : z ∈ zs) (hz : ∀ x, x ∈ zs → 0 ≤ x ∧ x ≤ 9) : 0 ≤ z ∧ z ≤ 9 := hz z h

set_option maxHeartbeats 24000000 in
set_option maxRecDepth 100000 in
theorem anynet_any (B g : Nat) (a : Option Addr) (n cap KC : Nat) (w : World) (hK : KC ≤ 700000) (h : S1.St B g a n cap KC w) (hgw : g < w.heap.size) :
    Calls Try.prog 196 #[.pointer (some ⟨g, 0, none⟩)] w (NetPost B g a n cap (KC + 400) 12 w) := by
  have HS1 := Lib.hid (S1.st_new h (nb 0 none 0 0))
  have hBg := h.bg
  obtain ⟨i0, hi0, hz0, hz1, hz2⟩ := info_parts infoP
  clear h
  go_enter Try.func196, Try.ntmps196
  refine Hid.out ?_
  refine Lib.hid ?_
  go_wp2_with (first | (go_at_call 212; refine (network_any B g a n cap KC _ (by omega) HS1.out (by simp; omega)).mono ?_; rintro e w1 ⟨N, v, ps, rfl, hN, hpl, ho, hs, hg⟩; refine Hid.out ?_) | fail)
  obtain ⟨A, c, rfl⟩ := ownP_slice ho
  have HP0 := Lib.hid (NI.from (N := N) hs hg hgw ho)
  have HX0 := Lib.hid (show PX ((w1.alloc (.cells #[.int .i64 N, .slice A ps.length c] 30)).alloc (.cells #[.int .i64 99, .int .i64 1, .int .i64 2, .int .i64 1] 75)) (w1.heap.size + 1) ⟨99, 1, 2, 1⟩ from by
    have := PX.made (w1.alloc (.cells #[.int .i64 N, .slice A ps.length c] 30)) ⟨99, 1, 2, 1⟩
    simpa using this)
  have HPb := Lib.hid (HP0.out.alloc (.cells #[.int .i64 99, .int .i64 1, .int .i64 2, .int .i64 1] 75))
  have hlo := HP0.out.lo
  have hgT : g < w1.heap.size := by omega
  have hvP : (Value.slice A ps.length c).ownBlock ≠ some (w1.heap.size + 1) := by
    have := HP0.out.new
    simpa using this
  obtain ⟨T, hT⟩ : ∃ T, w1.heap.size = T := ⟨_, rfl⟩
  rw [hT] at HP0 HX0 HPb hlo hgT hvP
  clear hs hg ho HS1 HP0
  refine Lib.hid ?_
  go_wp2_with (first | (go_at_call 149; refine (S1.pick_any B g a n cap (KC + 200) 24 _ (by omega) (by omega) (by omega) HPb.out.st).mono ?_; rintro e w3 ⟨r, rfl, hr0, hr9, hs, hg⟩; refine Hid.out ?_) | fail)
  have HP3 := Lib.hid (HPb.out.call hs hg)
  have HX3 := Lib.hid (HX0.out.grown hg (by omega))
  have hz3 := HX3.out.lt
  clear hs hg HPb HX0
  obtain ⟨R, rfl, hR⟩ := nat_in hr0 hr9
  clear hr0 hr9 hR
  obtain ⟨c0, c1⟩ := HP3.out.box.cell
  have cf := HP3.out.box.frozen
  obtain ⟨x0, x1, x2, x3⟩ := HX3.out.cells
  have xf := HX3.out.frozen
  dsimp only at x0 x1 x2 x3
  have hT3 := HP3.out.box.lt
  by_cases e0 : R = 0
  · subst e0
    skip
    refine Lib.hid ?_
    go_wp2_with (first | (go_at_call 150; refine (S1.among_mem B g a n cap (KC + 202) w3.heap.size 4 4 [0, 9, 8, 1] _ rfl (by omega) (by simp) (by simp) (HP3.out.alloc (.cells #[.int .i64 0, .int .i64 9, .int .i64 8, .int .i64 1] 3)).st (fun j hj => S1.ti_new w3 [0, 9, 8, 1] 3 j hj) (by have := HP3.out.gr.size; omega)).mono ?_; rintro e w4 ⟨⟨z, rfl, hz⟩, hs, hg⟩; refine Hid.out ?_) | fail)
    have HPq := Lib.hid ((HP3.out.alloc (.cells #[.int .i64 0, .int .i64 9, .int .i64 8, .int .i64 1] 3)).call hs hg)
    have HP4 := Lib.hid (HPq.out.nodes z)
    have hzz := in9 hz (by intro x hx; simp at hx; omega)
    clear hs hg hz HP3 HX3 c0 c1 cf x0 x1 x2 x3 xf
    obtain ⟨q0, q1⟩ := HPq.out.box.cell
    have qf := HPq.out.box.frozen
    have qz := HPq.out.box.lt
    refine Lib.hid ?_
    obtain ⟨r0, r1⟩ := HP4.out.res.cell
    have hRf := HP4.out.res.frozen
    obtain ⟨t0, t1⟩ := HP4.out.box.cell
    have hTz := HP4.out.box.lt
    go_wp2_with fail
    refine bodyPost_ret (v := .agg #[.int .i64 z, .slice A (ps.length) c]) (by simp [results, Try.results196, go_sem, r0, r1]) rfl (HP4.out.done (by omega) (by omega) (by first | omega | (rw [List.length_append]; simp; omega)))
  have n0 : ((R : Int) == 0) = false := beq_eq_false_iff_ne.2 (by omega)
  by_cases e1 : R = 1
  · subst e1
    clear n0
    refine Lib.hid ?_
    go_wp2_with (first | (go_at_call 150; refine (S1.among_mem B g a n cap (KC + 202) w3.heap.size 3 3 [1, 100, 99] _ rfl (by omega) (by simp) (by simp) (HP3.out.alloc (.cells #[.int .i64 1, .int .i64 100, .int .i64 99] 3)).st (fun j hj => S1.ti_new w3 [1, 100, 99] 3 j hj) (by have := HP3.out.gr.size; omega)).mono ?_; rintro e w4 ⟨⟨z, rfl, hz⟩, hs, hg⟩; refine Hid.out ?_) | fail)
    have hz4 := hg.size
    have HP4 := Lib.hid (((HP3.out.alloc (.cells #[.int .i64 1, .int .i64 100, .int .i64 99] 3)).call hs hg).box' (T + 1) 0 (.int .i64 z) (by omega) (by omega) hvP)
    have HX4b := Lib.hid (((PX.below HX3.out (alloc_below w3 (.cells #[.int .i64 1, .int .i64 100, .int .i64 99] 3)))).grown hg (by omega))
    have HX4 := Lib.hid (HX4b.out.one z)
    clear hs hg hz HP3 HX3 c0 c1 cf x0 x1 x2 x3 xf
    obtain ⟨y0, y1, y2, y3⟩ := HX4b.out.cells
    have yf := HX4b.out.frozen 0
    have hz4' := HX4b.out.lt
    dsimp only at y0 y1 y2 y3
    obtain ⟨w6, hw6⟩ : ∃ w6, w4.setCell ⟨T + 1, 0, none⟩ (.int .i64 z) = w6 := ⟨_, rfl⟩
    rw [hw6] at HP4
    have HX6 : Hid (PX w6 (T + 1) ⟨z, 1, 2, 1⟩) := Lib.hid (by have := HX4.out; rw [← hw6]; exact this.1)
    have hz6 := HX6.out.lt
    obtain ⟨x0, x1, x2, x3⟩ := HX6.out.cells
    obtain ⟨c0, c1⟩ := HP4.out.box.cell
    have cf := HP4.out.box.frozen
    have hT6 := HP4.out.box.lt
    dsimp only at x0 x1 x2 x3
    refine Lib.hid ?_
    have hCN := cells_newP w6 ⟨z, 1, 2, 1⟩
    
    go_wp2_with (at_builtin; go_must (refine wpList_append_own _ rfl _ _ 28 rfl w.heap.size 75 i0 _ 4 32 Try.underlying28 hi0 hz0 hz1 hz2 rfl (by omega) _ _ _ rfl (HP4.out.own.alloc _) ⟨w6.heap.size, 0, none⟩ 1 1 (pcs4 ⟨z, 1, 2, 1⟩) rfl rfl hCN (by intro u hu; simp [pcs4] at hu; rcases hu with rfl | rfl | rfl | rfl <;> rfl) (by simp only [maxLen]; omega) (by omega) (by have := HP4.out.gr.size; simp; omega) ?_))
    intro v' w8 hown' hgrow hnil
    obtain ⟨d0, d1, df, q, c', rfl⟩ := (HP4.out.alloc _).mid hgrow hown'
    have HPn := Lib.hid ((HP4.out.alloc _).push hgrow hown')
    clear hown' hgrow hnil
    obtain ⟨r0, r1⟩ := HPn.out.res.cell
    have hRf := HPn.out.res.frozen
    obtain ⟨t0, t1⟩ := HPn.out.box.cell
    have hTz := HPn.out.box.lt
    go_wp2_with fail
    refine bodyPost_ret (v := .agg #[.int .i64 N, .slice (some ⟨q, 0, none⟩) (ps.length + 1) c']) (by simp [results, Try.results196, go_sem, r0, r1]) rfl (HPn.out.done (by omega) (by omega) (by first | omega | (rw [List.length_append]; simp; omega)))
  have n1 : ((R : Int) == 1) = false := beq_eq_false_iff_ne.2 (by omega)
  by_cases e2 : R = 2
  · subst e2
    clear n0 n1
    refine Lib.hid ?_
    go_wp2_with (first | (go_at_call 150; refine (S1.among_mem B g a n cap (KC + 202) w3.heap.size 2 2 [0, 10] _ rfl (by omega) (by simp) (by simp) (HP3.out.alloc (.cells #[.int .i64 0, .int .i64 10] 3)).st (fun j hj => S1.ti_new w3 [0, 10] 3 j hj) (by have := HP3.out.gr.size; omega)).mono ?_; rintro e w4 ⟨⟨z, rfl, hz⟩, hs, hg⟩; refine Hid.out ?_) | fail)
    have hz4 := hg.size
    have HP4 := Lib.hid (((HP3.out.alloc (.cells #[.int .i64 0, .int .i64 10] 3)).call hs hg).box' (T + 1) 3 (.int .i64 z) (by omega) (by omega) hvP)
    have HX4b := Lib.hid (((PX.below HX3.out (alloc_below w3 (.cells #[.int .i64 0, .int .i64 10] 3)))).grown hg (by omega))
    have HX4 := Lib.hid (HX4b.out.one z)
    clear hs hg hz HP3 HX3 c0 c1 cf x0 x1 x2 x3 xf
    obtain ⟨y0, y1, y2, y3⟩ := HX4b.out.cells
    have yf := HX4b.out.frozen 3
    have hz4' := HX4b.out.lt
    dsimp only at y0 y1 y2 y3
    obtain ⟨w6, hw6⟩ : ∃ w6, w4.setCell ⟨T + 1, 3, none⟩ (.int .i64 z) = w6 := ⟨_, rfl⟩
    rw [hw6] at HP4
    have HX6 : Hid (PX w6 (T + 1) ⟨99, 1, 2, z⟩) := Lib.hid (by have := HX4.out; rw [← hw6]; exact this.2.2)
    have hz6 := HX6.out.lt
    obtain ⟨x0, x1, x2, x3⟩ := HX6.out.cells
    obtain ⟨c0, c1⟩ := HP4.out.box.cell
    have cf := HP4.out.box.frozen
    have hT6 := HP4.out.box.lt
    dsimp only at x0 x1 x2 x3
    refine Lib.hid ?_
    have hCN := cells_newP w6 ⟨99, 1, 2, z⟩
    
    go_wp2_with (at_builtin; go_must (refine wpList_append_own _ rfl _ _ 28 rfl w.heap.size 75 i0 _ 4 32 Try.underlying28 hi0 hz0 hz1 hz2 rfl (by omega) _ _ _ rfl (HP4.out.own.alloc _) ⟨w6.heap.size, 0, none⟩ 1 1 (pcs4 ⟨99, 1, 2, z⟩) rfl rfl hCN (by intro u hu; simp [pcs4] at hu; rcases hu with rfl | rfl | rfl | rfl <;> rfl) (by simp only [maxLen]; omega) (by omega) (by have := HP4.out.gr.size; simp; omega) ?_))
    intro v' w8 hown' hgrow hnil
    obtain ⟨d0, d1, df, q, c', rfl⟩ := (HP4.out.alloc _).mid hgrow hown'
    have HPn := Lib.hid ((HP4.out.alloc _).push hgrow hown')
    clear hown' hgrow hnil
    obtain ⟨r0, r1⟩ := HPn.out.res.cell
    have hRf := HPn.out.res.frozen
    obtain ⟨t0, t1⟩ := HPn.out.box.cell
    have hTz := HPn.out.box.lt
    go_wp2_with fail
    refine bodyPost_ret (v := .agg #[.int .i64 N, .slice (some ⟨q, 0, none⟩) (ps.length + 1) c']) (by simp [results, Try.results196, go_sem, r0, r1]) rfl (HPn.out.done (by omega) (by omega) (by first | omega | (rw [List.length_append]; simp; omega)))
  have n2 : ((R : Int) == 2) = false := beq_eq_false_iff_ne.2 (by omega)
  by_cases e3 : R = 3
  · subst e3
    clear n0 n1 n2
    refine Lib.hid ?_
    go_wp2_with (first | (go_at_call 150; refine (S1.among_mem B g a n cap (KC + 202) w3.heap.size 3 3 [1, 9, 0] _ rfl (by omega) (by simp) (by simp) (HP3.out.alloc (.cells #[.int .i64 1, .int .i64 9, .int .i64 0] 3)).st (fun j hj => S1.ti_new w3 [1, 9, 0] 3 j hj) (by have := HP3.out.gr.size; omega)).mono ?_; rintro e w4 ⟨⟨z, rfl, hz⟩, hs, hg⟩; refine Hid.out ?_) | fail)
    have hz4 := hg.size
    have HP4 := Lib.hid (((HP3.out.alloc (.cells #[.int .i64 1, .int .i64 9, .int .i64 0] 3)).call hs hg).box' (T + 1) 2 (.int .i64 z) (by omega) (by omega) hvP)
    have HX4b := Lib.hid (((PX.below HX3.out (alloc_below w3 (.cells #[.int .i64 1, .int .i64 9, .int .i64 0] 3)))).grown hg (by omega))
    have HX4 := Lib.hid (HX4b.out.one z)
    clear hs hg hz HP3 HX3 c0 c1 cf x0 x1 x2 x3 xf
    obtain ⟨y0, y1, y2, y3⟩ := HX4b.out.cells
    have yf := HX4b.out.frozen 2
    have hz4' := HX4b.out.lt
    dsimp only at y0 y1 y2 y3
    obtain ⟨w6, hw6⟩ : ∃ w6, w4.setCell ⟨T + 1, 2, none⟩ (.int .i64 z) = w6 := ⟨_, rfl⟩
    rw [hw6] at HP4
    have HX6 : Hid (PX w6 (T + 1) ⟨99, 1, z, 1⟩) := Lib.hid (by have := HX4.out; rw [← hw6]; exact this.2.1)
    have hz6 := HX6.out.lt
    obtain ⟨x0, x1, x2, x3⟩ := HX6.out.cells
    obtain ⟨c0, c1⟩ := HP4.out.box.cell
    have cf := HP4.out.box.frozen
    have hT6 := HP4.out.box.lt
    dsimp only at x0 x1 x2 x3
    refine Lib.hid ?_
    have hCN := cells_newP w6 ⟨99, 1, z, 1⟩
    
    go_wp2_with (at_builtin; go_must (refine wpList_append_own _ rfl _ _ 28 rfl w.heap.size 75 i0 _ 4 32 Try.underlying28 hi0 hz0 hz1 hz2 rfl (by omega) _ _ _ rfl (HP4.out.own.alloc _) ⟨w6.heap.size, 0, none⟩ 1 1 (pcs4 ⟨99, 1, z, 1⟩) rfl rfl hCN (by intro u hu; simp [pcs4] at hu; rcases hu with rfl | rfl | rfl | rfl <;> rfl) (by simp only [maxLen]; omega) (by omega) (by have := HP4.out.gr.size; simp; omega) ?_))
    intro v' w8 hown' hgrow hnil
    obtain ⟨d0, d1, df, q, c', rfl⟩ := (HP4.out.alloc _).mid hgrow hown'
    have HPn := Lib.hid ((HP4.out.alloc _).push hgrow hown')
    clear hown' hgrow hnil
    obtain ⟨r0, r1⟩ := HPn.out.res.cell
    have hRf := HPn.out.res.frozen
    obtain ⟨t0, t1⟩ := HPn.out.box.cell
    have hTz := HPn.out.box.lt
    go_wp2_with fail
    refine bodyPost_ret (v := .agg #[.int .i64 N, .slice (some ⟨q, 0, none⟩) (ps.length + 1) c']) (by simp [results, Try.results196, go_sem, r0, r1]) rfl (HPn.out.done (by omega) (by omega) (by first | omega | (rw [List.length_append]; simp; omega)))
  have n3 : ((R : Int) == 3) = false := beq_eq_false_iff_ne.2 (by omega)
  by_cases e4 : R = 4
  · have n4 : ((R : Int) == 4) = true := beq_iff_eq.2 (by omega)
    clear c0 c1 cf x0 x1 x2 x3 xf HX3
    clear e4
    refine Lib.hid ?_
    go_wp2_with fail
    clear n0 n1 n2 n3 n4
    go_loopw [5] (fun kk wr => ∃ (k : Nat) (A : Option Addr) (c : Nat) (ps : List Pp), kk = .int .i64 (k : Int) ∧ k ≤ 12 ∧ ps.length ≤ 12 ∧ Hid (NI w wr B g a n cap (KC + 202 + 4 * k) T N (.slice A ps.length c) ps)) (fun kk _ => 12 - (intOf kk).toNat)
    case atStart => exact ⟨0, A, c, ps, rfl, by omega, by omega, Lib.hid (HP3.out.more (by omega))⟩
    case round =>
      clear HP3 hvP
      obtain ⟨k, A, c, ps, rfl, hk, hpl, HP⟩ := hrel
      obtain ⟨c0, c1⟩ := HP.out.box.cell
      have hTl := HP.out.box.lt
      have HPd := Lib.hid HP.out.drew
      refine Hid.out ?_
      refine Lib.hid ?_
      go_upto_region 17 with (fail)
      go_cut [65] (fun s wx => ∃ bb : Bool, s = .bool bb ∧ (bb = true → ps.length < 12 ∧ k < 12) ∧ Hid (NI w wx B g a n cap (KC + 202 + 4 * k + 2) T N (.slice A ps.length c) ps))
      case first =>
        refine wp_region_held_drew (S := fun w' => w'.cell? ⟨T, 1, none⟩ = some (.slice A ps.length c)) (by kernel_rfl) (by exact c1) (fun hHeld => ?_)
        refine wpAnyH_take (i := 0) (v := .pointer (some ⟨T, 1, none⟩)) rfl (by kernel_rfl) (by kernel_rfl) (by kernel_rfl) (fun _ _ _ h => h) (Or.inl ⟨by kernel_rfl, ?_⟩) (by assumption) ?_
        · (intro w hSw; (try dsimp only at hSw); go_simp)
        simp only [Act.put, List.setIfInBounds_toArray]
        refine wpAnyH_take (i := 1) (v := .slice A ps.length c) rfl (by kernel_rfl) (by kernel_rfl) (by kernel_rfl) (fun _ _ _ h => h) (Or.inl ⟨by kernel_rfl, ?_⟩) (by assumption) ?_
        · (intro w hSw; (try dsimp only at hSw); go_simp)
        simp only [Act.put]
        refine wpAnyH_take (i := 2) (v := .int .i64 ((ps.length : Int))) rfl (by kernel_rfl) (by kernel_rfl) (by kernel_rfl) (fun _ _ _ h => h) (Or.inl ⟨by kernel_rfl, ?_⟩) (by assumption) ?_
        · (intro w hSw; (try dsimp only at hSw); go_simp)
        simp only [Act.put]
        refine wpAnyH_take (i := 3) (v := .pointer (some ⟨g, 0, none⟩)) rfl (by kernel_rfl) (by kernel_rfl) (by kernel_rfl) (fun _ _ _ h => h) (Or.inl ⟨by kernel_rfl, ?_⟩) (by assumption) ?_
        · (intro w hSw; (try dsimp only at hSw); go_simp)
        simp only [Act.put]
        refine wpAnyH_ready (rs := [4]) (by kernel_rfl) (by simp) ?_
        refine AllReadyH.cons rfl (fun K hK => ?_) AllReadyH.nil
        go_simp
        go_at_call 149
        refine (S1.pick_any B g a n cap (KC + 202 + 4 * k) 2 _ (by omega) (by omega) (by omega) HPd.out.st).mono ?_
        rintro e w5 ⟨r7, rfl, hr70, hr79, hs, hg⟩
        obtain ⟨R7, rfl, hR7⟩ := nat_in hr70 hr79
        have HP6 := Lib.hid (HPd.out.call hs hg)
        clear hs hg hr70 hr79 HPd HP c0 c1
        obtain ⟨e0, e1⟩ := HP6.out.box.cell
        refine hK.out _ _ (by exact e1) (fun hHeld => ?_)
        clear hK K
        obtain ⟨Z, hZ⟩ : ∃ Z : Nat, 10 + (R7 : Int) = (Z : Int) := ⟨10 + R7, by omega⟩
        have hZw : IntKind.i64.wrap (Z : Int) = (Z : Int) := IntWalk.i64_in (Z : Int) (by omega)
        have hZ11 : Z ≤ 11 := by omega
        have hT6 := HP6.out.box.lt
        refine wpAnyH_take (i := 5) (v := .int .i64 ((Z : Int))) rfl (by kernel_rfl) (by kernel_rfl) (by kernel_rfl) (fun _ _ _ h => h) (Or.inl ⟨by kernel_rfl, ?_⟩) (by assumption) ?_
        · (intro w hSw; (try dsimp only at hSw); go_simp; (try first | omega | assumption))
        simp only [Act.put]
        by_cases hlt : ps.length < Z
        · have d6 : decide ((ps.length : Int) < (Z : Int)) = true := decide_eq_true (by omega)
          refine wpAnyH_take (i := 6) (v := .bool true) rfl (by kernel_rfl) (by kernel_rfl) (by kernel_rfl) (fun _ _ _ h => h) (Or.inl ⟨by kernel_rfl, ?_⟩) (by assumption) ?_
          · (intro w hSw; (try dsimp only at hSw); go_simp)
          simp only [Act.put]
          refine wpAnyH_take (i := 7) (v := .bool true) rfl (by kernel_rfl) (by kernel_rfl) (by kernel_rfl) (fun _ _ _ h => h) (Or.inl ⟨by kernel_rfl, ?_⟩) (by assumption) ?_
          · (intro w hSw; (try dsimp only at hSw); go_simp)
          simp only [Act.put]
          refine wpAnyH_take (i := 8) (v := .int .i64 ((k : Int))) rfl (by kernel_rfl) (by kernel_rfl) (by kernel_rfl) (fun _ _ _ h => h) (Or.inl ⟨by kernel_rfl, ?_⟩) (by assumption) ?_
          · (intro w hSw; (try dsimp only at hSw); go_simp)
          simp only [Act.put]
          by_cases hk12 : k < 12
          · have d9 : decide ((k : Int) < 12) = true := decide_eq_true (by omega)
            refine wpAnyH_take (i := 9) (v := .bool true) rfl (by kernel_rfl) (by kernel_rfl) (by kernel_rfl) (fun _ _ _ h => h) (Or.inl ⟨by kernel_rfl, ?_⟩) (by assumption) ?_
            · (intro w hSw; (try dsimp only at hSw); go_simp)
            simp only [Act.put, List.getElem_toArray, List.getElem_cons_succ, List.getElem_cons_zero]
            refine wpAnyH_take (i := 10) (v := .bool true) rfl (by kernel_rfl) (by kernel_rfl) (by kernel_rfl) (fun _ _ _ h => h) (Or.inl ⟨by kernel_rfl, ?_⟩) (by assumption) ?_
            · (intro w hSw; (try dsimp only at hSw); go_simp)
            simp only [Act.put, List.getElem_toArray, List.getElem_cons_succ, List.getElem_cons_zero]
            refine wpAnyH_done (by kernel_rfl) ?_ _
            clear hHeld
            go_wp2_with fail
            go_meet
            exact ⟨true, rfl, (fun _ => ⟨by omega, hk12⟩), HP6⟩
          · have d9 : decide ((k : Int) < 12) = false := decide_eq_false (by omega)
            refine wpAnyH_take (i := 9) (v := .bool false) rfl (by kernel_rfl) (by kernel_rfl) (by kernel_rfl) (fun _ _ _ h => h) (Or.inl ⟨by kernel_rfl, ?_⟩) (by assumption) ?_
            · (intro w hSw; (try dsimp only at hSw); go_simp)
            simp only [Act.put, List.getElem_toArray, List.getElem_cons_succ, List.getElem_cons_zero]
            refine wpAnyH_take (i := 10) (v := .bool false) rfl (by kernel_rfl) (by kernel_rfl) (by kernel_rfl) (fun _ _ _ h => h) (Or.inl ⟨by kernel_rfl, ?_⟩) (by assumption) ?_
            · (intro w hSw; (try dsimp only at hSw); go_simp)
            simp only [Act.put, List.getElem_toArray, List.getElem_cons_succ, List.getElem_cons_zero]
            refine wpAnyH_done (by kernel_rfl) ?_ _
            clear hHeld
            go_wp2_with fail
            go_meet
            exact ⟨false, rfl, (fun h => by cases h), HP6⟩
        · have d6 : decide ((ps.length : Int) < (Z : Int)) = false := decide_eq_false (by omega)
          refine wpAnyH_take (i := 6) (v := .bool false) rfl (by kernel_rfl) (by kernel_rfl) (by kernel_rfl) (fun _ _ _ h => h) (Or.inl ⟨by kernel_rfl, ?_⟩) (by assumption) ?_
          · (intro w hSw; (try dsimp only at hSw); go_simp)
          simp only [Act.put]
          refine wpAnyH_take (i := 7) (v := .bool false) rfl (by kernel_rfl) (by kernel_rfl) (by kernel_rfl) (fun _ _ _ h => h) (Or.inl ⟨by kernel_rfl, ?_⟩) (by assumption) ?_
          · (intro w hSw; (try dsimp only at hSw); go_simp)
          simp only [Act.put]
          refine wpAnyH_take (i := 8) (v := undef) rfl (by kernel_rfl) (by kernel_rfl) (by kernel_rfl) (fun _ _ _ h => h) (Or.inr ⟨by kernel_rfl, rfl⟩) (by assumption) ?_
          simp only [Act.put]
          refine wpAnyH_take (i := 9) (v := undef) rfl (by kernel_rfl) (by kernel_rfl) (by kernel_rfl) (fun _ _ _ h => h) (Or.inr ⟨by kernel_rfl, rfl⟩) (by assumption) ?_
          simp only [Act.put]
          refine wpAnyH_take (i := 10) (v := .bool false) rfl (by kernel_rfl) (by kernel_rfl) (by kernel_rfl) (fun _ _ _ h => h) (Or.inl ⟨by kernel_rfl, ?_⟩) (by assumption) ?_
          · (intro w hSw; (try dsimp only at hSw); go_simp)
          simp only [Act.put, List.getElem_toArray, List.getElem_cons_succ, List.getElem_cons_zero]
          refine wpAnyH_done (by kernel_rfl) ?_ _
          clear hHeld
          go_wp2_with fail
          go_meet
          exact ⟨false, rfl, (fun h => by cases h), HP6⟩
      case rest =>
        obtain ⟨bb, rfl, hbb, HP6⟩ := hcut
        clear HP HPd c0 c1
        cases bb with
        | false =>
          refine Hid.out ?_
          refine Lib.hid ?_
          obtain ⟨r0, r1⟩ := HP6.out.res.cell
          have hRf := HP6.out.res.frozen
          obtain ⟨t0, t1⟩ := HP6.out.box.cell
          have hTz := HP6.out.box.lt
          go_wp2_with fail
          refine bodyPost_ret (v := .agg #[.int .i64 N, .slice A (ps.length) c]) (by simp [results, Try.results196, go_sem, r0, r1]) rfl (HP6.out.done (by omega) (by omega) (by first | omega | (rw [List.length_append]; simp; omega)))
        | true =>
          obtain ⟨hl12, hk12⟩ := hbb rfl
          clear hbb
          obtain ⟨w5, hw5⟩ : ∃ w5, w5 = wc := ⟨_, rfl⟩
          subst hw5
          have HPd := Lib.hid HP6.out.drew
          obtain ⟨c0, c1⟩ := HP6.out.box.cell
          have hTd : T < w5.heap.size := HP6.out.box.lt
          have hRd : w.heap.size < w5.heap.size := HP6.out.res.lt
          obtain ⟨J, hJ⟩ : ∃ J : Nat, 60 + (k : Int) = (J : Int) := ⟨60 + k, by omega⟩
          have hJw : IntKind.i64.wrap (J : Int) = (J : Int) := IntWalk.i64_in (J : Int) (by omega)
          obtain ⟨Y, hY⟩ : ∃ Y : Int, (if 2 > N then (2 : Int) else N) = Y := ⟨_, rfl⟩
          have HM := Lib.hid (fun w' => by have := most_any 2 N w'; rw [hY] at this; exact this)
          clear hY
          refine Hid.out ?_
          refine Lib.hid ?_
          go_upto_region 19 with (fail)
          refine wp_region_held_drew (S := fun w' => w'.cell? ⟨T, 0, none⟩ = some (.int .i64 N)) (by kernel_rfl) (by exact c0) (fun hHeld => ?_)
          refine wpAnyH_take (i := 0) (v := .pointer (some ⟨T, 1, none⟩)) rfl (by kernel_rfl) (by kernel_rfl) (by kernel_rfl) (fun _ _ _ h => h) (Or.inl ⟨by kernel_rfl, ?_⟩) (by assumption) ?_
          · (intro w hSw; (try dsimp only at hSw); go_simp)
          simp only [Act.put, List.setIfInBounds_toArray]
          refine wpAnyH_take (i := 2) (v := .int .i64 ((k : Int))) rfl (by kernel_rfl) (by kernel_rfl) (by kernel_rfl) (fun _ _ _ h => h) (Or.inl ⟨by kernel_rfl, ?_⟩) (by assumption) ?_
          · (intro w hSw; (try dsimp only at hSw); go_simp)
          simp only [Act.put]
          refine wpAnyH_take (i := 3) (v := .int .i64 ((J : Int))) rfl (by kernel_rfl) (by kernel_rfl) (by kernel_rfl) (fun _ _ _ h => h) (Or.inl ⟨by kernel_rfl, ?_⟩) (by assumption) ?_
          · (intro w hSw; (try dsimp only at hSw); go_simp; (try first | omega | assumption))
          simp only [Act.put]
          refine wpAnyH_take (i := 4) (v := .pointer (some ⟨T, 0, none⟩)) rfl (by kernel_rfl) (by kernel_rfl) (by kernel_rfl) (fun _ _ _ h => h) (Or.inl ⟨by kernel_rfl, ?_⟩) (by assumption) ?_
          · (intro w hSw; (try dsimp only at hSw); go_simp)
          simp only [Act.put]
          refine wpAnyH_take (i := 5) (v := .int .i64 (N)) rfl (by kernel_rfl) (by kernel_rfl) (by kernel_rfl) (fun _ _ _ h => h) (Or.inl ⟨by kernel_rfl, ?_⟩) (by assumption) ?_
          · (intro w hSw; (try dsimp only at hSw); go_simp)
          simp only [Act.put]
          refine wpAnyH_ready (rs := [1, 6]) (by kernel_rfl) (by simp) ?_
          refine AllReadyH.cons rfl (fun K hK => ?_) (AllReadyH.cons rfl (fun K hK => ?_) AllReadyH.nil)
          · skip
            go_simp
            refine hK.out _ _ (by first | assumption | go_keep) (fun hHeld => ?_)
            clear hK K
            refine wpAnyH_ready (rs := [6]) (by kernel_rfl) (by simp) ?_
            refine AllReadyH.cons rfl (fun K hK => ?_) AllReadyH.nil
            go_simp
            go_at_call 175
            refine (HM.out _).mono ?_
            rintro e w9 ⟨rfl, rfl⟩
            refine hK.out _ _ (by exact c0) (fun hHeld => ?_)
            clear hK K
            refine wpAnyH_take (i := 7) (v := .agg #[.int .i64 (J : Int), .int .i64 1, .int .i64 Y, .int .i64 2]) rfl (by kernel_rfl) (by kernel_rfl) (by kernel_rfl) (fun _ _ _ h => h) (Or.inl ⟨by kernel_rfl, ?_⟩) (by assumption) ?_
            · (intro w hSw; (try dsimp only at hSw); go_simp)
            simp only [Act.put]
            refine wpAnyH_ready (rs := [8]) (by kernel_rfl) (by simp) ?_
            refine AllReadyH.cons rfl (fun K hK => ?_) AllReadyH.nil
            go_simp
            refine hK.out _ _ (by first | assumption | go_keep) (fun hHeld => ?_)
            clear hK K
            refine wpAnyH_ready (rs := [9]) (by kernel_rfl) (by simp) ?_
            refine AllReadyH.cons rfl (fun K hK => ?_) AllReadyH.nil
            refine step_append_own _ (by rfl) _ _ _ (by rfl) w.heap.size 75 i0 _ 4 32 Try.underlying28 hi0 hz0 hz1 hz2 rfl (by omega) (.slice A ps.length c) ps.length (pcs ps) (by rfl) (HPd.out.own.alloc _) ⟨w5.heap.size, 0, none⟩ 1 1 (pcs4 ⟨(J : Int), 1, Y, 2⟩) (by rfl) rfl (cells_newP w5.drew ⟨(J : Int), 1, Y, 2⟩) (by intro u hu; simp [pcs4] at hu; rcases hu with rfl | rfl | rfl | rfl <;> rfl) (by simp only [maxLen]; omega) (by omega) (by have := HPd.out.gr.size; simp at this ⊢; omega) ?_
            intro v' w8 hown' hgrow hnil
            obtain ⟨d0, d1, df, q, c', rfl⟩ := (HPd.out.alloc _).mid hgrow hown'
            have HPn := Lib.hid ((HPd.out.alloc _).push hgrow hown')
            clear hown' hgrow hnil
            refine hK.out _ _ (by exact d0) (fun hHeld => ?_)
            clear hK K
            refine wpAnyH_take (i := 10) (v := .pointer (some ⟨T, 1, none⟩)) rfl (by kernel_rfl) (by kernel_rfl) (by kernel_rfl) (fun _ _ _ h => h) (Or.inl ⟨by kernel_rfl, ?_⟩) (by assumption) ?_
            · (intro w hSw; (try dsimp only at hSw); go_simp)
            simp only [Act.put, List.getElem_toArray, List.getElem_cons_succ, List.getElem_cons_zero]
            refine wpAnyH_ready (rs := [11]) (by kernel_rfl) (by simp) ?_
            refine AllReadyH.cons rfl (fun K hK => ?_) AllReadyH.nil
            go_simp
            refine hK.out _ _ (by exact HPn.out.box.cell.1) (fun hHeld => ?_)
            clear hK K
            refine wpAnyH_done (by kernel_rfl) ?_ _
            clear HP6 HPd c0 c1
            go_wp2_with fail
            go_roundw
            case rel => exact ⟨k + 1, some ⟨q, 0, none⟩, c', ps ++ [⟨(J : Int), 1, Y, 2⟩], by go_num, by omega, by rw [List.length_append]; simp; omega, Lib.hid (by have := HPn.out.more (show KC + 202 + 4 * k + 2 ≤ KC + 202 + 4 * (k + 1) by omega); rw [List.length_append]; exact this)⟩
            case measure => simp [intOf]; omega
          · skip
            go_simp
            go_at_call 175
            refine (HM.out _).mono ?_
            rintro e w9 ⟨rfl, rfl⟩
            refine hK.out _ _ (by exact c0) (fun hHeld => ?_)
            clear hK K
            refine wpAnyH_take (i := 7) (v := .agg #[.int .i64 (J : Int), .int .i64 1, .int .i64 Y, .int .i64 2]) rfl (by kernel_rfl) (by kernel_rfl) (by kernel_rfl) (fun _ _ _ h => h) (Or.inl ⟨by kernel_rfl, ?_⟩) (by assumption) ?_
            · (intro w hSw; (try dsimp only at hSw); go_simp)
            simp only [Act.put]
            refine wpAnyH_ready (rs := [1, 8]) (by kernel_rfl) (by simp) ?_
            refine AllReadyH.cons rfl (fun K hK => ?_) (AllReadyH.cons rfl (fun K hK => ?_) AllReadyH.nil)
            · skip
              go_simp
              refine hK.out _ _ (by first | assumption | go_keep) (fun hHeld => ?_)
              clear hK K
              refine wpAnyH_ready (rs := [8]) (by kernel_rfl) (by simp) ?_
              refine AllReadyH.cons rfl (fun K hK => ?_) AllReadyH.nil
              go_simp
              refine hK.out _ _ (by first | assumption | go_keep) (fun hHeld => ?_)
              clear hK K
              refine wpAnyH_ready (rs := [9]) (by kernel_rfl) (by simp) ?_
              refine AllReadyH.cons rfl (fun K hK => ?_) AllReadyH.nil
              refine step_append_own _ (by rfl) _ _ _ (by rfl) w.heap.size 75 i0 _ 4 32 Try.underlying28 hi0 hz0 hz1 hz2 rfl (by omega) (.slice A ps.length c) ps.length (pcs ps) (by rfl) (HPd.out.own.alloc _) ⟨w5.heap.size, 0, none⟩ 1 1 (pcs4 ⟨(J : Int), 1, Y, 2⟩) (by rfl) rfl (cells_newP w5.drew ⟨(J : Int), 1, Y, 2⟩) (by intro u hu; simp [pcs4] at hu; rcases hu with rfl | rfl | rfl | rfl <;> rfl) (by simp only [maxLen]; omega) (by omega) (by have := HPd.out.gr.size; simp at this ⊢; omega) ?_
              intro v' w8 hown' hgrow hnil
              obtain ⟨d0, d1, df, q, c', rfl⟩ := (HPd.out.alloc _).mid hgrow hown'
              have HPn := Lib.hid ((HPd.out.alloc _).push hgrow hown')
              clear hown' hgrow hnil
              refine hK.out _ _ (by exact d0) (fun hHeld => ?_)
              clear hK K
              refine wpAnyH_take (i := 10) (v := .pointer (some ⟨T, 1, none⟩)) rfl (by kernel_rfl) (by kernel_rfl) (by kernel_rfl) (fun _ _ _ h => h) (Or.inl ⟨by kernel_rfl, ?_⟩) (by assumption) ?_
              · (intro w hSw; (try dsimp only at hSw); go_simp)
              simp only [Act.put, List.getElem_toArray, List.getElem_cons_succ, List.getElem_cons_zero]
              refine wpAnyH_ready (rs := [11]) (by kernel_rfl) (by simp) ?_
              refine AllReadyH.cons rfl (fun K hK => ?_) AllReadyH.nil
              go_simp
              refine hK.out _ _ (by exact HPn.out.box.cell.1) (fun hHeld => ?_)
              clear hK K
              refine wpAnyH_done (by kernel_rfl) ?_ _
              clear HP6 HPd c0 c1
              go_wp2_with fail
              go_roundw
              case rel => exact ⟨k + 1, some ⟨q, 0, none⟩, c', ps ++ [⟨(J : Int), 1, Y, 2⟩], by go_num, by omega, by rw [List.length_append]; simp; omega, Lib.hid (by have := HPn.out.more (show KC + 202 + 4 * k + 2 ≤ KC + 202 + 4 * (k + 1) by omega); rw [List.length_append]; exact this)⟩
              case measure => simp [intOf]; omega
            · skip
              go_simp
              refine hK.out _ _ (by first | assumption | go_keep) (fun hHeld => ?_)
              clear hK K
              refine wpAnyH_ready (rs := [1]) (by kernel_rfl) (by simp) ?_
              refine AllReadyH.cons rfl (fun K hK => ?_) AllReadyH.nil
              go_simp
              refine hK.out _ _ (by first | assumption | go_keep) (fun hHeld => ?_)
              clear hK K
              refine wpAnyH_ready (rs := [9]) (by kernel_rfl) (by simp) ?_
              refine AllReadyH.cons rfl (fun K hK => ?_) AllReadyH.nil
              refine step_append_own _ (by rfl) _ _ _ (by rfl) w.heap.size 75 i0 _ 4 32 Try.underlying28 hi0 hz0 hz1 hz2 rfl (by omega) (.slice A ps.length c) ps.length (pcs ps) (by rfl) (HPd.out.own.alloc _) ⟨w5.heap.size, 0, none⟩ 1 1 (pcs4 ⟨(J : Int), 1, Y, 2⟩) (by rfl) rfl (cells_newP w5.drew ⟨(J : Int), 1, Y, 2⟩) (by intro u hu; simp [pcs4] at hu; rcases hu with rfl | rfl | rfl | rfl <;> rfl) (by simp only [maxLen]; omega) (by omega) (by have := HPd.out.gr.size; simp at this ⊢; omega) ?_
              intro v' w8 hown' hgrow hnil
              obtain ⟨d0, d1, df, q, c', rfl⟩ := (HPd.out.alloc _).mid hgrow hown'
              have HPn := Lib.hid ((HPd.out.alloc _).push hgrow hown')
              clear hown' hgrow hnil
              refine hK.out _ _ (by exact d0) (fun hHeld => ?_)
              clear hK K
              refine wpAnyH_take (i := 10) (v := .pointer (some ⟨T, 1, none⟩)) rfl (by kernel_rfl) (by kernel_rfl) (by kernel_rfl) (fun _ _ _ h => h) (Or.inl ⟨by kernel_rfl, ?_⟩) (by assumption) ?_
              · (intro w hSw; (try dsimp only at hSw); go_simp)
              simp only [Act.put, List.getElem_toArray, List.getElem_cons_succ, List.getElem_cons_zero]
              refine wpAnyH_ready (rs := [11]) (by kernel_rfl) (by simp) ?_
              refine AllReadyH.cons rfl (fun K hK => ?_) AllReadyH.nil
              go_simp
              refine hK.out _ _ (by exact HPn.out.box.cell.1) (fun hHeld => ?_)
              clear hK K
              refine wpAnyH_done (by kernel_rfl) ?_ _
              clear HP6 HPd c0 c1
              go_wp2_with fail
              go_roundw
              case rel => exact ⟨k + 1, some ⟨q, 0, none⟩, c', ps ++ [⟨(J : Int), 1, Y, 2⟩], by go_num, by omega, by rw [List.length_append]; simp; omega, Lib.hid (by have := HPn.out.more (show KC + 202 + 4 * k + 2 ≤ KC + 202 + 4 * (k + 1) by omega); rw [List.length_append]; exact this)⟩
              case measure => simp [intOf]; omega
  · have n4 : ((R : Int) == 4) = false := beq_eq_false_iff_ne.2 (by omega)
    clear HX3 x0 x1 x2 x3 xf c0 c1 cf
    refine Lib.hid ?_
    obtain ⟨r0, r1⟩ := HP3.out.res.cell
    have hRf := HP3.out.res.frozen
    obtain ⟨t0, t1⟩ := HP3.out.box.cell
    have hTz := HP3.out.box.lt
    go_wp2_with fail
    refine bodyPost_ret (v := .agg #[.int .i64 N, .slice A (ps.length) c]) (by simp [results, Try.results196, go_sem, r0, r1]) rfl (HP3.out.done (by omega) (by omega) (by first | omega | (rw [List.length_append]; simp; omega)))
end Go.Proofs.Ytgjogjmfpbinfaa.S2

namespace Go.Proofs.Ytgjogjmfpbinfaa.S2
open Go.RowKit Go.Sort P2

theorem st_lt {B g : Nat} {a : Option Addr} {n cap K : Nat} {w : World} (h : S1.St B g a n cap K w) : g < w.heap.size := by
  obtain ⟨k, sd, hk, hh⟩ := h.cur
  exact (Array.getElem?_eq_some_iff.1 hh).1
theorem size_alloc (w : World) (o : Obj) : (w.alloc o).heap.size = w.heap.size + 1 := by simp
set_option maxHeartbeats 1000000 in
set_option maxRecDepth 100000 in
theorem node_draw (B g : Nat) (a : Option Addr) (n cap K : Nat) (N : Int) (A : Option Addr) (len c : Nat) (w : World) (hK : K ≤ 800000) (hN9 : N ≤ 1000000) (h : S1.St B g a n cap K w) :
    Calls Try.prog 153 #[.pointer (some ⟨g, 0, none⟩), nv N A len c] w fun e w' => (∃ z : Int, e = .returned (.int .i64 z)) ∧ S1.St B g a n cap (K + 4) w' ∧ w.grownBy w' (some g) := by
  have HS := Lib.hid (S1.st_new h (nb N A len c))
  have HG := Lib.hid (show w.grownBy (w.alloc (nb N A len c)) (some g) from World.grownBy_alloc w _ (some g))
  have hlt := st_lt h
  clear h
  by_cases hN1 : N < 1
  · have d0 : decide (N < 1) = true := decide_eq_true hN1
    have HTI := Lib.hid (show S1.Ti (w.heap.size + 1) [0, 9, 1, (-1)] ((w.alloc (nb N A len c)).alloc (.cells #[.int .i64 0, .int .i64 9, .int .i64 1, .int .i64 (-1)] 3)) from by have := S1.ti_new (w.alloc (nb N A len c)) [0, 9, 1, (-1)] 3; rw [size_alloc] at this; exact this)
    have HS2 := Lib.hid (S1.st_new HS.out (.cells #[.int .i64 0, .int .i64 9, .int .i64 1, .int .i64 (-1)] 3))
    clear hN1
    go_enter Try.func153, Try.ntmps153
    refine Hid.out ?_
    refine Lib.hid ?_
    go_wp2_with (first | (go_at_call 150; refine (S1.among_any B g a n cap K (w.heap.size + 1) 4 4 [0, 9, 1, (-1)] _ rfl (by omega) (by simp) (by simp) HS2.out HTI.out (by omega)).mono ?_; rintro e w9 ⟨⟨z, rfl⟩, hs9, hg9⟩; refine Hid.out ?_) | fail)
    refine Lib.hid ?_
    go_wp2_with fail
    go_ret
    exact ⟨⟨_, rfl⟩, hs9.more (by omega), S1.grown_trans (S1.grown_trans HG.out (World.grownBy_alloc _ _ (some g))) hg9⟩
  · have d0 : decide (N < 1) = false := decide_eq_false hN1
    have h1N : 1 ≤ N := by omega
    clear hN1
    go_enter Try.func153, Try.ntmps153
    refine Hid.out ?_
    refine Lib.hid ?_
    go_wp2_with (first | (go_at_call 151; refine (S1.one_any B g a n cap K 12 _ (by omega) (by omega) (by omega) HS.out).mono ?_; rintro e w1 ⟨b1, rfl, hs, hg⟩; refine Hid.out ?_) | fail)
    have HS1 := Lib.hid hs
    have HG1 := Lib.hid (S1.grown_trans HG.out hg)
    have hz1 : w.heap.size < w1.heap.size := by have := hg.size; simp at this; omega
    have c0 : w1.cell? ⟨w.heap.size, 0, none⟩ = some (.int .i64 N) := (hg.cell_far ⟨w.heap.size, 0, none⟩ (by simp) (by simp; omega)).trans (by rw [World.cell?_alloc_at _ _ _ _ rfl]; rfl)
    clear hs hg HG HS
    cases b1 with
    | true =>
      have HTI := Lib.hid (show S1.Ti (w1.heap.size) [0, 9, 1, (-1)] (w1.alloc (.cells #[.int .i64 0, .int .i64 9, .int .i64 1, .int .i64 (-1)] 3)) from by have := S1.ti_new w1 [0, 9, 1, (-1)] 3; exact this)
      have HS2 := Lib.hid (S1.st_new HS1.out (.cells #[.int .i64 0, .int .i64 9, .int .i64 1, .int .i64 (-1)] 3))
      refine Lib.hid ?_
      go_wp2_with (first | (go_at_call 150; refine (S1.among_any B g a n cap (K + 2) w1.heap.size 4 4 [0, 9, 1, (-1)] _ rfl (by omega) (by simp) (by simp) HS2.out HTI.out (by omega)).mono ?_; rintro e w9 ⟨⟨z, rfl⟩, hs9, hg9⟩; refine Hid.out ?_) | fail)
      refine Lib.hid ?_
      go_wp2_with fail
      go_ret
      exact ⟨⟨_, rfl⟩, hs9, S1.grown_trans (S1.grown_trans HG1.out (World.grownBy_alloc _ _ (some g))) hg9⟩
    | false =>
      refine Lib.hid ?_
      go_wp2_with (first | (go_at_call 149; refine (S1.pick_any B g a n cap (K + 2) N _ (by omega) h1N hN9 HS1.out).mono ?_; rintro e w9 ⟨r, rfl, hr0, hr9, hs9, hg9⟩; refine Hid.out ?_) | fail)
      refine Lib.hid ?_
      go_wp2_with fail
      go_ret
      exact ⟨⟨_, rfl⟩, hs9, S1.grown_trans HG1.out hg9⟩
end Go.Proofs.Ytgjogjmfpbinfaa.S2

namespace Go.Proofs.Ytgjogjmfpbinfaa.S2
open Go.RowKit Go.Sort P2

/-- A drawn network: its nodes' number, its pipes in a row that the draw made. -/
structure DNet (B : Nat) (w : World) (N : Int) (A : Option Addr) (c : Nat) (ps : List Pp) : Prop where
  n0 : 0 ≤ N
  n9 : N ≤ 9
  len : ps.length ≤ 12
  cap : ps.length ≤ c
  own : w.ownsRow B 75 4 (.slice A ps.length c) ps.length (pcs ps)
theorem DNet.pat {B : Nat} {w : World} {N : Int} {A : Option Addr} {c : Nat} {ps : List Pp} (h : DNet B w N A c ps) : PAt w A ps := own_patP h.own
theorem DNet.low {B B' : Nat} {w : World} {N : Int} {A : Option Addr} {c : Nat} {ps : List Pp} (h : DNet B w N A c ps) (hB : B' ≤ B) : DNet B' w N A c ps := ⟨h.n0, h.n9, h.len, h.cap, ownP_lower h.own hB⟩
theorem DNet.on {B : Nat} {w w' : World} {N : Int} {A : Option Addr} {c : Nat} {ps : List Pp} (h : DNet B w N A c ps) (hb : Below w.heap.size w w') : DNet B w' N A c ps := ⟨h.n0, h.n9, h.len, h.cap, own_onP h.own hb⟩
theorem DNet.grown {B g : Nat} {w w' : World} {N : Int} {A : Option Addr} {c : Nat} {ps : List Pp} (h : DNet B w N A c ps) (hg : w.grownBy w' (some g)) (hB : g < B) : DNet B w' N A c ps :=
  ⟨h.n0, h.n9, h.len, h.cap, World.ownsRow.kept h.own hg (.inr (fun e => by have := (h.own.lt g e).1; omega))⟩
theorem DNet.set {B : Nat} {w : World} {N : Int} {A : Option Addr} {c : Nat} {ps : List Pp} (h : DNet B w N A c ps) (b i : Nat) (u : Value) (hb : b < B) : DNet B (w.setCell ⟨b, i, none⟩ u) N A c ps :=
  ⟨h.n0, h.n9, h.len, h.cap, ownsRow_setCell_other h.own (a := ⟨b, i, none⟩) (fun e => by have := (h.own.lt b e).1; omega) u⟩
theorem DNet.of {B g : Nat} {a : Option Addr} {n cap K : Nat} {w w' : World} {e : Ending} (h : NetPost B g a n cap K 12 w e w') : ∃ N A c ps, e = .returned (nv N A ps.length c) ∧ DNet w.heap.size w' N A c ps ∧ S1.St B g a n cap K w' ∧ w.grownBy w' (some g) := by
  obtain ⟨N, v, ps, he, hN, hpl, ho, hs, hg⟩ := h
  obtain ⟨A, c, rfl⟩ := ownP_slice ho
  refine ⟨N, A, c, ps, he, ⟨hN.1, hN.2, hpl, ?_, ho⟩, hs, hg⟩
  rcases ho.2 with ⟨hv, hn⟩ | ⟨g', c', cur, hv, _, _, hle, _, _⟩
  · rw [hn]; exact Nat.zero_le _
  · injection hv with _ _ h3
    rw [h3]; exact hle
/-- The cursor made, behind the result's box. -/
theorem cur_start {a : Option Addr} {n : Nat} (cap : Nat) {w : World} (o : Obj) (h : S1.Cd w.heap.size a n w) (hn : n ≤ 65536) : S1.St (w.heap.size + 1) (w.heap.size + 1) a n cap 0 ((w.alloc o).alloc (.cells #[.slice a n cap, .int .i64 0, .int .u64 0] 129)) := by
  have := S1.st_start cap (h.later (alloc_below w o) (Nat.le_refl _)) hn
  rw [size_alloc] at this
  exact this
theorem below2 {w w1 : World} {o1 o2 : Obj} {g : Nat} (hg : ((w.alloc o1).alloc o2).grownBy w1 (some g)) (hgw : w.heap.size < g) : Below w.heap.size w w1 :=
  (((Below.refl _ _).alloc (Nat.le_refl _) o1).alloc (by simp) o2).trans (S1.grown_below hg (by omega) (by simp; omega))

set_option maxHeartbeats 2000000 in
set_option maxRecDepth 100000 in
theorem dvalid_any (a : Option Addr) (n cap : Nat) (w : World) (h : S1.Cd w.heap.size a n w) (hn : n ≤ 65536) :
    Calls Try.prog 194 #[.slice a n cap] w fun e w' => ∃ N A c ps, e = .returned (nv N A ps.length c) ∧ DNet (w.heap.size + 1) w' N A c ps ∧ Below w.heap.size w w' := by
  have HST := Lib.hid (cur_start cap (nb 0 none 0 0) h hn)
  clear h
  go_enter Try.func194, Try.ntmps194
  refine Hid.out ?_
  refine Lib.hid ?_
  go_wp2_with (first | (go_at_call 196; refine (anynet_any (w.heap.size + 1) (w.heap.size + 1) a n cap 0 _ (by omega) HST.out (by simp)).mono ?_; rintro e w1 hpost; obtain ⟨N, A, c, ps, rfl, hd, hs, hg⟩ := DNet.of hpost; refine Hid.out ?_) | fail)
  have HT := ((TN.made w (.int .i64 0) (.slice none 0 0)).below (alloc_below _ _)).grown hg (by omega)
  obtain ⟨r0, r1⟩ := HT.cell
  have hRf := HT.frozen
  have hRz := HT.lt
  have hD := Lib.hid (((hd.low (show w.heap.size + 1 ≤ ((w.alloc (nb 0 none 0 0)).alloc (.cells #[.slice a n cap, .int .i64 0, .int .u64 0] 129)).heap.size by simp)).set w.heap.size 0 (.int .i64 N) (by omega)).set w.heap.size 1 (.slice A ps.length c) (by omega))
  have hB := Lib.hid (((below2 hg (by omega)).setCell (p := ⟨w.heap.size, 0, none⟩) (Nat.le_refl _) (.int .i64 N)).setCell (p := ⟨w.heap.size, 1, none⟩) (Nat.le_refl _) (.slice A ps.length c))
  clear hd hs hg HT
  refine Lib.hid ?_
  go_wp2_with fail
  refine bodyPost_ret (v := nv N A ps.length c) (by simp [results, Try.results194, go_sem, r0, r1]) rfl ⟨N, A, c, ps, rfl, hD.out, hB.out⟩
set_option maxHeartbeats 2000000 in
set_option maxRecDepth 100000 in
theorem dparts_any (a : Option Addr) (n cap : Nat) (w : World) (h : S1.Cd w.heap.size a n w) (hn : n ≤ 65536) :
    Calls Try.prog 102 #[.slice a n cap] w fun e w' => ∃ N A c ps, e = .returned (nv N A ps.length c) ∧ DNet (w.heap.size + 1) w' N A c ps ∧ Below w.heap.size w w' := by
  have HC := Lib.hid (h.later (alloc_below w (nb 0 none 0 0)) (Nat.le_refl _))
  clear h
  go_enter Try.func102, Try.ntmps102
  refine Hid.out ?_
  refine Lib.hid ?_
  go_wp2_with (first | (go_at_call 194; refine (dvalid_any a n cap _ HC.out hn).mono ?_; rintro e w1 ⟨N, A, c, ps, rfl, hd, hb⟩; refine Hid.out ?_) | fail)
  have HT := (TN.made w (.int .i64 0) (.slice none 0 0)).below hb
  obtain ⟨r0, r1⟩ := HT.cell
  have hRf := HT.frozen
  have hRz := HT.lt
  have hD := Lib.hid (((hd.low (show w.heap.size + 1 ≤ (w.alloc (nb 0 none 0 0)).heap.size + 1 by simp)).set w.heap.size 0 (.int .i64 N) (by omega)).set w.heap.size 1 (.slice A ps.length c) (by omega))
  have hB := Lib.hid ((((alloc_below w (nb 0 none 0 0)).trans (hb.mono (by simp))).setCell (p := ⟨w.heap.size, 0, none⟩) (Nat.le_refl _) (.int .i64 N)).setCell (p := ⟨w.heap.size, 1, none⟩) (Nat.le_refl _) (.slice A ps.length c))
  clear hd hb HT
  refine Lib.hid ?_
  go_wp2_with fail
  refine bodyPost_ret (v := nv N A ps.length c) (by simp [results, Try.results102, go_sem, r0, r1]) rfl ⟨N, A, c, ps, rfl, hD.out, hB.out⟩
set_option maxHeartbeats 2000000 in
set_option maxRecDepth 100000 in
theorem dbridge_any (a : Option Addr) (n cap : Nat) (w : World) (h : S1.Cd w.heap.size a n w) (hn : n ≤ 65536) :
    Calls Try.prog 99 #[.slice a n cap] w fun e w' => ∃ N A c ps, e = .returned (nv N A ps.length c) ∧ DNet (w.heap.size + 1) w' N A c ps ∧ Below w.heap.size w w' := by
  have HC := Lib.hid (h.later (alloc_below w (nb 0 none 0 0)) (Nat.le_refl _))
  clear h
  go_enter Try.func99, Try.ntmps99
  refine Hid.out ?_
  refine Lib.hid ?_
  go_wp2_with (first | (go_at_call 194; refine (dvalid_any a n cap _ HC.out hn).mono ?_; rintro e w1 ⟨N, A, c, ps, rfl, hd, hb⟩; refine Hid.out ?_) | fail)
  have HT := (TN.made w (.int .i64 0) (.slice none 0 0)).below hb
  obtain ⟨r0, r1⟩ := HT.cell
  have hRf := HT.frozen
  have hRz := HT.lt
  have hD := Lib.hid (((hd.low (show w.heap.size + 1 ≤ (w.alloc (nb 0 none 0 0)).heap.size + 1 by simp)).set w.heap.size 0 (.int .i64 N) (by omega)).set w.heap.size 1 (.slice A ps.length c) (by omega))
  have hB := Lib.hid ((((alloc_below w (nb 0 none 0 0)).trans (hb.mono (by simp))).setCell (p := ⟨w.heap.size, 0, none⟩) (Nat.le_refl _) (.int .i64 N)).setCell (p := ⟨w.heap.size, 1, none⟩) (Nat.le_refl _) (.slice A ps.length c))
  clear hd hb HT
  refine Lib.hid ?_
  go_wp2_with fail
  refine bodyPost_ret (v := nv N A ps.length c) (by simp [results, Try.results99, go_sem, r0, r1]) rfl ⟨N, A, c, ps, rfl, hD.out, hB.out⟩
end Go.Proofs.Ytgjogjmfpbinfaa.S2

namespace Go.Proofs.Ytgjogjmfpbinfaa.S2
open Go.RowKit Go.Sort P2

/-- A network in a box that the draw made, read through the draw's calls. -/
theorem net_cells {w w' : World} {N : Int} {v : Value} (h : Below (w.heap.size + 1) (w.alloc (.cells #[.int .i64 N, v] 30)) w') : w'.cell? ⟨w.heap.size, 0, none⟩ = some (.int .i64 N) ∧ w'.cell? ⟨w.heap.size, 1, none⟩ = some v := box2 h
set_option maxHeartbeats 4000000 in
set_option maxRecDepth 100000 in
theorem dpipesat_any (a : Option Addr) (n cap : Nat) (w : World) (h : S1.Cd w.heap.size a n w) (hn : n ≤ 65536) :
    Calls Try.prog 107 #[.slice a n cap] w fun e w' => ∃ N A c ps z, e = .returned (.tuple #[nv N A ps.length c, .int .i64 z]) ∧ DNet (w.heap.size + 1) w' N A c ps ∧ Below w.heap.size w w' := by
  have HST := Lib.hid (cur_start cap (nb 0 none 0 0) h hn)
  clear h
  go_enter Try.func107, Try.ntmps107
  refine Hid.out ?_
  refine Lib.hid ?_
  go_wp2_with (first | (go_at_call 196; refine (anynet_any (w.heap.size + 1) (w.heap.size + 1) a n cap 0 _ (by omega) HST.out (by simp)).mono ?_; rintro e w1 hpost; obtain ⟨N, A, c, ps, rfl, hd, hs, hg⟩ := DNet.of hpost; refine Hid.out ?_) | fail)
  have HT := Lib.hid (((TN.made w (.int .i64 0) (.slice none 0 0)).below (alloc_below _ _)).grown hg (by omega))
  have hz1 : w.heap.size + 2 ≤ w1.heap.size := by have := hg.size; simp at this; omega
  have hD1 := Lib.hid (hd.low (show w.heap.size + 2 ≤ ((w.alloc (nb 0 none 0 0)).alloc (.cells #[.slice a n cap, .int .i64 0, .int .u64 0] 129)).heap.size by simp))
  have hN9 : N ≤ 1000000 := by have := hd.n9; omega
  have hgr := Lib.hid hg
  have hs2 := Lib.hid (S1.st_new hs (nb N A ps.length c))
  have hg2 := Lib.hid (World.grownBy_alloc w1 (nb N A ps.length c) (some (w.heap.size + 1)))
  have hT2 := Lib.hid (HT.out.below (alloc_below w1 (nb N A ps.length c)))
  have hD2 := Lib.hid (hD1.out.on (alloc_below w1 (nb N A ps.length c)))
  have hX2 := Lib.hid (TN.made w1 (.int .i64 N) (.slice A ps.length c))
  have hzW : (w1.alloc (nb N A ps.length c)).heap.size = w1.heap.size + 1 := by simp
  clear hd hs hg HT hD1
  refine Lib.hid ?_
  go_upto_region 3 with (fail)
  obtain ⟨wa, hwa⟩ : ∃ wa, w1.alloc (nb N A ps.length c) = wa := ⟨_, rfl⟩
  rw [hwa] at hs2 hg2 hT2 hD2 hX2 hzW ⊢
  have hza : w1.heap.size < wa.heap.size := by omega
  have hgra := Lib.hid (S1.grown_trans hgr.out hg2.out)
  clear hwa hgr hg2 hzW
  obtain ⟨c0, c1⟩ := hX2.out.cell
  obtain ⟨r0, r1⟩ := hT2.out.cell
  have hRf := hT2.out.frozen
  have hRz := hT2.out.lt
  refine wp_region_held_drew (S := fun w' => w'.cell? ⟨w1.heap.size, 0, none⟩ = some (.int .i64 N) ∧ w'.cell? ⟨w1.heap.size, 1, none⟩ = some (.slice A ps.length c)) (by kernel_rfl) (by exact ⟨c0, c1⟩) (fun hHeld => ?_)
  refine wpAnyH_take (i := 0) (v := .agg #[.int .i64 N, .slice A ps.length c]) rfl (by kernel_rfl) (by kernel_rfl) (by kernel_rfl) (fun _ _ _ h => h) (Or.inl ⟨by kernel_rfl, ?_⟩) (by assumption) ?_
  · (intro w hSw; (try dsimp only at hSw); go_simp)
  simp only [Act.put, List.setIfInBounds_toArray]
  refine wpAnyH_take (i := 1) (v := .pointer (some ⟨w.heap.size + 1, 0, none⟩)) rfl (by kernel_rfl) (by kernel_rfl) (by kernel_rfl) (fun _ _ _ h => h) (Or.inl ⟨by kernel_rfl, ?_⟩) (by assumption) ?_
  · (intro w hSw; (try dsimp only at hSw); go_simp)
  simp only [Act.put]
  refine wpAnyH_take (i := 2) (v := .agg #[.int .i64 N, .slice A ps.length c]) rfl (by kernel_rfl) (by kernel_rfl) (by kernel_rfl) (fun _ _ _ h => h) (Or.inl ⟨by kernel_rfl, ?_⟩) (by assumption) ?_
  · (intro w hSw; (try dsimp only at hSw); go_simp)
  simp only [Act.put]
  refine wpAnyH_ready (rs := [3]) (by kernel_rfl) (by simp) ?_
  refine AllReadyH.cons rfl (fun K hK => ?_) AllReadyH.nil
  go_simp
  go_at_call 153
  refine (node_draw (w.heap.size + 1) (w.heap.size + 1) a n cap (0 + 400) N A ps.length c _ (by omega) hN9 (S1.St.other hs2.out (Below.refl _ _).drew)).mono ?_
  rintro e w2 ⟨⟨z, rfl⟩, hs3, hg3⟩
  have hg3' : wa.grownBy w2 (some (w.heap.size + 1)) := ⟨hg3.os, hg3.tape, hg3.output, hg3.size, hg3.block⟩
  have hX3 := Lib.hid (hX2.out.grown hg3' (by omega))
  have hT3 := Lib.hid (hT2.out.grown hg3' (by omega))
  have hD3 := Lib.hid (hD2.out.grown hg3' (by omega))
  have hG3 := Lib.hid (S1.grown_trans hgra.out hg3')
  clear hg3 hg3' hs3
  obtain ⟨x0, x1⟩ := hX3.out.cell
  obtain ⟨s0, s1⟩ := hT3.out.cell
  have sf := hT3.out.frozen
  have sz := hT3.out.lt
  refine hK.out _ _ (by exact ⟨x0, x1⟩) (fun hHeld => ?_)
  clear hK K
  have hD := Lib.hid (((hD3.out.low (show w.heap.size + 1 ≤ w.heap.size + 2 by omega)).set w.heap.size 0 (.int .i64 N) (by omega)).set w.heap.size 1 (.slice A ps.length c) (by omega))
  have hB := Lib.hid (((below2 hG3.out (by omega)).setCell (p := ⟨w.heap.size, 0, none⟩) (Nat.le_refl _) (.int .i64 N)).setCell (p := ⟨w.heap.size, 1, none⟩) (Nat.le_refl _) (.slice A ps.length c))
  refine wpAnyH_ready (rs := [4]) (by kernel_rfl) (by simp) ?_
  refine AllReadyH.cons rfl (fun K hK => ?_) AllReadyH.nil
  go_simp
  refine hK.out _ _ (by first | assumption | go_keep | exact (((hX3.out.other (p := ⟨w.heap.size, 0, none⟩) (.int .i64 N) (by show w1.heap.size ≠ w.heap.size; omega)).other (p := ⟨w.heap.size, 1, none⟩) (.slice A ps.length c) (by show w1.heap.size ≠ w.heap.size; omega)).cell)) (fun hHeld => ?_)
  clear hK K
  refine wpAnyH_ready (rs := [5]) (by kernel_rfl) (by simp) ?_
  refine AllReadyH.cons rfl (fun K hK => ?_) AllReadyH.nil
  go_simp
  refine hK.out _ _ (by first | assumption | go_keep | exact (((hX3.out.other (p := ⟨w.heap.size, 0, none⟩) (.int .i64 N) (by show w1.heap.size ≠ w.heap.size; omega)).other (p := ⟨w.heap.size, 1, none⟩) (.slice A ps.length c) (by show w1.heap.size ≠ w.heap.size; omega)).cell)) (fun hHeld => ?_)
  clear hK K
  refine wpAnyH_done (by kernel_rfl) ?_ _
  clear hHeld c0 c1 r0 r1 hRf hRz
  go_wp2_with fail
  refine bodyPost_ret (v := .tuple #[nv N A ps.length c, .int .i64 z]) (by simp [results, Try.results107, go_sem, s0, s1]) rfl ⟨N, A, c, ps, z, rfl, hD.out, hB.out⟩
end Go.Proofs.Ytgjogjmfpbinfaa.S2
