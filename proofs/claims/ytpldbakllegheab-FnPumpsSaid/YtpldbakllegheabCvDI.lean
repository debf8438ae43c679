/- How the laws of chapter 7 draw a curve: contracts. Conditions: each theorem's own premises. -/
import Derived.Test.YtpldbakllegheabPfDraw
import Derived.Test.YtpldbakllegheabCvRaise
namespace Go.Proofs.Ytpldbakllegheab.S1
open Go.RowKit
/-- one. -/
theorem one_any (B g : Nat) (a : Option Addr) (n cap K : Nat) (m : Int) (w : World) (hK : K ≤ 900000) (h1 : 1 ≤ m) (h2 : m ≤ 1000000) (h : St B g a n cap K w) :
    Calls Try.prog 61 #[.pointer (some ⟨g, 0, none⟩), .int .i64 m] w fun e w' => ∃ r : Bool, e = .returned (.bool r) ∧ St B g a n cap (K + 2) w' ∧ w.grownBy w' (some g) := by
  have HS := Lib.hid h
  clear h
  go_enter Try.func61, Try.ntmps61
  go_wp2_with (go_at_call 42; refine (pick_any B g a n cap K m _ hK h1 h2 HS.out).mono ?_; rintro e w1 ⟨r, rfl, hr0, hr1, hs1, hg1⟩)
  go_ret
  exact ⟨_, rfl, hs1, hg1⟩
end Go.Proofs.Ytpldbakllegheab.S1
namespace Go.Proofs.Ytpldbakllegheab.S7
open Go.RowKit Go.Sort P7

theorem set_split (cs : List Cp) (k : Nat) (c : Cp) (h : k < cs.length) : cs.set k c = cs.take k ++ c :: cs.drop (k + 1) := List.set_eq_take_append_cons_drop.trans (by rw [if_pos h])
theorem self_split (cs : List Cp) (k : Nat) (h : k < cs.length) : cs = cs.take k ++ cAt cs k :: cs.drop (k + 1) := by
  rw [cAt_eq cs k h, ← List.drop_eq_getElem_cons h, List.take_append_drop]
theorem ccs_setp (cs : List Cp) (k : Nat) (x y : Int) (h : k < cs.length) : ((ccs cs).set (k * 2) (.int .i64 x)).set (k * 2 + 1) (.int .i64 y) = ccs (cs.set k ⟨x, y⟩) := by
  have hl : (ccs (cs.take k)).length = k * 2 := by rw [ccs_len, List.length_take]; omega
  rw [set_split cs k ⟨x, y⟩ h, ccs_app]
  conv => lhs; rw [self_split cs k h, ccs_app]
  rw [List.set_append_right _ _ (by omega), List.set_append_right _ _ (by omega), hl, Nat.sub_self, show k * 2 + 1 - k * 2 = 1 by omega]
  rfl
/-- The cursor's block is not touched by what grows in another one. -/
theorem st_row {B g gv : Nat} {a : Option Addr} {n cap K : Nat} {w w' : World} (h : S1.St B g a n cap K w) (hg : w.grownBy w' (some gv)) (hlt : g < gv) : S1.St B g a n cap K w' := by
  obtain ⟨k, sd, hk, hh⟩ := h.cur
  have hB := h.bg
  refine ⟨?_, ⟨k, sd, hk, ?_⟩, h.bg, h.few⟩
  · rcases h.cd with h0 | ⟨b, off, ha, hbB, hc⟩
    · exact .inl h0
    · refine .inr ⟨b, off, ha, hbB, fun j hj => ?_⟩
      obtain ⟨u, hu, hcv⟩ := hc j hj
      exact ⟨u, hu, hg.cell hcv (by simp; omega)⟩
  · have hlt2 : g < w.heap.size := (Array.getElem?_eq_some_iff.1 hh).1
    rw [hg.block g hlt2 (by simp; omega)]; exact hh
theorem grown_row {w w1 w2 : World} {g gv : Nat} (h : w.grownBy w1 (some g)) (h2 : w1.grownBy w2 (some gv)) (hg : w.heap.size ≤ gv) : w.grownBy w2 (some g) :=
  ⟨h2.os.trans h.os, h2.tape.trans h.tape, h2.output.trans h.output, Nat.le_trans h.size h2.size, fun k hk hne => (h2.block k (Nat.lt_of_lt_of_le hk h.size) (by simp; omega)).trans (h.block k hk hne)⟩
/-- A curve under way: the cursor, what has changed, the points so far in a row of its own. -/
structure DI (w wr : World) (B g : Nat) (a : Option Addr) (n cap K gv cv k : Nat) (cs : List Cp) : Prop where
  st : S1.St B g a n cap K wr
  gr : w.grownBy wr (some g)
  own : wr.ownsRow w.heap.size 38 2 (.slice (some ⟨gv, 0, none⟩) k cv) k (ccs cs)
  len : cs.length = k
  lo : w.heap.size ≤ gv
  gw : g < w.heap.size
theorem DI.alloc {w wr : World} {B g : Nat} {a : Option Addr} {n cap K gv cv k : Nat} {cs : List Cp} (h : DI w wr B g a n cap K gv cv k cs) (ob : Obj) : DI w (wr.alloc ob) B g a n cap K gv cv k cs :=
  ⟨S1.st_new h.st _, S1.grown_new h.gr _, h.own.alloc _, h.len, h.lo, h.gw⟩
theorem DI.call {w wr w2 : World} {B g : Nat} {a : Option Addr} {n cap K K' gv cv k : Nat} {cs : List Cp} (h : DI w wr B g a n cap K gv cv k cs) (hs : S1.St B g a n cap K' w2) (hg : wr.grownBy w2 (some g)) : DI w w2 B g a n cap K' gv cv k cs :=
  ⟨hs, S1.grown_trans h.gr hg, World.ownsRow.kept h.own hg (.inr (by have := h.lo; have := h.gw; simp [Value.ownBlock]; omega)), h.len, h.lo, h.gw⟩
theorem DI.more {w wr : World} {B g : Nat} {a : Option Addr} {n cap K K' gv cv k : Nat} {cs : List Cp} (h : DI w wr B g a n cap K gv cv k cs) (hK : K ≤ K') : DI w wr B g a n cap K' gv cv k cs := ⟨h.st.more hK, h.gr, h.own, h.len, h.lo, h.gw⟩
theorem DI.push {w wr w2 : World} {B g : Nat} {a : Option Addr} {n cap K gv cv gv2 cv2 k : Nat} {cs : List Cp} {x y : Int} (h : DI w wr B g a n cap K gv cv k cs) (hg : wr.grownBy w2 (some gv)) (ho : w2.ownsRow w.heap.size 38 2 (.slice (some ⟨gv2, 0, none⟩) (k + 1) cv2) (k + 1) (ccs cs ++ ccs2 ⟨x, y⟩)) (hl : w.heap.size ≤ gv2) : DI w w2 B g a n cap K gv2 cv2 (k + 1) (cs ++ [⟨x, y⟩]) :=
  ⟨st_row h.st hg (Nat.lt_of_lt_of_le h.gw h.lo), grown_row h.gr hg h.lo, by rw [ccs_snoc]; exact ho, by rw [List.length_append, h.len]; rfl, hl, h.gw⟩
theorem DI.set {w wr : World} {B g : Nat} {a : Option Addr} {n cap K gv cv k : Nat} {cs : List Cp} (h : DI w wr B g a n cap K gv cv k cs) (i : Nat) (hi : i < k) (x y : Int) : DI w ((wr.setCell ⟨gv, i * 2, none⟩ (.int .i64 x)).setCell ⟨gv, i * 2 + 1, none⟩ (.int .i64 y)) B g a n cap K gv cv k (cs.set i ⟨x, y⟩) := by
  have hne : gv ≠ g := by have := h.lo; have := h.gw; omega
  have hB : B ≤ gv := by have := h.lo; have := h.gw; have := h.st.bg; omega
  have ho := ((h.own.stored (i * 2) (.int .i64 x)).1.stored (i * 2 + 1) (.int .i64 y)).1
  rw [ccs_setp cs i x y (by rw [h.len]; exact hi)] at ho
  exact ⟨S1.st_far (S1.st_far h.st hne hB) hne hB, S1.grown_setnew (S1.grown_setnew h.gr h.lo) h.lo, ho, by rw [List.length_set, h.len], h.lo, h.gw⟩
/-- A box beside the row is written. -/
theorem DI.box {w wr : World} {B g : Nat} {a : Option Addr} {n cap K gv cv k : Nat} {cs : List Cp} (h : DI w wr B g a n cap K gv cv k cs) (X i : Nat) (v : Value) (hX : w.heap.size ≤ X) (hne : X ≠ gv) : DI w (wr.setCell ⟨X, i, none⟩ v) B g a n cap K gv cv k cs :=
  ⟨S1.st_far h.st (by have := h.gw; omega) (by have := h.gw; have := h.st.bg; omega), S1.grown_setnew h.gr hX, World.ownsRow.kept h.own (S1.grown_set (World.grownBy.refl wr (some X))) (.inr (by simp [Value.ownBlock]; omega)), h.len, h.lo, h.gw⟩
theorem DI.facts {w wr : World} {B g : Nat} {a : Option Addr} {n cap K gv cv k : Nat} {cs : List Cp} (h : DI w wr B g a n cap K gv cv k cs) : k ≤ cv ∧ cv ≤ maxLen ∧ gv < wr.heap.size ∧ CAt wr (some ⟨gv, 0, none⟩) cs := by
  refine ⟨?_, ?_, (h.own.lt gv rfl).2, ?_⟩
  · rcases h.own.2 with ⟨hv, _⟩ | ⟨g', c', cur, hv, _, _, h1, h2, _⟩
    · cases hv
    · injection hv with _ _ e
      subst e; exact h1
  · rcases h.own.2 with ⟨hv, _⟩ | ⟨g', c', cur, hv, _, _, h1, h2, _⟩
    · cases hv
    · injection hv with _ _ e
      subst e; exact h2
  · have := h.own
    have e := h.len
    subst e
    exact own_cat this
def CrvPost (B g : Nat) (a : Option Addr) (n cap K : Nat) (w : World) (e : Ending) (w' : World) : Prop :=
  ∃ (gv cv : Nat) (cs : List Cp), e = .returned (.slice (some ⟨gv, 0, none⟩) cs.length cv) ∧ (w.heap.size ≤ gv ∧ gv < w'.heap.size) ∧ (1 ≤ cs.length ∧ cs.length ≤ 7) ∧ (cs.length ≤ cv ∧ cv ≤ maxLen) ∧ CAt w' (some ⟨gv, 0, none⟩) cs ∧ S1.St B g a n cap K w' ∧ w.grownBy w' (some g)
theorem crv_post {w wr : World} {B g : Nat} {a : Option Addr} {n cap K K' gv cv k : Nat} {cs : List Cp} (h : DI w wr B g a n cap K gv cv k cs) (hK : K ≤ K') (h1 : 1 ≤ k) (h7 : k ≤ 7) : CrvPost B g a n cap K' w (.returned (.slice (some ⟨gv, 0, none⟩) k cv)) wr := by
  obtain ⟨a1, a2, a3, a4⟩ := h.facts
  have e := h.len
  subst e
  exact ⟨gv, cv, cs, rfl, ⟨h.lo, a3⟩, ⟨h1, h7⟩, ⟨a1, a2⟩, a4, h.st.more hK, h.gr⟩
theorem crv_one {w wr : World} {B g : Nat} {a : Option Addr} {n cap K K' gv cv k : Nat} {cs : List Cp} (h : DI w wr B g a n cap K gv cv k cs) (hK : K ≤ K') (h1 : 1 ≤ k) : CrvPost B g a n cap K' w (.returned (.slice (some ⟨gv, 0, none⟩) 1 cv)) wr := by
  obtain ⟨a1, a2, a3, a4⟩ := h.facts
  have e := h.len
  have hl : (cs.take 1).length = 1 := by rw [List.length_take]; omega
  refine ⟨gv, cv, cs.take 1, by rw [hl], ⟨h.lo, a3⟩, ⟨by omega, by omega⟩, ⟨by omega, a2⟩, ?_, h.st.more hK, h.gr⟩
  rcases a4 with h0 | ⟨b, off, hA, hlt, hc⟩
  · subst h0; exact .inl rfl
  · refine .inr ⟨b, off, hA, hlt, fun i hi => ?_⟩
    have hi0 : i = 0 := by omega
    subst hi0
    have e2 : cAt (cs.take 1) 0 = cAt cs 0 := by unfold cAt; simp [List.getD]
    rw [e2]
    exact hc 0 (by omega)
theorem cell_two' {w w' : World} {c : Cp} (h : w' = w.alloc (.cells #[.int .i64 c.fl, .int .i64 c.hd] 38)) : ∀ j u, (ccs2 c)[j]? = some u → w'.cell? ((⟨w.heap.size, 0, none⟩ : Addr).add j) = some u := by
  subst h
  intro j u hu
  have e : (⟨w.heap.size, 0, none⟩ : Addr).add j = ⟨w.heap.size, 0 + j, none⟩ := add_plus _ _ _
  rw [e, Nat.zero_add, World.cell?_alloc_at _ _ _ _ rfl]
  have : (#[Value.int .i64 c.fl, .int .i64 c.hd])[j]? = (ccs2 c)[j]? := by simp [ccs2]
  rw [this]; exact hu
theorem nat_in {r m : Int} (h0 : 0 ≤ r) (h9 : r < m) : ∃ k : Nat, r = (k : Int) ∧ (k : Int) < m := ⟨r.toNat, by omega, by omega⟩
end Go.Proofs.Ytpldbakllegheab.S7
