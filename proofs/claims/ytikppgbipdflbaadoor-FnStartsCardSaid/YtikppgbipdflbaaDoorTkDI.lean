/- Tanks and days, drawn: contracts. Conditions: each theorem's own premises. -/
import Derived.Test.YtikppgbipdflbaaDoorPfDraw
import Derived.Test.YtikppgbipdflbaaDoorTkMoreS
import Derived.Deep.DeepCutAuto
namespace Go.Proofs.YtikppgbipdflbaaDoor.S1
open Go.RowKit
theorem one_any (B g : Nat) (a : Option Addr) (n cap K : Nat) (m : Int) (w : World) (hK : K ≤ 900000) (h1 : 1 ≤ m) (h2 : m ≤ 1000000) (h : St B g a n cap K w) :
    Calls Tryd.prog 57 #[.pointer (some ⟨g, 0, none⟩), .int .i64 m] w fun e w' => ∃ r : Bool, e = .returned (.bool r) ∧ St B g a n cap (K + 2) w' ∧ w.grownBy w' (some g) := by
  have HS := Lib.hid h
  clear h
  go_enter Tryd.func57, Tryd.ntmps57
  go_wp2_with (go_at_call 56; refine (pick_any B g a n cap K m _ hK h1 h2 HS.out).mono ?_; rintro e w1 ⟨r, rfl, hr0, hr1, hs1, hg1⟩)
  go_ret
  exact ⟨_, rfl, hs1, hg1⟩
theorem among_mem (B g : Nat) (a : Option Addr) (n cap K b N c : Nat) (zs : List Int) (w : World) (hN : N = zs.length) (hK : K ≤ 900000) (h0 : 1 ≤ zs.length) (h1 : zs.length ≤ 1000) (h : St B g a n cap K w) (ht : Ti b zs w) (hne : b ≠ g) :
    Calls Tryd.prog 45 #[.pointer (some ⟨g, 0, none⟩), .slice (some ⟨b, 0, none⟩) N c] w fun e w' => (∃ z : Int, e = .returned (.int .i64 z) ∧ z ∈ zs) ∧ St B g a n cap (K + 2) w' ∧ w.grownBy w' (some g) := by
  subst hN
  have HS := Lib.hid h
  have HT := Lib.hid ht
  have hb := ti_lt ht h0
  clear h ht
  go_enter Tryd.func45, Tryd.ntmps45
  go_wp2_with (go_at_call 56; refine (pick_any B g a n cap K _ _ hK (by omega) (by omega) HS.out).mono ?_; rintro e w1 ⟨r, rfl, hr0, hr1, hs1, hg1⟩; refine Hid.out ?_)
  obtain ⟨j, rfl⟩ : ∃ j : Nat, r = (j : Int) := ⟨r.toNat, by omega⟩
  have hj : j < zs.length := by omega
  have hc : w1.cell? ⟨b, j, none⟩ = some (.int .i64 (zs.getD j 0)) := hg1.cell (HT.out j hj) (by simp; omega)
  have HS1 := Lib.hid hs1
  have HG1 := Lib.hid hg1
  have HM := Lib.hid (show zs.getD j 0 ∈ zs by rw [List.getD_eq_getElem?_getD, List.getElem?_eq_getElem hj]; exact List.getElem_mem hj)
  clear hs1 hg1 HT
  generalize zs.getD j 0 = z at hc HM
  refine Lib.hid ?_
  go_wp2_with fail
  go_ret
  exact ⟨⟨z, rfl, HM.out⟩, HS1.out, HG1.out⟩
end Go.Proofs.YtikppgbipdflbaaDoor.S1
namespace Go.Proofs.YtikppgbipdflbaaDoor.S11
open Go.RowKit Go.Sort P11

theorem st_row {B g gv : Nat} {a : Option Addr} {n cap K : Nat} {w w' : World} (h : S1.St B g a n cap K w) (hg : w.grownBy w' (some gv)) (hlt : g < gv) : S1.St B g a n cap K w' := by
  obtain ⟨k, sd, hk, hh⟩ := h.cur
  have hB := h.bg
  refine ⟨?_, ⟨k, sd, hk, ?_⟩, h.bg, h.few⟩
  · rcases h.cd with h0 | ⟨b, off, ha, hbB, hc⟩
    · exact .inl h0
    · refine .inr ⟨b, off, ha, hbB, fun j hj => ?_⟩
      obtain ⟨u, hu, hcv⟩ := hc j hj
      exact ⟨u, hu, hg.cell hcv (by simp; omega)⟩
  · have hlt2 : g < w.heap.size := (Array.getElem?_eq_some_iff.1 hh).1
    rw [hg.block g hlt2 (by simp; omega)]; exact hh
theorem grown_row {w w1 w2 : World} {g gv : Nat} (h : w.grownBy w1 (some g)) (h2 : w1.grownBy w2 (some gv)) (hg : w.heap.size ≤ gv) : w.grownBy w2 (some g) :=
  ⟨h2.os.trans h.os, h2.tape.trans h.tape, h2.output.trans h.output, Nat.le_trans h.size h2.size, fun k hk hne => (h2.block k (Nat.lt_of_lt_of_le hk h.size) (by simp; omega)).trans (h.block k hk hne)⟩
theorem IOwn.set {w : World} {B g n cap : Nat} {D : List Int} (h : IOwn w B (.slice (some ⟨g, 0, none⟩) n cap) D) (hn : D.length = n) (v : Nat) (x : Int) :
    IOwn (w.setCell ⟨g, v, none⟩ (iv x)) B (.slice (some ⟨g, 0, none⟩) n cap) (D.set v x) := by
  subst hn
  unfold IOwn at h ⊢
  have h2 := (h.stored v (iv x)).1
  rw [List.length_set, List.map_set]
  exact h2

theorem FZ.grown {w w' : World} {g x : Nat} (h : FZ w g) (hg : w.grownBy w' (some x)) (hl : g < w.heap.size) (hne : g ≠ x) : FZ w' g := fun j => by
  rw [World.frozen?_of_block (a := ⟨g, j, none⟩) (hg.block g hl (by simp; exact hne))]
  exact h j
/-! ### A tank -/
/-- A tank under way: the cursor, the result's box, the tank's box. -/
structure TD (w wr : World) (B g : Nat) (a : Option Addr) (n cap K T : Nat) (L x y : Int) : Prop where
  st : S1.St B g a n cap K wr
  gr : w.grownBy wr (some g)
  rb : BT wr w.heap.size 0 0 0
  rf : FZ wr w.heap.size
  tb : BT wr T L x y
  tf : FZ wr T
  tw : w.heap.size < T
  gw : g < w.heap.size
theorem TD.alloc {w wr : World} {B g : Nat} {a : Option Addr} {n cap K T : Nat} {L x y : Int} (h : TD w wr B g a n cap K T L x y) (ob : Obj) : TD w (wr.alloc ob) B g a n cap K T L x y :=
  ⟨S1.st_new h.st _, S1.grown_new h.gr _, h.rb.kept (alloc_below _ _), h.rf.kept (alloc_below _ _) h.rb.1, h.tb.kept (alloc_below _ _), h.tf.kept (alloc_below _ _) h.tb.1, h.tw, h.gw⟩
theorem TD.call {w wr w2 : World} {B g : Nat} {a : Option Addr} {n cap K K' T : Nat} {L x y : Int} (h : TD w wr B g a n cap K T L x y) (hs : S1.St B g a n cap K' w2) (hg : wr.grownBy w2 (some g)) : TD w w2 B g a n cap K' T L x y := by
  have h1 := h.tw
  have h2 := h.gw
  exact ⟨hs, S1.grown_trans h.gr hg, h.rb.far hg (by omega), h.rf.grown hg h.rb.1 (by omega), h.tb.far hg (by omega), h.tf.grown hg h.tb.1 (by omega), h1, h2⟩
theorem TD.least {w wr : World} {B g : Nat} {a : Option Addr} {n cap K T : Nat} {L x y : Int} (h : TD w wr B g a n cap K T L x y) (z : Int) : TD w (wr.setCell ⟨T, 1, none⟩ (.int .i64 z)) B g a n cap K T L z y := by
  have h1 := h.tw
  have h2 := h.gw
  have hb := h.st.bg
  obtain ⟨h0, c0, c1, c2⟩ := h.tb
  exact ⟨S1.st_far h.st (by omega) (by omega), S1.grown_setnew h.gr (by omega), h.rb.set_far 1 _ (by omega), h.rf.set _ _, ⟨by simpa using h0, by simp [go_sem, c0], by simp [go_sem, c1], by simp [go_sem, c2]⟩, h.tf.set _ _, h1, h2⟩
theorem TD.most {w wr : World} {B g : Nat} {a : Option Addr} {n cap K T : Nat} {L x y : Int} (h : TD w wr B g a n cap K T L x y) (z : Int) : TD w (wr.setCell ⟨T, 2, none⟩ (.int .i64 z)) B g a n cap K T L x z := by
  have h1 := h.tw
  have h2 := h.gw
  have hb := h.st.bg
  obtain ⟨h0, c0, c1, c2⟩ := h.tb
  exact ⟨S1.st_far h.st (by omega) (by omega), S1.grown_setnew h.gr (by omega), h.rb.set_far 2 _ (by omega), h.rf.set _ _, ⟨by simpa using h0, by simp [go_sem, c0], by simp [go_sem, c1], by simp [go_sem, c2]⟩, h.tf.set _ _, h1, h2⟩
/-- What a drawn tank is. -/
def TDPost (B g : Nat) (a : Option Addr) (n cap K : Nat) (w : World) (e : Ending) (w' : World) : Prop :=
  (∃ L x y : Int, e = .returned (tv L x y)) ∧ S1.St B g a n cap K w' ∧ w.grownBy w' (some g)
theorem TD.done {w wr : World} {B g : Nat} {a : Option Addr} {n cap K K' T : Nat} {L x y : Int} (h : TD w wr B g a n cap K T L x y) (hK : K ≤ K') : S1.St B g a n cap K' (((wr.setCell ⟨w.heap.size, 0, none⟩ (.int .i64 L)).setCell ⟨w.heap.size, 1, none⟩ (.int .i64 x)).setCell ⟨w.heap.size, 2, none⟩ (.int .i64 y)) ∧ w.grownBy (((wr.setCell ⟨w.heap.size, 0, none⟩ (.int .i64 L)).setCell ⟨w.heap.size, 1, none⟩ (.int .i64 x)).setCell ⟨w.heap.size, 2, none⟩ (.int .i64 y)) (some g) := by
  have h2 := h.gw
  have hb := h.st.bg
  exact ⟨S1.st_far (S1.st_far (S1.st_far (h.st.more hK) (by omega) (by omega)) (by omega) (by omega)) (by omega) (by omega), S1.grown_setnew (S1.grown_setnew (S1.grown_setnew h.gr (Nat.le_refl _)) (Nat.le_refl _)) (Nat.le_refl _)⟩
set_option maxHeartbeats 4000000 in
set_option maxRecDepth 100000 in
theorem tank_draw (B g : Nat) (a : Option Addr) (n cap K : Nat) (w : World) (hK : K ≤ 800000) (h : S1.St B g a n cap K w) (hgw : g < w.heap.size) :
    Calls Tryd.prog 41 #[.pointer (some ⟨g, 0, none⟩)] w (TDPost B g a n cap (K + 20) w) := by
  have HS0 := Lib.hid (S1.st_new h (tb 27 0 0 0))
  have HR0 := Lib.hid (BT.new w 27 0 0 0)
  have HF0 := Lib.hid (FZ.new w #[.int .i64 0, .int .i64 0, .int .i64 0] 27)
  have hz0 : (w.alloc (tb 27 0 0 0)).heap.size = w.heap.size + 1 := by simp
  obtain ⟨w0, hw0⟩ : ∃ w0, w0 = w.alloc (tb 27 0 0 0) := ⟨_, rfl⟩
  have HG0 := Lib.hid (show w.grownBy w0 (some g) by rw [hw0]; exact World.grownBy_alloc w _ (some g))
  rw [← hw0] at HS0 HR0 HF0 hz0
  have HW0 := Lib.hid hw0
  have HTI0 := Lib.hid (show S1.Ti (w.heap.size + 1) [0, 0, 5, 10] (w0.alloc (.cells #[.int .i64 0, .int .i64 0, .int .i64 5, .int .i64 10] 3)) by rw [← hz0]; exact S1.ti_new w0 [0, 0, 5, 10] 3)
  clear h hw0
  go_enter Tryd.func41, Tryd.ntmps41
  go_wp2_with (first | (go_at_call 45; rw [← HW0.out]; refine (S1.among_mem B g a n cap (K) (w.heap.size + 1) 4 4 [0, 0, 5, 10] _ rfl (by omega) (by simp) (by simp) (S1.st_new HS0.out _) HTI0.out (by omega)).mono ?_; rintro e w1 ⟨⟨z1, rfl, hm⟩, hs, hg⟩; refine Hid.out ?_) | fail)
  have hgz := hg.size
  have HR1 := Lib.hid ((HR0.out.kept (alloc_below w0 _)).far hg (by omega))
  have HF1 := Lib.hid ((HF0.out.kept (alloc_below w0 _) HR0.out.1).grown hg (by simp; omega) (by omega))
  have HG1 := Lib.hid (S1.grown_trans (S1.grown_new HG0.out _) hg)
  have HS1 := Lib.hid hs
  have hb1 : 0 ≤ z1 ∧ z1 ≤ 10 := by simp at hm; omega
  obtain ⟨hb10, hb11⟩ := hb1
  simp at hgz
  clear hs hg hm HS0 HR0 HF0 HG0
  refine Lib.hid ?_
  go_wp2_with (first | (go_at_call 45; refine (S1.among_mem B g a n cap (K + 2) w1.heap.size 4 4 [0, 10, 20, 40] _ rfl (by omega) (by simp) (by simp) (S1.st_new HS1.out _) (fun j hj => S1.ti_new w1 [0, 10, 20, 40] 3 j hj) (by omega)).mono ?_; rintro e w2 ⟨⟨z2, rfl, hm⟩, hs, hg⟩; refine Hid.out ?_) | fail)
  have hgz2 := hg.size
  have HR2 := Lib.hid ((HR1.out.kept (alloc_below w1 _)).far hg (by omega))
  have HF2 := Lib.hid ((HF1.out.kept (alloc_below w1 _) HR1.out.1).grown hg (by simp; omega) (by omega))
  have HG2 := Lib.hid (S1.grown_trans (S1.grown_new HG1.out _) hg)
  have HS2 := Lib.hid hs
  have hb2 : 0 ≤ z2 ∧ z2 ≤ 40 := by simp at hm; omega
  obtain ⟨hb20, hb21⟩ := hb2
  simp at hgz2
  clear hs hg hm HS1 HR1 HF1 HG1
  obtain ⟨m, hm⟩ : ∃ m, z1 + z2 = m := ⟨_, rfl⟩
  refine Lib.hid ?_
  go_wp2_with (first | (go_at_call 56; refine (S1.pick_any B g a n cap (K + 4) _ _ (by omega) (by omega) (by omega) HS2.out).mono ?_; rintro e w3 ⟨r, rfl, hr0, hr1, hs, hg⟩; refine Hid.out ?_) | fail)
  have hgz3 := hg.size
  obtain ⟨l, hl⟩ : ∃ l, z1 + r = l := ⟨_, rfl⟩
  have hl0 : 0 ≤ l := by omega
  have hl1 : l ≤ 60 := by omega
  have HT3 := Lib.hid (show TD w (w3.alloc (tb 27 l z1 m)) B g a n cap (K + 6) w3.heap.size l z1 m from
    ⟨S1.st_new hs _, S1.grown_new (S1.grown_trans HG2.out hg) _, (HR2.out.far hg (by omega)).kept (alloc_below _ _), (HF2.out.grown hg HR2.out.1 (by omega)).kept (alloc_below _ _) (by omega), BT.new _ _ _ _ _, FZ.new _ _ _, by omega, hgw⟩)
  obtain ⟨W3, hW3⟩ : ∃ W3, W3 = w3.alloc (tb 27 l z1 m) := ⟨_, rfl⟩
  rw [← hW3] at HT3
  have HW3 := Lib.hid hW3
  clear hs hg HS2 HR2 HF2 HG2 hW3
  refine Lib.hid ?_
  go_wp2_with (first | (go_at_call 56; rw [← HW3.out]; refine (S1.pick_any B g a n cap (K + 6) _ _ (by omega) (by omega) (by omega) HT3.out.st).mono ?_; rintro e w4 ⟨r2, rfl, hr20, hr21, hs, hg⟩; refine Hid.out ?_) | fail)
  have HT4 := Lib.hid (HT3.out.call hs hg)
  clear hs hg HT3 HW3
  have hgw4 := HT4.out.tw
  have hgz4 := HT4.out.rb.1
  by_cases e0 : r2 = 0
  · have e1 : (r2 == 0) = true := by simp [e0]
    have e2 : (r2 == 1) = false := by simp [e0]
    obtain ⟨_, c0, c1, c2⟩ := HT4.out.tb
    clear e0
    refine Lib.hid ?_
    go_wp2_with (first | (go_at_call 45; refine (S1.among_mem B g a n cap (K + 8) w4.heap.size 3 3 [60, 61, l - 1] _ rfl (by omega) (by simp) (by simp) (S1.st_new HT4.out.st _) (fun j hj => S1.ti_new w4 [60, 61, l - 1] 3 j hj) (by omega)).mono ?_; rintro e w5 ⟨⟨z5, rfl, hm⟩, hs, hg⟩; refine Hid.out ?_) | fail)
    have HT5 := Lib.hid ((HT4.out.alloc _).call hs hg)
    clear hs hg hm c0 c1 c2
    obtain ⟨_, c0, c1, c2⟩ := HT5.out.tb
    obtain ⟨f0, f1, f2⟩ := HT5.out.tf.out
    obtain ⟨_, d0, d1, d2⟩ := HT5.out.rb
    obtain ⟨g0, g1, g2⟩ := HT5.out.rf.out
    obtain ⟨qs, qg⟩ := (HT5.out.most z5).done (K' := K + 20) (by omega)
    have QS := Lib.hid qs
    have QG := Lib.hid qg
    clear qs qg HT4 HT5
    refine Lib.hid ?_
    go_wp2_with fail
    refine bodyPost_ret (v := tv l z1 z5) (by simp [results, Tryd.results41, go_sem, d0, d1, d2]) rfl ⟨⟨_, _, _, rfl⟩, QS.out, QG.out⟩
  · have e1 : (r2 == 0) = false := by simp [e0]
    by_cases e3 : r2 = 1
    · have e2 : (r2 == 1) = true := by simp [e3]
      obtain ⟨_, c0, c1, c2⟩ := HT4.out.tb
      clear e0 e3
      refine Lib.hid ?_
      go_wp2_with (first | (go_at_call 45; refine (S1.among_mem B g a n cap (K + 8) w4.heap.size 3 3 [-1, l, l + 1] _ rfl (by omega) (by simp) (by simp) (S1.st_new HT4.out.st _) (fun j hj => S1.ti_new w4 [-1, l, l + 1] 3 j hj) (by omega)).mono ?_; rintro e w5 ⟨⟨z5, rfl, hm⟩, hs, hg⟩; refine Hid.out ?_) | fail)
      have HT5 := Lib.hid ((HT4.out.alloc _).call hs hg)
      clear hs hg hm c0 c1 c2
      obtain ⟨_, c0, c1, c2⟩ := HT5.out.tb
      obtain ⟨f0, f1, f2⟩ := HT5.out.tf.out
      obtain ⟨_, d0, d1, d2⟩ := HT5.out.rb
      obtain ⟨g0, g1, g2⟩ := HT5.out.rf.out
      obtain ⟨qs, qg⟩ := (HT5.out.least z5).done (K' := K + 20) (by omega)
      have QS := Lib.hid qs
      have QG := Lib.hid qg
      clear qs qg HT4 HT5
      refine Lib.hid ?_
      go_wp2_with fail
      refine bodyPost_ret (v := tv l z5 m) (by simp [results, Tryd.results41, go_sem, d0, d1, d2]) rfl ⟨⟨_, _, _, rfl⟩, QS.out, QG.out⟩
    · have e2 : (r2 == 1) = false := by simp [e3]
      clear e0 e3
      obtain ⟨_, c0, c1, c2⟩ := HT4.out.tb
      obtain ⟨_, d0, d1, d2⟩ := HT4.out.rb
      obtain ⟨g0, g1, g2⟩ := HT4.out.rf.out
      obtain ⟨qs, qg⟩ := HT4.out.done (K' := K + 20) (by omega)
      have QS := Lib.hid qs
      have QG := Lib.hid qg
      clear qs qg HT4
      refine Lib.hid ?_
      go_wp2_with fail
      refine bodyPost_ret (v := tv l z1 m) (by simp [results, Tryd.results41, go_sem, d0, d1, d2]) rfl ⟨⟨_, _, _, rfl⟩, QS.out, QG.out⟩
end Go.Proofs.YtikppgbipdflbaaDoor.S11
