/- Lists of places and rules, drawn: contracts. Conditions: each theorem's own premises. -/
import Derived.Test.YtjfpimldiokpbaaPfDraw
import Derived.Test.YtjfpimldiokpbaaZnLv
import Derived.Deep.DeepCutAuto
import Derived.OwnWalk
namespace Go.Proofs.Ytjfpimldiokpbaa.S1
open Go.RowKit
theorem among_mem (B g : Nat) (a : Option Addr) (n cap K b N c : Nat) (zs : List Int) (w : World) (hN : N = zs.length) (hK : K ≤ 900000) (h0 : 1 ≤ zs.length) (h1 : zs.length ≤ 1000) (h : St B g a n cap K w) (ht : Ti b zs w) (hne : b ≠ g) :
    Calls Try.prog 70 #[.pointer (some ⟨g, 0, none⟩), .slice (some ⟨b, 0, none⟩) N c] w fun e w' => (∃ z : Int, e = .returned (.int .i64 z) ∧ z ∈ zs) ∧ St B g a n cap (K + 2) w' ∧ w.grownBy w' (some g) := by
  subst hN
  have HS := Lib.hid h
  have HT := Lib.hid ht
  have hb := ti_lt ht h0
  clear h ht
  go_enter Try.func70, Try.ntmps70
  go_wp2_with (go_at_call 71; refine (pick_any B g a n cap K _ _ hK (by omega) (by omega) HS.out).mono ?_; rintro e w1 ⟨r, rfl, hr0, hr1, hs1, hg1⟩; refine Hid.out ?_)
  obtain ⟨j, rfl⟩ : ∃ j : Nat, r = (j : Int) := ⟨r.toNat, by omega⟩
  have hj : j < zs.length := by omega
  have hc : w1.cell? ⟨b, j, none⟩ = some (.int .i64 (zs.getD j 0)) := hg1.cell (HT.out j hj) (by simp; omega)
  have HS1 := Lib.hid hs1
  have HG1 := Lib.hid hg1
  have HM := Lib.hid (show zs.getD j 0 ∈ zs by rw [List.getD_eq_getElem?_getD, List.getElem?_eq_getElem hj]; exact List.getElem_mem hj)
  clear hs1 hg1 HT
  generalize zs.getD j 0 = z at hc HM
  refine Lib.hid ?_
  go_wp2_with fail
  go_ret
  exact ⟨⟨z, rfl, HM.out⟩, HS1.out, HG1.out⟩
end Go.Proofs.Ytjfpimldiokpbaa.S1
namespace Go.Proofs.Ytjfpimldiokpbaa.S12
open Go.RowKit Go.Sort P12

def FZ (w : World) (g : Nat) : Prop := ∀ j, w.frozen? ⟨g, j, none⟩ = false
theorem FZ.new (w : World) (c : Array Value) (t : TypeId) : FZ (w.alloc (.cells c t)) w.heap.size := fun j => by simp
theorem FZ.kept {w w' : World} {g : Nat} (h : FZ w g) (hb : Below w.heap.size w w') (hg : g < w.heap.size) : FZ w' g := fun j => (hb.frozen (p := ⟨g, j, none⟩) hg).trans (h j)
theorem FZ.out {w : World} {g : Nat} (h : FZ w g) : w.frozen? ⟨g, 0, none⟩ = false ∧ w.frozen? ⟨g, 1, none⟩ = false := ⟨h 0, h 1⟩
theorem FZ.set {w : World} {g : Nat} (h : FZ w g) (a : Addr) (v : Value) : FZ (w.setCell a v) g := fun j => by rw [World.frozen?_setCell]; exact h j
theorem BT.set_far {w : World} {g G : Nat} {a b : Int} (h : BT w g a b) (j : Nat) (v : Value) (hne : g ≠ G) : BT (w.setCell ⟨G, j, none⟩ v) g a b :=
  h.far (grown_set (grown_refl w (some G)) j v) hne
theorem st_row {B g gv : Nat} {a : Option Addr} {n cap K : Nat} {w w' : World} (h : S1.St B g a n cap K w) (hg : w.grownBy w' (some gv)) (hlt : g < gv) : S1.St B g a n cap K w' := by
  obtain ⟨k, sd, hk, hh⟩ := h.cur
  have hB := h.bg
  refine ⟨?_, ⟨k, sd, hk, ?_⟩, h.bg, h.few⟩
  · rcases h.cd with h0 | ⟨b, off, ha, hbB, hc⟩
    · exact .inl h0
    · refine .inr ⟨b, off, ha, hbB, fun j hj => ?_⟩
      obtain ⟨u, hu, hcv⟩ := hc j hj
      exact ⟨u, hu, hg.cell hcv (by simp; omega)⟩
  · have hlt2 : g < w.heap.size := (Array.getElem?_eq_some_iff.1 hh).1
    rw [hg.block g hlt2 (by simp; omega)]; exact hh
theorem grown_row {w w1 w2 : World} {g gv : Nat} (h : w.grownBy w1 (some g)) (h2 : w1.grownBy w2 (some gv)) (hg : w.heap.size ≤ gv) : w.grownBy w2 (some g) :=
  ⟨h2.os.trans h.os, h2.tape.trans h.tape, h2.output.trans h.output, Nat.le_trans h.size h2.size, fun k hk hne => (h2.block k (Nat.lt_of_lt_of_le hk h.size) (by simp; omega)).trans (h.block k hk hne)⟩
theorem FZ.grown {w w' : World} {g x : Nat} (h : FZ w g) (hg : w.grownBy w' (some x)) (hl : g < w.heap.size) (hne : g ≠ x) : FZ w' g := fun j => by
  rw [World.frozen?_of_block (a := ⟨g, j, none⟩) (hg.block g hl (by simp; exact hne))]
  exact h j
/-! ### A rule -/
/-- A rule under way: the cursor, the result's box, the rule's box. -/
structure RD (w wr : World) (B g : Nat) (a : Option Addr) (n cap K T : Nat) (x y : Int) : Prop where
  st : S1.St B g a n cap K wr
  gr : w.grownBy wr (some g)
  rb : BT wr w.heap.size 0 0
  rf : FZ wr w.heap.size
  tb : BT wr T x y
  tf : FZ wr T
  tw : w.heap.size < T
  gw : g < w.heap.size
theorem RD.alloc {w wr : World} {B g : Nat} {a : Option Addr} {n cap K T : Nat} {x y : Int} (h : RD w wr B g a n cap K T x y) (ob : Obj) : RD w (wr.alloc ob) B g a n cap K T x y :=
  ⟨S1.st_new h.st _, S1.grown_new h.gr _, h.rb.kept (alloc_below _ _), h.rf.kept (alloc_below _ _) h.rb.1, h.tb.kept (alloc_below _ _), h.tf.kept (alloc_below _ _) h.tb.1, h.tw, h.gw⟩
theorem RD.call {w wr w2 : World} {B g : Nat} {a : Option Addr} {n cap K K' T : Nat} {x y : Int} (h : RD w wr B g a n cap K T x y) (hs : S1.St B g a n cap K' w2) (hg : wr.grownBy w2 (some g)) : RD w w2 B g a n cap K' T x y := by
  have h1 := h.tw
  have h2 := h.gw
  exact ⟨hs, S1.grown_trans h.gr hg, h.rb.far hg (by omega), h.rf.grown hg h.rb.1 (by omega), h.tb.far hg (by omega), h.tf.grown hg h.tb.1 (by omega), h1, h2⟩
theorem RD.least {w wr : World} {B g : Nat} {a : Option Addr} {n cap K T : Nat} {x y : Int} (h : RD w wr B g a n cap K T x y) (z : Int) : RD w (wr.setCell ⟨T, 0, none⟩ (.int .i64 z)) B g a n cap K T z y := by
  have h1 := h.tw
  have h2 := h.gw
  have hb := h.st.bg
  obtain ⟨h0, c0, c1⟩ := h.tb
  exact ⟨S1.st_far h.st (by omega) (by omega), S1.grown_setnew h.gr (by omega), h.rb.set_far 0 _ (by omega), h.rf.set _ _, ⟨by simpa using h0, by simp [go_sem, c0], by simp [go_sem, c1]⟩, h.tf.set _ _, h1, h2⟩
theorem RD.most {w wr : World} {B g : Nat} {a : Option Addr} {n cap K T : Nat} {x y : Int} (h : RD w wr B g a n cap K T x y) (z : Int) : RD w (wr.setCell ⟨T, 1, none⟩ (.int .i64 z)) B g a n cap K T x z := by
  have h1 := h.tw
  have h2 := h.gw
  have hb := h.st.bg
  obtain ⟨h0, c0, c1⟩ := h.tb
  exact ⟨S1.st_far h.st (by omega) (by omega), S1.grown_setnew h.gr (by omega), h.rb.set_far 1 _ (by omega), h.rf.set _ _, ⟨by simpa using h0, by simp [go_sem, c0], by simp [go_sem, c1]⟩, h.tf.set _ _, h1, h2⟩
/-- What a drawn rule is. -/
def RDPost (B g : Nat) (a : Option Addr) (n cap K : Nat) (w : World) (e : Ending) (w' : World) : Prop :=
  (∃ x y : Int, e = .returned (rv x y)) ∧ S1.St B g a n cap K w' ∧ w.grownBy w' (some g)
theorem RD.done {w wr : World} {B g : Nat} {a : Option Addr} {n cap K K' T : Nat} {x y : Int} (h : RD w wr B g a n cap K T x y) (hK : K ≤ K') : S1.St B g a n cap K' ((wr.setCell ⟨w.heap.size, 0, none⟩ (.int .i64 x)).setCell ⟨w.heap.size, 1, none⟩ (.int .i64 y)) ∧ w.grownBy ((wr.setCell ⟨w.heap.size, 0, none⟩ (.int .i64 x)).setCell ⟨w.heap.size, 1, none⟩ (.int .i64 y)) (some g) := by
  have h2 := h.gw
  have hb := h.st.bg
  exact ⟨S1.st_far (S1.st_far (h.st.more hK) (by omega) (by omega)) (by omega) (by omega), S1.grown_setnew (S1.grown_setnew h.gr (Nat.le_refl _)) (Nat.le_refl _)⟩
set_option maxHeartbeats 4000000 in
set_option maxRecDepth 100000 in
theorem rule_draw (B g : Nat) (a : Option Addr) (n cap K : Nat) (w : World) (hK : K ≤ 800000) (h : S1.St B g a n cap K w) (hgw : g < w.heap.size) :
    Calls Try.prog 68 #[.pointer (some ⟨g, 0, none⟩)] w (RDPost B g a n cap (K + 20) w) := by
  have HS0 := Lib.hid (S1.st_new h (rb 25 0 0))
  have HR0 := Lib.hid (BT.new w 25 0 0)
  have HF0 := Lib.hid (FZ.new w #[.int .i64 0, .int .i64 0] 25)
  have hz0 : (w.alloc (rb 25 0 0)).heap.size = w.heap.size + 1 := by simp
  obtain ⟨w0, hw0⟩ : ∃ w0, w0 = w.alloc (rb 25 0 0) := ⟨_, rfl⟩
  have HG0 := Lib.hid (show w.grownBy w0 (some g) by rw [hw0]; exact World.grownBy_alloc w _ (some g))
  rw [← hw0] at HS0 HR0 HF0 hz0
  have HW0 := Lib.hid hw0
  have HTI0 := Lib.hid (show S1.Ti (w.heap.size + 1) [1, 10, 20, 200] (w0.alloc (.cells #[.int .i64 1, .int .i64 10, .int .i64 20, .int .i64 200] 3)) by rw [← hz0]; exact S1.ti_new w0 [1, 10, 20, 200] 3)
  clear h hw0
  go_enter Try.func68, Try.ntmps68
  go_wp2_with (first | (go_at_call 70; rw [← HW0.out]; refine (S1.among_mem B g a n cap (K) (w.heap.size + 1) 4 4 [1, 10, 20, 200] _ rfl (by omega) (by simp) (by simp) (S1.st_new HS0.out _) HTI0.out (by omega)).mono ?_; rintro e w1 ⟨⟨z1, rfl, hm⟩, hs, hg⟩; refine Hid.out ?_) | fail)
  have hgz := hg.size
  have HR1 := Lib.hid ((HR0.out.kept (alloc_below w0 _)).far hg (by omega))
  have HF1 := Lib.hid ((HF0.out.kept (alloc_below w0 _) HR0.out.1).grown hg (by simp; omega) (by omega))
  have HG1 := Lib.hid (S1.grown_trans (S1.grown_new HG0.out _) hg)
  have HS1 := Lib.hid hs
  have hb1 : 0 ≤ z1 ∧ z1 ≤ 200 := by simp at hm; omega
  obtain ⟨hb10, hb11⟩ := hb1
  simp at hgz
  clear hs hg hm HS0 HR0 HF0 HG0
  refine Lib.hid ?_
  go_wp2_with (first | (go_at_call 70; refine (S1.among_mem B g a n cap (K + 2) w1.heap.size 4 4 [0, 5, 30, 100] _ rfl (by omega) (by simp) (by simp) (S1.st_new HS1.out _) (fun j hj => S1.ti_new w1 [0, 5, 30, 100] 3 j hj) (by omega)).mono ?_; rintro e w2 ⟨⟨z2, rfl, hm⟩, hs, hg⟩; refine Hid.out ?_) | fail)
  have hgz2 := hg.size
  have HR2 := Lib.hid ((HR1.out.kept (alloc_below w1 _)).far hg (by omega))
  have HF2 := Lib.hid ((HF1.out.kept (alloc_below w1 _) HR1.out.1).grown hg (by simp; omega) (by omega))
  have HG2 := Lib.hid (S1.grown_trans (S1.grown_new HG1.out _) hg)
  have HS2 := Lib.hid hs
  have hb2 : 0 ≤ z2 ∧ z2 ≤ 200 := by simp at hm; omega
  obtain ⟨hb20, hb21⟩ := hb2
  simp at hgz2
  clear hs hg hm HS1 HR1 HF1 HG1
  have hmn : 0 ≤ min (z1 + z2) 200 ∧ min (z1 + z2) 200 ≤ 200 := by omega
  have HC := Lib.hid (fun w' => sleast_any (z1 + z2) 200 w')
  generalize min (z1 + z2) 200 = m at *
  obtain ⟨hm0, hm1⟩ := hmn
  have HT3 := Lib.hid (show RD w (w2.alloc (rb 25 z1 m)) B g a n cap (K + 4) w2.heap.size z1 m from
    ⟨S1.st_new HS2.out _, S1.grown_new HG2.out _, HR2.out.kept (alloc_below _ _), HF2.out.kept (alloc_below _ _) HR2.out.1, BT.new _ _ _ _, FZ.new _ _ _, by omega, hgw⟩)
  obtain ⟨W3, hW3⟩ : ∃ W3, W3 = w2.alloc (rb 25 z1 m) := ⟨_, rfl⟩
  rw [← hW3] at HT3
  have HW3 := Lib.hid hW3
  clear HS2 HR2 HF2 HG2 hW3
  refine Lib.hid ?_
  go_wp2_with (first
    | (go_at_call 53; refine (HC.out _).mono ?_; rintro e w9 ⟨rfl, hw⟩; replace hw := hw.symm; subst hw)
    | (go_at_call 71; rw [← HW3.out]; refine (S1.pick_any B g a n cap (K + 4) _ _ (by omega) (by omega) (by omega) HT3.out.st).mono ?_; rintro e w4 ⟨r2, rfl, hr20, hr21, hs, hg⟩; refine Hid.out ?_)
    | fail)
  have HT4 := Lib.hid (HT3.out.call hs hg)
  clear hs hg HT3 HW3
  have hgw4 := HT4.out.tw
  have hgz4 := HT4.out.rb.1
  by_cases e0 : r2 = 0
  · have e1 : (r2 == 0) = true := by simp [e0]
    obtain ⟨_, c0, c1⟩ := HT4.out.tb
    have hs9 : IntKind.i64.wrap (m + 1) = m + 1 := IntWalk.i64_in _ (by omega)
    clear e0
    refine Lib.hid ?_
    go_wp2_with (first | (go_at_call 70; refine (S1.among_mem B g a n cap (K + 6) w4.heap.size 2 2 [0, m + 1] _ rfl (by omega) (by simp) (by simp) (S1.st_new HT4.out.st _) (fun j hj => S1.ti_new w4 [0, m + 1] 3 j hj) (by omega)).mono ?_; rintro e w5 ⟨⟨z5, rfl, hm⟩, hs, hg⟩; refine Hid.out ?_) | fail)
    have HT5 := Lib.hid ((HT4.out.alloc _).call hs hg)
    clear hs hg hm c0 c1 hs9
    obtain ⟨_, c0, c1⟩ := HT5.out.tb
    obtain ⟨f0, f1⟩ := HT5.out.tf.out
    obtain ⟨_, d0, d1⟩ := HT5.out.rb
    obtain ⟨g0, g1⟩ := HT5.out.rf.out
    obtain ⟨qs, qg⟩ := (HT5.out.least z5).done (K' := K + 20) (by omega)
    have QS := Lib.hid qs
    have QG := Lib.hid qg
    clear qs qg HT4 HT5
    refine Lib.hid ?_
    go_wp2_with fail
    refine bodyPost_ret (v := rv z5 m) (by simp [results, Try.results68, go_sem, d0, d1]) rfl ⟨⟨_, _, rfl⟩, QS.out, QG.out⟩
  · have e1 : (r2 == 0) = false := by simp [e0]
    by_cases e3 : r2 = 1
    · have e2 : (r2 == 1) = true := by simp [e3]
      obtain ⟨_, c0, c1⟩ := HT4.out.tb
      obtain ⟨f0, f1⟩ := HT4.out.tf.out
      obtain ⟨_, d0, d1⟩ := HT4.out.rb
      obtain ⟨g0, g1⟩ := HT4.out.rf.out
      obtain ⟨qs, qg⟩ := (HT4.out.most 201).done (K' := K + 20) (by omega)
      have QS := Lib.hid qs
      have QG := Lib.hid qg
      clear qs qg HT4 e0 e3
      refine Lib.hid ?_
      go_wp2_with fail
      refine bodyPost_ret (v := rv z1 201) (by simp [results, Try.results68, go_sem, d0, d1]) rfl ⟨⟨_, _, rfl⟩, QS.out, QG.out⟩
    · have e2 : (r2 == 1) = false := by simp [e3]
      clear e0 e3
      obtain ⟨_, c0, c1⟩ := HT4.out.tb
      obtain ⟨_, d0, d1⟩ := HT4.out.rb
      obtain ⟨g0, g1⟩ := HT4.out.rf.out
      obtain ⟨qs, qg⟩ := HT4.out.done (K' := K + 20) (by omega)
      have QS := Lib.hid qs
      have QG := Lib.hid qg
      clear qs qg HT4
      refine Lib.hid ?_
      go_wp2_with fail
      refine bodyPost_ret (v := rv z1 m) (by simp [results, Try.results68, go_sem, d0, d1]) rfl ⟨⟨_, _, rfl⟩, QS.out, QG.out⟩
/-- A list of places under way. -/
structure VI (w wr : World) (B g : Nat) (a : Option Addr) (n cap K : Nat) (v : Value) (l : List Int) : Prop where
  st : S1.St B g a n cap K wr
  gr : w.grownBy wr (some g)
  own : IOwn wr w.heap.size v l
  gw : g < w.heap.size
theorem VI.alloc {w wr : World} {B g : Nat} {a : Option Addr} {n cap K : Nat} {v : Value} {l : List Int} (h : VI w wr B g a n cap K v l) (ob : Obj) : VI w (wr.alloc ob) B g a n cap K v l :=
  ⟨S1.st_new h.st _, S1.grown_new h.gr _, h.own.alloc _, h.gw⟩
theorem VI.call {w wr w2 : World} {B g : Nat} {a : Option Addr} {n cap K K' : Nat} {v : Value} {l : List Int} (h : VI w wr B g a n cap K v l) (hs : S1.St B g a n cap K' w2) (hg : wr.grownBy w2 (some g)) : VI w w2 B g a n cap K' v l :=
  ⟨hs, S1.grown_trans h.gr hg, World.ownsRow.kept h.own hg (.inr (fun e => by have := (World.ownsRow.lt h.own g e).1; have := h.gw; omega)), h.gw⟩
theorem VI.more {w wr : World} {B g : Nat} {a : Option Addr} {n cap K K' : Nat} {v : Value} {l : List Int} (h : VI w wr B g a n cap K v l) (hK : K ≤ K') : VI w wr B g a n cap K' v l := ⟨h.st.more hK, h.gr, h.own, h.gw⟩
theorem VI.push {w wr w2 : World} {B g q cc : Nat} {a : Option Addr} {n cap K : Nat} {x : Int} {v' : Value} {l : List Int} (h : VI w wr B g a n cap K (.slice (some ⟨q, 0, none⟩) l.length cc) l) (hg : wr.grownBy w2 (some q)) (ho : w2.ownsRow w.heap.size 3 1 v' (l.length + 1) (l.map iv ++ [iv x])) : VI w w2 B g a n cap K v' (l ++ [x]) := by
  have hq := World.ownsRow.lt h.own q rfl
  have hgw := h.gw
  exact ⟨st_row h.st hg (by omega), grown_row h.gr hg (by omega), IOwn.push ho, hgw⟩
/-- What a drawn list is. -/
def VPost (B g : Nat) (a : Option Addr) (n cap K : Nat) (w : World) (e : Ending) (w' : World) : Prop :=
  ∃ (q cc : Nat) (l : List Int), e = .returned (.slice (some ⟨q, 0, none⟩) l.length cc) ∧ l.length ≤ 14 ∧ w.heap.size ≤ q ∧ IAt w' (some ⟨q, 0, none⟩) l ∧ q < w'.heap.size ∧ S1.St B g a n cap K w' ∧ w.grownBy w' (some g)
theorem VI.post {w wr : World} {B g q cc K' : Nat} {a : Option Addr} {n cap K : Nat} {l : List Int} (h : VI w wr B g a n cap K (.slice (some ⟨q, 0, none⟩) l.length cc) l) (hl : l.length ≤ 14) (hK : K ≤ K') : VPost B g a n cap K' w (.returned (.slice (some ⟨q, 0, none⟩) l.length cc)) wr :=
  ⟨q, cc, l, rfl, hl, (World.ownsRow.lt h.own q rfl).1, h.own.iat, (World.ownsRow.lt h.own q rfl).2, h.st.more hK, h.gr⟩
theorem VI.next {w wr w2 : World} {B g q cc : Nat} {a : Option Addr} {n cap K : Nat} {x : Int} {v' : Value} {l : List Int} (h : VI w wr B g a n cap K (.slice (some ⟨q, 0, none⟩) l.length cc) l) (hg : wr.grownBy w2 (some q)) (ho : w2.ownsRow w.heap.size 3 1 v' (l.length + 1) (l.map iv ++ [iv x])) : ∃ q2 cc2, v' = .slice (some ⟨q2, 0, none⟩) (l.length + 1) cc2 ∧ VI w w2 B g a n cap K (.slice (some ⟨q2, 0, none⟩) (l ++ [x]).length cc2) (l ++ [x]) := by
  have h2 := h.push hg ho
  obtain ⟨q2, cc2, hv2, -⟩ := World.ownsRow.form ho (by omega)
  refine ⟨q2, cc2, hv2, ?_⟩
  rw [List.length_append, List.length_singleton, ← hv2]
  exact h2
set_option maxHeartbeats 8000000 in
set_option maxRecDepth 100000 in
theorem places_draw (B g : Nat) (a : Option Addr) (n cap K : Nat) (w : World) (hK : K ≤ 800000) (h : S1.St B g a n cap K w) (hgw : g < w.heap.size) :
    Calls Try.prog 67 #[.pointer (some ⟨g, 0, none⟩)] w (VPost B g a n cap (K + 100) w) := by
  have hBg := h.bg
  obtain ⟨i0, hi, hz0, hz1, hz2⟩ := info_parts infoI
  have HL0 := Lib.hid (show VI w (w.alloc (.cells #[] 3)) B g a n cap K (.slice (some ⟨w.heap.size, 0, none⟩) 0 0) [] from
    ⟨S1.st_new h _, World.grownBy_alloc w _ (some g), own_empty w _ (Nat.le_refl _), hgw⟩)
  clear h
  go_enter Try.func67, Try.ntmps67
  go_wp2_with (first | (go_at_call 71; refine (S1.pick_any B g a n cap K 7 _ (by omega) (by omega) (by omega) HL0.out.st).mono ?_; rintro e w1 ⟨r0, rfl, hr00, hr01, hs, hg⟩; refine Hid.out ?_) | fail)
  have HL1 := Lib.hid (HL0.out.call hs hg)
  obtain ⟨m0, rfl⟩ : ∃ m0 : Nat, r0 = (m0 : Int) := ⟨r0.toNat, by omega⟩
  clear hs hg HL0
  refine Lib.hid ?_
  go_wp2_with fail
  go_loopw [3, 4] (fun v nd wr => ∃ (k q cc : Nat) (l : List Int), nd = .int .i64 (k : Int) ∧ l.length + k ≤ 6 ∧ v = .slice (some ⟨q, 0, none⟩) l.length cc ∧ Hid (VI w wr B g a n cap (K + 2 + 2 * l.length) (.slice (some ⟨q, 0, none⟩) l.length cc) l)) (fun _ nd _ => (intOf nd).toNat)
  case atStart => exact ⟨m0, w.heap.size, 0, [], rfl, by simp; omega, rfl, HL1⟩
  case round =>
    clear HL1
    obtain ⟨k, q, cc, l, rfl, hkN, rfl, HL⟩ := hrel
    obtain ⟨wo, hwo⟩ : ∃ wo, wo = wr := ⟨_, rfl⟩
    subst hwo
    have hgz0 := HL.out.gr.size
    by_cases hlt : 0 < k
    · have hle : decide (0 < (k : Int)) = true := decide_eq_true (by omega)
      have hle2 : decide (0 < k) = true := decide_eq_true (by omega)
      refine Hid.out ?_
      refine Lib.hid ?_
      go_wp2_with (first
        | (go_at_call 70; refine (S1.among_any B g a n cap (K + 2 + 2 * l.length) wo.heap.size 8 8 [0, 5, 10, 40, 41, 90, 300, 1000] _ rfl (by omega) (by simp) (by simp) (HL.out.alloc (.cells #[.int .i64 0, .int .i64 5, .int .i64 10, .int .i64 40, .int .i64 41, .int .i64 90, .int .i64 300, .int .i64 1000] 3)).st (fun j hj => S1.ti_new wo [0, 5, 10, 40, 41, 90, 300, 1000] 3 j hj) (by omega)).mono ?_; rintro e w5 ⟨⟨z, rfl⟩, hs, hg⟩; refine Hid.out ?_)
        | fail)
      have HL5 := Lib.hid ((HL.out.alloc (.cells #[.int .i64 0, .int .i64 5, .int .i64 10, .int .i64 40, .int .i64 41, .int .i64 90, .int .i64 300, .int .i64 1000] 3)).call hs hg)
      have ho := HL5.out.own
      unfold IOwn at ho
      have hgz := HL5.out.gr.size
      clear hs hg
      refine Lib.hid ?_
      go_wp2_with (first | (at_builtin; go_must (refine wpList_append_own _ rfl _ _ 28 rfl w.heap.size 3 i0 (.int .i64 0) 1 8 Try.underlying28 hi hz0 hz1 hz2 rfl (by decide) _ _ _ rfl (ho.alloc _) ⟨w5.heap.size, 0, none⟩ 1 1 [iv (z)] rfl rfl (cell_one_new _ _ _) (by intro u hu; simp at hu; subst hu; rfl) (by unfold maxLen; omega) (by omega) (by simp; omega) ?_); intro v' w7 hown' hgrow hnil) | fail)
      obtain ⟨q2, cc2, rfl, hx7⟩ := (HL5.out.alloc (.cells #[iv z] 3)).next hgrow hown'
      have HX2 := Lib.hid (hx7.more (K' := K + 2 + 2 * (l ++ [z]).length) (by simp; omega))
      have hlen : (l ++ [z]).length = l.length + 1 := by simp
      have HLen := Lib.hid hlen
      clear hown' hgrow hnil ho HL5 hx7 hlen
      go_wp2_with fail
      go_roundw
      case rel => exact ⟨k - 1, q2, cc2, l ++ [z], by simp; omega, by rw [HLen.out]; omega, by rw [HLen.out], HX2⟩
      case measure => simp [intOf]; omega
    · obtain rfl : k = 0 := by omega
      have hl6 : l.length ≤ 6 := by omega
      clear hkN hlt
      refine Hid.out ?_
      refine Lib.hid ?_
      go_wp2_with (first | (go_at_call 71; refine (S1.pick_any B g a n cap (K + 2 + 2 * l.length) 30 _ (by omega) (by omega) (by omega) HL.out.st).mono ?_; rintro e w5 ⟨r, rfl, hr0, hr1, hs, hg⟩; refine Hid.out ?_) | fail)
      have HL5 := Lib.hid ((HL.out.call hs hg).more (K' := K + 20) (by omega))
      have hgz := HL5.out.gr.size
      clear hs hg HL
      by_cases e0 : r = 0
      · have e1 : (r == 0) = true := by simp [e0]
        clear e0
        refine Lib.hid ?_
        go_wp2_with (first
          | (go_at_call 70; refine (S1.among_any B g a n cap (K + 20) w5.heap.size 2 2 [-1, 1001] _ rfl (by omega) (by simp) (by simp) (HL5.out.alloc (.cells #[.int .i64 (-1), .int .i64 1001] 3)).st (fun j hj => S1.ti_new w5 [-1, 1001] 3 j hj) (by omega)).mono ?_; rintro e w6 ⟨⟨z, rfl⟩, hs, hg⟩; refine Hid.out ?_)
          | fail)
        have HL6 := Lib.hid ((HL5.out.alloc (.cells #[.int .i64 (-1), .int .i64 1001] 3)).call hs hg)
        have ho := HL6.out.own
        unfold IOwn at ho
        have hgz6 := HL6.out.gr.size
        clear hs hg
        refine Lib.hid ?_
        go_wp2_with (first | (at_builtin; go_must (refine wpList_append_own _ rfl _ _ 28 rfl w.heap.size 3 i0 (.int .i64 0) 1 8 Try.underlying28 hi hz0 hz1 hz2 rfl (by decide) _ _ _ rfl (ho.alloc _) ⟨w6.heap.size, 0, none⟩ 1 1 [iv (z)] rfl rfl (cell_one_new _ _ _) (by intro u hu; simp at hu; subst hu; rfl) (by unfold maxLen; omega) (by omega) (by simp; omega) ?_); intro v' w7 hown' hgrow hnil) | fail)
        obtain ⟨q2, cc2, rfl, hx7⟩ := (HL6.out.alloc (.cells #[iv z] 3)).next hgrow hown'
        have hy := hx7.post (by simp; omega) (K' := K + 100) (by omega)
        rw [List.length_append, List.length_singleton] at hy
        have HY := Lib.hid hy
        clear hown' hgrow hnil ho HL6 hx7 hy
        go_wp2_with fail
        go_ret
        exact HY.out
      · have e1 : (r == 0) = false := by simp [e0]
        by_cases e3 : r = 1
        · have e2 : (r == 1) = true := by simp [e3]
          clear e0 e3
          have HL5b := Lib.hid (HL5.out.more (K' := K + 20 + 2 * l.length) (by omega))
          refine Lib.hid ?_
          go_wp2_with fail
          go_loopw [3] (fun v wr => ∃ (q cc : Nat) (l : List Int), l.length ≤ 13 ∧ v = .slice (some ⟨q, 0, none⟩) l.length cc ∧ Hid (VI w wr B g a n cap (K + 20 + 2 * l.length) (.slice (some ⟨q, 0, none⟩) l.length cc) l)) (fun v _ => 14 - lenV v)
          case atStart => exact ⟨q, cc, l, by omega, rfl, HL5b⟩
          case round =>
            clear HL5b HL5 hl6
            obtain ⟨q, cc, l, hl13, rfl, HL⟩ := hrel
            obtain ⟨wo, hwo⟩ : ∃ wo, wo = wr := ⟨_, rfl⟩
            subst hwo
            have hgz0 := HL.out.gr.size
            refine Hid.out ?_
            refine Lib.hid ?_
            go_wp2_with (first
              | (go_at_call 71; refine (S1.pick_any B g a n cap (K + 20 + 2 * l.length) 2 _ (by omega) (by omega) (by omega) HL.out.st).mono ?_; rintro e w6 ⟨r6, rfl, hr60, hr61, hs, hg⟩; refine Hid.out ?_)
              | fail)
            have HL6 := Lib.hid (HL.out.call hs hg)
            have hgz6 := HL6.out.gr.size
            have hs9 : IntKind.i64.wrap (12 + r6) = 12 + r6 := IntWalk.i64_in _ (by omega)
            clear hs hg HL
            by_cases hlt : (l.length : Int) < 12 + r6
            · have hle : decide ((l.length : Int) < 12 + r6) = true := decide_eq_true hlt
              have hl12 : l.length ≤ 12 := by omega
              clear hlt
              have ho := HL6.out.own
              unfold IOwn at ho
              refine Lib.hid ?_
              go_wp2_with (first | (at_builtin; go_must (refine wpList_append_own _ rfl _ _ 28 rfl w.heap.size 3 i0 (.int .i64 0) 1 8 Try.underlying28 hi hz0 hz1 hz2 rfl (by decide) _ _ _ rfl (ho.alloc _) ⟨w6.heap.size, 0, none⟩ 1 1 [iv ((l.length : Int))] rfl rfl (cell_one_new _ _ _) (by intro u hu; simp at hu; subst hu; rfl) (by unfold maxLen; omega) (by omega) (by simp; omega) ?_); intro v' w7 hown' hgrow hnil) | fail)
              obtain ⟨q2, cc2, rfl, hx7⟩ := (HL6.out.alloc (.cells #[iv (l.length : Int)] 3)).next hgrow hown'
              have HX2 := Lib.hid (hx7.more (K' := K + 20 + 2 * (l ++ [(l.length : Int)]).length) (by simp; omega))
              have hlen : (l ++ [(l.length : Int)]).length = l.length + 1 := by simp
              have HLen := Lib.hid hlen
              clear hown' hgrow hnil ho HL6 hx7 hlen hs9 hle
              go_wp2_with fail
              go_roundw
              case rel => exact ⟨q2, cc2, l ++ [(l.length : Int)], by rw [HLen.out]; omega, by rw [HLen.out], HX2⟩
              case measure => simp [lenV]; omega
            · have hle : decide ((l.length : Int) < 12 + r6) = false := decide_eq_false hlt
              clear hlt
              have HY := Lib.hid (HL6.out.post (by omega) (K' := K + 100) (by omega))
              refine Lib.hid ?_
              go_wp2_with fail
              go_ret
              exact HY.out
        · have e2 : (r == 1) = false := by simp [e3]
          clear e0 e3
          have HY := Lib.hid (HL5.out.post (by omega) (K' := K + 100) (by omega))
          refine Lib.hid ?_
          go_wp2_with fail
          go_ret
          exact HY.out
end Go.Proofs.Ytjfpimldiokpbaa.S12
