/- How the laws on zones draw their arguments: contracts. Conditions: each theorem's own premises. -/
import Derived.Test.YtjfpimldiokpbaaZnDI
import Derived.Deep.RegionHeld
namespace Go.Proofs.Ytjfpimldiokpbaa.S12
open Go.RowKit Go.Sort P12

def LvPost (B g : Nat) (a : Option Addr) (n cap K : Nat) (w : World) (e : Ending) (w' : World) : Prop :=
  (∃ z : Int, e = .returned (.int .i64 z)) ∧ S1.St B g a n cap K w' ∧ w.grownBy w' (some g)
theorem st_lt {B g : Nat} {a : Option Addr} {n cap K : Nat} {w : World} (h : S1.St B g a n cap K w) : g < w.heap.size := by
  obtain ⟨k, sd, hk, hh⟩ := h.cur
  exact (Array.getElem?_eq_some_iff.1 hh).1
set_option maxHeartbeats 2000000 in
theorem level_draw (B g : Nat) (a : Option Addr) (n cap K : Nat) (w : World) (hK : K ≤ 800000) (h : S1.St B g a n cap K w) :
    Calls Try.prog 69 #[.pointer (some ⟨g, 0, none⟩)] w (LvPost B g a n cap (K + 4) w) := by
  have hlt := st_lt h
  have HS := Lib.hid (S1.st_new h (.cells #[.int .i64 0, .int .i64 20, .int .i64 45, .int .i64 60, .int .i64 100, .int .i64 330, .int .i64 1000, .int .i64 2000, .int .i64 (-1), .int .i64 2001] 3))
  have HG := Lib.hid (show w.grownBy (w.alloc (.cells #[.int .i64 0, .int .i64 20, .int .i64 45, .int .i64 60, .int .i64 100, .int .i64 330, .int .i64 1000, .int .i64 2000, .int .i64 (-1), .int .i64 2001] 3)) (some g) from World.grownBy_alloc w _ (some g))
  have HTI := Lib.hid (show S1.Ti w.heap.size [0, 20, 45, 60, 100, 330, 1000, 2000, -1, 2001] (w.alloc (.cells #[.int .i64 0, .int .i64 20, .int .i64 45, .int .i64 60, .int .i64 100, .int .i64 330, .int .i64 1000, .int .i64 2000, .int .i64 (-1), .int .i64 2001] 3)) from fun j hj => S1.ti_new w [0, 20, 45, 60, 100, 330, 1000, 2000, -1, 2001] 3 j hj)
  clear h
  go_enter Try.func69, Try.ntmps69
  go_wp2_with (first | (go_at_call 71; refine (S1.pick_any B g a n cap K 24 _ (by omega) (by omega) (by omega) HS.out).mono ?_; rintro e w1 ⟨r, rfl, hr0, hr1, hs, hg⟩; refine Hid.out ?_) | fail)
  have HS1 := Lib.hid hs
  have HG1 := Lib.hid (S1.grown_trans HG.out hg)
  have HT1 := Lib.hid (show S1.Ti w.heap.size [0, 20, 45, 60, 100, 330, 1000, 2000, -1, 2001] w1 from fun j hj => S1.ti_grown HTI.out hg (by omega) j hj)
  clear hs hg HS HG HTI
  have hq : r / 11 = 0 ∨ r / 11 = 1 ∨ r / 11 = 2 := by omega
  rcases hq with hq | hq | hq
  · refine Lib.hid ?_
    go_wp2_with (first | (go_at_call 70; refine (S1.among_any B g a n cap (K + 2) w.heap.size 8 10 [0, 20, 45, 60, 100, 330, 1000, 2000] _ rfl (by omega) (by simp) (by simp) HS1.out (S1.ti_take (N := 8) HT1.out (by simp)) (by omega)).mono ?_; rintro e w2 ⟨⟨z, rfl⟩, hs, hg⟩; refine Hid.out ?_) | fail)
    have HS2 := Lib.hid hs
    have HG2 := Lib.hid (S1.grown_trans HG1.out hg)
    clear hs hg
    refine Lib.hid ?_
    go_wp2_with fail
    go_ret
    exact ⟨⟨_, rfl⟩, HS2.out, HG2.out⟩
  · refine Lib.hid ?_
    go_wp2_with (first | (go_at_call 70; refine (S1.among_any B g a n cap (K + 2) w.heap.size 9 10 [0, 20, 45, 60, 100, 330, 1000, 2000, -1] _ rfl (by omega) (by simp) (by simp) HS1.out (S1.ti_take (N := 9) HT1.out (by simp)) (by omega)).mono ?_; rintro e w2 ⟨⟨z, rfl⟩, hs, hg⟩; refine Hid.out ?_) | fail)
    have HS2 := Lib.hid hs
    have HG2 := Lib.hid (S1.grown_trans HG1.out hg)
    clear hs hg
    refine Lib.hid ?_
    go_wp2_with fail
    go_ret
    exact ⟨⟨_, rfl⟩, HS2.out, HG2.out⟩
  · refine Lib.hid ?_
    go_wp2_with (first | (go_at_call 70; refine (S1.among_any B g a n cap (K + 2) w.heap.size 10 10 [0, 20, 45, 60, 100, 330, 1000, 2000, -1, 2001] _ rfl (by omega) (by simp) (by simp) HS1.out (S1.ti_take (N := 10) HT1.out (by simp)) (by omega)).mono ?_; rintro e w2 ⟨⟨z, rfl⟩, hs, hg⟩; refine Hid.out ?_) | fail)
    have HS2 := Lib.hid hs
    have HG2 := Lib.hid (S1.grown_trans HG1.out hg)
    clear hs hg
    refine Lib.hid ?_
    go_wp2_with fail
    go_ret
    exact ⟨⟨_, rfl⟩, HS2.out, HG2.out⟩
/-- A draw under way: the cursor, the result's box, the rule's box. -/
structure ZD (w wr : World) (a : Option Addr) (n cap K T : Nat) (x y : Int) : Prop where
  st : S1.St (w.heap.size + 1) (w.heap.size + 1) a n cap K wr
  rb : BT wr w.heap.size 0 0
  rf : FZ wr w.heap.size
  tb : BT wr T x y
  bw : Below w.heap.size w wr
  tw : w.heap.size + 1 < T
theorem ZD.alloc {w wr : World} {a : Option Addr} {n cap K T : Nat} {x y : Int} (h : ZD w wr a n cap K T x y) (ob : Obj) : ZD w (wr.alloc ob) a n cap K T x y :=
  ⟨S1.st_new h.st _, h.rb.kept (alloc_below _ _), h.rf.kept (alloc_below _ _) h.rb.1, h.tb.kept (alloc_below _ _), h.bw.alloc h.bw.size _, h.tw⟩
theorem ZD.drew {w wr : World} {a : Option Addr} {n cap K T : Nat} {x y : Int} (h : ZD w wr a n cap K T x y) : ZD w wr.drew a n cap K T x y :=
  ⟨h.st.other (Below.refl _ _).drew, h.rb, h.rf, h.tb, h.bw.drew, h.tw⟩
theorem ZD.call {w wr w2 : World} {a : Option Addr} {n cap K K' T : Nat} {x y : Int} (h : ZD w wr a n cap K T x y) (hs : S1.St (w.heap.size + 1) (w.heap.size + 1) a n cap K' w2) (hg : wr.grownBy w2 (some (w.heap.size + 1))) : ZD w w2 a n cap K' T x y := by
  have h1 := h.tw
  exact ⟨hs, h.rb.far hg (by omega), h.rf.grown hg h.rb.1 (by omega), h.tb.far hg (by omega), h.bw.trans (S1.grown_below hg (by omega) h.bw.size), h1⟩
/-- The cursor behind the result's box. -/
structure ZC (w wr : World) (a : Option Addr) (n cap K : Nat) : Prop where
  st : S1.St (w.heap.size + 1) (w.heap.size + 1) a n cap K wr
  rb : BT wr w.heap.size 0 0
  rf : FZ wr w.heap.size
  bw : Below w.heap.size w wr
  zw : w.heap.size + 2 ≤ wr.heap.size
theorem ZC.call {w wr w2 : World} {a : Option Addr} {n cap K K' : Nat} (h : ZC w wr a n cap K) (hs : S1.St (w.heap.size + 1) (w.heap.size + 1) a n cap K' w2) (hg : wr.grownBy w2 (some (w.heap.size + 1))) : ZC w w2 a n cap K' :=
  ⟨hs, h.rb.far hg (by omega), h.rf.grown hg h.rb.1 (by omega), h.bw.trans (S1.grown_below hg (by omega) h.bw.size), Nat.le_trans h.zw hg.size⟩
theorem ZC.rule {w wr : World} {a : Option Addr} {n cap K : Nat} (h : ZC w wr a n cap K) (x y : Int) : ZD w (wr.alloc (.cells #[.int .i64 x, .int .i64 y] 25)) a n cap K wr.heap.size x y :=
  ⟨S1.st_new h.st _, h.rb.kept (alloc_below _ _), h.rf.kept (alloc_below _ _) h.rb.1, BT.new _ _ _ _, h.bw.alloc h.bw.size _, by have := h.zw; omega⟩
theorem ZC.start {a : Option Addr} {n : Nat} (cap : Nat) {w : World} (h : S1.Cd w.heap.size a n w) (hn : n ≤ 65536) : ZC w ((w.alloc (.cells #[.int .i64 0, .int .i64 0] 25)).alloc (.cells #[.slice a n cap, .int .i64 0, .int .u64 0] 70)) a n cap 0 := by
  have hz : (w.alloc (.cells #[.int .i64 0, .int .i64 0] 25)).heap.size = w.heap.size + 1 := by simp
  have hs := S1.st_start cap (h.later (alloc_below w (.cells #[.int .i64 0, .int .i64 0] 25)) (Nat.le_refl _)) hn
  rw [hz] at hs
  exact ⟨hs, (BT.new w _ _ _).kept (alloc_below _ _), (FZ.new w _ _).kept (alloc_below _ _) (by simp), two_below _ _ _, by simp⟩
theorem put_at {w : World} {q R : Nat} {l : List Int} {u v : Value} (h : IAt w (some ⟨q, 0, none⟩) l) (hne : q ≠ R) : IAt ((w.setCell ⟨R, 0, none⟩ u).setCell ⟨R, 1, none⟩ v) (some ⟨q, 0, none⟩) l :=
  (h.far (grown_set (grown_refl _ _) 0 u) hne).far (grown_set (grown_refl _ _) 1 v) hne
theorem put_below {w0 w : World} {S G : Nat} (h : Below S w0 w) (hG : S ≤ G) (u v : Value) : Below S w0 ((w.setCell ⟨G, 0, none⟩ u).setCell ⟨G, 1, none⟩ v) :=
  (h.setCell (p := ⟨G, 0, none⟩) hG _).setCell (p := ⟨G, 1, none⟩) hG _
/-- A list and a rule, drawn. -/
def ZrPost (w : World) (e : Ending) (w' : World) : Prop :=
  ∃ (q c : Nat) (l : List Int) (x y : Int), e = .returned (.tuple #[.slice (some ⟨q, 0, none⟩) l.length c, rv x y]) ∧ l.length ≤ 14 ∧ w.heap.size ≤ q ∧ q < w'.heap.size ∧ IAt w' (some ⟨q, 0, none⟩) l ∧ Below w.heap.size w w'
/-- A list, a rule and a level. -/
def ZsPost (w : World) (e : Ending) (w' : World) : Prop :=
  ∃ (q c : Nat) (l : List Int) (x y z : Int), e = .returned (.tuple #[.slice (some ⟨q, 0, none⟩) l.length c, rv x y, .int .i64 z]) ∧ l.length ≤ 14 ∧ w.heap.size ≤ q ∧ q < w'.heap.size ∧ IAt w' (some ⟨q, 0, none⟩) l ∧ Below w.heap.size w w'
/-- A list and a number. -/
def ZnPost (w : World) (e : Ending) (w' : World) : Prop :=
  ∃ (q c : Nat) (l : List Int) (z : Int), e = .returned (.tuple #[.slice (some ⟨q, 0, none⟩) l.length c, .int .i64 z]) ∧ l.length ≤ 14 ∧ w.heap.size ≤ q ∧ q < w'.heap.size ∧ IAt w' (some ⟨q, 0, none⟩) l ∧ Below w.heap.size w w'
set_option maxHeartbeats 4000000 in
set_option maxRecDepth 100000 in
theorem dsg_any (a : Option Addr) (n cap : Nat) (w : World) (hc : S1.Cd w.heap.size a n w) (hn : n ≤ 65536) :
    Calls Try.prog 66 #[.slice a n cap] w (ZrPost w) := by
  have HD0 := Lib.hid (ZC.start cap hc hn)
  have hl0 := HD0.out.zw
  clear hc
  go_enter Try.func66, Try.ntmps66
  go_wp2_with (first | (go_at_call 67; refine (places_draw (w.heap.size + 1) (w.heap.size + 1) a n cap 0 _ (by omega) HD0.out.st (by simp)).mono ?_; rintro e w1 ⟨q, c, l, rfl, hl14, hq, ha, hqlt, hs, hg⟩; refine Hid.out ?_) | fail)
  have HD1 := Lib.hid (HD0.out.call hs hg)
  have HA1 := Lib.hid ha
  have hq2 : w.heap.size + 2 ≤ q := by have := hq; simp at this; omega
  clear hs hg ha HD0 hq
  refine Lib.hid ?_
  go_wp2_with (first | (go_at_call 68; refine (rule_draw (w.heap.size + 1) (w.heap.size + 1) a n cap (0 + 100) _ (by omega) HD1.out.st (by have := HD1.out.zw; omega)).mono ?_; rintro e w2 ⟨⟨x, y, rfl⟩, hs, hg⟩; refine Hid.out ?_) | fail)
  have HD2 := Lib.hid (HD1.out.call hs hg)
  have HA2 := Lib.hid (HA1.out.far hg (by omega))
  have hqlt2 := Nat.lt_of_lt_of_le hqlt hg.size
  clear HA1 hqlt
  clear hs hg HD1
  obtain ⟨_, d0, d1⟩ := HD2.out.rb
  obtain ⟨f0, f1⟩ := HD2.out.rf.out
  refine Lib.hid ?_
  go_wp2_with fail
  refine bodyPost_ret (v := .tuple #[.slice (some ⟨q, 0, none⟩) l.length c, rv x y]) (by simp [results, Try.results66, go_sem, d0, d1]) rfl ⟨q, c, l, x, y, rfl, hl14, by omega, by simpa using hqlt2, put_at HA2.out (by omega), put_below HD2.out.bw (Nat.le_refl _) _ _⟩
set_option maxHeartbeats 1000000 in
theorem dfw_any (a : Option Addr) (n cap : Nat) (w : World) (hc : S1.Cd w.heap.size a n w) (hn : n ≤ 65536) :
    Calls Try.prog 38 #[.slice a n cap] w (ZrPost w) := by
  have HR := Lib.hid (dsg_any a n cap _ (hc.later (alloc_below w (.cells #[.int .i64 0, .int .i64 0] 25)) (Nat.le_refl _)) hn)
  have HT := Lib.hid (BT.new w 25 0 0)
  have HF := Lib.hid (FZ.new w #[.int .i64 0, .int .i64 0] 25)
  clear hc
  go_enter Try.func38, Try.ntmps38
  go_wp2_with (first | (go_at_call 66; refine HR.out.mono ?_; rintro e w1 ⟨q, c, l, x, y, rfl, hl14, hq, hqlt, ha, hb⟩; refine Hid.out ?_) | fail)
  simp only [World.size_alloc] at hq
  obtain ⟨_, d0, d1⟩ := HT.out.kept hb
  obtain ⟨f0, f1⟩ := (HF.out.kept hb (by simp)).out
  have HBB := Lib.hid ((alloc_below w _).trans (hb.mono (by simp)))
  have HA := Lib.hid ha
  clear hb ha
  refine Lib.hid ?_
  go_wp2_with fail
  refine bodyPost_ret (v := .tuple #[.slice (some ⟨q, 0, none⟩) l.length c, rv x y]) (by simp [results, Try.results38, go_sem, d0, d1]) rfl ⟨q, c, l, x, y, rfl, hl14, by omega, by simpa using hqlt, put_at HA.out (by omega), put_below HBB.out (Nat.le_refl _) _ _⟩
set_option maxHeartbeats 4000000 in
set_option maxRecDepth 100000 in
theorem dsp_any (a : Option Addr) (n cap : Nat) (w : World) (hc : S1.Cd w.heap.size a n w) (hn : n ≤ 65536) :
    Calls Try.prog 40 #[.slice a n cap] w (ZsPost w) := by
  have HD0 := Lib.hid (ZC.start cap hc hn)
  have hl0 := HD0.out.zw
  clear hc
  go_enter Try.func40, Try.ntmps40
  go_wp2_with (first | (go_at_call 67; refine (places_draw (w.heap.size + 1) (w.heap.size + 1) a n cap 0 _ (by omega) HD0.out.st (by simp)).mono ?_; rintro e w1 ⟨q, c, l, rfl, hl14, hq, ha, hqlt, hs, hg⟩; refine Hid.out ?_) | fail)
  have HD1 := Lib.hid (HD0.out.call hs hg)
  have HA1 := Lib.hid ha
  have hq2 : w.heap.size + 2 ≤ q := by have := hq; simp at this; omega
  clear hs hg ha HD0 hq
  refine Lib.hid ?_
  go_wp2_with (first | (go_at_call 68; refine (rule_draw (w.heap.size + 1) (w.heap.size + 1) a n cap (0 + 100) _ (by omega) HD1.out.st (by have := HD1.out.zw; omega)).mono ?_; rintro e w2 ⟨⟨x, y, rfl⟩, hs, hg⟩; refine Hid.out ?_) | fail)
  have HD2 := Lib.hid (HD1.out.call hs hg)
  have HA2 := Lib.hid (HA1.out.far hg (by omega))
  have hqlt2 := Nat.lt_of_lt_of_le hqlt hg.size
  clear HA1 hqlt
  clear hs hg HD1
  have HZ := Lib.hid (HD2.out.rule x y)
  have HA3 := Lib.hid (HA2.out.kept (alloc_below w2 (rb 25 x y)) (Nat.le_refl _))
  have hqlt3 : q < (w2.alloc (rb 25 x y)).heap.size := by simp; omega
  have hT : w.heap.size + 2 ≤ w2.heap.size := HD2.out.zw
  clear HA2 HD2 hqlt2
  refine Lib.hid ?_
  go_upto_region 4 with (fail)
  obtain ⟨wa, hwa⟩ : ∃ wa, w2.alloc (rb 25 x y) = wa := ⟨_, rfl⟩
  rw [hwa] at HZ HA3 hqlt3 ⊢
  clear hwa
  obtain ⟨t9, t0, t1⟩ := HZ.out.tb
  have HZd := Lib.hid HZ.out.drew
  have HAd := Lib.hid (show IAt wa.drew (some ⟨q, 0, none⟩) l from HA3.out)
  have hqd : q < wa.drew.heap.size := hqlt3
  refine wp_region_held_drew (S := fun w' => w'.cell? ⟨w2.heap.size, 0, none⟩ = some (.int .i64 x) ∧ w'.cell? ⟨w2.heap.size, 1, none⟩ = some (.int .i64 y)) (by kernel_rfl) (by exact ⟨t0, t1⟩) (fun hHeld => ?_)
  clear HZ HA3 t0 t1
  refine wpAnyH_take (i := 0) (v := .slice (some ⟨q, 0, none⟩) l.length c) rfl (by kernel_rfl) (by kernel_rfl) (by kernel_rfl) (fun _ _ _ h => h) (Or.inl ⟨by kernel_rfl, ?_⟩) (by assumption) ?_
  · (intro w hSw; (try dsimp only at hSw); go_simp)
  simp only [Act.put, List.setIfInBounds_toArray]
  refine wpAnyH_take (i := 1) (v := .agg #[.int .i64 x, .int .i64 y]) rfl (by kernel_rfl) (by kernel_rfl) (by kernel_rfl) (fun _ _ _ h => h) (Or.inl ⟨by kernel_rfl, ?_⟩) (by assumption) ?_
  · (intro w hSw; (try dsimp only at hSw); go_simp)
  simp only [Act.put]
  refine wpAnyH_take (i := 2) (v := .pointer (some ⟨w.heap.size + 1, 0, none⟩)) rfl (by kernel_rfl) (by kernel_rfl) (by kernel_rfl) (fun _ _ _ h => h) (Or.inl ⟨by kernel_rfl, ?_⟩) (by assumption) ?_
  · (intro w hSw; (try dsimp only at hSw); go_simp)
  simp only [Act.put]
  refine wpAnyH_ready (rs := [3]) (by kernel_rfl) (by simp) ?_
  refine AllReadyH.cons rfl (fun K hK => ?_) AllReadyH.nil
  go_simp
  go_at_call 69
  refine (level_draw (w.heap.size + 1) (w.heap.size + 1) a n cap (0 + 100 + 20) _ (by omega) HZd.out.st).mono ?_
  rintro e w4 ⟨⟨z, rfl⟩, hs, hg⟩
  have HD4 := Lib.hid (HZd.out.call hs hg)
  have HA4 := Lib.hid (HAd.out.far hg (by omega))
  have hq4 : q < w4.heap.size := Nat.lt_of_lt_of_le hqd hg.size
  clear hs hg
  obtain ⟨_, n0, n1⟩ := HD4.out.tb
  obtain ⟨_, m0, m1⟩ := HD4.out.rb
  obtain ⟨k0, k1⟩ := HD4.out.rf.out
  refine hK.out _ _ (by exact ⟨n0, n1⟩) (fun hHeld => ?_)
  clear hK K
  refine wpAnyH_ready (rs := [4]) (by kernel_rfl) (by simp) ?_
  refine AllReadyH.cons rfl (fun K hK => ?_) AllReadyH.nil
  go_simp
  refine hK.out _ _ (by exact ⟨n0, n1⟩) (fun hHeld => ?_)
  clear hK K
  refine wpAnyH_ready (rs := [5]) (by kernel_rfl) (by simp) ?_
  refine AllReadyH.cons rfl (fun K hK => ?_) AllReadyH.nil
  go_simp
  have hne : w2.heap.size ≠ w.heap.size := by omega
  obtain ⟨_, v0, v1⟩ := (HD4.out.tb.set_far 0 (.int .i64 x) hne).set_far 1 (.int .i64 y) hne
  refine hK.out _ _ (by exact ⟨v0, v1⟩) (fun hHeld => ?_)
  clear hK K
  refine wpAnyH_ready (rs := [6]) (by kernel_rfl) (by simp) ?_
  refine AllReadyH.cons rfl (fun K hK => ?_) AllReadyH.nil
  go_simp
  refine hK.out _ _ (by exact ⟨v0, v1⟩) (fun hHeld => ?_)
  clear hK K
  refine wpAnyH_done (by kernel_rfl) ?_ _
  clear hHeld v0 v1 n0 n1
  go_wp2_with fail
  refine bodyPost_ret (v := .tuple #[.slice (some ⟨q, 0, none⟩) l.length c, rv x y, .int .i64 z]) (by simp [results, Try.results40, go_sem, m0, m1]) rfl ⟨q, c, l, x, y, z, rfl, hl14, by omega, by simpa using hq4, put_at HA4.out (by omega), put_below HD4.out.bw (Nat.le_refl _) _ _⟩
set_option maxHeartbeats 2000000 in
set_option maxRecDepth 100000 in
theorem dpr_any (a : Option Addr) (n cap : Nat) (w : World) (hc : S1.Cd w.heap.size a n w) (hn : n ≤ 65536) :
    Calls Try.prog 44 #[.slice a n cap] w (ZnPost w) := by
  have HS0 := Lib.hid (S1.st_start cap hc hn)
  clear hc
  go_enter Try.func44, Try.ntmps44
  go_wp2_with (first | (go_at_call 67; refine (places_draw w.heap.size w.heap.size a n cap 0 _ (by omega) HS0.out (by simp)).mono ?_; rintro e w1 ⟨q, c, l, rfl, hl14, hq, ha, hqlt, hs, hg⟩; refine Hid.out ?_) | fail)
  have HS1 := Lib.hid hs
  have HA1 := Lib.hid ha
  have HB1 := Lib.hid (S1.below_of_start hg)
  have hz1 := hg.size
  simp at hq hz1
  clear hs hg ha HS0
  refine Lib.hid ?_
  go_wp2_with (first | (go_at_call 69; refine (level_draw w.heap.size w.heap.size a n cap (0 + 100) _ (by omega) HS1.out).mono ?_; rintro e w2 ⟨⟨z, rfl⟩, hs, hg⟩; refine Hid.out ?_) | fail)
  have HA2 := Lib.hid (HA1.out.far hg (by omega))
  have hq2 := Nat.lt_of_lt_of_le hqlt hg.size
  have HB2 := Lib.hid (HB1.out.trans (S1.grown_below hg (Nat.le_refl _) HB1.out.size))
  clear hs hg
  refine Lib.hid ?_
  go_wp2_with fail
  go_ret2
  exact ⟨q, c, l, z, rfl, hl14, by omega, hq2, HA2.out, HB2.out⟩
set_option maxHeartbeats 2000000 in
set_option maxRecDepth 100000 in
theorem drs_any (a : Option Addr) (n cap : Nat) (w : World) (hc : S1.Cd w.heap.size a n w) (hn : n ≤ 65536) :
    Calls Try.prog 43 #[.slice a n cap] w (ZnPost w) := by
  have HS0 := Lib.hid (S1.st_start cap hc hn)
  clear hc
  go_enter Try.func43, Try.ntmps43
  go_wp2_with (first | (go_at_call 67; refine (places_draw w.heap.size w.heap.size a n cap 0 _ (by omega) HS0.out (by simp)).mono ?_; rintro e w1 ⟨q, c, l, rfl, hl14, hq, ha, hqlt, hs, hg⟩; refine Hid.out ?_) | fail)
  have HS1 := Lib.hid hs
  have HA1 := Lib.hid ha
  have HB1 := Lib.hid (S1.below_of_start hg)
  have hz1 := hg.size
  simp at hq hz1
  clear hs hg ha HS0
  refine Lib.hid ?_
  go_wp2_with (first | (go_at_call 70; refine (S1.among_any w.heap.size w.heap.size a n cap (0 + 100) w1.heap.size 8 8 [0, 1, -5, 100, 1000, -1000, 1001, -1001] _ rfl (by omega) (by simp) (by simp) (S1.st_new HS1.out _) (fun j hj => S1.ti_new w1 [0, 1, -5, 100, 1000, -1000, 1001, -1001] 3 j hj) (by omega)).mono ?_; rintro e w2 ⟨⟨z, rfl⟩, hs, hg0⟩; have hg := S1.grown_trans (World.grownBy_alloc w1 (.cells #[.int .i64 0, .int .i64 1, .int .i64 (-5), .int .i64 100, .int .i64 1000, .int .i64 (-1000), .int .i64 1001, .int .i64 (-1001)] 3) (some w.heap.size)) hg0; refine Hid.out ?_) | fail)
  have HA2 := Lib.hid (HA1.out.far hg (by omega))
  have hq2 := Nat.lt_of_lt_of_le hqlt hg.size
  have HB2 := Lib.hid (HB1.out.trans (S1.grown_below hg (Nat.le_refl _) HB1.out.size))
  clear hs hg
  refine Lib.hid ?_
  go_wp2_with fail
  go_ret2
  exact ⟨q, c, l, z, rfl, hl14, by omega, hq2, HA2.out, HB2.out⟩
end Go.Proofs.Ytjfpimldiokpbaa.S12
