/- How the laws of chapter 14 draw their arguments: contracts. Conditions: each theorem's own premises. -/
import Derived.Test.YtidlpoambmeiiaaTaDr
namespace Go.Proofs.Ytidlpoambmeiiaa.S14
open Go.RowKit Go.Sort P14

def NumPost (B g : Nat) (a : Option Addr) (n cap K : Nat) (w : World) (e : Ending) (w' : World) : Prop :=
  (∃ z : Int, e = .returned (.int .i64 z)) ∧ S1.St B g a n cap K w' ∧ w.grownBy w' (some g)
theorem st_lt {B g : Nat} {a : Option Addr} {n cap K : Nat} {w : World} (h : S1.St B g a n cap K w) : g < w.heap.size := by
  obtain ⟨k, sd, hk, hh⟩ := h.cur
  exact (Array.getElem?_eq_some_iff.1 hh).1
set_option maxHeartbeats 2000000 in
theorem volume_draw (B g : Nat) (a : Option Addr) (n cap K : Nat) (w : World) (hK : K ≤ 800000) (h : S1.St B g a n cap K w) :
    Calls Try.prog 75 #[.pointer (some ⟨g, 0, none⟩)] w (NumPost B g a n cap (K + 4) w) := by
  have hlt := st_lt h
  have HS := Lib.hid (S1.st_new h (.cells #[.int .i64 0, .int .i64 1, .int .i64 10, .int .i64 11, .int .i64 60, .int .i64 61, .int .i64 161, .int .i64 20000, .int .i64 99999, .int .i64 100000, .int .i64 (-1), .int .i64 100001] 3))
  have HG := Lib.hid (show w.grownBy (w.alloc (.cells #[.int .i64 0, .int .i64 1, .int .i64 10, .int .i64 11, .int .i64 60, .int .i64 61, .int .i64 161, .int .i64 20000, .int .i64 99999, .int .i64 100000, .int .i64 (-1), .int .i64 100001] 3)) (some g) from World.grownBy_alloc w _ (some g))
  have HTI := Lib.hid (show S1.Ti w.heap.size [0, 1, 10, 11, 60, 61, 161, 20000, 99999, 100000, (-1), 100001] (w.alloc (.cells #[.int .i64 0, .int .i64 1, .int .i64 10, .int .i64 11, .int .i64 60, .int .i64 61, .int .i64 161, .int .i64 20000, .int .i64 99999, .int .i64 100000, .int .i64 (-1), .int .i64 100001] 3)) from fun j hj => S1.ti_new w [0, 1, 10, 11, 60, 61, 161, 20000, 99999, 100000, (-1), 100001] 3 j hj)
  clear h
  go_enter Try.func75, Try.ntmps75
  go_wp2_with (first | (go_at_call 78; refine (S1.pick_any B g a n cap K 24 _ (by omega) (by omega) (by omega) HS.out).mono ?_; rintro e w1 ⟨r, rfl, hr0, hr1, hs, hg⟩; refine Hid.out ?_) | fail)
  have HS1 := Lib.hid hs
  have HG1 := Lib.hid (S1.grown_trans HG.out hg)
  have HT1 := Lib.hid (show S1.Ti w.heap.size [0, 1, 10, 11, 60, 61, 161, 20000, 99999, 100000, (-1), 100001] w1 from fun j hj => S1.ti_grown HTI.out hg (by omega) j hj)
  clear hs hg HS HG HTI
  have hq : r / 11 = 0 ∨ r / 11 = 1 ∨ r / 11 = 2 := by omega
  rcases hq with hq | hq | hq
  · refine Lib.hid ?_
    go_wp2_with (first | (go_at_call 77; refine (S1.among_any B g a n cap (K + 2) w.heap.size 10 12 [0, 1, 10, 11, 60, 61, 161, 20000, 99999, 100000] _ rfl (by omega) (by simp) (by simp) HS1.out (S1.ti_take (N := 10) HT1.out (by simp)) (by omega)).mono ?_; rintro e w2 ⟨⟨z, rfl⟩, hs, hg⟩; refine Hid.out ?_) | fail)
    have HS2 := Lib.hid hs
    have HG2 := Lib.hid (S1.grown_trans HG1.out hg)
    clear hs hg
    refine Lib.hid ?_
    go_wp2_with fail
    go_ret
    exact ⟨⟨_, rfl⟩, HS2.out, HG2.out⟩
  · refine Lib.hid ?_
    go_wp2_with (first | (go_at_call 77; refine (S1.among_any B g a n cap (K + 2) w.heap.size 11 12 [0, 1, 10, 11, 60, 61, 161, 20000, 99999, 100000, (-1)] _ rfl (by omega) (by simp) (by simp) HS1.out (S1.ti_take (N := 11) HT1.out (by simp)) (by omega)).mono ?_; rintro e w2 ⟨⟨z, rfl⟩, hs, hg⟩; refine Hid.out ?_) | fail)
    have HS2 := Lib.hid hs
    have HG2 := Lib.hid (S1.grown_trans HG1.out hg)
    clear hs hg
    refine Lib.hid ?_
    go_wp2_with fail
    go_ret
    exact ⟨⟨_, rfl⟩, HS2.out, HG2.out⟩
  · refine Lib.hid ?_
    go_wp2_with (first | (go_at_call 77; refine (S1.among_any B g a n cap (K + 2) w.heap.size 12 12 [0, 1, 10, 11, 60, 61, 161, 20000, 99999, 100000, (-1), 100001] _ rfl (by omega) (by simp) (by simp) HS1.out (S1.ti_take (N := 12) HT1.out (by simp)) (by omega)).mono ?_; rintro e w2 ⟨⟨z, rfl⟩, hs, hg⟩; refine Hid.out ?_) | fail)
    have HS2 := Lib.hid hs
    have HG2 := Lib.hid (S1.grown_trans HG1.out hg)
    clear hs hg
    refine Lib.hid ?_
    go_wp2_with fail
    go_ret
    exact ⟨⟨_, rfl⟩, HS2.out, HG2.out⟩
/-- A draw under way: the cursor, the result's box, the tariff in its box. -/
structure TD (w wr : World) (a : Option Addr) (n cap K T : Nat) (t : Ta) (A : Option Addr) (c : Nat) : Prop where
  st : S1.St (w.heap.size + 1) (w.heap.size + 1) a n cap K wr
  rb : C2 wr w.heap.size (.int .i64 0) (.slice none 0 0)
  tb : B2 wr T t A c
  fr : TFr (w.heap.size + 2) wr t A
  bw : Below w.heap.size w wr
  lo : w.heap.size + 1 < T
  le : t.bs.length ≤ 10
theorem TD.alloc {w wr : World} {a : Option Addr} {n cap K T : Nat} {t : Ta} {A : Option Addr} {c : Nat} (h : TD w wr a n cap K T t A c) (ob : Obj) : TD w (wr.alloc ob) a n cap K T t A c :=
  ⟨S1.st_new h.st _, h.rb.kept (alloc_below _ _), h.tb.kept (alloc_below _ _), h.fr.kept (alloc_below _ _), h.bw.alloc h.bw.size _, h.lo, h.le⟩
theorem TD.call {w wr w2 : World} {a : Option Addr} {n cap K K' T : Nat} {t : Ta} {A : Option Addr} {c : Nat} (h : TD w wr a n cap K T t A c) (hs : S1.St (w.heap.size + 1) (w.heap.size + 1) a n cap K' w2) (hg : wr.grownBy w2 (some (w.heap.size + 1))) : TD w w2 a n cap K' T t A c :=
  ⟨hs, h.rb.far hg (by omega), h.tb.far hg (by have := h.lo; omega), h.fr.far hg (by omega), h.bw.trans (S1.grown_below hg (by omega) h.bw.size), h.lo, h.le⟩
theorem TD.drew {w wr : World} {a : Option Addr} {n cap K T : Nat} {t : Ta} {A : Option Addr} {c : Nat} (h : TD w wr a n cap K T t A c) : TD w wr.drew a n cap K T t A c :=
  have hb : Below wr.heap.size wr wr.drew := (Below.refl _ _).drew
  ⟨h.st.other hb, h.rb.kept hb, h.tb.kept hb, h.fr.kept hb, h.bw.trans (hb.mono h.bw.size), h.lo, h.le⟩
theorem TD.post {w wr : World} {a : Option Addr} {n cap K T : Nat} {t : Ta} {A : Option Addr} {c : Nat} (h : TD w wr a n cap K T t A c) (x y : Value) :
    TAt ((wr.setCell ⟨w.heap.size, 0, none⟩ x).setCell ⟨w.heap.size, 1, none⟩ y) t A ∧ Below w.heap.size w ((wr.setCell ⟨w.heap.size, 0, none⟩ x).setCell ⟨w.heap.size, 1, none⟩ y) :=
  ⟨⟨TFr.at_ ((h.fr.far (grown_set (grown_refl _ (some w.heap.size)) _ _) (by omega)).far (grown_set (grown_refl _ (some w.heap.size)) _ _) (by omega)), by have := h.le; omega⟩, two_set h.bw (Nat.le_refl _)⟩
theorem cur_start {a : Option Addr} {n : Nat} (cap : Nat) {w : World} (o : Obj) (h : S1.Cd w.heap.size a n w) (hn : n ≤ 65536) : S1.St (w.heap.size + 1) (w.heap.size + 1) a n cap 0 ((w.alloc o).alloc (.cells #[.slice a n cap, .int .i64 0, .int .u64 0] 78)) := by
  have := S1.st_start cap (h.later (alloc_below w o) (Nat.le_refl _)) hn
  rw [alloc_size] at this
  exact this
theorem below2 {w w1 : World} {o1 o2 : Obj} {g : Nat} (hg : ((w.alloc o1).alloc o2).grownBy w1 (some g)) (hgw : w.heap.size < g) : Below w.heap.size w w1 :=
  (((Below.refl _ _).alloc (Nat.le_refl _) o1).alloc (by simp) o2).trans (S1.grown_below hg (by omega) (by simp; omega))
theorem TD.start {w w1 : World} {a : Option Addr} {n cap K : Nat} {t : Ta} {A : Option Addr} {c : Nat} {o2 : Obj} (hg : ((w.alloc (.cells #[.int .i64 0, .slice none 0 0] 29)).alloc o2).grownBy w1 (some (w.heap.size + 1))) (hs : S1.St (w.heap.size + 1) (w.heap.size + 1) a n cap K w1) (hf : TFr (((w.alloc (.cells #[.int .i64 0, .slice none 0 0] 29)).alloc o2).heap.size + 1) w1 t A) (hl : t.bs.length ≤ 10) :
    TD w (w1.alloc (.cells #[.int .i64 t.fee, .slice A t.bs.length c] 29)) a n cap K w1.heap.size t A c := by
  have hz := hg.size
  simp only [alloc_size] at hz hf
  have hr := (C2.kept (C2.new w 29 (.int .i64 0) (.slice none 0 0)) (alloc_below _ o2)).far hg (by omega)
  exact ⟨S1.st_new hs _, hr.kept (alloc_below _ _), B2.new w1 _ t A c, (hf.low (by omega)).kept (alloc_below _ _), (below2 hg (by omega)).alloc (by omega) _, by omega, hl⟩
def D1 (w : World) (e : Ending) (w' : World) : Prop := ∃ (t : Ta) (A : Option Addr) (c : Nat), e = .returned (tv t A c) ∧ TFr (w.heap.size + 1) w' t A ∧ t.bs.length ≤ 10 ∧ Below w.heap.size w w'
def D2 (w : World) (e : Ending) (w' : World) : Prop := ∃ (t : Ta) (A : Option Addr) (c : Nat) (x : Int), e = .returned (.tuple #[tv t A c, .int .i64 x]) ∧ TAt w' t A ∧ Below w.heap.size w w'
def D3 (w : World) (e : Ending) (w' : World) : Prop := ∃ (t : Ta) (A : Option Addr) (c : Nat) (t2 : Ta) (A2 : Option Addr) (c2 : Nat), e = .returned (.tuple #[tv t A c, tv t2 A2 c2]) ∧ TAt w' t A ∧ TAt w' t2 A2 ∧ Below w.heap.size w w'
set_option maxHeartbeats 4000000 in
set_option maxRecDepth 100000 in
theorem dvalid_any (a : Option Addr) (n cap : Nat) (w : World) (h : S1.Cd w.heap.size a n w) (hn : n ≤ 65536) :
    Calls Try.prog 76 #[.slice a n cap] w (D1 w) := by
  have HST := Lib.hid (cur_start cap (.cells #[.int .i64 0, .slice none 0 0] 29) h hn)
  clear h
  go_enter Try.func76, Try.ntmps76
  refine Hid.out ?_
  refine Lib.hid ?_
  go_wp2_with (first | (go_at_call 74; refine (tariff_any (w.heap.size + 1) (w.heap.size + 1) a n cap 0 _ (by omega) HST.out (by simp)).mono ?_; rintro e w1 ⟨t, A, c, rfl, hf, hl, hs, hg⟩; refine Hid.out ?_) | fail)
  have HD := Lib.hid (TD.start (c := c) hg hs hf hl)
  clear HST
  have hr := (C2.kept (C2.new w 29 (.int .i64 0) (.slice none 0 0)) (alloc_below _ (.cells #[.slice a n cap, .int .i64 0, .int .u64 0] 78))).far hg (by omega)
  obtain ⟨rl, r0, r1, rf⟩ := hr
  have HF := Lib.hid (hf.low (show w.heap.size + 1 ≤ ((w.alloc (.cells #[.int .i64 0, .slice none 0 0] 29)).alloc (.cells #[.slice a n cap, .int .i64 0, .int .u64 0] 78)).heap.size + 1 by simp))
  have HB := Lib.hid (below2 hg (by omega))
  clear HD hf hs hg
  refine Lib.hid ?_
  go_wp2_with fail
  refine bodyPost_ret (v := tv t A c) (by simp [results, Try.results76, go_sem, r0, r1]) rfl ?_
  exact ⟨t, A, c, rfl, (HF.out.far (grown_set (grown_refl _ (some w.heap.size)) _ _) (by omega)).far (grown_set (grown_refl _ (some w.heap.size)) _ _) (by omega), hl, two_set HB.out (Nat.le_refl _)⟩
set_option maxHeartbeats 2000000 in
theorem dprog_any (a : Option Addr) (n cap : Nat) (w : World) (h : S1.Cd w.heap.size a n w) (hn : n ≤ 65536) :
    Calls Try.prog 48 #[.slice a n cap] w (D1 w) := by
  have HV := Lib.hid (dvalid_any a n cap (w.alloc (.cells #[.int .i64 0, .slice none 0 0] 29)) (h.later (alloc_below w _) (Nat.le_refl _)) hn)
  have HR := Lib.hid (C2.new w 29 (.int .i64 0) (.slice none 0 0))
  have HB0 := Lib.hid (alloc_below w (.cells #[.int .i64 0, .slice none 0 0] 29))
  clear h
  go_enter Try.func48, Try.ntmps48
  go_wp2_with (first | (go_at_call 76; refine HV.out.mono ?_; rintro e w1 ⟨t, A, c, rfl, hf, hl, hb⟩; refine Hid.out ?_) | fail)
  obtain ⟨rl, r0, r1, rf⟩ := HR.out.kept hb
  rw [alloc_size] at hf
  have HF := Lib.hid (hf.low (show w.heap.size + 1 ≤ w.heap.size + 1 + 1 by omega))
  have HB := Lib.hid (HB0.out.trans (hb.mono HB0.out.size))
  clear hf hb HV HR HB0
  refine Lib.hid ?_
  go_wp2_with fail
  refine bodyPost_ret (v := tv t A c) (by simp [results, Try.results48, go_sem, r0, r1]) rfl ?_
  exact ⟨t, A, c, rfl, (HF.out.far (grown_set (grown_refl _ (some w.heap.size)) _ _) (by omega)).far (grown_set (grown_refl _ (some w.heap.size)) _ _) (by omega), hl, two_set HB.out (Nat.le_refl _)⟩
set_option maxHeartbeats 4000000 in
set_option maxRecDepth 100000 in
theorem dcheap_any (a : Option Addr) (n cap : Nat) (w : World) (h : S1.Cd w.heap.size a n w) (hn : n ≤ 65536) :
    Calls Try.prog 50 #[.slice a n cap] w (D3 w) := by
  obtain ⟨W0, hW0⟩ : ∃ W0, W0 = ((w.alloc (.cells #[.int .i64 0, .slice none 0 0] 29)).alloc (.cells #[.int .i64 0, .slice none 0 0] 29)).alloc (.cells #[.slice a n cap, .int .i64 0, .int .u64 0] 78) := ⟨_, rfl⟩
  have hz0 : W0.heap.size = w.heap.size + 1 + 1 + 1 := by rw [hW0]; simp
  have HST : Hid (S1.St (w.heap.size + 1 + 1) (w.heap.size + 1 + 1) a n cap 0 W0) := Lib.hid (by
    have := cur_start cap (w := w.alloc (.cells #[.int .i64 0, .slice none 0 0] 29)) (.cells #[.int .i64 0, .slice none 0 0] 29) (h.later (alloc_below w _) (Nat.le_refl _)) hn
    rw [alloc_size] at this
    rw [hW0]; exact this)
  have HRA : Hid (C2 W0 w.heap.size (.int .i64 0) (.slice none 0 0)) := Lib.hid (by rw [hW0]; exact ((C2.new w _ _ _).kept (alloc_below _ _)).kept (alloc_below _ _))
  have HRB : Hid (C2 W0 (w.heap.size + 1) (.int .i64 0) (.slice none 0 0)) := Lib.hid (by
    have := (C2.new (w.alloc (.cells #[.int .i64 0, .slice none 0 0] 29)) 29 (.int .i64 0) (.slice none 0 0)).kept (alloc_below _ (.cells #[.slice a n cap, .int .i64 0, .int .u64 0] 78))
    rw [alloc_size] at this
    rw [hW0]; exact this)
  have HB0 : Hid (Below w.heap.size w W0) := Lib.hid (by rw [hW0]; exact (((Below.refl _ _).alloc (Nat.le_refl _) _).alloc (by simp) _).alloc (by simp; omega) _)
  have HW := Lib.hid hW0
  have HZ := Lib.hid hz0
  clear h hW0 hz0
  go_enter Try.func50, Try.ntmps50
  refine Hid.out ?_
  refine Lib.hid ?_
  go_wp2_with fail
  go_at_call 74
  have HST2 := HST.out
  rw [HW.out] at HST2
  refine (tariff_any (w.heap.size + 1 + 1) (w.heap.size + 1 + 1) a n cap 0 _ (by omega) HST2 (by simp)).mono ?_
  rintro e w1 ⟨t, A, c, rfl, hf, hl, hs, hg⟩
  rw [← HW.out] at hf hg
  clear HST2
  refine Hid.out ?_
  have HS1 := Lib.hid hs
  have HF1 := Lib.hid (hf.low (show w.heap.size + 1 + 1 + 1 ≤ W0.heap.size + 1 by have := HZ.out; omega))
  have HA1 := Lib.hid (C2.far HRA.out hg (by omega))
  have HB1 := Lib.hid (C2.far HRB.out hg (by omega))
  have HW1 := Lib.hid (HB0.out.trans (S1.grown_below hg (by omega) HB0.out.size))
  have hz1 : w.heap.size + 1 + 1 + 1 ≤ w1.heap.size := by have := hg.size; have := HZ.out; omega
  clear hf hs hg HST HRA HRB HB0
  refine Lib.hid ?_
  go_wp2_with (first | (go_at_call 74; refine (tariff_any (w.heap.size + 1 + 1) (w.heap.size + 1 + 1) a n cap (0 + 30) _ (by omega) HS1.out (by omega)).mono ?_; rintro e w2 ⟨t2, A2, c2, rfl, hf2, hl2, hs2, hg2⟩; refine Hid.out ?_) | fail)
  have HF2 := Lib.hid (HF1.out.far hg2 (by omega))
  have HF3 := Lib.hid (hf2.low (show w.heap.size + 1 + 1 ≤ w1.heap.size + 1 by omega))
  obtain ⟨al, a0, a1, af⟩ := C2.far HA1.out hg2 (by omega)
  obtain ⟨bl, b0, b1, bf⟩ := C2.far HB1.out hg2 (by omega)
  have HWF := Lib.hid (HW1.out.trans (S1.grown_below hg2 (by omega) HW1.out.size))
  clear hf2 hs2 hg2 HS1 HF1 HA1 HB1 HW1 HW HZ
  refine Lib.hid ?_
  go_wp2_with fail
  have hgr : ∀ (x y z v : Value) (q : Nat), q < 2 → True := fun _ _ _ _ _ _ => trivial
  clear hgr
  have key : ∀ {t : Ta} {A : Option Addr} (x y z v : Value), TFr (w.heap.size + 1 + 1) w2 t A → TFr (w.heap.size + 1 + 1) ((((w2.setCell ⟨w.heap.size, 0, none⟩ x).setCell ⟨w.heap.size, 1, none⟩ y).setCell ⟨w.heap.size + 1, 0, none⟩ z).setCell ⟨w.heap.size + 1, 1, none⟩ v) t A := fun x y z v h =>
    (((h.far (grown_set (grown_refl _ (some w.heap.size)) _ _) (by omega)).far (grown_set (grown_refl _ (some w.heap.size)) _ _) (by omega)).far (grown_set (grown_refl _ (some (w.heap.size + 1))) _ _) (by omega)).far (grown_set (grown_refl _ (some (w.heap.size + 1))) _ _) (by omega)
  refine bodyPost_ret (v := .tuple #[tv t A c, tv t2 A2 c2]) (by simp [results, Try.results50, go_sem, a0, a1, b0, b1]) rfl ?_
  have h1 : w.heap.size ≤ w.heap.size + 1 := by omega
  exact ⟨t, A, c, t2, A2, c2, rfl, ⟨TFr.at_ (key _ _ _ _ (HF2.out.low (by omega))), by omega⟩, ⟨TFr.at_ (key _ _ _ _ HF3.out), by omega⟩, ((two_set HWF.out (Nat.le_refl _)).setCell (p := ⟨w.heap.size + 1, 0, none⟩) h1 _).setCell (p := ⟨w.heap.size + 1, 1, none⟩) h1 _⟩
set_option maxHeartbeats 4000000 in
set_option maxRecDepth 100000 in
theorem dcost_any (a : Option Addr) (n cap : Nat) (w : World) (h : S1.Cd w.heap.size a n w) (hn : n ≤ 65536) :
    Calls Try.prog 44 #[.slice a n cap] w (D2 w) := by
  have HST := Lib.hid (cur_start cap (.cells #[.int .i64 0, .slice none 0 0] 29) h hn)
  clear h
  go_enter Try.func44, Try.ntmps44
  refine Hid.out ?_
  refine Lib.hid ?_
  go_wp2_with (first | (go_at_call 74; refine (tariff_any (w.heap.size + 1) (w.heap.size + 1) a n cap 0 _ (by omega) HST.out (by simp)).mono ?_; rintro e w1 ⟨t, A, c, rfl, hf, hl, hs, hg⟩; refine Hid.out ?_) | fail)
  have HD := Lib.hid (TD.start (c := c) hg hs hf hl)
  clear HST
  clear hf hl hs hg
  obtain ⟨_, q0, q1, _⟩ := HD.out.tb
  have HDd := Lib.hid HD.out.drew
  refine Lib.hid ?_
  go_wp2_with fail
  refine wp_region_held_drew (S := fun w' => w'.cell? ⟨w1.heap.size, 0, none⟩ = some (.int .i64 t.fee) ∧ w'.cell? ⟨w1.heap.size, 1, none⟩ = some (.slice A t.bs.length c)) (by kernel_rfl) (by exact ⟨q0, q1⟩) (fun hHeld => ?_)
  refine wpAnyH_take (i := 0) (v := .agg #[.int .i64 t.fee, .slice A t.bs.length c]) rfl (by kernel_rfl) (by kernel_rfl) (by kernel_rfl) (fun _ _ _ h => h) (Or.inl ⟨by kernel_rfl, ?_⟩) (by assumption) ?_
  · (intro w hSw; (try dsimp only at hSw); go_simp)
  simp only [Act.put, List.setIfInBounds_toArray]
  refine wpAnyH_take (i := 1) (v := .pointer (some ⟨w.heap.size + 1, 0, none⟩)) rfl (by kernel_rfl) (by kernel_rfl) (by kernel_rfl) (fun _ _ _ h => h) (Or.inl ⟨by kernel_rfl, ?_⟩) (by assumption) ?_
  · (intro w hSw; (try dsimp only at hSw); go_simp)
  simp only [Act.put]
  refine wpAnyH_ready (rs := [2]) (by kernel_rfl) (by simp) ?_
  refine AllReadyH.cons rfl (fun K hK => ?_) AllReadyH.nil
  go_simp
  go_at_call 75
  refine (volume_draw (w.heap.size + 1) (w.heap.size + 1) a n cap (0 + 30) _ (by omega) HDd.out.st).mono ?_
  rintro e w3 ⟨⟨z, rfl⟩, hs, hg⟩
  have HD3 := Lib.hid (HDd.out.call hs hg)
  clear hs hg
  obtain ⟨_, u0a, u1a, _⟩ := HD3.out.tb
  refine hK.out _ _ ⟨u0a, u1a⟩ (fun hHeld => ?_)
  clear hK K
  obtain ⟨rl, r0, r1, rf⟩ := HD3.out.rb
  have hlo := HD3.out.lo
  have hn1 : w1.heap.size ≠ w.heap.size := by omega
  have hn2 : w.heap.size ≠ w1.heap.size := by omega
  refine wpAnyH_ready (rs := [3]) (by kernel_rfl) (by simp) ?_
  refine AllReadyH.cons rfl (fun K hK => ?_) AllReadyH.nil
  go_simp
  refine hK.out _ _ ⟨((World.cell?_setCell_far _ _ _ _ (by show w.heap.size ≠ w1.heap.size; omega)).trans (World.cell?_setCell_far _ _ _ _ (by show w.heap.size ≠ w1.heap.size; omega))).trans u0a, ((World.cell?_setCell_far _ _ _ _ (by show w.heap.size ≠ w1.heap.size; omega)).trans (World.cell?_setCell_far _ _ _ _ (by show w.heap.size ≠ w1.heap.size; omega))).trans u1a⟩ (fun hHeld => ?_)
  clear hK K
  refine wpAnyH_ready (rs := [4]) (by kernel_rfl) (by simp) ?_
  refine AllReadyH.cons rfl (fun K hK => ?_) AllReadyH.nil
  go_simp
  refine hK.out _ _ (by first | assumption | go_keep) (fun hHeld => ?_)
  clear hK K
  refine wpAnyH_done (by kernel_rfl) ?_ _
  have HF := Lib.hid (HD3.out.post (.int .i64 t.fee) (.slice A t.bs.length c))
  go_wp2_with fail
  refine bodyPost_ret (v := .tuple #[tv t A c, .int .i64 z]) (by simp [results, Try.results44, go_sem, r0, r1]) rfl ?_
  exact ⟨t, A, c, z, rfl, HF.out.1, HF.out.2⟩
set_option maxHeartbeats 4000000 in
set_option maxRecDepth 100000 in
theorem dvol_any (a : Option Addr) (n cap : Nat) (w : World) (h : S1.Cd w.heap.size a n w) (hn : n ≤ 65536) :
    Calls Try.prog 49 #[.slice a n cap] w (D2 w) := by
  have HST := Lib.hid (cur_start cap (.cells #[.int .i64 0, .slice none 0 0] 29) h hn)
  clear h
  go_enter Try.func49, Try.ntmps49
  refine Hid.out ?_
  refine Lib.hid ?_
  go_wp2_with (first | (go_at_call 74; refine (tariff_any (w.heap.size + 1) (w.heap.size + 1) a n cap 0 _ (by omega) HST.out (by simp)).mono ?_; rintro e w1 ⟨t, A, c, rfl, hf, hl, hs, hg⟩; refine Hid.out ?_) | fail)
  have HD := Lib.hid (TD.start (c := c) hg hs hf hl)
  clear HST
  clear hf hl hs hg
  obtain ⟨_, q0, q1, _⟩ := HD.out.tb
  have HDd := Lib.hid HD.out.drew
  refine Lib.hid ?_
  go_wp2_with fail
  refine wp_region_held_drew (S := fun w' => w'.cell? ⟨w1.heap.size, 0, none⟩ = some (.int .i64 t.fee) ∧ w'.cell? ⟨w1.heap.size, 1, none⟩ = some (.slice A t.bs.length c)) (by kernel_rfl) (by exact ⟨q0, q1⟩) (fun hHeld => ?_)
  refine wpAnyH_take (i := 0) (v := .agg #[.int .i64 t.fee, .slice A t.bs.length c]) rfl (by kernel_rfl) (by kernel_rfl) (by kernel_rfl) (fun _ _ _ h => h) (Or.inl ⟨by kernel_rfl, ?_⟩) (by assumption) ?_
  · (intro w hSw; (try dsimp only at hSw); go_simp)
  simp only [Act.put, List.setIfInBounds_toArray]
  refine wpAnyH_take (i := 1) (v := .pointer (some ⟨w.heap.size + 1, 0, none⟩)) rfl (by kernel_rfl) (by kernel_rfl) (by kernel_rfl) (fun _ _ _ h => h) (Or.inl ⟨by kernel_rfl, ?_⟩) (by assumption) ?_
  · (intro w hSw; (try dsimp only at hSw); go_simp)
  simp only [Act.put]
  refine wpAnyH_take (i := 3) (v := .pointer (some ⟨w.heap.size + 1, 0, none⟩)) rfl (by kernel_rfl) (by kernel_rfl) (by kernel_rfl) (fun _ _ _ h => h) (Or.inl ⟨by kernel_rfl, ?_⟩) (by assumption) ?_
  · (intro w hSw; (try dsimp only at hSw); go_simp)
  simp only [Act.put]
  refine wpAnyH_ready (rs := [2, 4]) (by kernel_rfl) (by simp) ?_
  refine AllReadyH.cons rfl (fun K hK => ?_) (AllReadyH.cons rfl (fun K hK => ?_) AllReadyH.nil)
  · skip
    go_simp
    have HDl := Lib.hid (HDd.out.alloc (.cells #[.int .i64 0, .int .i64 1, .int .i64 499, .int .i64 500, .int .i64 510, .int .i64 100000, .int .i64 100050, .int .i64 1000000000, .int .i64 (-1), .int .i64 1000000001] 3))
    have HTl := Lib.hid (show S1.Ti (w1.alloc (tb 29 t A c)).heap.size [0, 1, 499, 500, 510, 100000, 100050, 1000000000, (-1), 1000000001] ((w1.alloc (tb 29 t A c)).drew.alloc (.cells #[.int .i64 0, .int .i64 1, .int .i64 499, .int .i64 500, .int .i64 510, .int .i64 100000, .int .i64 100050, .int .i64 1000000000, .int .i64 (-1), .int .i64 1000000001] 3)) from fun j hj => S1.ti_new (w1.alloc (tb 29 t A c)).drew [0, 1, 499, 500, 510, 100000, 100050, 1000000000, (-1), 1000000001] 3 j hj)
    obtain ⟨_, u0l, u1l, _⟩ := HDl.out.tb
    refine hK.out _ _ ⟨u0l, u1l⟩ (fun hHeld => ?_)
    clear hK K
    refine wpAnyH_ready (rs := [4]) (by kernel_rfl) (by simp) ?_
    refine AllReadyH.cons rfl (fun K hK => ?_) AllReadyH.nil
    go_simp
    go_at_call 78
    refine (S1.pick_any (w.heap.size + 1) (w.heap.size + 1) a n cap (0 + 30) 24 _ (by omega) (by omega) (by omega) HDl.out.st).mono ?_
    rintro e w3 ⟨r, rfl, hr0, hr9, hs, hg⟩
    have HD3 := Lib.hid (HDl.out.call hs hg)
    have hlo1 := HD.out.lo
    have HT3 := Lib.hid (show S1.Ti (w1.alloc (tb 29 t A c)).heap.size [0, 1, 499, 500, 510, 100000, 100050, 1000000000, (-1), 1000000001] w3 from fun j hj => S1.ti_grown HTl.out hg (by simp; omega) j hj)
    clear hs hg
    obtain ⟨_, u0c, u1c, _⟩ := HD3.out.tb
    refine hK.out _ _ ⟨u0c, u1c⟩ (fun hHeld => ?_)
    clear hK K
    have hq : r / 11 = 0 ∨ r / 11 = 1 ∨ r / 11 = 2 := by omega
    rcases hq with hq | hq | hq
    · skip
      have hqt : r.tdiv 11 = 0 := by rw [Int.tdiv_eq_ediv_of_nonneg hr0]; exact hq
      refine wpAnyH_take (i := 5) (v := .int .i64 0) rfl (by kernel_rfl) (by kernel_rfl) (by kernel_rfl) (fun _ _ _ h => h) (Or.inl ⟨by kernel_rfl, ?_⟩) (by assumption) ?_
      · (intro w hSw; (try dsimp only at hSw); go_simp; (try rfl))
      simp only [Act.put]
      refine wpAnyH_take (i := 6) (v := .int .i64 8) rfl (by kernel_rfl) (by kernel_rfl) (by kernel_rfl) (fun _ _ _ h => h) (Or.inl ⟨by kernel_rfl, ?_⟩) (by assumption) ?_
      · (intro w hSw; (try dsimp only at hSw); go_simp; (try rfl))
      simp only [Act.put]
      refine wpAnyH_take (i := 7) (v := .slice (some ⟨(w1.heap.size + 1), 0, none⟩) 8 10) rfl (by kernel_rfl) (by kernel_rfl) (by kernel_rfl) (fun _ _ _ h => h) (Or.inl ⟨by kernel_rfl, ?_⟩) (by assumption) ?_
      · (intro w hSw; (try dsimp only at hSw); go_simp)
      simp only [Act.put]
      refine wpAnyH_ready (rs := [8]) (by kernel_rfl) (by simp) ?_
      refine AllReadyH.cons rfl (fun K hK => ?_) AllReadyH.nil
      go_simp
      go_at_call 77
      refine (S1.among_any (w.heap.size + 1) (w.heap.size + 1) a n cap (0 + 30 + 2) (w1.heap.size + 1) 8 10 [0, 1, 499, 500, 510, 100000, 100050, 1000000000] _ rfl (by omega) (by simp) (by simp) HD3.out.st (S1.ti_take (N := 8) (by have := HT3.out; rw [alloc_size] at this; exact this) (by simp)) (by omega)).mono ?_
      rintro e w5 ⟨⟨z, rfl⟩, hs5, hg5⟩
      have HD5 := Lib.hid (HD3.out.call hs5 hg5)
      clear hs5 hg5
      obtain ⟨_, u0e, u1e, _⟩ := HD5.out.tb
      refine hK.out _ _ ⟨u0e, u1e⟩ (fun hHeld => ?_)
      clear hK K
      obtain ⟨rl, r0, r1, rf⟩ := HD5.out.rb
      have hlo := HD5.out.lo
      have hn1 : w1.heap.size ≠ w.heap.size := by omega
      have hn2 : w.heap.size ≠ w1.heap.size := by omega
      refine wpAnyH_ready (rs := [9]) (by kernel_rfl) (by simp) ?_
      refine AllReadyH.cons rfl (fun K hK => ?_) AllReadyH.nil
      go_simp
      refine hK.out _ _ ⟨((World.cell?_setCell_far _ _ _ _ (by show w.heap.size ≠ w1.heap.size; omega)).trans (World.cell?_setCell_far _ _ _ _ (by show w.heap.size ≠ w1.heap.size; omega))).trans u0e, ((World.cell?_setCell_far _ _ _ _ (by show w.heap.size ≠ w1.heap.size; omega)).trans (World.cell?_setCell_far _ _ _ _ (by show w.heap.size ≠ w1.heap.size; omega))).trans u1e⟩ (fun hHeld => ?_)
      clear hK K
      refine wpAnyH_ready (rs := [10]) (by kernel_rfl) (by simp) ?_
      refine AllReadyH.cons rfl (fun K hK => ?_) AllReadyH.nil
      go_simp
      refine hK.out _ _ (by first | assumption | go_keep) (fun hHeld => ?_)
      clear hK K
      refine wpAnyH_done (by kernel_rfl) ?_ _
      have HF := Lib.hid (HD5.out.post (.int .i64 t.fee) (.slice A t.bs.length c))
      go_wp2_with fail
      refine bodyPost_ret (v := .tuple #[tv t A c, .int .i64 z]) (by simp [results, Try.results49, go_sem, r0, r1]) rfl ?_
      exact ⟨t, A, c, z, rfl, HF.out.1, HF.out.2⟩
    · skip
      have hqt : r.tdiv 11 = 1 := by rw [Int.tdiv_eq_ediv_of_nonneg hr0]; exact hq
      refine wpAnyH_take (i := 5) (v := .int .i64 1) rfl (by kernel_rfl) (by kernel_rfl) (by kernel_rfl) (fun _ _ _ h => h) (Or.inl ⟨by kernel_rfl, ?_⟩) (by assumption) ?_
      · (intro w hSw; (try dsimp only at hSw); go_simp; (try rfl))
      simp only [Act.put]
      refine wpAnyH_take (i := 6) (v := .int .i64 9) rfl (by kernel_rfl) (by kernel_rfl) (by kernel_rfl) (fun _ _ _ h => h) (Or.inl ⟨by kernel_rfl, ?_⟩) (by assumption) ?_
      · (intro w hSw; (try dsimp only at hSw); go_simp; (try rfl))
      simp only [Act.put]
      refine wpAnyH_take (i := 7) (v := .slice (some ⟨(w1.heap.size + 1), 0, none⟩) 9 10) rfl (by kernel_rfl) (by kernel_rfl) (by kernel_rfl) (fun _ _ _ h => h) (Or.inl ⟨by kernel_rfl, ?_⟩) (by assumption) ?_
      · (intro w hSw; (try dsimp only at hSw); go_simp)
      simp only [Act.put]
      refine wpAnyH_ready (rs := [8]) (by kernel_rfl) (by simp) ?_
      refine AllReadyH.cons rfl (fun K hK => ?_) AllReadyH.nil
      go_simp
      go_at_call 77
      refine (S1.among_any (w.heap.size + 1) (w.heap.size + 1) a n cap (0 + 30 + 2) (w1.heap.size + 1) 9 10 [0, 1, 499, 500, 510, 100000, 100050, 1000000000, (-1)] _ rfl (by omega) (by simp) (by simp) HD3.out.st (S1.ti_take (N := 9) (by have := HT3.out; rw [alloc_size] at this; exact this) (by simp)) (by omega)).mono ?_
      rintro e w5 ⟨⟨z, rfl⟩, hs5, hg5⟩
      have HD5 := Lib.hid (HD3.out.call hs5 hg5)
      clear hs5 hg5
      obtain ⟨_, u0e, u1e, _⟩ := HD5.out.tb
      refine hK.out _ _ ⟨u0e, u1e⟩ (fun hHeld => ?_)
      clear hK K
      obtain ⟨rl, r0, r1, rf⟩ := HD5.out.rb
      have hlo := HD5.out.lo
      have hn1 : w1.heap.size ≠ w.heap.size := by omega
      have hn2 : w.heap.size ≠ w1.heap.size := by omega
      refine wpAnyH_ready (rs := [9]) (by kernel_rfl) (by simp) ?_
      refine AllReadyH.cons rfl (fun K hK => ?_) AllReadyH.nil
      go_simp
      refine hK.out _ _ ⟨((World.cell?_setCell_far _ _ _ _ (by show w.heap.size ≠ w1.heap.size; omega)).trans (World.cell?_setCell_far _ _ _ _ (by show w.heap.size ≠ w1.heap.size; omega))).trans u0e, ((World.cell?_setCell_far _ _ _ _ (by show w.heap.size ≠ w1.heap.size; omega)).trans (World.cell?_setCell_far _ _ _ _ (by show w.heap.size ≠ w1.heap.size; omega))).trans u1e⟩ (fun hHeld => ?_)
      clear hK K
      refine wpAnyH_ready (rs := [10]) (by kernel_rfl) (by simp) ?_
      refine AllReadyH.cons rfl (fun K hK => ?_) AllReadyH.nil
      go_simp
      refine hK.out _ _ (by first | assumption | go_keep) (fun hHeld => ?_)
      clear hK K
      refine wpAnyH_done (by kernel_rfl) ?_ _
      have HF := Lib.hid (HD5.out.post (.int .i64 t.fee) (.slice A t.bs.length c))
      go_wp2_with fail
      refine bodyPost_ret (v := .tuple #[tv t A c, .int .i64 z]) (by simp [results, Try.results49, go_sem, r0, r1]) rfl ?_
      exact ⟨t, A, c, z, rfl, HF.out.1, HF.out.2⟩
    · skip
      have hqt : r.tdiv 11 = 2 := by rw [Int.tdiv_eq_ediv_of_nonneg hr0]; exact hq
      refine wpAnyH_take (i := 5) (v := .int .i64 2) rfl (by kernel_rfl) (by kernel_rfl) (by kernel_rfl) (fun _ _ _ h => h) (Or.inl ⟨by kernel_rfl, ?_⟩) (by assumption) ?_
      · (intro w hSw; (try dsimp only at hSw); go_simp; (try rfl))
      simp only [Act.put]
      refine wpAnyH_take (i := 6) (v := .int .i64 10) rfl (by kernel_rfl) (by kernel_rfl) (by kernel_rfl) (fun _ _ _ h => h) (Or.inl ⟨by kernel_rfl, ?_⟩) (by assumption) ?_
      · (intro w hSw; (try dsimp only at hSw); go_simp; (try rfl))
      simp only [Act.put]
      refine wpAnyH_take (i := 7) (v := .slice (some ⟨(w1.heap.size + 1), 0, none⟩) 10 10) rfl (by kernel_rfl) (by kernel_rfl) (by kernel_rfl) (fun _ _ _ h => h) (Or.inl ⟨by kernel_rfl, ?_⟩) (by assumption) ?_
      · (intro w hSw; (try dsimp only at hSw); go_simp)
      simp only [Act.put]
      refine wpAnyH_ready (rs := [8]) (by kernel_rfl) (by simp) ?_
      refine AllReadyH.cons rfl (fun K hK => ?_) AllReadyH.nil
      go_simp
      go_at_call 77
      refine (S1.among_any (w.heap.size + 1) (w.heap.size + 1) a n cap (0 + 30 + 2) (w1.heap.size + 1) 10 10 [0, 1, 499, 500, 510, 100000, 100050, 1000000000, (-1), 1000000001] _ rfl (by omega) (by simp) (by simp) HD3.out.st (S1.ti_take (N := 10) (by have := HT3.out; rw [alloc_size] at this; exact this) (by simp)) (by omega)).mono ?_
      rintro e w5 ⟨⟨z, rfl⟩, hs5, hg5⟩
      have HD5 := Lib.hid (HD3.out.call hs5 hg5)
      clear hs5 hg5
      obtain ⟨_, u0e, u1e, _⟩ := HD5.out.tb
      refine hK.out _ _ ⟨u0e, u1e⟩ (fun hHeld => ?_)
      clear hK K
      obtain ⟨rl, r0, r1, rf⟩ := HD5.out.rb
      have hlo := HD5.out.lo
      have hn1 : w1.heap.size ≠ w.heap.size := by omega
      have hn2 : w.heap.size ≠ w1.heap.size := by omega
      refine wpAnyH_ready (rs := [9]) (by kernel_rfl) (by simp) ?_
      refine AllReadyH.cons rfl (fun K hK => ?_) AllReadyH.nil
      go_simp
      refine hK.out _ _ ⟨((World.cell?_setCell_far _ _ _ _ (by show w.heap.size ≠ w1.heap.size; omega)).trans (World.cell?_setCell_far _ _ _ _ (by show w.heap.size ≠ w1.heap.size; omega))).trans u0e, ((World.cell?_setCell_far _ _ _ _ (by show w.heap.size ≠ w1.heap.size; omega)).trans (World.cell?_setCell_far _ _ _ _ (by show w.heap.size ≠ w1.heap.size; omega))).trans u1e⟩ (fun hHeld => ?_)
      clear hK K
      refine wpAnyH_ready (rs := [10]) (by kernel_rfl) (by simp) ?_
      refine AllReadyH.cons rfl (fun K hK => ?_) AllReadyH.nil
      go_simp
      refine hK.out _ _ (by first | assumption | go_keep) (fun hHeld => ?_)
      clear hK K
      refine wpAnyH_done (by kernel_rfl) ?_ _
      have HF := Lib.hid (HD5.out.post (.int .i64 t.fee) (.slice A t.bs.length c))
      go_wp2_with fail
      refine bodyPost_ret (v := .tuple #[tv t A c, .int .i64 z]) (by simp [results, Try.results49, go_sem, r0, r1]) rfl ?_
      exact ⟨t, A, c, z, rfl, HF.out.1, HF.out.2⟩
  · skip
    go_simp
    go_at_call 78
    refine (S1.pick_any (w.heap.size + 1) (w.heap.size + 1) a n cap (0 + 30) 24 _ (by omega) (by omega) (by omega) HDd.out.st).mono ?_
    rintro e w3 ⟨r, rfl, hr0, hr9, hs, hg⟩
    have HD3 := Lib.hid (HDd.out.call hs hg)
    clear hs hg
    obtain ⟨_, u0c, u1c, _⟩ := HD3.out.tb
    refine hK.out _ _ ⟨u0c, u1c⟩ (fun hHeld => ?_)
    clear hK K
    have hq : r / 11 = 0 ∨ r / 11 = 1 ∨ r / 11 = 2 := by omega
    rcases hq with hq | hq | hq
    · skip
      have hqt : r.tdiv 11 = 0 := by rw [Int.tdiv_eq_ediv_of_nonneg hr0]; exact hq
      refine wpAnyH_take (i := 5) (v := .int .i64 0) rfl (by kernel_rfl) (by kernel_rfl) (by kernel_rfl) (fun _ _ _ h => h) (Or.inl ⟨by kernel_rfl, ?_⟩) (by assumption) ?_
      · (intro w hSw; (try dsimp only at hSw); go_simp; (try rfl))
      simp only [Act.put]
      refine wpAnyH_take (i := 6) (v := .int .i64 8) rfl (by kernel_rfl) (by kernel_rfl) (by kernel_rfl) (fun _ _ _ h => h) (Or.inl ⟨by kernel_rfl, ?_⟩) (by assumption) ?_
      · (intro w hSw; (try dsimp only at hSw); go_simp; (try rfl))
      simp only [Act.put]
      refine wpAnyH_ready (rs := [2]) (by kernel_rfl) (by simp) ?_
      refine AllReadyH.cons rfl (fun K hK => ?_) AllReadyH.nil
      go_simp
      have HD4 := Lib.hid (HD3.out.alloc (.cells #[.int .i64 0, .int .i64 1, .int .i64 499, .int .i64 500, .int .i64 510, .int .i64 100000, .int .i64 100050, .int .i64 1000000000, .int .i64 (-1), .int .i64 1000000001] 3))
      have HT4 := Lib.hid (show S1.Ti w3.heap.size [0, 1, 499, 500, 510, 100000, 100050, 1000000000, (-1), 1000000001] (w3.alloc (.cells #[.int .i64 0, .int .i64 1, .int .i64 499, .int .i64 500, .int .i64 510, .int .i64 100000, .int .i64 100050, .int .i64 1000000000, .int .i64 (-1), .int .i64 1000000001] 3)) from fun j hj => S1.ti_new w3 [0, 1, 499, 500, 510, 100000, 100050, 1000000000, (-1), 1000000001] 3 j hj)
      obtain ⟨_, u0d, u1d, _⟩ := HD4.out.tb
      refine hK.out _ _ ⟨u0d, u1d⟩ (fun hHeld => ?_)
      clear hK K
      refine wpAnyH_take (i := 7) (v := .slice (some ⟨w3.heap.size, 0, none⟩) 8 10) rfl (by kernel_rfl) (by kernel_rfl) (by kernel_rfl) (fun _ _ _ h => h) (Or.inl ⟨by kernel_rfl, ?_⟩) (by assumption) ?_
      · (intro w hSw; (try dsimp only at hSw); go_simp)
      simp only [Act.put]
      refine wpAnyH_ready (rs := [8]) (by kernel_rfl) (by simp) ?_
      refine AllReadyH.cons rfl (fun K hK => ?_) AllReadyH.nil
      go_simp
      go_at_call 77
      refine (S1.among_any (w.heap.size + 1) (w.heap.size + 1) a n cap (0 + 30 + 2) w3.heap.size 8 10 [0, 1, 499, 500, 510, 100000, 100050, 1000000000] _ rfl (by omega) (by simp) (by simp) HD4.out.st (S1.ti_take (N := 8) HT4.out (by simp)) (by have := st_lt HD3.out.st; omega)).mono ?_
      rintro e w5 ⟨⟨z, rfl⟩, hs5, hg5⟩
      have HD5 := Lib.hid (HD4.out.call hs5 hg5)
      clear hs5 hg5
      obtain ⟨_, u0e, u1e, _⟩ := HD5.out.tb
      refine hK.out _ _ ⟨u0e, u1e⟩ (fun hHeld => ?_)
      clear hK K
      obtain ⟨rl, r0, r1, rf⟩ := HD5.out.rb
      have hlo := HD5.out.lo
      have hn1 : w1.heap.size ≠ w.heap.size := by omega
      have hn2 : w.heap.size ≠ w1.heap.size := by omega
      refine wpAnyH_ready (rs := [9]) (by kernel_rfl) (by simp) ?_
      refine AllReadyH.cons rfl (fun K hK => ?_) AllReadyH.nil
      go_simp
      refine hK.out _ _ ⟨((World.cell?_setCell_far _ _ _ _ (by show w.heap.size ≠ w1.heap.size; omega)).trans (World.cell?_setCell_far _ _ _ _ (by show w.heap.size ≠ w1.heap.size; omega))).trans u0e, ((World.cell?_setCell_far _ _ _ _ (by show w.heap.size ≠ w1.heap.size; omega)).trans (World.cell?_setCell_far _ _ _ _ (by show w.heap.size ≠ w1.heap.size; omega))).trans u1e⟩ (fun hHeld => ?_)
      clear hK K
      refine wpAnyH_ready (rs := [10]) (by kernel_rfl) (by simp) ?_
      refine AllReadyH.cons rfl (fun K hK => ?_) AllReadyH.nil
      go_simp
      refine hK.out _ _ (by first | assumption | go_keep) (fun hHeld => ?_)
      clear hK K
      refine wpAnyH_done (by kernel_rfl) ?_ _
      have HF := Lib.hid (HD5.out.post (.int .i64 t.fee) (.slice A t.bs.length c))
      go_wp2_with fail
      refine bodyPost_ret (v := .tuple #[tv t A c, .int .i64 z]) (by simp [results, Try.results49, go_sem, r0, r1]) rfl ?_
      exact ⟨t, A, c, z, rfl, HF.out.1, HF.out.2⟩
    · skip
      have hqt : r.tdiv 11 = 1 := by rw [Int.tdiv_eq_ediv_of_nonneg hr0]; exact hq
      refine wpAnyH_take (i := 5) (v := .int .i64 1) rfl (by kernel_rfl) (by kernel_rfl) (by kernel_rfl) (fun _ _ _ h => h) (Or.inl ⟨by kernel_rfl, ?_⟩) (by assumption) ?_
      · (intro w hSw; (try dsimp only at hSw); go_simp; (try rfl))
      simp only [Act.put]
      refine wpAnyH_take (i := 6) (v := .int .i64 9) rfl (by kernel_rfl) (by kernel_rfl) (by kernel_rfl) (fun _ _ _ h => h) (Or.inl ⟨by kernel_rfl, ?_⟩) (by assumption) ?_
      · (intro w hSw; (try dsimp only at hSw); go_simp; (try rfl))
      simp only [Act.put]
      refine wpAnyH_ready (rs := [2]) (by kernel_rfl) (by simp) ?_
      refine AllReadyH.cons rfl (fun K hK => ?_) AllReadyH.nil
      go_simp
      have HD4 := Lib.hid (HD3.out.alloc (.cells #[.int .i64 0, .int .i64 1, .int .i64 499, .int .i64 500, .int .i64 510, .int .i64 100000, .int .i64 100050, .int .i64 1000000000, .int .i64 (-1), .int .i64 1000000001] 3))
      have HT4 := Lib.hid (show S1.Ti w3.heap.size [0, 1, 499, 500, 510, 100000, 100050, 1000000000, (-1), 1000000001] (w3.alloc (.cells #[.int .i64 0, .int .i64 1, .int .i64 499, .int .i64 500, .int .i64 510, .int .i64 100000, .int .i64 100050, .int .i64 1000000000, .int .i64 (-1), .int .i64 1000000001] 3)) from fun j hj => S1.ti_new w3 [0, 1, 499, 500, 510, 100000, 100050, 1000000000, (-1), 1000000001] 3 j hj)
      obtain ⟨_, u0d, u1d, _⟩ := HD4.out.tb
      refine hK.out _ _ ⟨u0d, u1d⟩ (fun hHeld => ?_)
      clear hK K
      refine wpAnyH_take (i := 7) (v := .slice (some ⟨w3.heap.size, 0, none⟩) 9 10) rfl (by kernel_rfl) (by kernel_rfl) (by kernel_rfl) (fun _ _ _ h => h) (Or.inl ⟨by kernel_rfl, ?_⟩) (by assumption) ?_
      · (intro w hSw; (try dsimp only at hSw); go_simp)
      simp only [Act.put]
      refine wpAnyH_ready (rs := [8]) (by kernel_rfl) (by simp) ?_
      refine AllReadyH.cons rfl (fun K hK => ?_) AllReadyH.nil
      go_simp
      go_at_call 77
      refine (S1.among_any (w.heap.size + 1) (w.heap.size + 1) a n cap (0 + 30 + 2) w3.heap.size 9 10 [0, 1, 499, 500, 510, 100000, 100050, 1000000000, (-1)] _ rfl (by omega) (by simp) (by simp) HD4.out.st (S1.ti_take (N := 9) HT4.out (by simp)) (by have := st_lt HD3.out.st; omega)).mono ?_
      rintro e w5 ⟨⟨z, rfl⟩, hs5, hg5⟩
      have HD5 := Lib.hid (HD4.out.call hs5 hg5)
      clear hs5 hg5
      obtain ⟨_, u0e, u1e, _⟩ := HD5.out.tb
      refine hK.out _ _ ⟨u0e, u1e⟩ (fun hHeld => ?_)
      clear hK K
      obtain ⟨rl, r0, r1, rf⟩ := HD5.out.rb
      have hlo := HD5.out.lo
      have hn1 : w1.heap.size ≠ w.heap.size := by omega
      have hn2 : w.heap.size ≠ w1.heap.size := by omega
      refine wpAnyH_ready (rs := [9]) (by kernel_rfl) (by simp) ?_
      refine AllReadyH.cons rfl (fun K hK => ?_) AllReadyH.nil
      go_simp
      refine hK.out _ _ ⟨((World.cell?_setCell_far _ _ _ _ (by show w.heap.size ≠ w1.heap.size; omega)).trans (World.cell?_setCell_far _ _ _ _ (by show w.heap.size ≠ w1.heap.size; omega))).trans u0e, ((World.cell?_setCell_far _ _ _ _ (by show w.heap.size ≠ w1.heap.size; omega)).trans (World.cell?_setCell_far _ _ _ _ (by show w.heap.size ≠ w1.heap.size; omega))).trans u1e⟩ (fun hHeld => ?_)
      clear hK K
      refine wpAnyH_ready (rs := [10]) (by kernel_rfl) (by simp) ?_
      refine AllReadyH.cons rfl (fun K hK => ?_) AllReadyH.nil
      go_simp
      refine hK.out _ _ (by first | assumption | go_keep) (fun hHeld => ?_)
      clear hK K
      refine wpAnyH_done (by kernel_rfl) ?_ _
      have HF := Lib.hid (HD5.out.post (.int .i64 t.fee) (.slice A t.bs.length c))
      go_wp2_with fail
      refine bodyPost_ret (v := .tuple #[tv t A c, .int .i64 z]) (by simp [results, Try.results49, go_sem, r0, r1]) rfl ?_
      exact ⟨t, A, c, z, rfl, HF.out.1, HF.out.2⟩
    · skip
      have hqt : r.tdiv 11 = 2 := by rw [Int.tdiv_eq_ediv_of_nonneg hr0]; exact hq
      refine wpAnyH_take (i := 5) (v := .int .i64 2) rfl (by kernel_rfl) (by kernel_rfl) (by kernel_rfl) (fun _ _ _ h => h) (Or.inl ⟨by kernel_rfl, ?_⟩) (by assumption) ?_
      · (intro w hSw; (try dsimp only at hSw); go_simp; (try rfl))
      simp only [Act.put]
      refine wpAnyH_take (i := 6) (v := .int .i64 10) rfl (by kernel_rfl) (by kernel_rfl) (by kernel_rfl) (fun _ _ _ h => h) (Or.inl ⟨by kernel_rfl, ?_⟩) (by assumption) ?_
      · (intro w hSw; (try dsimp only at hSw); go_simp; (try rfl))
      simp only [Act.put]
      refine wpAnyH_ready (rs := [2]) (by kernel_rfl) (by simp) ?_
      refine AllReadyH.cons rfl (fun K hK => ?_) AllReadyH.nil
      go_simp
      have HD4 := Lib.hid (HD3.out.alloc (.cells #[.int .i64 0, .int .i64 1, .int .i64 499, .int .i64 500, .int .i64 510, .int .i64 100000, .int .i64 100050, .int .i64 1000000000, .int .i64 (-1), .int .i64 1000000001] 3))
      have HT4 := Lib.hid (show S1.Ti w3.heap.size [0, 1, 499, 500, 510, 100000, 100050, 1000000000, (-1), 1000000001] (w3.alloc (.cells #[.int .i64 0, .int .i64 1, .int .i64 499, .int .i64 500, .int .i64 510, .int .i64 100000, .int .i64 100050, .int .i64 1000000000, .int .i64 (-1), .int .i64 1000000001] 3)) from fun j hj => S1.ti_new w3 [0, 1, 499, 500, 510, 100000, 100050, 1000000000, (-1), 1000000001] 3 j hj)
      obtain ⟨_, u0d, u1d, _⟩ := HD4.out.tb
      refine hK.out _ _ ⟨u0d, u1d⟩ (fun hHeld => ?_)
      clear hK K
      refine wpAnyH_take (i := 7) (v := .slice (some ⟨w3.heap.size, 0, none⟩) 10 10) rfl (by kernel_rfl) (by kernel_rfl) (by kernel_rfl) (fun _ _ _ h => h) (Or.inl ⟨by kernel_rfl, ?_⟩) (by assumption) ?_
      · (intro w hSw; (try dsimp only at hSw); go_simp)
      simp only [Act.put]
      refine wpAnyH_ready (rs := [8]) (by kernel_rfl) (by simp) ?_
      refine AllReadyH.cons rfl (fun K hK => ?_) AllReadyH.nil
      go_simp
      go_at_call 77
      refine (S1.among_any (w.heap.size + 1) (w.heap.size + 1) a n cap (0 + 30 + 2) w3.heap.size 10 10 [0, 1, 499, 500, 510, 100000, 100050, 1000000000, (-1), 1000000001] _ rfl (by omega) (by simp) (by simp) HD4.out.st (S1.ti_take (N := 10) HT4.out (by simp)) (by have := st_lt HD3.out.st; omega)).mono ?_
      rintro e w5 ⟨⟨z, rfl⟩, hs5, hg5⟩
      have HD5 := Lib.hid (HD4.out.call hs5 hg5)
      clear hs5 hg5
      obtain ⟨_, u0e, u1e, _⟩ := HD5.out.tb
      refine hK.out _ _ ⟨u0e, u1e⟩ (fun hHeld => ?_)
      clear hK K
      obtain ⟨rl, r0, r1, rf⟩ := HD5.out.rb
      have hlo := HD5.out.lo
      have hn1 : w1.heap.size ≠ w.heap.size := by omega
      have hn2 : w.heap.size ≠ w1.heap.size := by omega
      refine wpAnyH_ready (rs := [9]) (by kernel_rfl) (by simp) ?_
      refine AllReadyH.cons rfl (fun K hK => ?_) AllReadyH.nil
      go_simp
      refine hK.out _ _ ⟨((World.cell?_setCell_far _ _ _ _ (by show w.heap.size ≠ w1.heap.size; omega)).trans (World.cell?_setCell_far _ _ _ _ (by show w.heap.size ≠ w1.heap.size; omega))).trans u0e, ((World.cell?_setCell_far _ _ _ _ (by show w.heap.size ≠ w1.heap.size; omega)).trans (World.cell?_setCell_far _ _ _ _ (by show w.heap.size ≠ w1.heap.size; omega))).trans u1e⟩ (fun hHeld => ?_)
      clear hK K
      refine wpAnyH_ready (rs := [10]) (by kernel_rfl) (by simp) ?_
      refine AllReadyH.cons rfl (fun K hK => ?_) AllReadyH.nil
      go_simp
      refine hK.out _ _ (by first | assumption | go_keep) (fun hHeld => ?_)
      clear hK K
      refine wpAnyH_done (by kernel_rfl) ?_ _
      have HF := Lib.hid (HD5.out.post (.int .i64 t.fee) (.slice A t.bs.length c))
      go_wp2_with fail
      refine bodyPost_ret (v := .tuple #[tv t A c, .int .i64 z]) (by simp [results, Try.results49, go_sem, r0, r1]) rfl ?_
      exact ⟨t, A, c, z, rfl, HF.out.1, HF.out.2⟩
set_option maxHeartbeats 4000000 in
set_option maxRecDepth 100000 in
theorem draise_any (a : Option Addr) (n cap : Nat) (w : World) (h : S1.Cd w.heap.size a n w) (hn : n ≤ 65536) :
    Calls Try.prog 51 #[.slice a n cap] w (D2 w) := by
  have HST := Lib.hid (cur_start cap (.cells #[.int .i64 0, .slice none 0 0] 29) h hn)
  clear h
  go_enter Try.func51, Try.ntmps51
  refine Hid.out ?_
  refine Lib.hid ?_
  go_wp2_with (first | (go_at_call 74; refine (tariff_any (w.heap.size + 1) (w.heap.size + 1) a n cap 0 _ (by omega) HST.out (by simp)).mono ?_; rintro e w1 ⟨t, A, c, rfl, hf, hl, hs, hg⟩; refine Hid.out ?_) | fail)
  have HD := Lib.hid (TD.start (c := c) hg hs hf hl)
  clear HST
  clear hf hl hs hg
  obtain ⟨_, q0, q1, _⟩ := HD.out.tb
  have HDd := Lib.hid HD.out.drew
  refine Lib.hid ?_
  go_wp2_with fail
  refine wp_region_held_drew (S := fun w' => w'.cell? ⟨w1.heap.size, 0, none⟩ = some (.int .i64 t.fee) ∧ w'.cell? ⟨w1.heap.size, 1, none⟩ = some (.slice A t.bs.length c)) (by kernel_rfl) (by exact ⟨q0, q1⟩) (fun hHeld => ?_)
  refine wpAnyH_take (i := 0) (v := .agg #[.int .i64 t.fee, .slice A t.bs.length c]) rfl (by kernel_rfl) (by kernel_rfl) (by kernel_rfl) (fun _ _ _ h => h) (Or.inl ⟨by kernel_rfl, ?_⟩) (by assumption) ?_
  · (intro w hSw; (try dsimp only at hSw); go_simp)
  simp only [Act.put, List.setIfInBounds_toArray]
  refine wpAnyH_take (i := 1) (v := .pointer (some ⟨w.heap.size + 1, 0, none⟩)) rfl (by kernel_rfl) (by kernel_rfl) (by kernel_rfl) (fun _ _ _ h => h) (Or.inl ⟨by kernel_rfl, ?_⟩) (by assumption) ?_
  · (intro w hSw; (try dsimp only at hSw); go_simp)
  simp only [Act.put]
  refine wpAnyH_take (i := 3) (v := .pointer (some ⟨w.heap.size + 1, 0, none⟩)) rfl (by kernel_rfl) (by kernel_rfl) (by kernel_rfl) (fun _ _ _ h => h) (Or.inl ⟨by kernel_rfl, ?_⟩) (by assumption) ?_
  · (intro w hSw; (try dsimp only at hSw); go_simp)
  simp only [Act.put]
  refine wpAnyH_ready (rs := [2, 4]) (by kernel_rfl) (by simp) ?_
  refine AllReadyH.cons rfl (fun K hK => ?_) (AllReadyH.cons rfl (fun K hK => ?_) AllReadyH.nil)
  · skip
    go_simp
    have HDl := Lib.hid (HDd.out.alloc (.cells #[.int .i64 0, .int .i64 1, .int .i64 10, .int .i64 50, .int .i64 100, .int .i64 (-10), .int .i64 (-100), .int .i64 (-101), .int .i64 101] 3))
    have HTl := Lib.hid (show S1.Ti (w1.alloc (tb 29 t A c)).heap.size [0, 1, 10, 50, 100, (-10), (-100), (-101), 101] ((w1.alloc (tb 29 t A c)).drew.alloc (.cells #[.int .i64 0, .int .i64 1, .int .i64 10, .int .i64 50, .int .i64 100, .int .i64 (-10), .int .i64 (-100), .int .i64 (-101), .int .i64 101] 3)) from fun j hj => S1.ti_new (w1.alloc (tb 29 t A c)).drew [0, 1, 10, 50, 100, (-10), (-100), (-101), 101] 3 j hj)
    obtain ⟨_, u0l, u1l, _⟩ := HDl.out.tb
    refine hK.out _ _ ⟨u0l, u1l⟩ (fun hHeld => ?_)
    clear hK K
    refine wpAnyH_ready (rs := [4]) (by kernel_rfl) (by simp) ?_
    refine AllReadyH.cons rfl (fun K hK => ?_) AllReadyH.nil
    go_simp
    go_at_call 78
    refine (S1.pick_any (w.heap.size + 1) (w.heap.size + 1) a n cap (0 + 30) 24 _ (by omega) (by omega) (by omega) HDl.out.st).mono ?_
    rintro e w3 ⟨r, rfl, hr0, hr9, hs, hg⟩
    have HD3 := Lib.hid (HDl.out.call hs hg)
    have hlo1 := HD.out.lo
    have HT3 := Lib.hid (show S1.Ti (w1.alloc (tb 29 t A c)).heap.size [0, 1, 10, 50, 100, (-10), (-100), (-101), 101] w3 from fun j hj => S1.ti_grown HTl.out hg (by simp; omega) j hj)
    clear hs hg
    obtain ⟨_, u0c, u1c, _⟩ := HD3.out.tb
    refine hK.out _ _ ⟨u0c, u1c⟩ (fun hHeld => ?_)
    clear hK K
    have hq : r / 11 = 0 ∨ r / 11 = 1 ∨ r / 11 = 2 := by omega
    rcases hq with hq | hq | hq
    · skip
      have hqt : r.tdiv 11 = 0 := by rw [Int.tdiv_eq_ediv_of_nonneg hr0]; exact hq
      refine wpAnyH_take (i := 5) (v := .int .i64 0) rfl (by kernel_rfl) (by kernel_rfl) (by kernel_rfl) (fun _ _ _ h => h) (Or.inl ⟨by kernel_rfl, ?_⟩) (by assumption) ?_
      · (intro w hSw; (try dsimp only at hSw); go_simp; (try rfl))
      simp only [Act.put]
      refine wpAnyH_take (i := 6) (v := .int .i64 7) rfl (by kernel_rfl) (by kernel_rfl) (by kernel_rfl) (fun _ _ _ h => h) (Or.inl ⟨by kernel_rfl, ?_⟩) (by assumption) ?_
      · (intro w hSw; (try dsimp only at hSw); go_simp; (try rfl))
      simp only [Act.put]
      refine wpAnyH_take (i := 7) (v := .slice (some ⟨(w1.heap.size + 1), 0, none⟩) 7 9) rfl (by kernel_rfl) (by kernel_rfl) (by kernel_rfl) (fun _ _ _ h => h) (Or.inl ⟨by kernel_rfl, ?_⟩) (by assumption) ?_
      · (intro w hSw; (try dsimp only at hSw); go_simp)
      simp only [Act.put]
      refine wpAnyH_ready (rs := [8]) (by kernel_rfl) (by simp) ?_
      refine AllReadyH.cons rfl (fun K hK => ?_) AllReadyH.nil
      go_simp
      go_at_call 77
      refine (S1.among_any (w.heap.size + 1) (w.heap.size + 1) a n cap (0 + 30 + 2) (w1.heap.size + 1) 7 9 [0, 1, 10, 50, 100, (-10), (-100)] _ rfl (by omega) (by simp) (by simp) HD3.out.st (S1.ti_take (N := 7) (by have := HT3.out; rw [alloc_size] at this; exact this) (by simp)) (by omega)).mono ?_
      rintro e w5 ⟨⟨z, rfl⟩, hs5, hg5⟩
      have HD5 := Lib.hid (HD3.out.call hs5 hg5)
      clear hs5 hg5
      obtain ⟨_, u0e, u1e, _⟩ := HD5.out.tb
      refine hK.out _ _ ⟨u0e, u1e⟩ (fun hHeld => ?_)
      clear hK K
      obtain ⟨rl, r0, r1, rf⟩ := HD5.out.rb
      have hlo := HD5.out.lo
      have hn1 : w1.heap.size ≠ w.heap.size := by omega
      have hn2 : w.heap.size ≠ w1.heap.size := by omega
      refine wpAnyH_ready (rs := [9]) (by kernel_rfl) (by simp) ?_
      refine AllReadyH.cons rfl (fun K hK => ?_) AllReadyH.nil
      go_simp
      refine hK.out _ _ ⟨((World.cell?_setCell_far _ _ _ _ (by show w.heap.size ≠ w1.heap.size; omega)).trans (World.cell?_setCell_far _ _ _ _ (by show w.heap.size ≠ w1.heap.size; omega))).trans u0e, ((World.cell?_setCell_far _ _ _ _ (by show w.heap.size ≠ w1.heap.size; omega)).trans (World.cell?_setCell_far _ _ _ _ (by show w.heap.size ≠ w1.heap.size; omega))).trans u1e⟩ (fun hHeld => ?_)
      clear hK K
      refine wpAnyH_ready (rs := [10]) (by kernel_rfl) (by simp) ?_
      refine AllReadyH.cons rfl (fun K hK => ?_) AllReadyH.nil
      go_simp
      refine hK.out _ _ (by first | assumption | go_keep) (fun hHeld => ?_)
      clear hK K
      refine wpAnyH_done (by kernel_rfl) ?_ _
      have HF := Lib.hid (HD5.out.post (.int .i64 t.fee) (.slice A t.bs.length c))
      go_wp2_with fail
      refine bodyPost_ret (v := .tuple #[tv t A c, .int .i64 z]) (by simp [results, Try.results51, go_sem, r0, r1]) rfl ?_
      exact ⟨t, A, c, z, rfl, HF.out.1, HF.out.2⟩
    · skip
      have hqt : r.tdiv 11 = 1 := by rw [Int.tdiv_eq_ediv_of_nonneg hr0]; exact hq
      refine wpAnyH_take (i := 5) (v := .int .i64 1) rfl (by kernel_rfl) (by kernel_rfl) (by kernel_rfl) (fun _ _ _ h => h) (Or.inl ⟨by kernel_rfl, ?_⟩) (by assumption) ?_
      · (intro w hSw; (try dsimp only at hSw); go_simp; (try rfl))
      simp only [Act.put]
      refine wpAnyH_take (i := 6) (v := .int .i64 8) rfl (by kernel_rfl) (by kernel_rfl) (by kernel_rfl) (fun _ _ _ h => h) (Or.inl ⟨by kernel_rfl, ?_⟩) (by assumption) ?_
      · (intro w hSw; (try dsimp only at hSw); go_simp; (try rfl))
      simp only [Act.put]
      refine wpAnyH_take (i := 7) (v := .slice (some ⟨(w1.heap.size + 1), 0, none⟩) 8 9) rfl (by kernel_rfl) (by kernel_rfl) (by kernel_rfl) (fun _ _ _ h => h) (Or.inl ⟨by kernel_rfl, ?_⟩) (by assumption) ?_
      · (intro w hSw; (try dsimp only at hSw); go_simp)
      simp only [Act.put]
      refine wpAnyH_ready (rs := [8]) (by kernel_rfl) (by simp) ?_
      refine AllReadyH.cons rfl (fun K hK => ?_) AllReadyH.nil
      go_simp
      go_at_call 77
      refine (S1.among_any (w.heap.size + 1) (w.heap.size + 1) a n cap (0 + 30 + 2) (w1.heap.size + 1) 8 9 [0, 1, 10, 50, 100, (-10), (-100), (-101)] _ rfl (by omega) (by simp) (by simp) HD3.out.st (S1.ti_take (N := 8) (by have := HT3.out; rw [alloc_size] at this; exact this) (by simp)) (by omega)).mono ?_
      rintro e w5 ⟨⟨z, rfl⟩, hs5, hg5⟩
      have HD5 := Lib.hid (HD3.out.call hs5 hg5)
      clear hs5 hg5
      obtain ⟨_, u0e, u1e, _⟩ := HD5.out.tb
      refine hK.out _ _ ⟨u0e, u1e⟩ (fun hHeld => ?_)
      clear hK K
      obtain ⟨rl, r0, r1, rf⟩ := HD5.out.rb
      have hlo := HD5.out.lo
      have hn1 : w1.heap.size ≠ w.heap.size := by omega
      have hn2 : w.heap.size ≠ w1.heap.size := by omega
      refine wpAnyH_ready (rs := [9]) (by kernel_rfl) (by simp) ?_
      refine AllReadyH.cons rfl (fun K hK => ?_) AllReadyH.nil
      go_simp
      refine hK.out _ _ ⟨((World.cell?_setCell_far _ _ _ _ (by show w.heap.size ≠ w1.heap.size; omega)).trans (World.cell?_setCell_far _ _ _ _ (by show w.heap.size ≠ w1.heap.size; omega))).trans u0e, ((World.cell?_setCell_far _ _ _ _ (by show w.heap.size ≠ w1.heap.size; omega)).trans (World.cell?_setCell_far _ _ _ _ (by show w.heap.size ≠ w1.heap.size; omega))).trans u1e⟩ (fun hHeld => ?_)
      clear hK K
      refine wpAnyH_ready (rs := [10]) (by kernel_rfl) (by simp) ?_
      refine AllReadyH.cons rfl (fun K hK => ?_) AllReadyH.nil
      go_simp
      refine hK.out _ _ (by first | assumption | go_keep) (fun hHeld => ?_)
      clear hK K
      refine wpAnyH_done (by kernel_rfl) ?_ _
      have HF := Lib.hid (HD5.out.post (.int .i64 t.fee) (.slice A t.bs.length c))
      go_wp2_with fail
      refine bodyPost_ret (v := .tuple #[tv t A c, .int .i64 z]) (by simp [results, Try.results51, go_sem, r0, r1]) rfl ?_
      exact ⟨t, A, c, z, rfl, HF.out.1, HF.out.2⟩
    · skip
      have hqt : r.tdiv 11 = 2 := by rw [Int.tdiv_eq_ediv_of_nonneg hr0]; exact hq
      refine wpAnyH_take (i := 5) (v := .int .i64 2) rfl (by kernel_rfl) (by kernel_rfl) (by kernel_rfl) (fun _ _ _ h => h) (Or.inl ⟨by kernel_rfl, ?_⟩) (by assumption) ?_
      · (intro w hSw; (try dsimp only at hSw); go_simp; (try rfl))
      simp only [Act.put]
      refine wpAnyH_take (i := 6) (v := .int .i64 9) rfl (by kernel_rfl) (by kernel_rfl) (by kernel_rfl) (fun _ _ _ h => h) (Or.inl ⟨by kernel_rfl, ?_⟩) (by assumption) ?_
      · (intro w hSw; (try dsimp only at hSw); go_simp; (try rfl))
      simp only [Act.put]
      refine wpAnyH_take (i := 7) (v := .slice (some ⟨(w1.heap.size + 1), 0, none⟩) 9 9) rfl (by kernel_rfl) (by kernel_rfl) (by kernel_rfl) (fun _ _ _ h => h) (Or.inl ⟨by kernel_rfl, ?_⟩) (by assumption) ?_
      · (intro w hSw; (try dsimp only at hSw); go_simp)
      simp only [Act.put]
      refine wpAnyH_ready (rs := [8]) (by kernel_rfl) (by simp) ?_
      refine AllReadyH.cons rfl (fun K hK => ?_) AllReadyH.nil
      go_simp
      go_at_call 77
      refine (S1.among_any (w.heap.size + 1) (w.heap.size + 1) a n cap (0 + 30 + 2) (w1.heap.size + 1) 9 9 [0, 1, 10, 50, 100, (-10), (-100), (-101), 101] _ rfl (by omega) (by simp) (by simp) HD3.out.st (S1.ti_take (N := 9) (by have := HT3.out; rw [alloc_size] at this; exact this) (by simp)) (by omega)).mono ?_
      rintro e w5 ⟨⟨z, rfl⟩, hs5, hg5⟩
      have HD5 := Lib.hid (HD3.out.call hs5 hg5)
      clear hs5 hg5
      obtain ⟨_, u0e, u1e, _⟩ := HD5.out.tb
      refine hK.out _ _ ⟨u0e, u1e⟩ (fun hHeld => ?_)
      clear hK K
      obtain ⟨rl, r0, r1, rf⟩ := HD5.out.rb
      have hlo := HD5.out.lo
      have hn1 : w1.heap.size ≠ w.heap.size := by omega
      have hn2 : w.heap.size ≠ w1.heap.size := by omega
      refine wpAnyH_ready (rs := [9]) (by kernel_rfl) (by simp) ?_
      refine AllReadyH.cons rfl (fun K hK => ?_) AllReadyH.nil
      go_simp
      refine hK.out _ _ ⟨((World.cell?_setCell_far _ _ _ _ (by show w.heap.size ≠ w1.heap.size; omega)).trans (World.cell?_setCell_far _ _ _ _ (by show w.heap.size ≠ w1.heap.size; omega))).trans u0e, ((World.cell?_setCell_far _ _ _ _ (by show w.heap.size ≠ w1.heap.size; omega)).trans (World.cell?_setCell_far _ _ _ _ (by show w.heap.size ≠ w1.heap.size; omega))).trans u1e⟩ (fun hHeld => ?_)
      clear hK K
      refine wpAnyH_ready (rs := [10]) (by kernel_rfl) (by simp) ?_
      refine AllReadyH.cons rfl (fun K hK => ?_) AllReadyH.nil
      go_simp
      refine hK.out _ _ (by first | assumption | go_keep) (fun hHeld => ?_)
      clear hK K
      refine wpAnyH_done (by kernel_rfl) ?_ _
      have HF := Lib.hid (HD5.out.post (.int .i64 t.fee) (.slice A t.bs.length c))
      go_wp2_with fail
      refine bodyPost_ret (v := .tuple #[tv t A c, .int .i64 z]) (by simp [results, Try.results51, go_sem, r0, r1]) rfl ?_
      exact ⟨t, A, c, z, rfl, HF.out.1, HF.out.2⟩
  · skip
    go_simp
    go_at_call 78
    refine (S1.pick_any (w.heap.size + 1) (w.heap.size + 1) a n cap (0 + 30) 24 _ (by omega) (by omega) (by omega) HDd.out.st).mono ?_
    rintro e w3 ⟨r, rfl, hr0, hr9, hs, hg⟩
    have HD3 := Lib.hid (HDd.out.call hs hg)
    clear hs hg
    obtain ⟨_, u0c, u1c, _⟩ := HD3.out.tb
    refine hK.out _ _ ⟨u0c, u1c⟩ (fun hHeld => ?_)
    clear hK K
    have hq : r / 11 = 0 ∨ r / 11 = 1 ∨ r / 11 = 2 := by omega
    rcases hq with hq | hq | hq
    · skip
      have hqt : r.tdiv 11 = 0 := by rw [Int.tdiv_eq_ediv_of_nonneg hr0]; exact hq
      refine wpAnyH_take (i := 5) (v := .int .i64 0) rfl (by kernel_rfl) (by kernel_rfl) (by kernel_rfl) (fun _ _ _ h => h) (Or.inl ⟨by kernel_rfl, ?_⟩) (by assumption) ?_
      · (intro w hSw; (try dsimp only at hSw); go_simp; (try rfl))
      simp only [Act.put]
      refine wpAnyH_take (i := 6) (v := .int .i64 7) rfl (by kernel_rfl) (by kernel_rfl) (by kernel_rfl) (fun _ _ _ h => h) (Or.inl ⟨by kernel_rfl, ?_⟩) (by assumption) ?_
      · (intro w hSw; (try dsimp only at hSw); go_simp; (try rfl))
      simp only [Act.put]
      refine wpAnyH_ready (rs := [2]) (by kernel_rfl) (by simp) ?_
      refine AllReadyH.cons rfl (fun K hK => ?_) AllReadyH.nil
      go_simp
      have HD4 := Lib.hid (HD3.out.alloc (.cells #[.int .i64 0, .int .i64 1, .int .i64 10, .int .i64 50, .int .i64 100, .int .i64 (-10), .int .i64 (-100), .int .i64 (-101), .int .i64 101] 3))
      have HT4 := Lib.hid (show S1.Ti w3.heap.size [0, 1, 10, 50, 100, (-10), (-100), (-101), 101] (w3.alloc (.cells #[.int .i64 0, .int .i64 1, .int .i64 10, .int .i64 50, .int .i64 100, .int .i64 (-10), .int .i64 (-100), .int .i64 (-101), .int .i64 101] 3)) from fun j hj => S1.ti_new w3 [0, 1, 10, 50, 100, (-10), (-100), (-101), 101] 3 j hj)
      obtain ⟨_, u0d, u1d, _⟩ := HD4.out.tb
      refine hK.out _ _ ⟨u0d, u1d⟩ (fun hHeld => ?_)
      clear hK K
      refine wpAnyH_take (i := 7) (v := .slice (some ⟨w3.heap.size, 0, none⟩) 7 9) rfl (by kernel_rfl) (by kernel_rfl) (by kernel_rfl) (fun _ _ _ h => h) (Or.inl ⟨by kernel_rfl, ?_⟩) (by assumption) ?_
      · (intro w hSw; (try dsimp only at hSw); go_simp)
      simp only [Act.put]
      refine wpAnyH_ready (rs := [8]) (by kernel_rfl) (by simp) ?_
      refine AllReadyH.cons rfl (fun K hK => ?_) AllReadyH.nil
      go_simp
      go_at_call 77
      refine (S1.among_any (w.heap.size + 1) (w.heap.size + 1) a n cap (0 + 30 + 2) w3.heap.size 7 9 [0, 1, 10, 50, 100, (-10), (-100)] _ rfl (by omega) (by simp) (by simp) HD4.out.st (S1.ti_take (N := 7) HT4.out (by simp)) (by have := st_lt HD3.out.st; omega)).mono ?_
      rintro e w5 ⟨⟨z, rfl⟩, hs5, hg5⟩
      have HD5 := Lib.hid (HD4.out.call hs5 hg5)
      clear hs5 hg5
      obtain ⟨_, u0e, u1e, _⟩ := HD5.out.tb
      refine hK.out _ _ ⟨u0e, u1e⟩ (fun hHeld => ?_)
      clear hK K
      obtain ⟨rl, r0, r1, rf⟩ := HD5.out.rb
      have hlo := HD5.out.lo
      have hn1 : w1.heap.size ≠ w.heap.size := by omega
      have hn2 : w.heap.size ≠ w1.heap.size := by omega
      refine wpAnyH_ready (rs := [9]) (by kernel_rfl) (by simp) ?_
      refine AllReadyH.cons rfl (fun K hK => ?_) AllReadyH.nil
      go_simp
      refine hK.out _ _ ⟨((World.cell?_setCell_far _ _ _ _ (by show w.heap.size ≠ w1.heap.size; omega)).trans (World.cell?_setCell_far _ _ _ _ (by show w.heap.size ≠ w1.heap.size; omega))).trans u0e, ((World.cell?_setCell_far _ _ _ _ (by show w.heap.size ≠ w1.heap.size; omega)).trans (World.cell?_setCell_far _ _ _ _ (by show w.heap.size ≠ w1.heap.size; omega))).trans u1e⟩ (fun hHeld => ?_)
      clear hK K
      refine wpAnyH_ready (rs := [10]) (by kernel_rfl) (by simp) ?_
      refine AllReadyH.cons rfl (fun K hK => ?_) AllReadyH.nil
      go_simp
      refine hK.out _ _ (by first | assumption | go_keep) (fun hHeld => ?_)
      clear hK K
      refine wpAnyH_done (by kernel_rfl) ?_ _
      have HF := Lib.hid (HD5.out.post (.int .i64 t.fee) (.slice A t.bs.length c))
      go_wp2_with fail
      refine bodyPost_ret (v := .tuple #[tv t A c, .int .i64 z]) (by simp [results, Try.results51, go_sem, r0, r1]) rfl ?_
      exact ⟨t, A, c, z, rfl, HF.out.1, HF.out.2⟩
    · skip
      have hqt : r.tdiv 11 = 1 := by rw [Int.tdiv_eq_ediv_of_nonneg hr0]; exact hq
      refine wpAnyH_take (i := 5) (v := .int .i64 1) rfl (by kernel_rfl) (by kernel_rfl) (by kernel_rfl) (fun _ _ _ h => h) (Or.inl ⟨by kernel_rfl, ?_⟩) (by assumption) ?_
      · (intro w hSw; (try dsimp only at hSw); go_simp; (try rfl))
      simp only [Act.put]
      refine wpAnyH_take (i := 6) (v := .int .i64 8) rfl (by kernel_rfl) (by kernel_rfl) (by kernel_rfl) (fun _ _ _ h => h) (Or.inl ⟨by kernel_rfl, ?_⟩) (by assumption) ?_
      · (intro w hSw; (try dsimp only at hSw); go_simp; (try rfl))
      simp only [Act.put]
      refine wpAnyH_ready (rs := [2]) (by kernel_rfl) (by simp) ?_
      refine AllReadyH.cons rfl (fun K hK => ?_) AllReadyH.nil
      go_simp
      have HD4 := Lib.hid (HD3.out.alloc (.cells #[.int .i64 0, .int .i64 1, .int .i64 10, .int .i64 50, .int .i64 100, .int .i64 (-10), .int .i64 (-100), .int .i64 (-101), .int .i64 101] 3))
      have HT4 := Lib.hid (show S1.Ti w3.heap.size [0, 1, 10, 50, 100, (-10), (-100), (-101), 101] (w3.alloc (.cells #[.int .i64 0, .int .i64 1, .int .i64 10, .int .i64 50, .int .i64 100, .int .i64 (-10), .int .i64 (-100), .int .i64 (-101), .int .i64 101] 3)) from fun j hj => S1.ti_new w3 [0, 1, 10, 50, 100, (-10), (-100), (-101), 101] 3 j hj)
      obtain ⟨_, u0d, u1d, _⟩ := HD4.out.tb
      refine hK.out _ _ ⟨u0d, u1d⟩ (fun hHeld => ?_)
      clear hK K
      refine wpAnyH_take (i := 7) (v := .slice (some ⟨w3.heap.size, 0, none⟩) 8 9) rfl (by kernel_rfl) (by kernel_rfl) (by kernel_rfl) (fun _ _ _ h => h) (Or.inl ⟨by kernel_rfl, ?_⟩) (by assumption) ?_
      · (intro w hSw; (try dsimp only at hSw); go_simp)
      simp only [Act.put]
      refine wpAnyH_ready (rs := [8]) (by kernel_rfl) (by simp) ?_
      refine AllReadyH.cons rfl (fun K hK => ?_) AllReadyH.nil
      go_simp
      go_at_call 77
      refine (S1.among_any (w.heap.size + 1) (w.heap.size + 1) a n cap (0 + 30 + 2) w3.heap.size 8 9 [0, 1, 10, 50, 100, (-10), (-100), (-101)] _ rfl (by omega) (by simp) (by simp) HD4.out.st (S1.ti_take (N := 8) HT4.out (by simp)) (by have := st_lt HD3.out.st; omega)).mono ?_
      rintro e w5 ⟨⟨z, rfl⟩, hs5, hg5⟩
      have HD5 := Lib.hid (HD4.out.call hs5 hg5)
      clear hs5 hg5
      obtain ⟨_, u0e, u1e, _⟩ := HD5.out.tb
      refine hK.out _ _ ⟨u0e, u1e⟩ (fun hHeld => ?_)
      clear hK K
      obtain ⟨rl, r0, r1, rf⟩ := HD5.out.rb
      have hlo := HD5.out.lo
      have hn1 : w1.heap.size ≠ w.heap.size := by omega
      have hn2 : w.heap.size ≠ w1.heap.size := by omega
      refine wpAnyH_ready (rs := [9]) (by kernel_rfl) (by simp) ?_
      refine AllReadyH.cons rfl (fun K hK => ?_) AllReadyH.nil
      go_simp
      refine hK.out _ _ ⟨((World.cell?_setCell_far _ _ _ _ (by show w.heap.size ≠ w1.heap.size; omega)).trans (World.cell?_setCell_far _ _ _ _ (by show w.heap.size ≠ w1.heap.size; omega))).trans u0e, ((World.cell?_setCell_far _ _ _ _ (by show w.heap.size ≠ w1.heap.size; omega)).trans (World.cell?_setCell_far _ _ _ _ (by show w.heap.size ≠ w1.heap.size; omega))).trans u1e⟩ (fun hHeld => ?_)
      clear hK K
      refine wpAnyH_ready (rs := [10]) (by kernel_rfl) (by simp) ?_
      refine AllReadyH.cons rfl (fun K hK => ?_) AllReadyH.nil
      go_simp
      refine hK.out _ _ (by first | assumption | go_keep) (fun hHeld => ?_)
      clear hK K
      refine wpAnyH_done (by kernel_rfl) ?_ _
      have HF := Lib.hid (HD5.out.post (.int .i64 t.fee) (.slice A t.bs.length c))
      go_wp2_with fail
      refine bodyPost_ret (v := .tuple #[tv t A c, .int .i64 z]) (by simp [results, Try.results51, go_sem, r0, r1]) rfl ?_
      exact ⟨t, A, c, z, rfl, HF.out.1, HF.out.2⟩
    · skip
      have hqt : r.tdiv 11 = 2 := by rw [Int.tdiv_eq_ediv_of_nonneg hr0]; exact hq
      refine wpAnyH_take (i := 5) (v := .int .i64 2) rfl (by kernel_rfl) (by kernel_rfl) (by kernel_rfl) (fun _ _ _ h => h) (Or.inl ⟨by kernel_rfl, ?_⟩) (by assumption) ?_
      · (intro w hSw; (try dsimp only at hSw); go_simp; (try rfl))
      simp only [Act.put]
      refine wpAnyH_take (i := 6) (v := .int .i64 9) rfl (by kernel_rfl) (by kernel_rfl) (by kernel_rfl) (fun _ _ _ h => h) (Or.inl ⟨by kernel_rfl, ?_⟩) (by assumption) ?_
      · (intro w hSw; (try dsimp only at hSw); go_simp; (try rfl))
      simp only [Act.put]
      refine wpAnyH_ready (rs := [2]) (by kernel_rfl) (by simp) ?_
      refine AllReadyH.cons rfl (fun K hK => ?_) AllReadyH.nil
      go_simp
      have HD4 := Lib.hid (HD3.out.alloc (.cells #[.int .i64 0, .int .i64 1, .int .i64 10, .int .i64 50, .int .i64 100, .int .i64 (-10), .int .i64 (-100), .int .i64 (-101), .int .i64 101] 3))
      have HT4 := Lib.hid (show S1.Ti w3.heap.size [0, 1, 10, 50, 100, (-10), (-100), (-101), 101] (w3.alloc (.cells #[.int .i64 0, .int .i64 1, .int .i64 10, .int .i64 50, .int .i64 100, .int .i64 (-10), .int .i64 (-100), .int .i64 (-101), .int .i64 101] 3)) from fun j hj => S1.ti_new w3 [0, 1, 10, 50, 100, (-10), (-100), (-101), 101] 3 j hj)
      obtain ⟨_, u0d, u1d, _⟩ := HD4.out.tb
      refine hK.out _ _ ⟨u0d, u1d⟩ (fun hHeld => ?_)
      clear hK K
      refine wpAnyH_take (i := 7) (v := .slice (some ⟨w3.heap.size, 0, none⟩) 9 9) rfl (by kernel_rfl) (by kernel_rfl) (by kernel_rfl) (fun _ _ _ h => h) (Or.inl ⟨by kernel_rfl, ?_⟩) (by assumption) ?_
      · (intro w hSw; (try dsimp only at hSw); go_simp)
      simp only [Act.put]
      refine wpAnyH_ready (rs := [8]) (by kernel_rfl) (by simp) ?_
      refine AllReadyH.cons rfl (fun K hK => ?_) AllReadyH.nil
      go_simp
      go_at_call 77
      refine (S1.among_any (w.heap.size + 1) (w.heap.size + 1) a n cap (0 + 30 + 2) w3.heap.size 9 9 [0, 1, 10, 50, 100, (-10), (-100), (-101), 101] _ rfl (by omega) (by simp) (by simp) HD4.out.st (S1.ti_take (N := 9) HT4.out (by simp)) (by have := st_lt HD3.out.st; omega)).mono ?_
      rintro e w5 ⟨⟨z, rfl⟩, hs5, hg5⟩
      have HD5 := Lib.hid (HD4.out.call hs5 hg5)
      clear hs5 hg5
      obtain ⟨_, u0e, u1e, _⟩ := HD5.out.tb
      refine hK.out _ _ ⟨u0e, u1e⟩ (fun hHeld => ?_)
      clear hK K
      obtain ⟨rl, r0, r1, rf⟩ := HD5.out.rb
      have hlo := HD5.out.lo
      have hn1 : w1.heap.size ≠ w.heap.size := by omega
      have hn2 : w.heap.size ≠ w1.heap.size := by omega
      refine wpAnyH_ready (rs := [9]) (by kernel_rfl) (by simp) ?_
      refine AllReadyH.cons rfl (fun K hK => ?_) AllReadyH.nil
      go_simp
      refine hK.out _ _ ⟨((World.cell?_setCell_far _ _ _ _ (by show w.heap.size ≠ w1.heap.size; omega)).trans (World.cell?_setCell_far _ _ _ _ (by show w.heap.size ≠ w1.heap.size; omega))).trans u0e, ((World.cell?_setCell_far _ _ _ _ (by show w.heap.size ≠ w1.heap.size; omega)).trans (World.cell?_setCell_far _ _ _ _ (by show w.heap.size ≠ w1.heap.size; omega))).trans u1e⟩ (fun hHeld => ?_)
      clear hK K
      refine wpAnyH_ready (rs := [10]) (by kernel_rfl) (by simp) ?_
      refine AllReadyH.cons rfl (fun K hK => ?_) AllReadyH.nil
      go_simp
      refine hK.out _ _ (by first | assumption | go_keep) (fun hHeld => ?_)
      clear hK K
      refine wpAnyH_done (by kernel_rfl) ?_ _
      have HF := Lib.hid (HD5.out.post (.int .i64 t.fee) (.slice A t.bs.length c))
      go_wp2_with fail
      refine bodyPost_ret (v := .tuple #[tv t A c, .int .i64 z]) (by simp [results, Try.results51, go_sem, r0, r1]) rfl ?_
      exact ⟨t, A, c, z, rfl, HF.out.1, HF.out.2⟩
end Go.Proofs.Ytidlpoambmeiiaa.S14
