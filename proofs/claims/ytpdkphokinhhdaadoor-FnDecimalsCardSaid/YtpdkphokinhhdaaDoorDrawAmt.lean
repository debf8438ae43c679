/- How the law FnDecimals draws its amount and its numbers: contracts. Conditions: each theorem's own premises. -/
import Derived.Test.YtpdkphokinhhdaaDoorDrawBase
import Derived.Test.YtpdkphokinhhdaaDoorAmtOne
import Derived.OwnWalk
namespace Go.Proofs.YtpdkphokinhhdaaDoor.S3
open Go.RowKit P3 S1

/-- An amount in a block of its own. -/
def BA (b : Nat) (x y : Int) (w : World) : Prop := w.heap[b]? = some (.cells #[.int .i64 x, .int .i64 y] 29 (0, 0))
theorem BA.cells {b : Nat} {x y : Int} {w : World} (h : BA b x y w) : b < w.heap.size ∧ w.cell? ⟨b, 0, none⟩ = some (.int .i64 x) ∧ w.cell? ⟨b, 1, none⟩ = some (.int .i64 y) ∧ w.frozen? ⟨b, 0, none⟩ = false ∧ w.frozen? ⟨b, 1, none⟩ = false := by
  unfold BA at h
  refine ⟨(Array.getElem?_eq_some_iff.1 h).1, ?_, ?_, ?_, ?_⟩
  · simp [World.cell?, h]
  · simp [World.cell?, h]
  · simp [World.frozen?, h]
  · simp [World.frozen?, h]
theorem BA.grown {b g : Nat} {x y : Int} {w w' : World} (h : BA b x y w) (hg : w.grownBy w' (some g)) (hne : b ≠ g) : BA b x y w' := by
  unfold BA
  rw [hg.block b h.cells.1 (by simp; omega)]; exact h
theorem BA.alloc {b : Nat} {x y : Int} {w : World} (h : BA b x y w) (o : Obj) : BA b x y (w.alloc o) := by
  have hb : Below w.heap.size w (w.alloc o) := (Below.refl _ _).alloc (Nat.le_refl _) o
  unfold BA
  rw [hb.block b h.cells.1]; exact h
theorem BA.new (w : World) (x y : Int) : BA w.heap.size x y (w.alloc (.cells #[.int .i64 x, .int .i64 y] 29)) := by
  unfold BA
  simpa using (MapKept.heap_alloc w (.cells #[.int .i64 x, .int .i64 y] 29)).1
theorem BA.set0 {b : Nat} {x y z : Int} {w : World} (h : BA b x y w) : BA b z y (w.setCell ⟨b, 0, none⟩ (.int .i64 z)) := heap_set h
theorem BA.set1 {b : Nat} {x y z : Int} {w : World} (h : BA b x y w) : BA b x z (w.setCell ⟨b, 1, none⟩ (.int .i64 z)) := heap_set h
theorem BA.far {b c i : Nat} {x y : Int} {w : World} {v : Value} (h : BA b x y w) (hne : b ≠ c) : BA b x y (w.setCell ⟨c, i, none⟩ v) := by
  unfold BA
  rw [Below.heap_setCell w ⟨c, i, none⟩ v b hne]; exact h
theorem st_far {B g : Nat} {a : Option Addr} {n cap K b i : Nat} {v : Value} {w : World} (h : St B g a n cap K w) (hne : b ≠ g) (hB : B ≤ b) : St B g a n cap K (w.setCell ⟨b, i, none⟩ v) := by
  obtain ⟨k, sd, hk, hg⟩ := h.cur
  refine ⟨?_, ⟨k, sd, hk, by rw [Below.heap_setCell w ⟨b, i, none⟩ v g (Ne.symm hne)]; exact hg⟩, h.bg, h.few⟩
  rcases h.cd with h0 | ⟨c, off, ha, hbB, hc⟩
  · exact .inl h0
  · refine .inr ⟨c, off, ha, hbB, fun j hj => ?_⟩
    obtain ⟨u, hu, hcv⟩ := hc j hj
    refine ⟨u, hu, ?_⟩
    have : (w.setCell ⟨b, i, none⟩ v).heap[c]? = w.heap[c]? := Below.heap_setCell w ⟨b, i, none⟩ v c (show c ≠ b by omega)
    unfold World.cell? at hcv ⊢
    simp only at hcv ⊢
    rw [this]; exact hcv
theorem st_new {B g : Nat} {a : Option Addr} {n cap K : Nat} {w : World} (h : St B g a n cap K w) (o : Obj) : St B g a n cap K (w.alloc o) := h.other ((Below.refl _ _).alloc (Nat.le_refl _) o)
theorem grown_setnew {w w1 : World} {g b i : Nat} {v : Value} (h : w.grownBy w1 (some g)) (hb : w.heap.size ≤ b) : w.grownBy (w1.setCell ⟨b, i, none⟩ v) (some g) := by
  refine ⟨h.os, h.tape, h.output, by simpa using h.size, fun k hk hne => ?_⟩
  rw [Below.heap_setCell w1 ⟨b, i, none⟩ v k (show k ≠ b by omega)]
  exact h.block k hk hne
theorem grown_new {w w1 : World} {g : Nat} (h : w.grownBy w1 (some g)) (o : Obj) : w.grownBy (w1.alloc o) (some g) := grown_trans h (World.grownBy_alloc w1 o (some g))
theorem ti_take {b N : Nat} {zs : List Int} {w : World} (h : Ti b zs w) (hN : N ≤ zs.length) : Ti b (zs.take N) w := fun j hj => by
  have hl : j < N := by rw [List.length_take] at hj; omega
  have := h j (by omega)
  simp [List.getD, hl] at this ⊢
  exact this
theorem ti_grown {b g : Nat} {zs : List Int} {w w' : World} (h : Ti b zs w) (hg : w.grownBy w' (some g)) (hne : b ≠ g) : Ti b zs w' := fun j hj => hg.cell (h j hj) (by simp; omega)

set_option maxHeartbeats 4000000 in
set_option maxRecDepth 100000 in
theorem amount_any (B g : Nat) (a : Option Addr) (n cap K : Nat) (w : World) (hK : K ≤ 800000) (h : St B g a n cap K w) :
    Calls Tryd.prog 38 #[.pointer (some ⟨g, 0, none⟩)] w fun e w' => (∃ x u : Int, e = .returned (av x u)) ∧ St B g a n cap (K + 12) w' ∧ w.grownBy w' (some g) := by
  have HS := Lib.hid h
  have hgl : g < w.heap.size := by obtain ⟨k, sd, hk, hg⟩ := h.cur; exact (Array.getElem?_eq_some_iff.1 hg).1
  have hBg := h.bg
  have HO := Lib.hid (BA.new w 0 0)
  clear h
  obtain ⟨o, ho⟩ : ∃ o, o = w.heap.size := ⟨_, rfl⟩
  go_enter Tryd.func38, Tryd.ntmps38
  have hti := ti_new (w.alloc (.cells #[.int .i64 0, .int .i64 0] 29)) [0, 1, 5, 12, 36, 60, 1000, 1440, 999999, 1000000] 3
  rw [show (w.alloc (.cells #[.int .i64 0, .int .i64 0] 29)).heap.size = w.heap.size + 1 by simp] at hti
  go_wp2_with fail
  refine (among_any B g a n cap K (w.heap.size + 1) 10 10 [0, 1, 5, 12, 36, 60, 1000, 1440, 999999, 1000000] _ rfl (by omega) (by simp) (by simp) (st_new (st_new HS.out _) _) hti (by omega)).mono ?_
  rintro e w1 ⟨⟨z, rfl⟩, hs1, hg1⟩
  refine Hid.out ?_
  clear hti
  have HS1 := Lib.hid hs1
  have HO1 := Lib.hid ((HO.out.alloc _).grown hg1 (by omega))
  have HG1 := Lib.hid (grown_trans (grown_new (World.grownBy_alloc w _ (some g)) _) hg1)
  have hsz1 := hg1.size
  simp at hsz1
  clear hs1 hg1 HS HO
  refine Lib.hid ?_
  go_wp2_with (go_at_call 34; refine (pick_any B g a n cap (K + 2) 4 _ (by omega) (by omega) (by omega) HS1.out).mono ?_; rintro e w2 ⟨r, rfl, hr0, hr1, hs2, hg2⟩; refine Hid.out ?_)
  have HS2 := Lib.hid (st_new hs2 (.cells #[.int .i64 z, .int .i64 (1 + r)] 29))
  have HO2 := Lib.hid ((HO1.out.grown hg2 (by omega)).alloc (.cells #[.int .i64 z, .int .i64 (1 + r)] 29))
  have HG2 := Lib.hid (grown_new (grown_trans HG1.out hg2) (.cells #[.int .i64 z, .int .i64 (1 + r)] 29))
  have HA2 := Lib.hid (BA.new w2 z (1 + r))
  have hsz2 := hg2.size
  obtain ⟨A, hA⟩ : ∃ A, A = w2.heap.size := ⟨_, rfl⟩
  rw [← hA] at HA2
  have hAg : A ≠ g := by omega
  have hAo : A ≠ w.heap.size := by omega
  have hAw : w.heap.size ≤ A := by omega
  clear hs2 hg2 HS1 HO1 HG1
  refine Lib.hid ?_
  go_wp2_with (go_at_call 55; refine (one_any B g a n cap (K + 4) 24 _ (by omega) (by omega) (by omega) HS2.out).mono ?_; rintro e w3 ⟨b1, rfl, hs3, hg3⟩; refine Hid.out ?_)
  have HS36 := Lib.hid hs3
  have HS3 := Lib.hid (hs3.more (show K + 6 ≤ K + 8 by omega))
  have HO3 := Lib.hid (HO2.out.grown hg3 (by omega))
  have HA3 := Lib.hid (HA2.out.grown hg3 hAg)
  have HG3 := Lib.hid (grown_trans HG2.out hg3)
  have hsz3 := hg3.size
  simp at hsz3
  clear hs3 hg3 HS2 HO2 HG2 HA2
  subst hA
  cases b1
  · refine Lib.hid ?_
    go_wp2_with fail
    refine (one_any B g a n cap (K + 8) 24 _ (by omega) (by omega) (by omega) HS3.out).mono ?_
    rintro e w5 ⟨b2, rfl, hs5, hg5⟩
    refine Hid.out ?_
    have HS5 := Lib.hid hs5
    have HO5 := Lib.hid (HO3.out.grown hg5 (by omega))
    have HA5 := Lib.hid (HA3.out.grown hg5 hAg)
    have HG5 := Lib.hid (grown_trans HG3.out hg5)
    have hsz5 := hg5.size
    try simp at hsz5
    clear hs5 hg5
    cases b2
    · have HSf := HS5
      have HOf := HO5
      have HAf := HA5
      have HGf := HG5
      obtain ⟨hoL, o0, o1, y0, y1⟩ := HOf.out.cells
      obtain ⟨haL, a0, a1, x0, x1⟩ := HAf.out.cells
      refine Lib.hid ?_
      go_wp2_with fail
      refine bodyPost_ret (v := av z (1 + r)) (by simp [results, Tryd.results38, go_sem, o0, o1]) rfl ⟨⟨_, _, rfl⟩, ?_, ?_⟩
      · exact ((st_far (st_far HSf.out (b := w.heap.size) (by omega) (by omega)) (b := w.heap.size) (by omega) (by omega)).more (by omega))
      · exact grown_setnew (grown_setnew HGf.out (Nat.le_refl _)) (Nat.le_refl _)
    · have hti := ti_new w5 [0, 5] 3
      refine Lib.hid ?_
      go_wp2_with fail
      refine (among_any B g a n cap (K + 10) w5.heap.size 2 2 [0, 5] _ rfl (by omega) (by simp) (by simp) (st_new HS5.out _) hti (by omega)).mono ?_
      rintro e w6 ⟨⟨z2, rfl⟩, hs6, hg6⟩
      have HS6 := Lib.hid hs6
      have HO6 := (HO5.out.alloc _).grown hg6 (by omega)
      have HA6 := (HA5.out.alloc _).grown hg6 hAg
      have HG6 := Lib.hid (grown_trans (grown_new HG5.out _) hg6)
      obtain ⟨haL, a0, a1, x0, x1⟩ := HA6.cells
      obtain ⟨hoL, o0, o1, y0, y1⟩ := HO6.cells
      clear HO6 HA6 hs6 hg6 hti
      go_wp2_with fail
      refine bodyPost_ret (v := av z z2) (by simp [results, Tryd.results38, go_sem, o0, o1]) rfl ⟨⟨_, _, rfl⟩, ?_, ?_⟩
      · exact (st_far (st_far (st_far HS6.out hAg (by omega)) (by omega) (by omega)) (by omega) (by omega)).more (by omega)
      · exact grown_setnew (grown_setnew (grown_setnew HG6.out hAw) (Nat.le_refl _)) (Nat.le_refl _)
  · have hti := ti_new w3 [-1, 1000001] 3
    refine Lib.hid ?_
    go_wp2_with fail
    refine (among_any B g a n cap (K + 6) w3.heap.size 2 2 [-1, 1000001] _ rfl (by omega) (by simp) (by simp) (st_new HS36.out _) hti (by omega)).mono ?_
    rintro e w4 ⟨⟨z3, rfl⟩, hs4, hg4⟩
    have HO4' := (HO3.out.alloc _).grown hg4 (by omega)
    have HA4' := (HA3.out.alloc _).grown hg4 hAg
    have HG4' := grown_trans (grown_new HG3.out _) hg4
    obtain ⟨haL, a0, a1, x0, x1⟩ := HA4'.cells
    have hsz4 := hg4.size
    simp at hsz4
    have HS4 := Lib.hid (st_far hs4 (b := w2.heap.size) (i := 0) (v := .int .i64 z3) hAg (by omega))
    have HA4 := Lib.hid (HA4'.set0 (z := z3))
    have HO4 := Lib.hid (HO4'.far (c := w2.heap.size) (i := 0) (v := .int .i64 z3) (Ne.symm hAo))
    have HG4 := Lib.hid (grown_setnew HG4' (b := w2.heap.size) (i := 0) (v := .int .i64 z3) hAw)
    clear HA4' HO4' HG4' hs4 hg4
    go_wp2_with fail
    clear a0 a1 x0 x1
    refine (one_any B g a n cap (K + 8) 24 _ (by omega) (by omega) (by omega) HS4.out).mono ?_
    rintro e w5 ⟨b2, rfl, hs5, hg5⟩
    refine Hid.out ?_
    have HS5 := Lib.hid hs5
    have HO5 := Lib.hid (HO4.out.grown hg5 (by omega))
    have HA5 := Lib.hid (HA4.out.grown hg5 hAg)
    have HG5 := Lib.hid (grown_trans HG4.out hg5)
    have hsz5 := hg5.size
    try simp at hsz5
    clear hs5 hg5
    cases b2
    · have HSf := HS5
      have HOf := HO5
      have HAf := HA5
      have HGf := HG5
      obtain ⟨hoL, o0, o1, y0, y1⟩ := HOf.out.cells
      obtain ⟨haL, a0, a1, x0, x1⟩ := HAf.out.cells
      refine Lib.hid ?_
      go_wp2_with fail
      refine bodyPost_ret (v := av z3 (1 + r)) (by simp [results, Tryd.results38, go_sem, o0, o1]) rfl ⟨⟨_, _, rfl⟩, ?_, ?_⟩
      · exact ((st_far (st_far HSf.out (b := w.heap.size) (by omega) (by omega)) (b := w.heap.size) (by omega) (by omega)).more (by omega))
      · exact grown_setnew (grown_setnew HGf.out (Nat.le_refl _)) (Nat.le_refl _)
    · have hti := ti_new w5 [0, 5] 3
      refine Lib.hid ?_
      go_wp2_with fail
      refine (among_any B g a n cap (K + 10) w5.heap.size 2 2 [0, 5] _ rfl (by omega) (by simp) (by simp) (st_new HS5.out _) hti (by omega)).mono ?_
      rintro e w6 ⟨⟨z2, rfl⟩, hs6, hg6⟩
      have HS6 := Lib.hid hs6
      have HO6 := (HO5.out.alloc _).grown hg6 (by omega)
      have HA6 := (HA5.out.alloc _).grown hg6 hAg
      have HG6 := Lib.hid (grown_trans (grown_new HG5.out _) hg6)
      obtain ⟨haL, a0, a1, x0, x1⟩ := HA6.cells
      obtain ⟨hoL, o0, o1, y0, y1⟩ := HO6.cells
      clear HO6 HA6 hs6 hg6 hti
      go_wp2_with fail
      refine bodyPost_ret (v := av z3 z2) (by simp [results, Tryd.results38, go_sem, o0, o1]) rfl ⟨⟨_, _, rfl⟩, ?_, ?_⟩
      · exact (st_far (st_far (st_far HS6.out hAg (by omega)) (by omega) (by omega)) (by omega) (by omega)).more (by omega)
      · exact grown_setnew (grown_setnew (grown_setnew HG6.out hAw) (Nat.le_refl _)) (Nat.le_refl _)

theorem dbars_any (a : Option Addr) (n cap : Nat) (w : World) (hc : Cd w.heap.size a n w) (hn : n ≤ 65536) :
    Calls Tryd.prog 18 #[.slice a n cap] w fun e w' => (∃ z : Int, e = .returned (.int .i64 z)) ∧ Below w.heap.size w w' := by
  have HS := Lib.hid (st_start cap hc hn)
  clear hc
  have hti := ti_new (w.alloc (.cells #[.slice a n cap, .int .i64 0, .int .u64 0] 54)) [0, 1, 10, 51, 102, 999, 1000, -1, 1001] 3
  rw [show (w.alloc (.cells #[.slice a n cap, .int .i64 0, .int .u64 0] 54)).heap.size = w.heap.size + 1 by simp] at hti
  go_enter Tryd.func18, Tryd.ntmps18
  go_wp2_with fail
  refine (among_any w.heap.size w.heap.size a n cap 0 (w.heap.size + 1) 9 9 [0, 1, 10, 51, 102, 999, 1000, -1, 1001] _ rfl (by omega) (by simp) (by simp) (st_new HS.out _) hti (by omega)).mono ?_
  rintro e w2 ⟨⟨z, rfl⟩, hs2, hg2⟩
  have HB2 := Lib.hid (((Below.refl w.heap.size w).alloc (Nat.le_refl _) _).trans ((((Below.refl w.heap.size _).alloc (by simp) _)).trans (grown_below hg2 (Nat.le_refl _) (by simp; omega))))
  clear hs2 hg2
  go_wp2_with fail
  go_ret
  exact ⟨⟨z, rfl⟩, HB2.out⟩

set_option maxHeartbeats 4000000 in
set_option maxRecDepth 100000 in
theorem ddec_any (a : Option Addr) (n cap : Nat) (w : World) (hc : Cd w.heap.size a n w) (hn : n ≤ 65536) :
    Calls Tryd.prog 12 #[.slice a n cap] w fun e w' => (∃ x y z : Int, e = .returned (.tuple #[.int .i64 x, .int .i64 y, .int .i64 z])) ∧ Below w.heap.size w w' := by
  have HS0 := Lib.hid (st_start cap hc hn)
  clear hc
  obtain ⟨w0, hw0⟩ : ∃ w0, w0 = w.alloc (.cells #[.slice a n cap, .int .i64 0, .int .u64 0] 54) := ⟨_, rfl⟩
  rw [← hw0] at HS0
  have HB0 := Lib.hid (show Below w.heap.size w w0 by rw [hw0]; exact (Below.refl _ _).alloc (Nat.le_refl _) _)
  have hz0 : w0.heap.size = w.heap.size + 1 := by rw [hw0]; simp
  have HW0 := Lib.hid hw0
  clear hw0
  go_enter Tryd.func12, Tryd.ntmps12
  have hti := ti_new w0 [0, 1, 5, 10, 999, 1995, 1000000000000, -1, 1000000000001] 3
  rw [hz0] at hti
  go_wp2_with fail
  rw [← HW0.out]
  refine (pick_any w.heap.size w.heap.size a n cap 0 24 _ (by omega) (by omega) (by omega) (st_new HS0.out _)).mono ?_
  rintro e p0 ⟨r0, rfl, hr0, hr1, hsp, hgp⟩
  obtain ⟨t0, rfl⟩ : ∃ t : Nat, r0 = (t : Int) := ⟨r0.toNat, by omega⟩
  obtain ⟨d0, hd0⟩ : ∃ d : Nat, (t0 : Int) / 11 = (d : Int) := ⟨t0 / 11, by omega⟩
  have hd02 : d0 ≤ 2 := by omega
  obtain ⟨N0, hN0⟩ : ∃ N : Nat, 7 + (d0 : Int) = (N : Int) := ⟨7 + d0, by omega⟩
  have hN00 : 1 ≤ N0 := by omega
  have hN01 : N0 ≤ 9 := by omega
  have hszp := hgp.size
  simp at hszp
  have htj := ti_take (ti_grown hti hgp (by omega)) (show N0 ≤ ([0, 1, 5, 10, 999, 1995, 1000000000000, -1, 1000000000001] : List Int).length by simp; omega)
  have HBp := Lib.hid (HB0.out.trans (((Below.refl w.heap.size w0).alloc (by omega) _).trans (grown_below hgp (Nat.le_refl _) (by simp; omega))))
  go_wp2_with fail
  refine (among_any w.heap.size w.heap.size a n cap 2 (w.heap.size + 1) N0 9 (([0, 1, 5, 10, 999, 1995, 1000000000000, -1, 1000000000001] : List Int).take N0) _ (by rw [List.length_take]; simp; omega) (by omega) (by rw [List.length_take]; simp; omega) (by rw [List.length_take]; simp; omega) hsp htj (by omega)).mono ?_
  rintro e q0 ⟨⟨z0, rfl⟩, hsq, hgq⟩
  have HS1 := Lib.hid hsq
  have hszq := hgq.size
  have hz1 : w.heap.size + 1 ≤ q0.heap.size := by omega
  have HB1 := Lib.hid (HBp.out.trans (grown_below hgq (Nat.le_refl _) (by omega)))
  clear hti htj hsp hgp hsq hgq HBp HS0 HB0 hN0
  have hti := ti_new q0 [1, 2, 3, 7, 1000, 1000000, 0, 1000001] 3
  go_wp2_with fail
  refine (pick_any w.heap.size w.heap.size a n cap 4 24 _ (by omega) (by omega) (by omega) (st_new HS1.out _)).mono ?_
  rintro e p1 ⟨r1, rfl, hr0, hr1, hsp, hgp⟩
  obtain ⟨t1, rfl⟩ : ∃ t : Nat, r1 = (t : Int) := ⟨r1.toNat, by omega⟩
  obtain ⟨d1, hd1⟩ : ∃ d : Nat, (t1 : Int) / 11 = (d : Int) := ⟨t1 / 11, by omega⟩
  have hd12 : d1 ≤ 2 := by omega
  obtain ⟨N1, hN1⟩ : ∃ N : Nat, 6 + (d1 : Int) = (N : Int) := ⟨6 + d1, by omega⟩
  have hN10 : 1 ≤ N1 := by omega
  have hN11 : N1 ≤ 8 := by omega
  have hszp := hgp.size
  simp at hszp
  have htj := ti_take (ti_grown hti hgp (by omega)) (show N1 ≤ ([1, 2, 3, 7, 1000, 1000000, 0, 1000001] : List Int).length by simp; omega)
  have HBp := Lib.hid (HB1.out.trans (((Below.refl w.heap.size q0).alloc (by omega) _).trans (grown_below hgp (Nat.le_refl _) (by simp; omega))))
  go_wp2_with fail
  refine (among_any w.heap.size w.heap.size a n cap 6 q0.heap.size N1 8 (([1, 2, 3, 7, 1000, 1000000, 0, 1000001] : List Int).take N1) _ (by rw [List.length_take]; simp; omega) (by omega) (by rw [List.length_take]; simp; omega) (by rw [List.length_take]; simp; omega) hsp htj (by omega)).mono ?_
  rintro e q1 ⟨⟨z1, rfl⟩, hsq, hgq⟩
  have HS2 := Lib.hid hsq
  have hszq := hgq.size
  have hz2 : w.heap.size + 1 ≤ q1.heap.size := by omega
  have HB2 := Lib.hid (HBp.out.trans (grown_below hgq (Nat.le_refl _) (by omega)))
  clear hti htj hsp hgp hsq hgq HBp HS1 HB1 hN1
  have hti := ti_new q1 [0, 1, 2, 4, -1, 5] 3
  go_wp2_with fail
  refine (pick_any w.heap.size w.heap.size a n cap 8 24 _ (by omega) (by omega) (by omega) (st_new HS2.out _)).mono ?_
  rintro e p2 ⟨r2, rfl, hr0, hr1, hsp, hgp⟩
  obtain ⟨t2, rfl⟩ : ∃ t : Nat, r2 = (t : Int) := ⟨r2.toNat, by omega⟩
  obtain ⟨d2, hd2⟩ : ∃ d : Nat, (t2 : Int) / 11 = (d : Int) := ⟨t2 / 11, by omega⟩
  have hd22 : d2 ≤ 2 := by omega
  obtain ⟨N2, hN2⟩ : ∃ N : Nat, 4 + (d2 : Int) = (N : Int) := ⟨4 + d2, by omega⟩
  have hN20 : 1 ≤ N2 := by omega
  have hN21 : N2 ≤ 6 := by omega
  have hszp := hgp.size
  simp at hszp
  have htj := ti_take (ti_grown hti hgp (by omega)) (show N2 ≤ ([0, 1, 2, 4, -1, 5] : List Int).length by simp; omega)
  have HBp := Lib.hid (HB2.out.trans (((Below.refl w.heap.size q1).alloc (by omega) _).trans (grown_below hgp (Nat.le_refl _) (by simp; omega))))
  go_wp2_with fail
  refine (among_any w.heap.size w.heap.size a n cap 10 q1.heap.size N2 6 (([0, 1, 2, 4, -1, 5] : List Int).take N2) _ (by rw [List.length_take]; simp; omega) (by omega) (by rw [List.length_take]; simp; omega) (by rw [List.length_take]; simp; omega) hsp htj (by omega)).mono ?_
  rintro e q2 ⟨⟨z2, rfl⟩, hsq, hgq⟩
  have HS3 := Lib.hid hsq
  have hszq := hgq.size
  have hz3 : w.heap.size + 1 ≤ q2.heap.size := by omega
  have HB3 := Lib.hid (HBp.out.trans (grown_below hgq (Nat.le_refl _) (by omega)))
  clear hti htj hsp hgp hsq hgq HBp HS2 HB2 hN2
  go_wp2_with fail
  refine bodyPost_ret (results_tmp3 rfl _ _ _) rfl ?_
  exact ⟨⟨z0, z1, z2, rfl⟩, HB3.out⟩
end Go.Proofs.YtpdkphokinhhdaaDoor.S3
