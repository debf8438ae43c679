/- A tariff as a value: its box, its size, its copy, its comparison, its marks; an argument opened: contracts. Conditions: each theorem's own premises. -/
import Derived.Test.YtidlpoambmeiiaaTaKit
import Derived.Lib.SmallJoins
import Derived.Deep.DeepCutAuto
namespace Go.Proofs.Ytidlpoambmeiiaa.S14
open Go.RowKit Go.Sort Go.ChangeShapes Go.WideShapes Go.Deep Go.Joins P14

/-- A tariff as a value. -/
abbrev tv (t : Ta) (A : Option Addr) (c : Nat) : Value := .agg #[.int .i64 t.fee, .slice A t.bs.length c]
/-- A tariff in its box. -/
abbrev tb (ty : TypeId) (t : Ta) (A : Option Addr) (c : Nat) : Obj := .cells #[.int .i64 t.fee, .slice A t.bs.length c] ty
/-- A box of two cells. -/
structure C2 (w : World) (g : Nat) (a b : Value) : Prop where
  lt : g < w.heap.size
  k0 : w.cell? ⟨g, 0, none⟩ = some a
  k1 : w.cell? ⟨g, 1, none⟩ = some b
  fz : ∀ o, w.frozen? ⟨g, o, none⟩ = false
theorem C2.new (w : World) (ty : TypeId) (a b : Value) : C2 (w.alloc (.cells #[a, b] ty)) w.heap.size a b := by
  refine ⟨by simp, ?_, ?_, ?_⟩
  · rw [World.cell?_alloc_at _ _ _ _ rfl]; rfl
  · rw [World.cell?_alloc_at _ _ _ _ rfl]; rfl
  · intro o; simp
theorem C2.keep {w w' : World} {g S : Nat} {a b : Value} (h : C2 w g a b) (hb : Below S w w') (hS : g < S) : C2 w' g a b :=
  ⟨Nat.lt_of_lt_of_le h.lt hb.size, (hb.cell (p := ⟨g, 0, none⟩) hS).trans h.k0, (hb.cell (p := ⟨g, 1, none⟩) hS).trans h.k1, fun o => (hb.frozen (p := ⟨g, o, none⟩) hS).trans (h.fz o)⟩
theorem C2.kept {w w' : World} {g : Nat} {a b : Value} (h : C2 w g a b) (hb : Below w.heap.size w w') : C2 w' g a b := h.keep hb h.lt
theorem C2.far {w w' : World} {g x : Nat} {a b : Value} (h : C2 w g a b) (hg : w.grownBy w' (some x)) (hne : g ≠ x) : C2 w' g a b :=
  have q := fun j => hg.cell_far ⟨g, j, none⟩ h.lt (by simpa using hne)
  ⟨Nat.lt_of_lt_of_le h.lt hg.size, (q _).trans h.k0, (q _).trans h.k1, fun o => (World.frozen?_of_block (hg.block g h.lt (by simpa using hne))).trans (h.fz o)⟩
/-- The cells of the box of a tariff. -/
abbrev B2 (w : World) (g : Nat) (t : Ta) (A : Option Addr) (c : Nat) : Prop := C2 w g (.int .i64 t.fee) (.slice A t.bs.length c)
theorem B2.new (w : World) (ty : TypeId) (t : Ta) (A : Option Addr) (c : Nat) : B2 (w.alloc (tb ty t A c)) w.heap.size t A c := C2.new w ty _ _
/-- Three boxes laid one behind the other. -/
structure C3 (w W : World) (a b a2 b2 : Value) : Prop where
  one : C2 W (w.heap.size + 1) a b
  two : C2 W (w.heap.size + 1 + 1) a2 b2
  bw : Below w.heap.size w W
theorem C3.new (w : World) (o : Obj) (ty ty2 : TypeId) (a b a2 b2 : Value) : C3 w (((w.alloc o).alloc (.cells #[a, b] ty)).alloc (.cells #[a2, b2] ty2)) a b a2 b2 := by
  have h1 := C2.new (w.alloc o) ty a b
  have h2 := C2.new ((w.alloc o).alloc (.cells #[a, b] ty)) ty2 a2 b2
  have h3 := h1.kept (alloc_below _ (.cells #[a2, b2] ty2))
  simp only [alloc_size] at h2 h3
  exact ⟨h3, h2, (((Below.refl _ _).alloc (Nat.le_refl _) _).alloc (by simp) _).alloc (by simp; omega) _⟩
theorem C3.call {w W W2 : World} {a b a2 b2 : Value} (h : C3 w W a b a2 b2) (hb : Below W.heap.size W W2) : C3 w W2 a b a2 b2 :=
  ⟨h.one.kept hb, h.two.kept hb, h.bw.trans (hb.mono h.bw.size)⟩
/-- The blocks of a tariff lie there. -/
structure TAt (w : World) (t : Ta) (A : Option Addr) : Prop where
  x : CAt w A t.bs
  xl : t.bs.length ≤ 1048576
theorem TAt.kept {w w' : World} {t : Ta} {A : Option Addr} (h : TAt w t A) (hb : Below w.heap.size w w') : TAt w' t A := ⟨h.x.kept hb (Nat.le_refl _), h.xl⟩
theorem two_below (w : World) (o o2 : Obj) : Below w.heap.size w ((w.alloc o).alloc o2) := (alloc_below w o).trans ((alloc_below _ o2).mono (by simp))
theorem crow_far {w w' : World} {g x : Nat} {cs : List Bl} (h : CRow w g cs) (hg : w.grownBy w' (some x)) (hne : g ≠ x) : CRow w' g cs :=
  h.of_block (hg.block g h.lt (by simpa using hne))
theorem crow_set {w : World} {g G : Nat} {cs : List Bl} (h : CRow w g cs) (j : Nat) (u : Value) (hne : g ≠ G) : CRow (w.setCell ⟨G, j, none⟩ u) g cs :=
  crow_far h (grown_set (grown_refl w (some G)) j u) hne

set_option maxHeartbeats 1000000 in
theorem sztar_any (t : Ta) (A : Option Addr) (c : Nat) (left : Int) (w : World) (hm : t.bs.length ≤ maxLen) (h0 : 0 ≤ left) (h9 : left ≤ 1048576) :
    Calls Try.prog 15 #[tv t A c, .int .i64 left] w fun e w' => (∃ r : Int, e = .returned (.int .i64 r) ∧ (r < 0 ∨ (0 ≤ r ∧ r ≤ 1048576 ∧ t.bs.length ≤ 1048576))) ∧ Below w.heap.size w w' := by
  have HB := Lib.hid (alloc_below w (tb 24 t A c))
  have H := Lib.hid (fun w => szcps_any A t.bs.length c left w hm h0 h9)
  have H9 := Lib.hid h9
  clear hm h0 h9
  go_enter Try.func15, Try.ntmps15
  go_wp2_with (first | (go_at_call 52; refine (H.out _).mono ?_; rintro e w1 ⟨⟨r, rfl, hr⟩, hb1⟩; refine Hid.out ?_) | fail)
  have hB1 := HB.out.trans (hb1.mono HB.out.size)
  rcases hr with hr | ⟨hr0, hr1, hn⟩
  · refine Lib.hid ?_
    go_wp2_with fail
    go_ret
    exact ⟨⟨_, rfl, .inl (by omega)⟩, hB1⟩
  · have hnl : ¬ r < 0 := by omega
    have HF := Lib.hid (And.intro hr0 (And.intro hr1 hn))
    clear hr0 hr1 hn
    refine Lib.hid ?_
    go_wp2_with fail
    go_ret
    exact ⟨⟨r, rfl, by have := H9.out; have := HF.out; omega⟩, hB1⟩
set_option maxHeartbeats 1000000 in
theorem totar_any (t : Ta) (A : Option Addr) (c : Nat) (w : World) (h : TAt w t A) :
    Calls Try.prog 17 #[tv t A c] w fun e w' => (∃ g, e = .returned (tv t (some ⟨g, 0, none⟩) t.bs.length) ∧ w.heap.size ≤ g ∧ CRow w' g t.bs) ∧ Below w.heap.size w w' := by
  have HX := Lib.hid (fun w' (hb : Below w.heap.size w w') => tocps_any A c t.bs w' (h.x.kept hb (Nat.le_refl _)) h.xl)
  clear h
  obtain ⟨fee, bs⟩ := t
  simp only at HX ⊢
  have H3 := Lib.hid (C3.new w (tb 24 ⟨fee, bs⟩ A c) 29 29 (.int .i64 0) (.slice none 0 0) (.int .i64 fee) (.slice none 0 0))
  go_enter Try.func17, Try.ntmps17
  go_wp2_with (first | (go_at_call 54; refine (HX.out _ H3.out.bw).mono ?_; rintro e w1 ⟨⟨g, rfl, hg, hrow⟩, hb1⟩; have h3 := H3.out.call hb1; refine Hid.out ?_) | fail)
  have hgl : w.heap.size + 1 + 1 < g := Nat.lt_of_lt_of_le H3.out.two.lt hg
  have hgw := hrow.lt
  have hw2 : w.heap.size + 1 + 1 < w1.heap.size := by omega
  have hw1 : w.heap.size + 1 < w1.heap.size := by omega
  have HBw := Lib.hid h3.bw
  obtain ⟨⟨_, r0, r1, e1⟩, ⟨_, o0, o1, f1⟩, _⟩ := h3
  have HR := Lib.hid hrow
  clear hb1 hrow HX hg H3
  refine Lib.hid ?_
  go_wp2_with fail
  refine bodyPost_ret (v := .agg #[.int .i64 fee, .slice (some ⟨g, 0, none⟩) bs.length bs.length]) (by simp [results, Try.results17, go_sem, r0, r1]) rfl ⟨⟨g, rfl, by omega, ?_⟩, ?_⟩
  · exact crow_set (crow_set (crow_set HR.out _ _ (by omega)) _ _ (by omega)) _ _ (by omega)
  · exact ((HBw.out.setCell (p := ⟨w.heap.size + 1 + 1, 1, none⟩) (by show w.heap.size ≤ w.heap.size + 1 + 1; omega) _).setCell (p := ⟨w.heap.size + 1, 0, none⟩) (by show w.heap.size ≤ w.heap.size + 1; omega) _).setCell (p := ⟨w.heap.size + 1, 1, none⟩) (by show w.heap.size ≤ w.heap.size + 1; omega) _
set_option maxHeartbeats 1000000 in
theorem eqtar_same (t : Ta) (A B : Option Addr) (c d : Nat) (w : World) (h : TAt w t A) (h2 : TAt w t B) :
    Calls Try.prog 19 #[tv t A c, tv t B d] w fun e w' => e = .returned (.bool true) ∧ Below w.heap.size w w' := by
  have HB := Lib.hid (two_below w (tb 29 t A c) (tb 29 t B d))
  have HX := Lib.hid (fun w' (hb : Below w.heap.size w w') => eqcps_same A B c d t.bs w' (h.x.kept hb (Nat.le_refl _)) (h2.x.kept hb (Nat.le_refl _)) h.xl)
  clear h h2
  go_enter Try.func19, Try.ntmps19
  go_wp2_with (first | (go_at_call 55; refine (HX.out _ HB.out).mono ?_; rintro e w2 ⟨rfl, hb2⟩; refine Hid.out ?_) | fail)
  have HB2 := HB.out.trans (hb2.mono HB.out.size)
  clear hb2 HB HX
  refine Lib.hid ?_
  go_wp2_with fail
  go_ret
  exact ⟨rfl, HB2⟩
theorem grown_new {w w' : World} {o : Obj} {g : Nat} (h : (w.alloc o).grownBy w' (some g)) : w.grownBy w' (some g) :=
  ⟨h.os, h.tape, h.output, by have := h.size; simp at this; omega, fun k hk hne => by
    rw [h.block k (by simp; omega) hne]
    exact (alloc_below w o).block k hk⟩
/-- Blocks that the call owns. -/
abbrev COwn (w : World) (B : Nat) (v : Value) (cs : List Bl) : Prop := w.ownsRow B 62 2 v cs.length (ccs cs)
theorem crow_cown {w : World} {g : Nat} {cs : List Bl} (h : CRow w g cs) (hn : cs.length ≤ 1048576) : COwn w g (.slice (some ⟨g, 0, none⟩) cs.length cs.length) cs := by
  obtain ⟨xs, hx, ho⟩ := crow_own h hn
  have hl := ho.1
  have e : xs = ccs cs := by
    refine List.ext_getElem? fun i => ?_
    by_cases hi : i < cs.length * 2
    · have h1 := ho.cellAt i hi
      have h2 := h.cell hi
      rw [← h1, h2]
      have hr : i % 2 = 0 ∨ i % 2 = 1 := by omega
      have hd : i = i / 2 * 2 + i % 2 := by omega
      have hg := ccs_get cs (i / 2) (by omega) (i % 2) (by omega)
      rw [← hd] at hg
      rw [hg]
      unfold ccell
      rcases hr with hr | hr
      · rw [if_pos hr, hr]; rfl
      · rw [if_neg (by omega), hr]; rfl
    · rw [List.getElem?_eq_none (by omega), List.getElem?_eq_none (by rw [ccs_len]; omega)]
  rw [e] at ho
  exact ho
theorem COwn.low {w : World} {B B' : Nat} {v : Value} {cs : List Bl} (h : COwn w B v cs) (hB : B' ≤ B := by omega) : COwn w B' v cs := own_lowC h hB
theorem COwn.on {A B : World} {base : Nat} {v : Value} {l : List Bl} (h : COwn A base v l) (hb : Below A.heap.size A B) : COwn B base v l := own_on h hb
theorem cown_lt {w : World} {B g n cap : Nat} {l : List Bl} (h : COwn w B (.slice (some ⟨g, 0, none⟩) n cap) l) : g < w.heap.size := (World.ownsRow.lt h g rfl).2
theorem COwn.far {w w' : World} {B g n cap x : Nat} {l : List Bl} (h : COwn w B (.slice (some ⟨g, 0, none⟩) n cap) l) (hb : w.grownBy w' (some x)) (hg : g ≠ x) : COwn w' B (.slice (some ⟨g, 0, none⟩) n cap) l :=
  World.ownsRow.kept h hb (by
    right; simp [Value.ownBlock]; omega)
theorem COwn.cat {w : World} {B cap : Nat} {A : Option Addr} {l : List Bl} (h : COwn w B (.slice A l.length cap) l) : CAt w A l := own_cat h
set_option maxHeartbeats 1000000 in
theorem marktar_i (B g c m : Nat) (mi : Int) (t : Ta) (w : World) (h : COwn w B (.slice (some ⟨g, 0, none⟩) t.bs.length c) t.bs)
    (hn : t.bs.length ≤ 1048576) (hm : m ≤ 1000000) (hmi : mi = (m : Int)) :
    Calls Try.prog 35 #[tv t (some ⟨g, 0, none⟩) c, .int .i64 mi] w fun e w' => e = .returned (.int .i64 (mi + (t.bs.length : Int) * 2)) ∧ MAt w' g m t.bs.length ∧ w.grownBy w' (some g) := by
  subst hmi
  have H := Lib.hid (fun w' (hb : Below w.heap.size w w') => markc_any B g c m t.bs.length (ccs t.bs) (ccs_len _) w' (COwn.on h hb) hn (by omega))
  have hg := cown_lt h
  clear h hn hm
  go_enter Try.func35, Try.ntmps35
  go_wp2_with (first | (go_at_call 70; refine (H.out _ (alloc_below _ _)).mono ?_; rintro e w1 ⟨rfl, ho1, hg1⟩; refine Hid.out ?_) | fail)
  have HM := Lib.hid (own_marks ho1)
  have HG1 := Lib.hid (grown_new hg1)
  clear hg1 H ho1
  refine Lib.hid ?_
  go_wp2_with fail
  go_ret
  exact ⟨rfl, HM.out, HG1.out⟩
theorem MAt.far {w w' : World} {g m n x : Nat} (h : MAt w g m n) (hg : w.grownBy w' (some x)) (hne : g ≠ x) : MAt w' g m n :=
  ⟨Nat.lt_of_lt_of_le h.1 hg.size, fun j hj => (hg.cell_far ⟨g, j, none⟩ h.1 (by simpa using hne)).trans (h.2 j hj)⟩
set_option maxHeartbeats 1000000 in
theorem heldtar_i (g c m : Nat) (mi : Int) (t : Ta) (w : World) (h : MAt w g m t.bs.length) (hn : t.bs.length ≤ 1048576) (hm : m ≤ 1000000) (hmi : mi = (m : Int)) :
    Calls Try.prog 40 #[tv t (some ⟨g, 0, none⟩) c, .int .i64 mi] w fun e w' => e = .returned (.int .i64 (mi + (t.bs.length : Int) * 2)) ∧ Below w.heap.size w w' := by
  subst hmi
  have H := Lib.hid (fun w' (hb : Below w.heap.size w w') => heldc_any g c m t.bs.length w' (h.kept hb) hn (by omega))
  have hnn : ¬ ((m : Int) + (t.bs.length : Int) * 2 < 0) := by omega
  have HB0 := Lib.hid (alloc_below w (tb 29 t (some ⟨g, 0, none⟩) c))
  clear h hn hm
  generalize (m : Int) + (t.bs.length : Int) * 2 = z at *
  go_enter Try.func40, Try.ntmps40
  go_wp2_with (first | (go_at_call 73; refine (H.out _ HB0.out).mono ?_; rintro e w1 ⟨rfl, hb1⟩; refine Hid.out ?_) | fail)
  have hB1 := HB0.out.trans (hb1.mono HB0.out.size)
  refine Lib.hid ?_
  go_wp2_with fail
  go_ret
  exact ⟨rfl, hB1⟩

/-! ### A law's argument, opened -/
section
variable {H : Type} {enc : TypeId × Value → H} {w : World}
theorem blocksOne : Try.prog.cellsOf 22 = 1 := by kernel_rfl
set_option maxRecDepth 100000 in
theorem ta_open {r : Reach} {b0 : Nat} {v : Value} {d : DataW H} {q : List MemPlace} (hv : Value.okWide Try.prog w r b0 24 v) (h : DataW.Trod enc Try.prog w 0 (fun _ => true) true 24 v d q) :
    ∃ (t : Ta) (A : Option Addr) (c : Nat), v = tv t A c ∧ CAt w A t.bs ∧ t.bs.length ≤ maxLen := by
  obtain ⟨v0, v1, y0, y1, n, rfl, _, _, h0, h1⟩ := open_agg2 Try.underlying24 (by kernel_rfl) (by kernel_rfl) hv h
  obtain ⟨k, e0, _⟩ := DataW.trod_int Try.underlying3 h0
  injection e0 with e0
  obtain ⟨A, c, bs, e1, hx, hl⟩ := cps_open h1
  exact ⟨⟨k, bs⟩, A, c, by rw [e0, e1], hx, hl⟩
end
end Go.Proofs.Ytidlpoambmeiiaa.S14
