/- How the laws on tanks draw their arguments: contracts. Conditions: each theorem's own premises. -/
import Derived.Test.YtikppgbipdflbaaDoorTkDK
namespace Go.Proofs.YtikppgbipdflbaaDoor.S11
open Go.RowKit Go.Sort P11

/-- A draw under way: the cursor g, the result's box. -/
structure DS (w wr : World) (g : Nat) (a : Option Addr) (n cap K : Nat) : Prop where
  st : S1.St g g a n cap K wr
  rb : BT wr w.heap.size 0 0 0
  rf : FZ wr w.heap.size
  bw : Below w.heap.size w wr
  gw : w.heap.size < g
theorem DS.alloc {w wr : World} {g : Nat} {a : Option Addr} {n cap K : Nat} (h : DS w wr g a n cap K) (ob : Obj) : DS w (wr.alloc ob) g a n cap K :=
  ⟨S1.st_new h.st _, h.rb.kept (alloc_below _ _), h.rf.kept (alloc_below _ _) h.rb.1, h.bw.trans ((alloc_below _ _).mono h.bw.size), h.gw⟩
theorem DS.call {w wr w2 : World} {g : Nat} {a : Option Addr} {n cap K K' : Nat} (h : DS w wr g a n cap K) (hs : S1.St g g a n cap K' w2) (hg : wr.grownBy w2 (some g)) : DS w w2 g a n cap K' := by
  have h1 := h.gw
  exact ⟨hs, h.rb.far hg (by omega), h.rf.grown hg h.rb.1 (by omega), h.bw.trans (S1.grown_below hg (by omega) h.bw.size), h1⟩
theorem DS.lt {w wr : World} {g : Nat} {a : Option Addr} {n cap K : Nat} (h : DS w wr g a n cap K) : g < wr.heap.size := by
  obtain ⟨k, sd, hk, hh⟩ := h.st.cur
  exact (Array.getElem?_eq_some_iff.1 hh).1
theorem DS.start {a : Option Addr} {n : Nat} (cap : Nat) {w : World} (h : S1.Cd w.heap.size a n w) (hn : n ≤ 65536) : DS w ((w.alloc (tb 27 0 0 0)).alloc (.cells #[.slice a n cap, .int .i64 0, .int .u64 0] 64)) (w.heap.size + 1) a n cap 0 := by
  have hz : (w.alloc (tb 27 0 0 0)).heap.size = w.heap.size + 1 := by simp
  have hs := S1.st_start cap (h.later (alloc_below w (tb 27 0 0 0)) (Nat.le_refl _)) hn
  rw [hz] at hs
  exact ⟨hs, (BT.new w _ _ _ _).kept (alloc_below _ _), (FZ.new w _ _).kept (alloc_below _ _) (by simp), two_below _ _ _, by omega⟩
/-- What drawn arguments are. -/
def DaPost (w : World) (e : Ending) (w' : World) : Prop :=
  ∃ (L x y : Int) (q1 c1 : Nat) (l1 : List Int) (q2 c2 : Nat) (l2 : List Int), e = .returned (.tuple #[tv L x y, .slice (some ⟨q1, 0, none⟩) l1.length c1, .slice (some ⟨q2, 0, none⟩) l2.length c2]) ∧ l1.length ≤ 14 ∧ l2.length ≤ 14 ∧ w.heap.size ≤ q1 ∧ w.heap.size ≤ q2 ∧ IAt w' (some ⟨q1, 0, none⟩) l1 ∧ IAt w' (some ⟨q2, 0, none⟩) l2 ∧ Below w.heap.size w w'
theorem iat_gr {w w' : World} {q x : Nat} {l : List Int} (h : IAt w (some ⟨q, 0, none⟩) l) (hg : w.grownBy w' (some x)) (hne : l = [] ∨ q ≠ x) : IAt w' (some ⟨q, 0, none⟩) l := by
  rcases hne with h0 | h0
  · exact .inl h0
  · exact h.far hg h0
theorem iat_put {w : World} {q R : Nat} {l : List Int} {u v t : Value} (h : IAt w (some ⟨q, 0, none⟩) l) (hne : q ≠ R) : IAt (((w.setCell ⟨R, 0, none⟩ u).setCell ⟨R, 1, none⟩ v).setCell ⟨R, 2, none⟩ t) (some ⟨q, 0, none⟩) l :=
  ((h.far (grown_set (grown_refl _ _) 0 u) hne).far (grown_set (grown_refl _ _) 1 v) hne).far (grown_set (grown_refl _ _) 2 t) hne
theorem met_at {P : Program} {f : FuncId} {args : Array Value} {w : World} {d : Nat} {os : Array Obj} {v : Value}
    (h : ∀ w', Below w.heap.size w w' → Calls P f args w' fun e w'' => e = .returned v ∧ Below w'.heap.size w' w'') : Calls P f args (grow (redrawn w d) os) fun e w'' => e = .returned v ∧ ∃ p : Regrown, w'' = grow (redrawn w p.d) p.os :=
  Calls.regrown_of (h _ (below_regrown w d os))
set_option maxHeartbeats 4000000 in
set_option maxRecDepth 100000 in
theorem drun_any (a : Option Addr) (n cap : Nat) (w : World) (hc : S1.Cd w.heap.size a n w) (hn : n ≤ 65536) :
    Calls Tryd.prog 15 #[.slice a n cap] w (DaPost w) := by
  have HD0 := Lib.hid (DS.start cap hc hn)
  obtain ⟨W0, hW0⟩ : ∃ W0, W0 = (w.alloc (tb 27 0 0 0)).alloc (.cells #[.slice a n cap, .int .i64 0, .int .u64 0] 64) := ⟨_, rfl⟩
  rw [← hW0] at HD0
  have HW0 := Lib.hid hW0
  obtain ⟨g, hg0⟩ : ∃ g, g = w.heap.size + 1 := ⟨_, rfl⟩
  have HGG := Lib.hid hg0
  rw [← hg0] at HD0
  have hgl0 := HD0.out.lt
  have hgw := HD0.out.gw
  clear hc hW0 hg0
  go_enter Tryd.func15, Tryd.ntmps15
  go_wp2_with (first | (go_at_call 41; rw [← HW0.out, ← HGG.out]; refine (tank_draw g g a n cap 0 _ (by omega) HD0.out.st hgl0).mono ?_; rintro e w1 ⟨⟨L, x, y, rfl⟩, hs, hg⟩; refine Hid.out ?_) | fail)
  have HD1 := Lib.hid ((HD0.out.call hs hg).alloc (tb 27 L x y))
  have HT1 := Lib.hid (BT.new w1 27 L x y)
  have hz1 := hg.size
  obtain ⟨W1, hW1⟩ : ∃ W1, W1 = w1.alloc (tb 27 L x y) := ⟨_, rfl⟩
  rw [← hW1] at HD1 HT1
  have HW1 := Lib.hid hW1
  have hgl1 := HD1.out.lt
  clear hs hg HD0 hW1
  refine Lib.hid ?_
  go_wp2_with (first | (go_at_call 42; rw [← HW1.out]; refine (day_draw g g a n cap (0 + 20) _ (by omega) HD1.out.st hgl1).mono ?_; rintro e w2 ⟨q1, c1, l1, q2, c2, l2, rfl, hl1, hl2, hq1, hq2, ha1, ha2, hs, hg⟩; refine Hid.out ?_) | fail)
  have HD2 := Lib.hid (HD1.out.call hs hg)
  have HT2 := Lib.hid (HT1.out.far hg (by omega))
  have HA := Lib.hid ha1
  have HB := Lib.hid ha2
  have hwz := HD1.out.rb.1
  clear hs hg ha1 ha2 HD1 HT1 HW1
  obtain ⟨_, c0', c1', c2'⟩ := HT2.out
  obtain ⟨_, d0, d1, d2⟩ := HD2.out.rb
  obtain ⟨f0, f1, f2⟩ := HD2.out.rf.out
  refine Lib.hid ?_
  go_wp2_with fail
  refine bodyPost_ret (v := .tuple #[tv L x y, .slice (some ⟨q1, 0, none⟩) l1.length c1, .slice (some ⟨q2, 0, none⟩) l2.length c2]) (by simp [results, Tryd.results15, go_sem, d0, d1, d2]) rfl ⟨L, x, y, q1, c1, l1, q2, c2, l2, rfl, hl1, hl2, by omega, by omega, iat_put HA.out (by omega), iat_put HB.out (by omega), put_below HD2.out.bw (Nat.le_refl _) _ _ _⟩
set_option maxHeartbeats 1000000 in
theorem dfm_any (a : Option Addr) (n cap : Nat) (w : World) (hc : S1.Cd w.heap.size a n w) (hn : n ≤ 65536) :
    Calls Tryd.prog 33 #[.slice a n cap] w (DaPost w) := by
  have HR := Lib.hid (drun_any a n cap _ (hc.later (alloc_below w (tb 27 0 0 0)) (Nat.le_refl _)) hn)
  have HT := Lib.hid (BT.new w 27 0 0 0)
  have HF := Lib.hid (FZ.new w #[.int .i64 0, .int .i64 0, .int .i64 0] 27)
  clear hc
  go_enter Tryd.func33, Tryd.ntmps33
  go_wp2_with (first | (go_at_call 15; refine HR.out.mono ?_; rintro e w2 ⟨L, x, y, q1, c1, l1, q2, c2, l2, rfl, hl1, hl2, hq1, hq2, ha1, ha2, hb⟩; refine Hid.out ?_) | fail)
  simp at hq1 hq2
  obtain ⟨_, d0, d1, d2⟩ := HT.out.kept hb
  obtain ⟨f0, f1, f2⟩ := (HF.out.kept hb (by simp)).out
  have HA := Lib.hid ha1
  have HB := Lib.hid ha2
  have HX := Lib.hid hb
  clear ha1 ha2 hb
  refine Lib.hid ?_
  go_wp2_with fail
  refine bodyPost_ret (v := .tuple #[tv L x y, .slice (some ⟨q1, 0, none⟩) l1.length c1, .slice (some ⟨q2, 0, none⟩) l2.length c2]) (by simp [results, Tryd.results33, go_sem, d0, d1, d2]) rfl ⟨L, x, y, q1, c1, l1, q2, c2, l2, rfl, hl1, hl2, by omega, by omega, iat_put HA.out (by omega), iat_put HB.out (by omega), put_below ((alloc_below w _).trans (HX.out.mono (by simp))) (Nat.le_refl _) _ _ _⟩
/-- The model's copy of a list. -/
theorem l1own_any (q cap : Nat) (l : List Int) (w : World) (h : IAt w (some ⟨q, 0, none⟩) l) (hl : l.length ≤ 14) :
    Calls Tryd.prog 61 #[.slice (some ⟨q, 0, none⟩) l.length cap] w fun e w' => ∃ g c, e = .returned (.slice (some ⟨g, 0, none⟩) l.length c) ∧ w.heap.size ≤ g ∧ IAt w' (some ⟨g, 0, none⟩) l ∧ Below w.heap.size w w' := by
  have hc : ∀ w', Below w.heap.size w w' → ∀ j u, (l.map iv)[j]? = some u → w'.cell? ((⟨q, 0, none⟩ : Addr).add j) = some u := fun w' hb j u hu => by
    rw [List.getElem?_map] at hu
    obtain ⟨y, hy, rfl⟩ := Option.map_eq_some_iff.1 hu
    have hj : j < l.length := (List.getElem?_eq_some_iff.1 hy).1
    obtain ⟨b', off', hA', hbl', hx⟩ := (h.kept hb (Nat.le_refl _)).at_ hj
    simp only [Option.some.injEq, Addr.mk.injEq, and_true] at hA'
    obtain ⟨rfl, rfl⟩ := hA'
    rw [add_plus, hx]
    simp [List.getD, hy]
  have HC := Lib.hid hc
  obtain ⟨i0, hi, hz0, hz1, hz2⟩ := info_parts infoI
  have HO0 := Lib.hid (show (w.alloc (.cells #[] 3)).ownsRow w.heap.size 3 1 (.slice (some ⟨w.heap.size, 0, none⟩) 0 0) 0 [] from own_empty w w.heap.size (Nat.le_refl _))
  clear h hc
  go_enter Tryd.func61, Tryd.ntmps61
  go_wp2_with (at_builtin; go_must (refine wpList_append_own _ rfl _ _ 24 rfl w.heap.size 3 i0 (.int .i64 0) 1 8 Tryd.underlying24 hi hz0 hz1 hz2 rfl (by decide) _ _ _ rfl HO0.out ⟨q, 0, none⟩ l.length cap (l.map iv) rfl (by simp) (HC.out _ ((Below.refl _ _).alloc (Nat.le_refl _) _)) (by intro u hu; obtain ⟨y, _, rfl⟩ := List.mem_map.1 hu; rfl) ?c3 ?c4 ?c5 ?_))
  case c3 => unfold maxLen; omega
  case c4 => omega
  case c5 => simp
  intro v' w3 hown' hgrow hnil
  have hne : v' ≠ .slice none 0 0 := fun e => by simp [e] at hnil
  have hO : IOwn w3 w.heap.size v' l := by unfold IOwn; simpa using hown'
  obtain ⟨g, cg, rfl, hgg⟩ := own_slice hO hne
  have hB3 := Lib.hid (((Below.refl w.heap.size w).alloc (Nat.le_refl _) (.cells #[] 3)).grown hgrow (by simp) (fun g hg => (HO0.out.lt g hg).1))
  have HO3 := Lib.hid hO.iat
  clear hown' hgrow hnil HO0 hO hne
  go_wp2_with fail
  go_ret
  exact ⟨g, cg, rfl, hgg, HO3.out, hB3.out⟩
set_option maxHeartbeats 4000000 in
set_option maxRecDepth 100000 in
theorem dcalm_any (a : Option Addr) (n cap : Nat) (w : World) (hc : S1.Cd w.heap.size a n w) (hn : n ≤ 65536) :
    Calls Tryd.prog 48 #[.slice a n cap] w (DaPost w) := by
  have HD0 := Lib.hid (DS.start cap hc hn)
  obtain ⟨W0, hW0⟩ : ∃ W0, W0 = (w.alloc (tb 27 0 0 0)).alloc (.cells #[.slice a n cap, .int .i64 0, .int .u64 0] 64) := ⟨_, rfl⟩
  rw [← hW0] at HD0
  have HW0 := Lib.hid hW0
  obtain ⟨g, hg0⟩ : ∃ g, g = w.heap.size + 1 := ⟨_, rfl⟩
  have HGG := Lib.hid hg0
  rw [← hg0] at HD0
  have hgl0 := HD0.out.lt
  have hgw := HD0.out.gw
  clear hc hW0 hg0
  go_enter Tryd.func48, Tryd.ntmps48
  go_wp2_with (first | (go_at_call 41; rw [← HW0.out, ← HGG.out]; refine (tank_draw g g a n cap 0 _ (by omega) HD0.out.st hgl0).mono ?_; rintro e w1 ⟨⟨L, x, y, rfl⟩, hs, hg⟩; refine Hid.out ?_) | fail)
  have HD1 := Lib.hid ((HD0.out.call hs hg).alloc (tb 27 L x y))
  have HT1 := Lib.hid (BT.new w1 27 L x y)
  have hz1 := hg.size
  obtain ⟨W1, hW1⟩ : ∃ W1, W1 = w1.alloc (tb 27 L x y) := ⟨_, rfl⟩
  rw [← hW1] at HD1 HT1
  have HW1 := Lib.hid hW1
  have hgl1 := HD1.out.lt
  have hW1z : W1.heap.size = w1.heap.size + 1 := by rw [hW1]; simp
  clear hs hg HD0 hW1
  refine Lib.hid ?_
  go_wp2_with (first | (go_at_call 42; rw [← HW1.out]; refine (day_draw g g a n cap (0 + 20) _ (by omega) HD1.out.st hgl1).mono ?_; rintro e w2 ⟨q1, c1, l1, q2, c2, l2, rfl, hl1, hl2, hq1, hq2, ha1, ha2, hs, hg⟩; refine Hid.out ?_) | fail)
  have HD2 := Lib.hid (HD1.out.call hs hg)
  have HT2 := Lib.hid (HT1.out.far hg (by omega))
  have HA := Lib.hid ha1
  have HB := Lib.hid ha2
  have hwz := HD1.out.rb.1
  clear hs hg ha1 ha2 HD1 HT1 HW1
  refine Lib.hid ?_
  go_wp2_with (first | (go_at_call 57; refine (S1.one_any g g a n cap (0 + 20 + 150) 2 _ (by omega) (by omega) (by omega) HD2.out.st).mono ?_; rintro e w3 ⟨b3, rfl, hs, hg⟩; refine Hid.out ?_) | fail)
  have HD3 := Lib.hid (HD2.out.call hs hg)
  have HT3 := Lib.hid (HT2.out.far hg (by omega))
  have HA3 := Lib.hid (HA.out.far hg (by omega))
  have HB3 := Lib.hid (HB.out.far hg (by omega))
  have hq1n : q1 ≠ w.heap.size := by omega
  have hq2n : q2 ≠ w.heap.size := by omega
  have hwn : w1.heap.size ≠ w.heap.size := by omega
  clear hs hg HA HB HD2 HT2
  cases b3 with
  | false =>
    obtain ⟨_, c0', c1', c2'⟩ := HT3.out
    obtain ⟨_, d0, d1, d2⟩ := HD3.out.rb
    obtain ⟨f0, f1, f2⟩ := HD3.out.rf.out
    refine Lib.hid ?_
    go_wp2_with fail
    refine bodyPost_ret (v := .tuple #[tv L x y, .slice (some ⟨q1, 0, none⟩) l1.length c1, .slice (some ⟨q2, 0, none⟩) l2.length c2]) (by simp [results, Tryd.results48, go_sem, d0, d1, d2]) rfl ⟨L, x, y, q1, c1, l1, q2, c2, l2, rfl, hl1, hl2, by omega, by omega, iat_put HA3.out hq1n, iat_put HB3.out hq2n, put_below HD3.out.bw (Nat.le_refl _) _ _ _⟩
  | true =>
    obtain ⟨ht1, c0', c1', c2'⟩ := HT3.out
    obtain ⟨hr1, d0, d1, d2⟩ := HD3.out.rb
    obtain ⟨f0, f1, f2⟩ := HD3.out.rf.out
    have p0 : w3.drew.cell? ⟨w1.heap.size, 0, none⟩ = some (.int .i64 L) := c0'
    have p1 : w3.drew.cell? ⟨w1.heap.size, 1, none⟩ = some (.int .i64 x) := c1'
    have p2 : w3.drew.cell? ⟨w1.heap.size, 2, none⟩ = some (.int .i64 y) := c2'
    have HTd := Lib.hid (show BT w3.drew w1.heap.size L x y from HT3.out)
    have HRd := Lib.hid (show BT w3.drew w.heap.size 0 0 0 from HD3.out.rb)
    have HFd := Lib.hid (show FZ w3.drew w.heap.size from HD3.out.rf)
    have HQ := Lib.hid (l1own_any q1 c1 l1 w3.drew (HA3.out.kept (Below.refl _ _).drew (Nat.le_refl _)) hl1)
    refine Lib.hid ?_
    go_upto_region 5 with (fail)
    go_region_with (go_at_call 61; refine HQ.out.mono ?_; rintro e w4 ⟨g4, c4, rfl, hg4, ha4, hb4⟩; obtain ⟨_, n0, n1, n2⟩ := HTd.out.kept hb4; obtain ⟨_, m0, m1, m2⟩ := HRd.out.kept hb4; obtain ⟨k0, k1, k2⟩ := (HFd.out.kept hb4 HRd.out.1).out; have HA4 := Lib.hid (HA3.out.kept (below_drew_trans hb4) (Nat.le_refl _)); have HB4 := Lib.hid ha4; have HX4 := Lib.hid (HD3.out.bw.trans ((below_drew_trans hb4).mono HD3.out.bw.size)); have hg4' := Lib.hid hg4; clear ha4 hb4 hg4)
    all_goals
      go_wp2_with fail
      have hg5 : w3.heap.size ≤ g4 := by have := hg4'.out; simpa using this
      refine bodyPost_ret (v := .tuple #[tv L x y, .slice (some ⟨q1, 0, none⟩) l1.length c1, .slice (some ⟨g4, 0, none⟩) l1.length c4]) (by simp [results, Tryd.results48, go_sem, m0, m1, m2]) rfl ⟨L, x, y, q1, c1, l1, g4, c4, l1, rfl, hl1, hl1, by omega, by omega, iat_put HA4.out hq1n, iat_put HB4.out (by omega), put_below HX4.out (Nat.le_refl _) _ _ _⟩
set_option maxHeartbeats 1000000 in
theorem dls_any (a : Option Addr) (n cap : Nat) (w : World) (hc : S1.Cd w.heap.size a n w) (hn : n ≤ 65536) :
    Calls Tryd.prog 28 #[.slice a n cap] w (DaPost w) := by
  have HR := Lib.hid (dcalm_any a n cap _ (hc.later (alloc_below w (tb 27 0 0 0)) (Nat.le_refl _)) hn)
  have HT := Lib.hid (BT.new w 27 0 0 0)
  have HF := Lib.hid (FZ.new w #[.int .i64 0, .int .i64 0, .int .i64 0] 27)
  clear hc
  go_enter Tryd.func28, Tryd.ntmps28
  go_wp2_with (first | (go_at_call 48; refine HR.out.mono ?_; rintro e w2 ⟨L, x, y, q1, c1, l1, q2, c2, l2, rfl, hl1, hl2, hq1, hq2, ha1, ha2, hb⟩; refine Hid.out ?_) | fail)
  simp at hq1 hq2
  obtain ⟨_, d0, d1, d2⟩ := HT.out.kept hb
  obtain ⟨f0, f1, f2⟩ := (HF.out.kept hb (by simp)).out
  have HA := Lib.hid ha1
  have HB := Lib.hid ha2
  have HX := Lib.hid hb
  clear ha1 ha2 hb
  refine Lib.hid ?_
  go_wp2_with fail
  refine bodyPost_ret (v := .tuple #[tv L x y, .slice (some ⟨q1, 0, none⟩) l1.length c1, .slice (some ⟨q2, 0, none⟩) l2.length c2]) (by simp [results, Tryd.results28, go_sem, d0, d1, d2]) rfl ⟨L, x, y, q1, c1, l1, q2, c2, l2, rfl, hl1, hl2, by omega, by omega, iat_put HA.out (by omega), iat_put HB.out (by omega), put_below ((alloc_below w _).trans (HX.out.mono (by simp))) (Nat.le_refl _) _ _ _⟩
set_option maxHeartbeats 4000000 in
set_option maxRecDepth 100000 in
theorem dstep_any (a : Option Addr) (n cap : Nat) (w : World) (hc : S1.Cd w.heap.size a n w) (hn : n ≤ 65536) :
    Calls Tryd.prog 25 #[.slice a n cap] w fun e w' => (∃ L x y p q : Int, e = .returned (.tuple #[tv L x y, .int .i64 p, .int .i64 q])) ∧ Below w.heap.size w w' := by
  have HD0 := Lib.hid (DS.start cap hc hn)
  obtain ⟨W0, hW0⟩ : ∃ W0, W0 = (w.alloc (tb 27 0 0 0)).alloc (.cells #[.slice a n cap, .int .i64 0, .int .u64 0] 64) := ⟨_, rfl⟩
  rw [← hW0] at HD0
  have HW0 := Lib.hid hW0
  obtain ⟨g, hg0⟩ : ∃ g, g = w.heap.size + 1 := ⟨_, rfl⟩
  have HGG := Lib.hid hg0
  rw [← hg0] at HD0
  have hgl0 := HD0.out.lt
  have hgw := HD0.out.gw
  clear hc hW0 hg0
  go_enter Tryd.func25, Tryd.ntmps25
  go_wp2_with (first | (go_at_call 41; rw [← HW0.out, ← HGG.out]; refine (tank_draw g g a n cap 0 _ (by omega) HD0.out.st hgl0).mono ?_; rintro e w1 ⟨⟨L, x, y, rfl⟩, hs, hg⟩; refine Hid.out ?_) | fail)
  have HD1 := Lib.hid (HD0.out.call hs hg)
  have hz1 := HD1.out.lt
  clear hs hg HD0
  refine Lib.hid ?_
  go_wp2_with (first | (go_at_call 45; refine (S1.among_any g g a n cap (0 + 20) w1.heap.size 7 7 [0, 3, 10, 30, 100, 101, -1] _ rfl (by omega) (by simp) (by simp) (S1.st_new HD1.out.st _) (fun j hj => S1.ti_new w1 [0, 3, 10, 30, 100, 101, -1] 3 j hj) (by omega)).mono ?_; rintro e w2 ⟨⟨z2, rfl⟩, hs, hg⟩; refine Hid.out ?_) | fail)
  have HD2 := Lib.hid ((HD1.out.alloc _).call hs hg)
  have hz2 := HD2.out.lt
  clear hs hg HD1
  refine Lib.hid ?_
  go_wp2_with (first | (go_at_call 45; refine (S1.among_any g g a n cap (0 + 20 + 2) w2.heap.size 7 7 [0, 3, 10, 30, 100, 101, -1] _ rfl (by omega) (by simp) (by simp) (S1.st_new HD2.out.st _) (fun j hj => S1.ti_new w2 [0, 3, 10, 30, 100, 101, -1] 3 j hj) (by omega)).mono ?_; rintro e w3 ⟨⟨z3, rfl⟩, hs, hg⟩; refine Hid.out ?_) | fail)
  have HD3 := Lib.hid ((HD2.out.alloc _).call hs hg)
  clear hs hg HD2
  obtain ⟨_, d0, d1, d2⟩ := HD3.out.rb
  obtain ⟨f0, f1, f2⟩ := HD3.out.rf.out
  refine Lib.hid ?_
  go_wp2_with fail
  refine bodyPost_ret (v := .tuple #[tv L x y, .int .i64 z2, .int .i64 z3]) (by simp [results, Tryd.results25, go_sem, d0, d1, d2]) rfl ⟨⟨_, _, _, _, _, rfl⟩, put_below HD3.out.bw (Nat.le_refl _) _ _ _⟩
end Go.Proofs.YtikppgbipdflbaaDoor.S11
