/- SpanningTree of the program: contracts. Conditions: each theorem's own premises. -/
import Derived.Test.YtjfpimldiokpbabSpPl
import Derived.Test.YtjfpimldiokpbabWoA
import Derived.Test.YtjfpimldiokpbabTrS
import Derived.Test.YtjfpimldiokpbabAmB
import Derived.Test.YtjfpimldiokpbabNetKit
namespace Go.Proofs.Ytjfpimldiokpbab.S2
open Go.RowKit P2

theorem cells_new4 (w : World) (a b c d : Value) : ∀ j u, [a, b, c, d][j]? = some u → (w.alloc (.cells #[a, b, c, d] 53)).cell? ((⟨w.heap.size, 0, none⟩ : Addr).add j) = some u := by
  intro j u hu
  match j, hu with
  | 0, hu => rw [add_plus, World.cell?_alloc_at _ _ _ _ rfl]; simpa using hu
  | 1, hu => rw [add_plus, World.cell?_alloc_at _ _ _ _ rfl]; simpa using hu
  | 2, hu => rw [add_plus, World.cell?_alloc_at _ _ _ _ rfl]; simpa using hu
  | 3, hu => rw [add_plus, World.cell?_alloc_at _ _ _ _ rfl]; simpa using hu
  | j + 4, hu => simp at hu
/-- A network in a box of its own. -/
def TB (w : World) (T : Nat) (x v : Value) : Prop := w.heap[T]? = some (.cells #[x, v] 26 (0, 0))
theorem TB.lt {w : World} {T : Nat} {x v : Value} (h : TB w T x v) : T < w.heap.size := (Array.getElem?_eq_some_iff.1 h).1
theorem TB.cell {w : World} {T : Nat} {x v : Value} (h : TB w T x v) : w.cell? ⟨T, 0, none⟩ = some x ∧ w.cell? ⟨T, 1, none⟩ = some v := by
  rw [cell_of_row w T 0 _ 26 (0, 0) h, cell_of_row w T 1 _ 26 (0, 0) h]
  exact ⟨rfl, rfl⟩
theorem TB.frozen {w : World} {T : Nat} {x v : Value} (h : TB w T x v) (o : Nat) : w.frozen? ⟨T, o, none⟩ = false := by
  unfold TB at h
  simp [World.frozen?, h]
theorem TB.set1 {w : World} {T : Nat} {x v : Value} (h : TB w T x v) (u : Value) : TB (w.setCell ⟨T, 1, none⟩ u) T x u := by
  unfold TB at h ⊢
  simp [World.setCell, Array.getElem?_modify, h]
theorem TB.kept {w w' : World} {T : Nat} {x v : Value} (h : TB w T x v) (hb : w'.heap[T]? = w.heap[T]?) : TB w' T x v := hb.trans h
theorem TB.below {w w' : World} {T : Nat} {x v : Value} (h : TB w T x v) (hb : Below w.heap.size w w') : TB w' T x v := h.kept (hb.block T h.lt)
theorem TB.other {w : World} {T : Nat} {x v : Value} (h : TB w T x v) {p : Addr} (u : Value) (hp : T ≠ p.block) : TB (w.setCell p u) T x v := h.kept (Below.heap_setCell _ _ _ _ (by intro e; exact hp (by rw [e])))
theorem TB.grown {w w' : World} {T g : Nat} {x v : Value} (h : TB w T x v) (hg : w.grownBy w' (some g)) (hne : T ≠ g) : TB w' T x v := h.kept (hg.block T h.lt (by simp; exact hne))
theorem TB.made (w : World) (x v : Value) : TB (w.alloc (.cells #[x, v] 26)) w.heap.size x v := by
  unfold TB
  simpa using (MapKept.heap_alloc w (.cells #[x, v] 26)).1

set_option maxHeartbeats 1000000 in
theorem isp_bad (n : Int) (A : Option Addr) (cap : Nat) (ps : List Pp) (w : World) (h : PAt w A ps) (hm : ps.length ≤ maxLen) (hv : goodB n ps = false) :
    Calls Try.prog 16 #[nv n A ps.length cap] w (GivesN0 w 0 false) := by
  have HW0 := Lib.hid (show Below w.heap.size w ((w.alloc (nb n A ps.length cap)).alloc (nb 0 none 0 0)) from ((Below.refl _ _).alloc (Nat.le_refl _) _).alloc (by simp) _)
  have H := Lib.hid (fun w' (hb : Below w.heap.size w w') => valid_v hv A cap w' (h.kept hb (Nat.le_refl _)) hm)
  clear h hv
  go_enter Try.func16, Try.ntmps16
  go_wp2_with (first | (go_at_call 78; refine (H.out _ HW0.out).mono ?_; rintro e w1 ⟨rfl, hb1⟩; obtain ⟨hc1, hf1⟩ := bcell hb1; have hz1 := hb1.size; simp at hz1; have hq0 : w.heap.size < w1.heap.size := (by omega); have hq1 : w.heap.size + 1 < w1.heap.size := (by omega)) | fail)
  have hB := HW0.out.trans (hb1.mono HW0.out.size)
  exact bodyPost_ret (v := .tuple #[nv 0 none 0 0, .bool false]) (by simp [results, Try.results16, go_sem, hc1]) rfl ⟨rfl, (hB.setCell (p := ⟨w.heap.size + 1, 0, none⟩) (by show w.heap.size ≤ w.heap.size + 1; omega) _).setCell (p := ⟨w.heap.size + 1, 1, none⟩) (by show w.heap.size ≤ w.heap.size + 1; omega) _⟩

/-- What the loop keeps behind k pipes. -/
def SpR (ps : List Pp) (w wr : World) (N T k : Nat) (A2 : Option Addr) (c : Nat) : Prop :=
  TB wr (w.heap.size + 1) (.int .i64 0) (.slice none 0 0) ∧ TB wr T (.int .i64 N) (.slice A2 (spT ps k).length c) ∧ wr.ownsRow (T + 1) 53 4 (.slice A2 (spT ps k).length c) (spT ps k).length (pcs (spT ps k)) ∧ (spT ps k = [] → A2 = none ∧ c = 0)

set_option maxHeartbeats 4000000 in
set_option maxRecDepth 100000 in
theorem isp_yes (N : Nat) (A : Option Addr) (cap : Nat) (ps : List Pp) (w : World) (h : PAt w A ps) (hm : ps.length ≤ maxLen) (hv : goodB N ps = true) :
    Calls Try.prog 16 #[nv N A ps.length cap] w fun e w' =>
      (treeB N (spL ps) = true ∧ (∃ A2 c B, e = .returned (.tuple #[nv N A2 (spL ps).length c, .bool true]) ∧ w'.ownsRow B 53 4 (.slice A2 (spL ps).length c) (spL ps).length (pcs (spL ps)) ∧ w.heap.size ≤ B ∧ (spL ps = [] → A2 = none ∧ c = 0)) ∧ Below w.heap.size w w') ∨
      (treeB N (spL ps) = false ∧ GivesN0 w 0 false e w') := by
  have hg := good_of hv
  have hN : N ≤ 8 := by have := hg.2.1; omega
  have hl10 := hg.2.2.1
  have HW0 := Lib.hid (show Below w.heap.size w ((w.alloc (nb N A ps.length cap)).alloc (nb 0 none 0 0)) from ((Below.refl _ _).alloc (Nat.le_refl _) _).alloc (by simp) _)
  have HR0 := Lib.hid (show TB ((w.alloc (nb N A ps.length cap)).alloc (nb 0 none 0 0)) (w.heap.size + 1) (.int .i64 0) (.slice none 0 0) from by
    have := TB.made (w.alloc (nb N A ps.length cap)) (.int .i64 0) (.slice none 0 0)
    simpa using this)
  have HB3 := Lib.hid (fun w1 (hb : Below ((w.alloc (nb N A ps.length cap)).alloc (nb 0 none 0 0)).heap.size ((w.alloc (nb N A ps.length cap)).alloc (nb 0 none 0 0)) w1) => (show Below (w.heap.size + 1) (w.alloc (nb N A ps.length cap)) w1 from ((Below.refl _ _).alloc (by simp) _).trans (hb.mono (by simp))))
  have H := Lib.hid (fun w' (hb : Below w.heap.size w w') => valid_v hv A cap w' (h.kept hb (Nat.le_refl _)) hm)
  have HA := Lib.hid h
  have HG := Lib.hid hg
  have HDI := Lib.hid (fun (k t : Nat) (hk : k ≤ ps.length) A2 c2 w' (h2 : PAt w' A2 (spT ps k)) h3 h4 => dist_any N t A2 c2 (spT ps k) w' h2 (spT_good hg k hk) h3 h4)
  have HTR := Lib.hid (fun v (hv : treeB N (spL ps) = v) A2 c2 w' (h2 : PAt w' A2 (spL ps)) => istree_v hv A2 c2 w' h2 (spT_good hg ps.length (Nat.le_refl _)))
  obtain ⟨i0, hi0, hz0, hz1, hz2⟩ := info_parts infoP
  clear h hv hg hm
  go_enter Try.func16, Try.ntmps16
  go_wp2_with (first | (go_at_call 78; refine (H.out _ HW0.out).mono ?_; rintro e w1 ⟨rfl, hb1⟩; have HB1 := Lib.hid (HB3.out _ hb1); have hR0 := Lib.hid (HR0.out.below hb1); clear HR0 hb1; obtain ⟨b0, b1⟩ := box2 HB1.out; have hz3 := box_lt HB1.out; have hlt1 := hR0.out.lt) | fail)
  have HB4 := Lib.hid (HB1.out.alloc (by omega) (nb N none 0 0))
  have HS0 := Lib.hid (show SpR ps w (w1.alloc (nb N none 0 0)) N w1.heap.size 0 none 0 from ⟨hR0.out.below ((Below.refl _ _).alloc (Nat.le_refl _) _), TB.made w1 _ _, World.ownsRow_nil _ _ _ _, fun _ => ⟨rfl, rfl⟩⟩)
  have hTw : w.heap.size + 1 < w1.heap.size := hlt1
  clear H HW0 HB3 hR0 HB1 b0 b1 hz3 hlt1
  generalize w1.heap.size = T at *
  go_loopw [17] (fun i wr => ∃ (k : Nat) (A2 : Option Addr) (c : Nat), k ≤ ps.length ∧ i = .int .i64 (k : Int) ∧ Hid (SpR ps w wr N T k A2 c) ∧ Hid (Below (w.heap.size + 1) (w.alloc (nb N A ps.length cap)) wr)) (fun i _ => ps.length - (intOf i).toNat)
  case atStart => exact ⟨0, none, 0, Nat.zero_le _, rfl, HS0, HB4⟩
  case round =>
    clear HS0 HB4
    obtain ⟨k, A2, c, hk, rfl, HS, HB⟩ := hrel
    obtain ⟨b0, b1⟩ := box2 HB.out
    have hz := box_lt HB.out
    obtain ⟨t0, t1⟩ := HS.out.2.1.cell
    have htl := HS.out.2.1.lt
    have hsl := spT_len ps k hk
    by_cases hlt : k < ps.length
    · obtain ⟨b, off, hA, hbl, h0, h1, h2, h3⟩ := HA.out.at_ hlt
      subst hA
      have hbc : ∀ o, wr.cell? ⟨b, o, none⟩ = w.cell? ⟨b, o, none⟩ := fun o => (below_box HB.out).cell (p := ⟨b, o, none⟩) hbl
      have p0 := (hbc _).trans h0
      have p1 := (hbc _).trans h1
      have p2 := (hbc _).trans h2
      have p3 := (hbc _).trans h3
      have hmem : pAt ps k ∈ ps := by
        have e : pAt ps k = ps[k] := by simp [pAt, List.getD, hlt]
        rw [e]; exact List.getElem_mem hlt
      have hok := good_pp HG.out hmem
      have HY := Lib.hid (spT_same (ps := ps) (k := k))
      have HNo := Lib.hid (spT_more (ps := ps) (k := k))
      have hk0i : (0 : Int) ≤ (k : Int) := by omega
      have hk1i : (k : Int) < (ps.length : Int) := by omega
      unfold PpOk at hok
      clear hbc h0 h1 h2 h3 hmem
      generalize pAt ps k = p at *
      obtain ⟨pid, pfr, pto, psz⟩ := p
      simp only at hok p0 p1 p2 p3
      obtain ⟨fr, rfl⟩ : ∃ f : Nat, pfr = f := ⟨pfr.toNat, by omega⟩
      obtain ⟨tt, rfl⟩ : ∃ f : Nat, pto = f := ⟨pto.toNat, by omega⟩
      have hf1 : 1 ≤ fr := by omega
      have hf2 : fr ≤ N := by omega
      have ht0 : (0 : Int) ≤ (tt : Int) := by omega
      have htN : (tt : Int) < (N : Int) + 1 := by omega
      obtain ⟨x, hx⟩ : ∃ x, dist (spT ps k) (fr : Int) (tt : Int) = x := ⟨_, rfl⟩
      have HX := Lib.hid (show dA (distL N (spT ps k) fr) tt = x by rw [distL_at N _ fr tt (by omega) (by omega)]; exact hx)
      have HXC := Lib.hid (show x ≠ -1 ↔ Conn (spT ps k) (fr : Int) (tt : Int) from by rw [← hx, dist_conn]; exact ⟨Conn.sy, Conn.sy⟩)
      have HLL := Lib.hid (distL_len N (spT ps k) fr)
      clear hok hx
      have hqa := (Below.refl wr.heap.size wr).alloc (Nat.le_refl _) (.cells #[.int .i64 pid, .int .i64 (fr : Int), .int .i64 (tt : Int), .int .i64 psz] 53)
      have HBq := Lib.hid (on_call HB.out hqa)
      have HSq := Lib.hid (show SpR ps w _ N T k A2 c from ⟨HS.out.1.below hqa, HS.out.2.1.below hqa, own_onP HS.out.2.2.1 hqa, HS.out.2.2.2⟩)
      have u0 := (hqa.cell (p := ⟨T, 0, none⟩) htl).trans t0
      have u1 := (hqa.cell (p := ⟨T, 1, none⟩) htl).trans t1
      have r0 : (wr.alloc (.cells #[.int .i64 pid, .int .i64 (fr : Int), .int .i64 (tt : Int), .int .i64 psz] 53)).cell? ⟨wr.heap.size, 0, none⟩ = some (.int .i64 pid) := by rw [World.cell?_alloc_at _ _ _ _ rfl]; rfl
      have r1 : (wr.alloc (.cells #[.int .i64 pid, .int .i64 (fr : Int), .int .i64 (tt : Int), .int .i64 psz] 53)).cell? ⟨wr.heap.size, 1, none⟩ = some (.int .i64 (fr : Int)) := by rw [World.cell?_alloc_at _ _ _ _ rfl]; rfl
      have r2 : (wr.alloc (.cells #[.int .i64 pid, .int .i64 (fr : Int), .int .i64 (tt : Int), .int .i64 psz] 53)).cell? ⟨wr.heap.size, 2, none⟩ = some (.int .i64 (tt : Int)) := by rw [World.cell?_alloc_at _ _ _ _ rfl]; rfl
      have r3 : (wr.alloc (.cells #[.int .i64 pid, .int .i64 (fr : Int), .int .i64 (tt : Int), .int .i64 psz] 53)).cell? ⟨wr.heap.size, 3, none⟩ = some (.int .i64 psz) := by rw [World.cell?_alloc_at _ _ _ _ rfl]; rfl
      have hzq : wr.heap.size < (wr.alloc (.cells #[.int .i64 pid, .int .i64 (fr : Int), .int .i64 (tt : Int), .int .i64 psz] 53)).heap.size := by simp
      go_wp2
      generalize wr.alloc (.cells #[.int .i64 pid, .int .i64 (fr : Int), .int .i64 (tt : Int), .int .i64 psz] 53) = wq at *
      obtain ⟨Q, hQ⟩ : ∃ Q, wr.heap.size = Q := ⟨_, rfl⟩
      have hTq : T < wq.heap.size := by omega
      have hQT : T ≠ Q := by omega
      rw [hQ] at r0 r1 r2 r3 hzq
      simp only [hQ]
      clear HB HS hqa t0 t1 p0 p1 p2 p3 b0 b1 hbl hQ htl hz
      refine wp_region_held_drew (S := fun w' => w'.cell? ⟨T, 0, none⟩ = some (.int .i64 N) ∧ w'.cell? ⟨T, 1, none⟩ = some (.slice A2 (spT ps k).length c) ∧ w'.cell? ⟨Q, 0, none⟩ = some (.int .i64 pid) ∧ w'.cell? ⟨Q, 1, none⟩ = some (.int .i64 (fr : Int)) ∧ w'.cell? ⟨Q, 2, none⟩ = some (.int .i64 (tt : Int)) ∧ w'.cell? ⟨Q, 3, none⟩ = some (.int .i64 psz)) (by kernel_rfl) (by go_keep) (fun hHeld => ?_)
      refine wpAnyH_take (i := 0) (v := .agg #[.int .i64 N, .slice A2 (spT ps k).length c]) rfl (by kernel_rfl) (by kernel_rfl) (by kernel_rfl) (fun _ _ _ h => h) (Or.inl ⟨by rfl, ?_⟩) (by assumption) ?_
      · (intro w hSw; (try dsimp only at hSw); go_simp)
      simp only [Act.put, List.setIfInBounds_toArray]
      refine wpAnyH_take (i := 1) (v := .pointer (some ⟨Q, 1, none⟩)) rfl (by kernel_rfl) (by kernel_rfl) (by kernel_rfl) (fun _ _ _ h => h) (Or.inl ⟨by rfl, ?_⟩) (by assumption) ?_
      · (intro w hSw; (try dsimp only at hSw); go_simp)
      simp only [Act.put]
      refine wpAnyH_take (i := 2) (v := .int .i64 (fr : Int)) rfl (by kernel_rfl) (by kernel_rfl) (by kernel_rfl) (fun _ _ _ h => h) (Or.inl ⟨by rfl, ?_⟩) (by assumption) ?_
      · (intro w hSw; (try dsimp only at hSw); go_simp)
      simp only [Act.put]
      refine wpAnyH_take (i := 4) (v := .pointer (some ⟨Q, 2, none⟩)) rfl (by kernel_rfl) (by kernel_rfl) (by kernel_rfl) (fun _ _ _ h => h) (Or.inl ⟨by rfl, ?_⟩) (by assumption) ?_
      · (intro w hSw; (try dsimp only at hSw); go_simp)
      simp only [Act.put]
      refine wpAnyH_take (i := 5) (v := .int .i64 (tt : Int)) rfl (by kernel_rfl) (by kernel_rfl) (by kernel_rfl) (fun _ _ _ h => h) (Or.inl ⟨by rfl, ?_⟩) (by assumption) ?_
      · (intro w hSw; (try dsimp only at hSw); go_simp)
      simp only [Act.put]
      refine wpAnyH_ready (rs := [3]) (by kernel_rfl) (by simp) ?_
      refine AllReadyH.cons rfl (fun K hK => ?_) AllReadyH.nil
      go_simp
      go_at_call 79
      refine (HDI.out k fr hk _ _ _ (own_patP (own_onP HSq.out.2.2.1 (Below.refl _ _).drew)) hf1 hf2).mono ?_
      rintro e w5 ⟨⟨gD, D, rfl, hgD, hdr, hDe⟩, hbx⟩
      have cx := hdr.cell (v := tt) (by rw [hDe, HLL.out]; omega)
      rw [hDe, HX.out] at cx
      refine hK.out _ _ (by (rcases hHeld with ⟨q0, q1, q2, q3, q4, q5⟩; exact ⟨(hbx.cell (p := ⟨T, 0, none⟩) hTq).trans q0, (hbx.cell (p := ⟨T, 1, none⟩) hTq).trans q1, (hbx.cell (p := ⟨Q, 0, none⟩) hzq).trans q2, (hbx.cell (p := ⟨Q, 1, none⟩) hzq).trans q3, (hbx.cell (p := ⟨Q, 2, none⟩) hzq).trans q4, (hbx.cell (p := ⟨Q, 3, none⟩) hzq).trans q5⟩)) (fun hHeld => ?_)
      clear hK K
      refine wpAnyH_ready (rs := [6]) (by kernel_rfl) (by simp) ?_
      refine AllReadyH.cons rfl (fun K hK => ?_) AllReadyH.nil
      go_simp
      refine hK.out _ _ (by first | assumption | go_keep) (fun hHeld => ?_)
      clear hK K
      refine wpAnyH_ready (rs := [7]) (by kernel_rfl) (by simp) ?_
      refine AllReadyH.cons rfl (fun K hK => ?_) AllReadyH.nil
      go_simp
      refine hK.out _ _ (by first | assumption | go_keep) (fun hHeld => ?_)
      clear hK K
      refine wpAnyH_ready (rs := [8]) (by kernel_rfl) (by simp) ?_
      refine AllReadyH.cons rfl (fun K hK => ?_) AllReadyH.nil
      go_simp
      refine hK.out _ _ (by first | assumption | go_keep) (fun hHeld => ?_)
      clear hK K
      refine wpAnyH_done (by kernel_rfl) ?_ _
      obtain ⟨q0, q1, q2, q3, q4, q5⟩ := hHeld
      have HB5 := Lib.hid (HBq.out.drew.trans (hbx.mono (by have := (below_box HBq.out).size; show w.heap.size + 1 ≤ wq.heap.size; omega)))
      have hby : Below wq.heap.size wq w5 := ((Below.refl wq.heap.size wq).drew).trans (show Below wq.heap.size wq.drew w5 from hbx)
      have HS5 := Lib.hid (show SpR ps w w5 N T k A2 c from ⟨HSq.out.1.below hby, HSq.out.2.1.below hby, own_onP HSq.out.2.2.1 hby, HSq.out.2.2.2⟩)
      have hs5 : wq.heap.size ≤ w5.heap.size := hbx.size
      clear HBq HSq hbx hby hdr cx hDe hgD
      by_cases hx1 : x = -1
      · have hE : (x == -1) = true := by simpa using hx1
        have hs := Lib.hid (HNo.out (fun hc => HXC.out.2 hc hx1))
        have ho := HS5.out.2.2.1
        have f1 := HS5.out.2.1.frozen 1
        have hTl := HS5.out.2.1.lt
        clear hx1
        go_wp2_with (at_builtin; go_must (refine wpList_append_own _ rfl _ _ 24 rfl (T + 1) 53 i0 _ 4 32 Try.underlying24 hi0 hz0 hz1 hz2 rfl (by omega) _ _ _ rfl (ho.alloc _) ⟨w5.heap.size, 0, none⟩ 1 1 (pcs4 ⟨pid, fr, tt, psz⟩) rfl rfl (cells_new4 _ _ _ _ _) (by intro u hu; simp [pcs4] at hu; rcases hu with rfl | rfl | rfl | rfl <;> rfl) (by unfold maxLen; omega) (by omega) (by simp; omega) ?_))
        intro v' w7 hown' hgrow hnil
        have hbl5 := (Below.refl w5.heap.size w5).alloc (Nat.le_refl _) (.cells #[.int .i64 pid, .int .i64 (fr : Int), .int .i64 (tt : Int), .int .i64 psz] 53)
        have HR1 := Lib.hid (HS5.out.1.below hbl5)
        have HR2 := Lib.hid (HS5.out.2.1.below hbl5)
        have hne : ∀ g, (Value.slice A2 (spT ps k).length c).ownBlock = some g → T + 1 ≤ g := fun g hg => (ho.lt g hg).1
        have HT1 := Lib.hid (TB.kept HR1.out (hgrow.block _ HR1.out.lt (fun e => by have := hne _ e.symm; omega)))
        have HT2 := Lib.hid (TB.kept HR2.out (hgrow.block _ HR2.out.lt (fun e => by have := hne _ e.symm; omega)))
        have HB7 := Lib.hid ((HB5.out.alloc (by have := (below_box HB5.out).size; have := box_lt HB5.out; omega) (.cells #[.int .i64 pid, .int .i64 (fr : Int), .int .i64 (tt : Int), .int .i64 psz] 53)).grown hgrow (by have := box_lt HB5.out; simp; omega) (fun g hg => by have := hne g hg; omega))
        have hown2 : w7.ownsRow (T + 1) 53 4 v' (spT ps (k + 1)).length (pcs (spT ps (k + 1))) := by
          rw [hs.out, pcs_snoc, List.length_append]
          exact hown'
        obtain ⟨g3, c3, rfl⟩ : ∃ g3 c3, v' = .slice (some ⟨g3, 0, none⟩) (spT ps (k + 1)).length c3 := by
          rcases hown2.2 with ⟨hv, h0⟩ | ⟨g, cap', cur, hv, _⟩
          · exact (hnil hv).elim
          · exact ⟨g, cap', hv⟩
        have f7 := HT2.out.frozen 1
        have c7 := HT2.out.cell.2
        have hT7 := HT2.out.lt
        have hne7 : T ≠ g3 := by have := (hown2.lt g3 rfl).1; omega
        have HS7 := Lib.hid (show SpR ps w (w7.setCell ⟨T, 1, none⟩ (.slice (some ⟨g3, 0, none⟩) (spT ps (k + 1)).length c3)) N T (k + 1) (some ⟨g3, 0, none⟩) c3 from
          ⟨HT1.out.other _ (by show w.heap.size + 1 ≠ T; omega), HT2.out.set1 _, ownsRow_setCell_below hown2 (by show T < T + 1; omega) _, fun h => by rw [hs.out] at h; simp at h⟩)
        have HB8 := Lib.hid (HB7.out.setCell (p := ⟨T, 1, none⟩) (by show w.heap.size + 1 ≤ T; omega) (.slice (some ⟨g3, 0, none⟩) (spT ps (k + 1)).length c3))
        clear hown' hgrow hnil ho HR1 HR2 HT1 HT2 hown2 hne
        go_wp2
        go_roundw
        case rel => exact ⟨k + 1, some ⟨g3, 0, none⟩, c3, by omega, by go_num, HS7, HB8⟩
        case measure => simp [intOf]; omega
      · have hE : (x == -1) = false := by simpa using hx1
        have hs := Lib.hid (HY.out (HXC.out.1 hx1))
        have HS6 := Lib.hid (show SpR ps w w5 N T (k + 1) A2 c from by unfold SpR; rw [hs.out]; exact HS5.out)
        clear hx1
        go_wp2
        go_roundw
        case rel => exact ⟨k + 1, A2, c, by omega, by go_num, HS6, HB5⟩
        case measure => simp [intOf]; omega
    · have hkk : k = ps.length := by omega
      subst hkk
      have HP := Lib.hid (own_patP HS.out.2.2.1)
      obtain ⟨s0, s1⟩ := HS.out.1.cell
      have hsl1 := HS.out.1.lt
      have g0 := HS.out.1.frozen 0
      have g1 := HS.out.1.frozen 1
      cases hv : treeB N (spL ps) with
      | true =>
        have HC := Lib.hid (HTR.out true hv A2 c wr HP.out)
        have HV := Lib.hid hv
        clear hv
        go_wp2_with (first | (go_at_call 80; refine HC.out.mono ?_; rintro e w2 ⟨rfl, hb2⟩; have s0' := (hb2.cell (p := ⟨w.heap.size + 1, 0, none⟩) hsl1).trans s0; have s1' := (hb2.cell (p := ⟨w.heap.size + 1, 1, none⟩) hsl1).trans s1; have g0' := (hb2.frozen (p := ⟨w.heap.size + 1, 0, none⟩) hsl1).trans g0; have g1' := (hb2.frozen (p := ⟨w.heap.size + 1, 1, none⟩) hsl1).trans g1; have t0' := (hb2.cell (p := ⟨T, 0, none⟩) htl).trans t0; have t1' := (hb2.cell (p := ⟨T, 1, none⟩) htl).trans t1; have hsl2 : w.heap.size + 1 < w2.heap.size := Nat.lt_of_lt_of_le hsl1 hb2.size; have hB2 := Lib.hid (on_call HB.out hb2); have hO2 := Lib.hid (own_onP HS.out.2.2.1 hb2)) | fail)
        refine bodyPost_ret (v := .tuple #[nv N A2 (spL ps).length c, .bool true]) (by simp [results, Try.results16, go_sem, s0', s1']; rfl) rfl (.inl ⟨HV.out, ⟨A2, c, T + 1, rfl, ?_, by omega, HS.out.2.2.2⟩, ?_⟩)
        · exact ownsRow_setCell_below (ownsRow_setCell_below hO2.out (by show w.heap.size + 1 < T + 1; omega) _) (by show w.heap.size + 1 < T + 1; omega) _
        · exact ((below_box hB2.out).setCell (p := ⟨w.heap.size + 1, 0, none⟩) (by show w.heap.size ≤ w.heap.size + 1; omega) _).setCell (p := ⟨w.heap.size + 1, 1, none⟩) (by show w.heap.size ≤ w.heap.size + 1; omega) _
      | false =>
        have HC := Lib.hid (HTR.out false hv A2 c wr HP.out)
        have HV := Lib.hid hv
        clear hv
        go_wp2_with (first | (go_at_call 80; refine HC.out.mono ?_; rintro e w2 ⟨rfl, hb2⟩; have s0' := (hb2.cell (p := ⟨w.heap.size + 1, 0, none⟩) hsl1).trans s0; have s1' := (hb2.cell (p := ⟨w.heap.size + 1, 1, none⟩) hsl1).trans s1; have g0' := (hb2.frozen (p := ⟨w.heap.size + 1, 0, none⟩) hsl1).trans g0; have g1' := (hb2.frozen (p := ⟨w.heap.size + 1, 1, none⟩) hsl1).trans g1; have t0' := (hb2.cell (p := ⟨T, 0, none⟩) htl).trans t0; have t1' := (hb2.cell (p := ⟨T, 1, none⟩) htl).trans t1; have hsl2 : w.heap.size + 1 < w2.heap.size := Nat.lt_of_lt_of_le hsl1 hb2.size; have hB2 := Lib.hid (on_call HB.out hb2)) | fail)
        refine bodyPost_ret (v := .tuple #[nv 0 none 0 0, .bool false]) (by simp [results, Try.results16, go_sem, s0', s1']) rfl (.inr ⟨HV.out, rfl, ?_⟩)
        exact ((below_box hB2.out).setCell (p := ⟨w.heap.size + 1, 0, none⟩) (by show w.heap.size ≤ w.heap.size + 1; omega) _).setCell (p := ⟨w.heap.size + 1, 1, none⟩) (by show w.heap.size ≤ w.heap.size + 1; omega) _
end Go.Proofs.Ytjfpimldiokpbab.S2
