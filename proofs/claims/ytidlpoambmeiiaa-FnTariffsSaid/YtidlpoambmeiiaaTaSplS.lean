/- The parts of a cost and the cost, the model's: contracts. Conditions: each theorem's own premises. -/
import Derived.Test.YtidlpoambmeiiaaTaGoodS
import Derived.Test.YtidlpoambmeiiaaTaSpl
import Derived.Deep.RegionLaw
import Derived.Deep.RegionHeld3
namespace Go.Proofs.Ytidlpoambmeiiaa.S14
open Go.RowKit Go.Sort P14

theorem smost_any (x y : Int) (w : World) : Calls Try.prog 84 #[.int .i64 x, .int .i64 y] w fun e w' => e = .returned (.int .i64 (max x y)) ∧ w' = w := by
  by_cases hgt : y < x
  · have e : max x y = x := by omega
    rw [e]
    clear e
    go_enter Try.func84, Try.ntmps84
    go_wp2
    go_ret
    exact ⟨rfl, rfl⟩
  · have e : max x y = y := by omega
    rw [e]
    clear e
    go_enter Try.func84, Try.ntmps84
    go_wp2
    go_ret
    exact ⟨rfl, rfl⟩
theorem sleast_any (x y : Int) (w : World) : Calls Try.prog 85 #[.int .i64 x, .int .i64 y] w fun e w' => e = .returned (.int .i64 (min x y)) ∧ w' = w := by
  by_cases hgt : x < y
  · have e : min x y = x := by omega
    rw [e]
    clear e
    go_enter Try.func85, Try.ntmps85
    go_wp2
    go_ret
    exact ⟨rfl, rfl⟩
  · have e : min x y = y := by omega
    rw [e]
    clear e
    go_enter Try.func85, Try.ntmps85
    go_wp2
    go_ret
    exact ⟨rfl, rfl⟩
theorem svol_any (v : Int) (b : Bool) (h : decide (0 ≤ v ∧ v ≤ 100000) = b) (w : World) : Calls Try.prog 56 #[.int .i64 v] w fun e w' => e = .returned (.bool b) ∧ w' = w := by
  have H := Lib.hid (fun w => in_eq v 0 100000 b h w)
  clear h
  go_enter Try.func56, Try.ntmps56
  go_wp2_with (go_at_call 60; refine (H.out _).mono ?_; rintro e w' ⟨rfl, hw⟩; replace hw := hw.symm; subst hw)
  go_ret
  exact ⟨rfl, rfl⟩
/-- A row of numbers of the call's own, alone. -/
def Gives1 (w : World) (l : List Int) (e : Ending) (w' : World) : Prop :=
  ∃ g cap, e = .returned (.slice (some ⟨g, 0, none⟩) l.length cap) ∧ w.heap.size ≤ g ∧ IOwn w' w.heap.size (.slice (some ⟨g, 0, none⟩) l.length cap) l ∧ Below w.heap.size w w'
set_option maxHeartbeats 8000000 in
set_option maxRecDepth 100000 in
theorem ssplit_any (t : Ta) (A : Option Addr) (c : Nat) (v : Int) (w : World) (h : TAt w t A) (g : P14.Good t) (hv0 : 0 ≤ v) (hv9 : v ≤ 100000) :
    Calls Try.prog 69 #[tv t A c, .int .i64 v] w (Gives1 w (spL t v t.bs.length)) := by
  have HA := Lib.hid h.x
  have HG := Lib.hid g
  have hln := g.2.1.2
  obtain ⟨i0, hi, hz0, hz1, hz2⟩ := info_parts infoI
  have HB0 := Lib.hid (Below.refl (w.heap.size + 1) (w.alloc (tb 29 t A c)))
  have hs0 : w.heap.size + 1 ≤ (w.alloc (tb 29 t A c)).heap.size := by simp
  have HS1 := Lib.hid (show IOwn ((w.alloc (tb 29 t A c)).alloc (.cells #[.int .i64 t.fee] 3)) w.heap.size (.slice (some ⟨w.heap.size + 1, 0, none⟩) 1 1) [t.fee] by have := own_single (w.alloc (tb 29 t A c)) w.heap.size (by simp) t.fee; rwa [alloc_size] at this)
  have HB2 := Lib.hid ((Below.refl (w.heap.size + 1) (w.alloc (tb 29 t A c))).alloc hs0 (.cells #[.int .i64 t.fee] 3))
  clear h g hs0
  go_enter Try.func69, Try.ntmps69
  go_wp2
  go_loopw [5, 6, 7] (fun s e i wr => ∃ k : Nat, k ≤ t.bs.length ∧ e = .int .i64 (pre t.bs k) ∧ i = .int .i64 (k : Int) ∧ Hid (IOwn wr w.heap.size s (spL t v k)) ∧ Hid (s ≠ .slice none 0 0) ∧ Hid (Below (w.heap.size + 1) (w.alloc (tb 29 t A c)) wr) ∧ Hid (s.ownBlock ≠ some w.heap.size)) (fun _ _ i _ => t.bs.length - (intOf i).toNat)
  case atStart => exact ⟨0, Nat.zero_le _, rfl, rfl, HS1, Lib.hid (by simp), HB2, Lib.hid (by simp [Value.ownBlock])⟩
  case round =>
    clear HS1 HB2 HB0
    obtain ⟨k, hk, rfl, rfl, hown, hvn, HB, hvb⟩ := hrel
    obtain ⟨_, q0, q1, _⟩ := box_b2 HB.out
    have hzb := box_lt HB.out
    by_cases hlt : k < t.bs.length
    · obtain ⟨b, off, hA, hbl, h0, h1⟩ := HA.out.at_ hlt
      subst hA
      replace h0 := ((below_box HB.out).cell (p := ⟨b, off + k * 2, none⟩) hbl).trans h0
      replace h1 := ((below_box HB.out).cell (p := ⟨b, off + k * 2 + 1, none⟩) hbl).trans h1
      have hk0 : (0 : Int) ≤ (k : Int) := by omega
      have hkn : (k : Int) < (t.bs.length : Int) := by omega
      have hfl := spL_len t v k
      have hsn := Lib.hid (spL_succ t v k)
      obtain ⟨⟨x0, x1, x2⟩, y0, y1⟩ := HG.out.at_ hlt
      have hpl := prt_le HG.out (v := v) hlt
      have hws : IntKind.i64.wrap (min v (cAt t.bs k).up - pre t.bs k) = min v (cAt t.bs k).up - pre t.bs k := IntWalk.i64_in _ (by omega)
      have hwp : IntKind.i64.wrap ((cAt t.bs k).pr * max 0 (min v (cAt t.bs k).up - pre t.bs k)) = prt t v k := IntWalk.i64_in (prt t v k) (by omega)
      have HE := Lib.hid (show pre t.bs (k + 1) = (cAt t.bs k).up from rfl)
      have HNEXT := Lib.hid (show ∀ P, prt t v k = P → spL t v (k + 1) = spL t v k ++ [P] from fun P h => by rw [← h]; exact hsn.out)
      generalize prt t v k = P at *
      generalize pre t.bs k = E at *
      generalize (cAt t.bs k).up = x at *
      generalize (cAt t.bs k).pr = y at *
      obtain ⟨m, hm⟩ : ∃ m, m = min v x := ⟨_, rfl⟩
      rw [← hm] at hws hwp
      obtain ⟨d, hd⟩ : ∃ d, d = m - E := ⟨_, rfl⟩
      rw [← hd] at hws hwp
      obtain ⟨u, hu⟩ : ∃ u, u = max 0 d := ⟨_, rfl⟩
      rw [← hu] at hwp
      have HL := Lib.hid (show ∀ w : World, Calls Try.prog 85 #[.int .i64 v, .int .i64 x] w fun e w' => e = .returned (.int .i64 m) ∧ w' = w by rw [hm]; exact fun w => sleast_any v x w)
      have HM := Lib.hid (show ∀ w : World, Calls Try.prog 84 #[.int .i64 0, .int .i64 d] w fun e w' => e = .returned (.int .i64 u) ∧ w' = w by rw [hu]; exact fun w => smost_any 0 d w)
      have hws2 : IntKind.i64.wrap (m - E) = d := by rw [← hws]; rw [hd]
      clear hpl hm hd hu hws x0 x1 x2 y0 y1
      have ho := hown.out.on (alloc_below wr (.cells #[.int .i64 x, .int .i64 y] 62))
      have HBN := Lib.hid (HB.out.alloc (show w.heap.size + 1 ≤ wr.heap.size by omega) (.cells #[.int .i64 x, .int .i64 y] 62))
      have HCN := Lib.hid (C2.new wr 62 (.int .i64 x) (.int .i64 y))
      have hzn := new_lt wr (.cells #[.int .i64 x, .int .i64 y] 62)
      obtain ⟨Bk, hBk⟩ : ∃ Bk, Bk = wr.heap.size := ⟨_, rfl⟩
      have hbk := Lib.hid (show some Bk ≠ u5.ownBlock by rw [hBk]; exact own_ne hown.out (Nat.le_refl _))
      have hBk2 := Lib.hid (show w.heap.size < Bk by omega)
      go_wp2
      generalize hWa : wr.alloc (.cells #[.int .i64 x, .int .i64 y] 62) = wa at *
      clear hWa q0 q1 h0 h1 hown
      rw [← hBk] at *
      obtain ⟨_, c0, c1, _⟩ := HCN.out
      unfold IOwn at ho
      refine wp_region_held_drew (S := fun w' => w'.cell? ⟨Bk, 0, none⟩ = some (.int .i64 x) ∧ w'.cell? ⟨Bk, 1, none⟩ = some (.int .i64 y)) (by kernel_rfl) (by exact ⟨c0, c1⟩) (fun hHeld => ?_)
      refine wpAnyH_take (i := 0) (v := u5) rfl (by kernel_rfl) (by kernel_rfl) (by kernel_rfl) (fun _ _ _ h => h) (Or.inl ⟨by kernel_rfl, ?_⟩) (by assumption) ?_
      · (intro w hSw; (try dsimp only at hSw); go_simp)
      simp only [Act.put, List.setIfInBounds_toArray]
      refine wpAnyH_take (i := 1) (v := .pointer (some ⟨Bk, 1, none⟩)) rfl (by kernel_rfl) (by kernel_rfl) (by kernel_rfl) (fun _ _ _ h => h) (Or.inl ⟨by kernel_rfl, ?_⟩) (by assumption) ?_
      · (intro w hSw; (try dsimp only at hSw); go_simp)
      simp only [Act.put]
      refine wpAnyH_take (i := 2) (v := .int .i64 y) rfl (by kernel_rfl) (by kernel_rfl) (by kernel_rfl) (fun _ _ _ h => h) (Or.inl ⟨by kernel_rfl, ?_⟩) (by assumption) ?_
      · (intro w hSw; (try dsimp only at hSw); go_simp)
      simp only [Act.put]
      refine wpAnyH_take (i := 3) (v := .int .i64 v) rfl (by kernel_rfl) (by kernel_rfl) (by kernel_rfl) (fun _ _ _ h => h) (Or.inl ⟨by kernel_rfl, ?_⟩) (by assumption) ?_
      · (intro w hSw; (try dsimp only at hSw); go_simp)
      simp only [Act.put]
      refine wpAnyH_take (i := 4) (v := .pointer (some ⟨Bk, 0, none⟩)) rfl (by kernel_rfl) (by kernel_rfl) (by kernel_rfl) (fun _ _ _ h => h) (Or.inl ⟨by kernel_rfl, ?_⟩) (by assumption) ?_
      · (intro w hSw; (try dsimp only at hSw); go_simp)
      simp only [Act.put]
      refine wpAnyH_take (i := 5) (v := .int .i64 x) rfl (by kernel_rfl) (by kernel_rfl) (by kernel_rfl) (fun _ _ _ h => h) (Or.inl ⟨by kernel_rfl, ?_⟩) (by assumption) ?_
      · (intro w hSw; (try dsimp only at hSw); go_simp)
      simp only [Act.put]
      refine wpAnyH_take (i := 7) (v := .int .i64 E) rfl (by kernel_rfl) (by kernel_rfl) (by kernel_rfl) (fun _ _ _ h => h) (Or.inl ⟨by kernel_rfl, ?_⟩) (by assumption) ?_
      · (intro w hSw; (try dsimp only at hSw); go_simp)
      simp only [Act.put]
      refine wpAnyH_ready (rs := [6]) (by kernel_rfl) (by simp) ?_
      refine AllReadyH.cons rfl (fun K hK => ?_) AllReadyH.nil
      go_simp
      go_at_call 85
      refine (HL.out _).mono ?_
      rintro e wq ⟨rfl, hw⟩
      replace hw := hw.symm
      subst hw
      refine hK.out _ _ ⟨c0, c1⟩ (fun hHeld => ?_)
      clear hK K
      refine wpAnyH_take (i := 8) (v := .int .i64 d) rfl (by kernel_rfl) (by kernel_rfl) (by kernel_rfl) (fun _ _ _ h => h) (Or.inl ⟨by kernel_rfl, ?_⟩) (by assumption) ?_
      · (intro w hSw; (try dsimp only at hSw); go_simp)
      simp only [Act.put]
      refine wpAnyH_ready (rs := [9]) (by kernel_rfl) (by simp) ?_
      refine AllReadyH.cons rfl (fun K hK => ?_) AllReadyH.nil
      go_simp
      go_at_call 84
      refine (HM.out _).mono ?_
      rintro e wq ⟨rfl, hw⟩
      replace hw := hw.symm
      subst hw
      refine hK.out _ _ ⟨c0, c1⟩ (fun hHeld => ?_)
      clear hK K
      refine wpAnyH_take (i := 10) (v := .int .i64 P) rfl (by kernel_rfl) (by kernel_rfl) (by kernel_rfl) (fun _ _ _ h => h) (Or.inl ⟨by kernel_rfl, ?_⟩) (by assumption) ?_
      · (intro w hSw; (try dsimp only at hSw); go_simp)
      simp only [Act.put]
      refine wpAnyH_ready (rs := [11]) (by kernel_rfl) (by simp) ?_
      refine AllReadyH.cons rfl (fun K hK => ?_) AllReadyH.nil
      go_simp
      refine hK.out _ _ (by first | assumption | go_keep) (fun hHeld => ?_)
      clear hK K
      refine wpAnyH_ready (rs := [12]) (by kernel_rfl) (by simp) ?_
      refine AllReadyH.cons rfl (fun K hK => ?_) AllReadyH.nil
      refine step_append_lies _ (by rfl) _ _ _ (by rfl) w.heap.size 3 i0 (.int .i64 0) 1 8 Try.underlying42 hi hz0 hz1 hz2 rfl (by decide) u5 (spL t v k).length ((spL t v k).map iv) (by rfl) ((ho.alloc _).drew)
        ⟨wa.heap.size, 0, none⟩ 1 1 [iv P] (by rfl) (by rfl) (World.news_of_block (cs := #[iv P]) (t := 3) (fr := (0, 0)) (by exact heap_alloc_new wa (.cells #[iv P] 3))) (by simp [Value.oneCell'])
        (by omega) (by simp only [maxLen]; omega) (by omega) (by have := HBN.out.size; simp at this ⊢; omega) (wa.heap.size + 1) (by simp) ?_
      intro gg cap' w4 hown4 hgrow hgg hgl
      have hzx := hzn
      have c04 := (hgrow.cell_far ⟨Bk, 0, none⟩ (by show Bk < _; simp; omega) hbk.out).trans (((alloc_below wa (.cells #[iv P] 3)).drew.cell (p := ⟨Bk, 0, none⟩) (by show Bk < _; omega)).trans c0)
      have c14 := (hgrow.cell_far ⟨Bk, 1, none⟩ (by show Bk < _; simp; omega) hbk.out).trans (((alloc_below wa (.cells #[iv P] 3)).drew.cell (p := ⟨Bk, 1, none⟩) (by show Bk < _; omega)).trans c1)
      refine hK.out _ _ ⟨c04, c14⟩ (fun hHeld => ?_)
      clear hK K
      refine wpAnyH_ready (rs := [13]) (by kernel_rfl) (by simp) ?_
      refine AllReadyH.cons rfl (fun K hK => ?_) AllReadyH.nil
      go_simp
      refine hK.out _ _ (by first | assumption | go_keep) (fun hHeld => ?_)
      clear hK K
      refine wpAnyH_done (by kernel_rfl) ?_ _
      have hpush := Lib.hid (IOwn.push hown4)
      rw [← HNEXT.out P rfl, hfl] at hpush
      have hgn := Lib.hid (show gg ≠ w.heap.size from fun e => by rcases hgg with h | h; exact hvb.out (by rw [h, e]); have := HBN.out.size; simp at this; omega)
      have hB4 := Lib.hid ((HBN.out.alloc (show w.heap.size + 1 ≤ wa.heap.size by have := HBN.out.size; simpa using this) (.cells #[iv P] 3)).drew.grown hgrow (by have := HBN.out.size; simp at this ⊢; omega) (fun g hg => by have h1 := (World.ownsRow.lt ho g hg).1; have h2 : g ≠ w.heap.size := fun e => hvb.out (by rw [hg, e]); omega))
      clear hown4 hgrow hgg hHeld hvb hvn
      go_wp2
      go_roundw
      case rel => exact ⟨k + 1, by omega, by rw [HE.out], by go_num, hpush, Lib.hid (by simp), hB4, Lib.hid (by simp only [Value.ownBlock]; intro h; injection h with h; exact hgn.out h)⟩
      case measure => simp [intOf]; omega
    · have e : k = t.bs.length := by omega
      subst e
      obtain ⟨g0, cp, rfl, hg⟩ := own_slice hown.out hvn.out
      have HO := hown.out
      have HLL := Lib.hid (spL_len t v t.bs.length)
      clear hk hown hvn
      go_wp2
      go_ret
      exact ⟨g0, cp, by rfl, hg, HO, below_box HB.out⟩
theorem spL_low {t : Ta} (g : P14.Good t) {v : Int} (i : Nat) : 0 ≤ (spL t v t.bs.length).getD i 0 ∧ (spL t v t.bs.length).getD i 0 ≤ 100000000 := by
  cases i with
  | zero => rw [spL_get0]; have := g.1; omega
  | succ i =>
    by_cases hi : i < t.bs.length
    · rw [spL_get t v _ i hi]; exact prt_le g hi
    · rw [show (spL t v t.bs.length).getD (i + 1) 0 = 0 by simp [spL, List.getD]; rw [List.getElem?_eq_none (by simp; omega)]; rfl]
      omega
theorem spL_psum {t : Ta} (g : P14.Good t) (v : Int) : ∀ k, 0 ≤ psum (spL t v t.bs.length) k ∧ psum (spL t v t.bs.length) k ≤ 100000000 * (k : Int)
  | 0 => by show (0 : Int) ≤ 0 ∧ (0 : Int) ≤ _; omega
  | k + 1 => by
    have h1 := spL_psum g v k
    have h2 := spL_low g (v := v) k
    show 0 ≤ psum (spL t v t.bs.length) k + _ ∧ psum (spL t v t.bs.length) k + _ ≤ _
    omega
set_option maxHeartbeats 2000000 in
theorem scost_any (t : Ta) (A : Option Addr) (c : Nat) (v : Int) (w : World) (h : TAt w t A) (g : P14.Good t) (hv0 : 0 ≤ v) (hv9 : v ≤ 100000) :
    Calls Try.prog 57 #[tv t A c, .int .i64 v] w fun e w' => e = .returned (.int .i64 (cost t v)) ∧ Below w.heap.size w w' := by
  have HS := Lib.hid (fun w' (hb : Below w.heap.size w w') => ssplit_any t A c v w' (h.kept hb) g hv0 hv9)
  have HB0 := Lib.hid (alloc_below w (tb 29 t A c))
  have hL : (spL t v t.bs.length).length ≤ 6 := by rw [spL_len]; have := g.2.1; omega
  have HC := Lib.hid (show psum (spL t v t.bs.length) (spL t v t.bs.length).length = cost t v by rw [spL_len, psum_spL t v _ _ (Nat.le_refl _)]; rfl)
  have HLW := Lib.hid (fun i => spL_low g (v := v) i)
  have HPS := Lib.hid (fun k => spL_psum g v k)
  clear h g
  generalize spL t v t.bs.length = L at *
  generalize cost t v = C at *
  go_enter Try.func57, Try.ntmps57
  go_wp2_with (first | (go_at_call 69; refine (HS.out _ HB0.out).mono ?_; rintro e w1 ⟨g, cap, rfl, hg, ho, hb1⟩; have HB1 := Lib.hid (HB0.out.trans (hb1.mono HB0.out.size)); have HO := Lib.hid ho.iat; clear ho hb1 hg; refine Hid.out ?_) | fail)
  refine Lib.hid ?_
  go_wp2_with fail
  go_loopw [5, 7] (fun s i wr => ∃ k : Nat, k ≤ L.length ∧ s = .int .i64 (psum L k) ∧ i = .int .i64 (k : Int) ∧ Hid (wr = w1)) (fun _ i _ => L.length - (intOf i).toNat)
  case atStart => exact ⟨0, Nat.zero_le _, rfl, rfl, Lib.hid rfl⟩
  case round =>
    obtain ⟨k, hk, rfl, rfl, hw⟩ := hrel
    have hw' := hw.out
    clear hw
    subst hw'
    by_cases hlt : k < L.length
    · obtain ⟨b, off, hA, hbl, h0⟩ := HO.out.at_ hlt
      simp only [Option.some.injEq, Addr.mk.injEq, and_true] at hA
      obtain ⟨rfl, rfl⟩ := hA
      rw [Nat.zero_add] at h0
      have hk0 : (0 : Int) ≤ (k : Int) := by omega
      have hkn : (k : Int) < (L.length : Int) := by omega
      have hp := HPS.out k
      have hq := HLW.out k
      have HNX := Lib.hid (show psum L (k + 1) = psum L k + L.getD k 0 from rfl)
      generalize L.getD k 0 = y at *
      generalize psum L k = S at *
      go_wp2
      go_roundw
      case rel => exact ⟨k + 1, by omega, by rw [HNX.out], by go_num, Lib.hid (by trivial)⟩
      case measure => simp [intOf]; omega
    · have e : k = L.length := by omega
      subst e
      rw [HC.out]
      clear hk
      go_wp2
      go_ret
      exact ⟨rfl, HB1.out⟩
set_option maxHeartbeats 2000000 in
theorem scostof_any (t : Ta) (A : Option Addr) (c : Nat) (v : Int) (w : World) (h : TAt w t A) :
    Calls Try.prog 20 #[tv t A c, .int .i64 v] w (CoI t v w) := by
  unfold CoI
  have HB0 := Lib.hid (alloc_below w (tb 29 t A c))
  have HQ0 := Lib.hid (B2.new w 29 t A c)
  obtain ⟨b, hb⟩ : ∃ b, gB t = b := ⟨_, rfl⟩
  obtain ⟨d, hd⟩ : ∃ d, decide (0 ≤ v ∧ v ≤ 100000) = d := ⟨_, rfl⟩
  have HG := Lib.hid (fun w' (hb' : Below w.heap.size w w') => sgood_w hb A c w' (h.kept hb'))
  have HV := Lib.hid (fun w => svol_any v d hd w)
  cases b with
  | false =>
    have e := okV_bad (v := v) hb
    rw [coR_no e, e]
    clear e hb hd h HV
    go_enter Try.func20, Try.ntmps20
    go_wp2_with (first | (go_at_call 53; refine (HG.out _ HB0.out).mono ?_; rintro e w1 ⟨rfl, hb1⟩; have HB1 := Lib.hid (HB0.out.trans (hb1.mono HB0.out.size)); clear hb1; refine Hid.out ?_) | fail)
    refine Lib.hid ?_
    go_wp2_with fail
    go_ret2
    exact ⟨rfl, HB1.out⟩
  | true =>
    cases d with
    | false =>
      have e := okV_low (t := t) (v := v) (by simpa using hd)
      rw [coR_no e, e]
      clear e hb hd h
      go_enter Try.func20, Try.ntmps20
      go_wp2_with (first | (go_at_call 53; refine (HG.out _ HB0.out).mono ?_; rintro e w1 ⟨rfl, hb1⟩; have HB1 := Lib.hid (HB0.out.trans (hb1.mono HB0.out.size)); clear hb1; refine Hid.out ?_) | fail)
      refine Lib.hid ?_
      go_wp2_with (first | (go_at_call 56; refine (HV.out _).mono ?_; rintro e w2 ⟨rfl, hw⟩; replace hw := hw.symm; subst hw) | fail)
      go_ret2
      exact ⟨rfl, HB1.out⟩
    | true =>
      have hr : 0 ≤ v ∧ v ≤ 100000 := by simpa using hd
      have e := okV_mk hb hr
      rw [coR_yes e, e]
      have HC := Lib.hid (fun w' (hb' : Below w.heap.size w w') => scost_any t A c v w' (h.kept hb') (gB_of hb) hr.1 hr.2)
      clear e hb hd h hr
      generalize cost t v = C at *
      go_enter Try.func20, Try.ntmps20
      go_wp2_with (first | (go_at_call 53; refine (HG.out _ HB0.out).mono ?_; rintro e w1 ⟨rfl, hb1⟩; have HB1 := Lib.hid (HB0.out.trans (hb1.mono HB0.out.size)); have HQ1 := Lib.hid (C2.kept HQ0.out hb1); clear hb1; refine Hid.out ?_) | fail)
      obtain ⟨_, q0, q1, _⟩ := HQ1.out
      clear HB0 HQ0
      refine Lib.hid ?_
      go_wp2_with (first
        | (go_at_call 56; refine (HV.out _).mono ?_; rintro e w2 ⟨rfl, hw⟩; replace hw := hw.symm; subst hw)
        | (go_at_call 57; refine (HC.out _ HB1.out).mono ?_; rintro e w3 ⟨rfl, hb3⟩; have HB3 := Lib.hid (HB1.out.trans (hb3.mono HB1.out.size)); clear hb3; refine Hid.out ?_)
        | fail)
      refine Lib.hid ?_
      go_wp2_with fail
      go_ret2
      exact ⟨rfl, HB3.out⟩
set_option maxHeartbeats 2000000 in
theorem ssplitcost_any (t : Ta) (A : Option Addr) (c : Nat) (v : Int) (w : World) (h : TAt w t A) :
    Calls Try.prog 32 #[tv t A c, .int .i64 v] w (SplI t v w) := by
  have HB0 := Lib.hid (alloc_below w (tb 29 t A c))
  have HQ0 := Lib.hid (B2.new w 29 t A c)
  obtain ⟨b, hb⟩ : ∃ b, gB t = b := ⟨_, rfl⟩
  obtain ⟨d, hd⟩ : ∃ d, decide (0 ≤ v ∧ v ≤ 100000) = d := ⟨_, rfl⟩
  have HG := Lib.hid (fun w' (hb' : Below w.heap.size w w') => sgood_w hb A c w' (h.kept hb'))
  have HV := Lib.hid (fun w => svol_any v d hd w)
  cases b with
  | false =>
    have HN := Lib.hid (okV_bad (v := v) hb)
    clear hb hd h HV
    go_enter Try.func32, Try.ntmps32
    go_wp2_with (first | (go_at_call 53; refine (HG.out _ HB0.out).mono ?_; rintro e w1 ⟨rfl, hb1⟩; have HB1 := Lib.hid (HB0.out.trans (hb1.mono HB0.out.size)); clear hb1; refine Hid.out ?_) | fail)
    refine Lib.hid ?_
    go_wp2_with fail
    go_ret2
    exact spl_no HN.out (GivesI.none HB1.out)
  | true =>
    cases d with
    | false =>
      have HN := Lib.hid (okV_low (t := t) (v := v) (by simpa using hd))
      clear hb hd h
      go_enter Try.func32, Try.ntmps32
      go_wp2_with (first | (go_at_call 53; refine (HG.out _ HB0.out).mono ?_; rintro e w1 ⟨rfl, hb1⟩; have HB1 := Lib.hid (HB0.out.trans (hb1.mono HB0.out.size)); clear hb1; refine Hid.out ?_) | fail)
      refine Lib.hid ?_
      go_wp2_with (first | (go_at_call 56; refine (HV.out _).mono ?_; rintro e w2 ⟨rfl, hw⟩; replace hw := hw.symm; subst hw) | fail)
      go_ret2
      exact spl_no HN.out (GivesI.none HB1.out)
    | true =>
      have hr : 0 ≤ v ∧ v ≤ 100000 := by simpa using hd
      have HOK := Lib.hid (okV_mk hb hr)
      have HC := Lib.hid (fun w' (hb' : Below w.heap.size w w') => ssplit_any t A c v w' (h.kept hb') (gB_of hb) hr.1 hr.2)
      clear hb hd h hr
      go_enter Try.func32, Try.ntmps32
      go_wp2_with (first | (go_at_call 53; refine (HG.out _ HB0.out).mono ?_; rintro e w1 ⟨rfl, hb1⟩; have HB1 := Lib.hid (HB0.out.trans (hb1.mono HB0.out.size)); have HQ1 := Lib.hid (C2.kept HQ0.out hb1); clear hb1; refine Hid.out ?_) | fail)
      obtain ⟨_, q0, q1, _⟩ := HQ1.out
      clear HB0 HQ0
      refine Lib.hid ?_
      go_wp2_with (first
        | (go_at_call 56; refine (HV.out _).mono ?_; rintro e w2 ⟨rfl, hw⟩; replace hw := hw.symm; subst hw)
        | (go_at_call 69; refine (HC.out _ HB1.out).mono ?_; rintro e w3 ⟨g0, cp, rfl, hg, ho, hb3⟩; have HB3 := Lib.hid (HB1.out.trans (hb3.mono HB1.out.size)); have HO := Lib.hid (own_lower (B' := w.heap.size) ho HB1.out.size); have hgl := Nat.le_trans HB1.out.size hg; clear hb3 ho hg; refine Hid.out ?_)
        | fail)
      have HR := Lib.hid (spR_yes HOK.out)
      refine Lib.hid ?_
      go_wp2_with fail
      go_ret2
      unfold SplI
      rw [HR.out, HOK.out]
      exact ⟨g0, cp, by rfl, hgl, HO.out, HB3.out⟩

end Go.Proofs.Ytidlpoambmeiiaa.S14
