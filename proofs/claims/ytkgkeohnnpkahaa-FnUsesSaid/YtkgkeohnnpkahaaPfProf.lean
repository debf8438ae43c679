/- A profile, drawn: contracts. Conditions: each theorem's own premises. -/
import Derived.Test.YtkgkeohnnpkahaaPfPi
import Derived.Deep.RegionLaw
import Derived.Deep.RegionHeld3
namespace Go.Proofs.Ytkgkeohnnpkahaa.S6
open Go.RowKit P6

theorem nat_in {r m : Int} (h0 : 0 ≤ r) (h9 : r < m) : ∃ k : Nat, r = (k : Int) ∧ (k : Int) < m := ⟨r.toNat, by omega, by omega⟩
set_option maxHeartbeats 16000000 in
set_option maxRecDepth 100000 in
theorem profile_any (B g : Nat) (a : Option Addr) (n cap KC : Nat) (w : World) (hK : KC ≤ 800000) (h : S1.St B g a n cap KC w) (hgw : g < w.heap.size) :
    Calls Try.prog 54 #[.pointer (some ⟨g, 0, none⟩)] w (ProfPost B g a n cap (KC + 100) w) := by
  have HS := Lib.hid h
  have HFo := Lib.hid (fun w => sflat_own w)
  have hBg := h.bg
  clear h
  go_enter Try.func54, Try.ntmps54
  go_wp2_with (first | (go_at_call 48; refine (HFo.out _).mono ?_; rintro e w1 ⟨b, capb, rfl, hgb, hO, hb1⟩; refine Hid.out ?_) | fail)
  have hfl : flatL.length = 24 := by simp [flatL]
  rw [hfl]
  have hz1 : w.heap.size + 1 ≤ w1.heap.size := by have := hb1.size; simp at this; omega
  have hb1' : Below (w.heap.size + 1) (w.alloc (.cells #[.slice none 0 0] 26)) w1 := by simpa using hb1
  have hrow : w1.ownsRow (w.heap.size + 1) 3 1 (.slice (some ⟨b, 0, none⟩) 24 capb) 24 (flatL.map iv) := by unfold IOwn at hO; rw [hfl] at hO; simpa using hO
  have hbl := World.ownsRow.lt hrow b rfl
  have HP1 := Lib.hid (show PI w (w1.alloc (.cells #[.slice (some ⟨b, 0, none⟩) 24 capb] 26)) B g a n cap KC w1.heap.size b capb flatL from
    { st := S1.st_new ((S1.st_new HS.out _).other hb1) _
      gr := ⟨hb1.os, hb1.tape, hb1.output, by simp; omega, fun k hk _ => by rw [(alloc_below w1 _).block k (by omega), hb1.block k (by simp; omega), (alloc_below w _).block k hk]⟩
      rc := (World.cell?_alloc_past _ _ _ (by omega)).trans (box1 hb1')
      rf := by rw [World.frozen?_alloc_past _ _ _ (by omega), hb1'.frozen (p := ⟨w.heap.size, 0, none⟩) (by show w.heap.size < w.heap.size + 1; omega)]; simp
      oc := box_at
      of := by simp
      row := World.ownsRow.alloc hrow _
      len := hfl
      ne := by omega
      lo := by omega
      ol := by simp
      gw := hgw })
  obtain ⟨o, ho⟩ : ∃ o, o = w1.heap.size := ⟨_, rfl⟩
  obtain ⟨wp, hwp⟩ : ∃ wp, wp = w1.alloc (.cells #[.slice (some ⟨b, 0, none⟩) 24 capb] 26) := ⟨_, rfl⟩
  rw [← ho, ← hwp] at HP1
  have HO := Lib.hid ho
  have HWP := Lib.hid hwp
  clear hb1 hb1' hrow hO hfl ho hwp HS HFo
  refine Lib.hid ?_
  go_wp2_with (first | (go_at_call 62; refine (S1.pick_any B g a n cap KC 12 _ (by omega) (by omega) (by omega) (by rw [← HWP.out]; exact HP1.out.st)).mono ?_; rintro e w2 ⟨r0, rfl, hr0, hr9, hs, hg⟩; refine Hid.out ?_) | fail)
  rw [← HWP.out] at hg
  have HP2 := Lib.hid (HP1.out.call hs hg)
  obtain ⟨r1, rfl, hr1⟩ := nat_in hr0 hr9
  rw [← HO.out]
  clear hs hg HP1 HWP HO hr0 hr9 hgb hz1 hbl
  refine Lib.hid ?_
  go_wp2_with fail
  go_loopw [4] (fun nn wr => ∃ (r : Nat) (l : List Int), r ≤ 11 ∧ nn = .int .i64 (r : Int) ∧ Hid (PI w wr B g a n cap (KC + 2 + 6 * (11 - r)) o b capb l)) (fun nn _ => (intOf nn).toNat)
  case atStart => exact ⟨r1, _, by omega, rfl, Lib.hid (HP2.out.more (by omega))⟩
  case round =>
    clear HP2 hr1
    obtain ⟨r, l, hr, rfl, HP⟩ := hrel
    by_cases hlt : 0 < r
    · go_wp2_with (first | (go_at_call 62; refine (S1.pick_any B g a n cap (KC + 2 + 6 * (11 - r)) 24 _ (by omega) (by omega) (by omega) HP.out.st).mono ?_; rintro e w3 ⟨i0, rfl, hi0, hi9, hs, hg⟩; refine Hid.out ?_) | fail)
      have HP3 := Lib.hid (HP.out.call hs hg)
      obtain ⟨I, rfl, hI'⟩ := nat_in hi0 hi9
      have hI : I < 24 := by omega
      clear hs hg hi0 hi9 HP hI'
      refine Lib.hid ?_
      go_wp2_with (first | (go_at_call 62; refine (S1.pick_any B g a n cap (KC + 2 + 6 * (11 - r) + 2) 24 _ (by omega) (by omega) (by omega) HP3.out.st).mono ?_; rintro e w4 ⟨j0, rfl, hj0, hj9, hs, hg⟩; refine Hid.out ?_) | fail)
      have HP4 := Lib.hid (HP3.out.call hs hg)
      obtain ⟨J, rfl, hJ'⟩ := nat_in hj0 hj9
      have hJ : J < 24 := by omega
      clear hs hg hj0 hj9 HP3 hJ'
      refine Lib.hid ?_
      obtain ⟨hce, hfr, hcap, hcap9⟩ := HP4.out.facts
      have hoc := HP4.out.oc
      have hbs := HP4.out.bs
      have hol := HP4.out.ol
      have hgw := HP4.out.gw
      have hne := HP4.out.ne
      have hlo := HP4.out.lo
      have HL4 := Lib.hid HP4.out.len
      have hci := hce I hI
      have hcj := hce J hJ
      have hxy : at0 l J = at0 l J := rfl
      have HX := Lib.hid (rfl : at0 l I = at0 l I)
      have hI0 : (0 : Int) ≤ (I : Int) := by omega
      have hJ0 : (0 : Int) ≤ (J : Int) := by omega
      have hI24 : (I : Int) < 24 := by omega
      have hJ24 : (J : Int) < 24 := by omega
      obtain ⟨x, hx⟩ : ∃ x, x = at0 l I := ⟨_, rfl⟩
      obtain ⟨y, hy⟩ : ∃ y, y = at0 l J := ⟨_, rfl⟩
      rw [← hx] at hci
      rw [← hy] at hcj
      clear hx hy hxy HX hce hfr
      go_upto_region 6 with (fail)
      go_cut [7] (fun s wx => ∃ d : Int, s = .int .i64 d ∧ Hid (PI w wx B g a n cap (KC + 2 + 6 * (11 - r) + 6) o b capb l))
      case first =>
        refine wp_region_held_drew (S := fun w' => w'.cell? ⟨o, 0, none⟩ = some (.slice (some ⟨b, 0, none⟩) 24 capb) ∧ w'.cell? ⟨b, I, none⟩ = some (iv x) ∧ w'.cell? ⟨b, J, none⟩ = some (iv y)) (by kernel_rfl) (by exact ⟨hoc, hci, hcj⟩) (fun hHeld => ?_)
        refine wpAnyH_take (i := 0) (v := .pointer (some ⟨g, 0, none⟩)) rfl (by kernel_rfl) (by kernel_rfl) (by kernel_rfl) (fun _ _ _ h => h) (Or.inl ⟨by rfl, ?_⟩) (by assumption) ?_
        · (intro w hSw; (try dsimp only at hSw); go_simp)
        simp only [Act.put, List.setIfInBounds_toArray]
        refine wpAnyH_take (i := 3) (v := .pointer (some ⟨o, 0, none⟩)) rfl (by kernel_rfl) (by kernel_rfl) (by kernel_rfl) (fun _ _ _ h => h) (Or.inl ⟨by rfl, ?_⟩) (by assumption) ?_
        · (intro w hSw; (try dsimp only at hSw); go_simp)
        simp only [Act.put]
        refine wpAnyH_take (i := 4) (v := .slice (some ⟨b, 0, none⟩) 24 capb) rfl (by kernel_rfl) (by kernel_rfl) (by kernel_rfl) (fun _ _ _ h => h) (Or.inl ⟨by rfl, ?_⟩) (by assumption) ?_
        · (intro w hSw; (try dsimp only at hSw); go_simp)
        simp only [Act.put]
        refine wpAnyH_take (i := 5) (v := .int .i64 (I : Int)) rfl (by kernel_rfl) (by kernel_rfl) (by kernel_rfl) (fun _ _ _ h => h) (Or.inl ⟨by rfl, ?_⟩) (by assumption) ?_
        · (intro w hSw; (try dsimp only at hSw); go_simp)
        simp only [Act.put]
        refine wpAnyH_take (i := 6) (v := .pointer (some ⟨b, I, none⟩)) rfl (by kernel_rfl) (by kernel_rfl) (by kernel_rfl) (fun _ _ _ h => h) (Or.inl ⟨by rfl, ?_⟩) (by assumption) ?_
        · (intro w hSw; (try dsimp only at hSw); go_simp)
        simp only [Act.put]
        refine wpAnyH_take (i := 7) (v := iv x) rfl (by kernel_rfl) (by kernel_rfl) (by kernel_rfl) (fun _ _ _ h => h) (Or.inl ⟨by rfl, ?_⟩) (by assumption) ?_
        · (intro w hSw; (try dsimp only at hSw); go_simp)
        simp only [Act.put]
        refine wpAnyH_take (i := 8) (v := .pointer (some ⟨o, 0, none⟩)) rfl (by kernel_rfl) (by kernel_rfl) (by kernel_rfl) (fun _ _ _ h => h) (Or.inl ⟨by rfl, ?_⟩) (by assumption) ?_
        · (intro w hSw; (try dsimp only at hSw); go_simp)
        simp only [Act.put]
        refine wpAnyH_take (i := 9) (v := .slice (some ⟨b, 0, none⟩) 24 capb) rfl (by kernel_rfl) (by kernel_rfl) (by kernel_rfl) (fun _ _ _ h => h) (Or.inl ⟨by rfl, ?_⟩) (by assumption) ?_
        · (intro w hSw; (try dsimp only at hSw); go_simp)
        simp only [Act.put]
        refine wpAnyH_take (i := 10) (v := .int .i64 (J : Int)) rfl (by kernel_rfl) (by kernel_rfl) (by kernel_rfl) (fun _ _ _ h => h) (Or.inl ⟨by rfl, ?_⟩) (by assumption) ?_
        · (intro w hSw; (try dsimp only at hSw); go_simp)
        simp only [Act.put]
        refine wpAnyH_take (i := 11) (v := .pointer (some ⟨b, J, none⟩)) rfl (by kernel_rfl) (by kernel_rfl) (by kernel_rfl) (fun _ _ _ h => h) (Or.inl ⟨by rfl, ?_⟩) (by assumption) ?_
        · (intro w hSw; (try dsimp only at hSw); go_simp)
        simp only [Act.put]
        refine wpAnyH_take (i := 12) (v := iv y) rfl (by kernel_rfl) (by kernel_rfl) (by kernel_rfl) (fun _ _ _ h => h) (Or.inl ⟨by rfl, ?_⟩) (by assumption) ?_
        · (intro w hSw; (try dsimp only at hSw); go_simp)
        simp only [Act.put]
        refine wpAnyH_take (i := 13) (v := .int .i64 (IntKind.i64.wrap (1000 - y))) rfl (by kernel_rfl) (by kernel_rfl) (by kernel_rfl) (fun _ _ _ h => h) (Or.inl ⟨by rfl, ?_⟩) (by assumption) ?_
        · (intro w hSw; (try dsimp only at hSw); go_simp)
        simp only [Act.put]
        refine wpAnyH_ready (rs := [1]) (by kernel_rfl) (by simp) ?_
        refine AllReadyH.cons rfl (fun K hK => ?_) AllReadyH.nil
        go_simp
        refine hK.out _ _ (by first | assumption | go_keep) (fun hHeld => ?_)
        clear hK K
        refine wpAnyH_ready (rs := [2]) (by kernel_rfl) (by simp) ?_
        refine AllReadyH.cons rfl (fun K hK => ?_) AllReadyH.nil
        go_simp
        go_at_call 61
        refine (S1.among_any B g a n cap (KC + 2 + 6 * (11 - r) + 4) w4.heap.size 3 3 [10, 50, 100] _ rfl (by omega) (by simp) (by simp) (HP4.out.alloc _).drew.st (fun j hj => S1.ti_new w4 [10, 50, 100] 3 j hj) (by omega)).mono ?_
        rintro e w5 ⟨⟨z, rfl⟩, hs, hg⟩
        have HP5 := Lib.hid ((((HP4.out.alloc (.cells #[.int .i64 10, .int .i64 50, .int .i64 100] 3)).drew).call hs hg))
        have q0 := HP5.out.oc
        have hbz : b < ((w4.alloc (.cells #[.int .i64 10, .int .i64 50, .int .i64 100] 3)).drew).heap.size := by show b < (w4.alloc _).heap.size; simp; omega
        have q1 := (hg.cell_far ⟨b, I, none⟩ hbz (by simp; omega)).trans ((World.cell?_alloc_past (w := w4) (.cells #[.int .i64 10, .int .i64 50, .int .i64 100] 3) b I hbs.2).trans hci)
        have q2 := (hg.cell_far ⟨b, J, none⟩ hbz (by simp; omega)).trans ((World.cell?_alloc_past (w := w4) (.cells #[.int .i64 10, .int .i64 50, .int .i64 100] 3) b J hbs.2).trans hcj)
        refine hK.out _ _ (by exact ⟨q0, q1, q2⟩) (fun hHeld => ?_)
        clear hK K
        refine wpAnyH_ready (rs := [14]) (by kernel_rfl) (by simp) ?_
        refine AllReadyH.cons rfl (fun K hK => ?_) AllReadyH.nil
        go_simp
        go_at_call 77
        refine (least_any _ _ _).mono ?_
        rintro e wz ⟨rfl, hw⟩
        replace hw := hw.symm
        subst hw
        refine hK.out _ _ (by exact ⟨q0, q1, q2⟩) (fun hHeld => ?_)
        clear hK K
        refine wpAnyH_ready (rs := [15]) (by kernel_rfl) (by simp) ?_
        refine AllReadyH.cons rfl (fun K hK => ?_) AllReadyH.nil
        go_simp
        go_at_call 77
        refine (least_any _ _ _).mono ?_
        rintro e wz ⟨rfl, hw⟩
        replace hw := hw.symm
        subst hw
        refine hK.out _ _ (by exact ⟨q0, q1, q2⟩) (fun hHeld => ?_)
        clear hK K
        refine wpAnyH_ready (rs := [16]) (by kernel_rfl) (by simp) ?_
        refine AllReadyH.cons rfl (fun K hK => ?_) AllReadyH.nil
        go_simp
        refine hK.out _ _ (by first | assumption | go_keep) (fun hHeld => ?_)
        clear hK K
        refine wpAnyH_done (by kernel_rfl) ?_ _
        go_wp2_with fail
        go_meet
        exact ⟨_, rfl, HP5⟩
      case rest =>
        obtain ⟨d, rfl, HP5⟩ := hcut
        obtain ⟨w5, hwb⟩ : ∃ w5, w5 = wc := ⟨_, rfl⟩
        subst hwb
        obtain ⟨hce, hfr, hcap, hcap9⟩ := HP5.out.facts
        have hoc := HP5.out.oc
        have hci := hce I hI
        have hfi := hfr I
        have HS7 := Lib.hid ((HP5.out.set I (IntKind.i64.wrap (at0 l I - d))).drew)
        obtain ⟨x7, hx⟩ : ∃ x, x = at0 l I := ⟨_, rfl⟩
        rw [← hx] at hci HS7
        clear hx hce hfr
        go_wp2_with fail
        refine wp_region_held_drew (S := fun w' => w'.cell? ⟨o, 0, none⟩ = some (.slice (some ⟨b, 0, none⟩) 24 capb)) (by kernel_rfl) (by exact hoc) (fun hHeld => ?_)
        refine wpAnyH_take (i := 0) (v := .pointer (some ⟨o, 0, none⟩)) rfl (by kernel_rfl) (by kernel_rfl) (by kernel_rfl) (fun _ _ _ h => h) (Or.inl ⟨by rfl, ?_⟩) (by assumption) ?_
        · (intro w hSw; (try dsimp only at hSw); go_simp)
        simp only [Act.put, List.setIfInBounds_toArray]
        refine wpAnyH_take (i := 1) (v := .slice (some ⟨b, 0, none⟩) 24 capb) rfl (by kernel_rfl) (by kernel_rfl) (by kernel_rfl) (fun _ _ _ h => h) (Or.inl ⟨by rfl, ?_⟩) (by assumption) ?_
        · (intro w hSw; (try dsimp only at hSw); go_simp)
        simp only [Act.put]
        refine wpAnyH_take (i := 2) (v := .int .i64 (I : Int)) rfl (by kernel_rfl) (by kernel_rfl) (by kernel_rfl) (fun _ _ _ h => h) (Or.inl ⟨by rfl, ?_⟩) (by assumption) ?_
        · (intro w hSw; (try dsimp only at hSw); go_simp)
        simp only [Act.put]
        refine wpAnyH_take (i := 3) (v := .pointer (some ⟨o, 0, none⟩)) rfl (by kernel_rfl) (by kernel_rfl) (by kernel_rfl) (fun _ _ _ h => h) (Or.inl ⟨by rfl, ?_⟩) (by assumption) ?_
        · (intro w hSw; (try dsimp only at hSw); go_simp)
        simp only [Act.put]
        refine wpAnyH_take (i := 4) (v := .slice (some ⟨b, 0, none⟩) 24 capb) rfl (by kernel_rfl) (by kernel_rfl) (by kernel_rfl) (fun _ _ _ h => h) (Or.inl ⟨by rfl, ?_⟩) (by assumption) ?_
        · (intro w hSw; (try dsimp only at hSw); go_simp)
        simp only [Act.put]
        refine wpAnyH_take (i := 5) (v := .int .i64 (I : Int)) rfl (by kernel_rfl) (by kernel_rfl) (by kernel_rfl) (fun _ _ _ h => h) (Or.inl ⟨by rfl, ?_⟩) (by assumption) ?_
        · (intro w hSw; (try dsimp only at hSw); go_simp)
        simp only [Act.put]
        refine wpAnyH_take (i := 6) (v := .pointer (some ⟨b, I, none⟩)) rfl (by kernel_rfl) (by kernel_rfl) (by kernel_rfl) (fun _ _ _ h => h) (Or.inl ⟨by rfl, ?_⟩) (by assumption) ?_
        · (intro w hSw; (try dsimp only at hSw); go_simp)
        simp only [Act.put]
        refine wpAnyH_take (i := 8) (v := .int .i64 d) rfl (by kernel_rfl) (by kernel_rfl) (by kernel_rfl) (fun _ _ _ h => h) (Or.inl ⟨by rfl, ?_⟩) (by assumption) ?_
        · (intro w hSw; (try dsimp only at hSw); go_simp)
        simp only [Act.put]
        refine wpAnyH_ready (rs := [7]) (by kernel_rfl) (by simp) ?_
        refine AllReadyH.cons rfl (fun K hK => ?_) AllReadyH.nil
        go_simp
        refine hK.out _ _ (by first | assumption | go_keep) (fun hHeld => ?_)
        clear hK K
        refine wpAnyH_take (i := 9) (v := .int .i64 (IntKind.i64.wrap (x7 - d))) rfl (by kernel_rfl) (by kernel_rfl) (by kernel_rfl) (fun _ _ _ h => h) (Or.inl ⟨by rfl, ?_⟩) (by assumption) ?_
        · (intro w hSw; (try dsimp only at hSw); go_simp)
        simp only [Act.put]
        refine wpAnyH_ready (rs := [10]) (by kernel_rfl) (by simp) ?_
        refine AllReadyH.cons rfl (fun K hK => ?_) AllReadyH.nil
        go_simp
        refine hK.out _ _ (by first | assumption | go_keep) (fun hHeld => ?_)
        clear hK K
        refine wpAnyH_ready (rs := [11]) (by kernel_rfl) (by simp) ?_
        refine AllReadyH.cons rfl (fun K hK => ?_) AllReadyH.nil
        go_simp
        refine hK.out _ _ ((World.cell?_setCell_far _ ⟨b, I, none⟩ _ _ (by show b ≠ o; omega)).trans hoc) (fun hHeld => ?_)
        clear hK K
        refine wpAnyH_done (by kernel_rfl) ?_ _
        obtain ⟨hce, hfr, hcap, hcap9⟩ := HS7.out.facts
        have hoc := HS7.out.oc
        have hci := hce J hJ
        have hfi := hfr J
        have HS8 := Lib.hid ((HS7.out.set J (IntKind.i64.wrap (at0 (l.set I (IntKind.i64.wrap (x7 - d))) J + d))).drew)
        obtain ⟨x8, hx⟩ : ∃ x, x = at0 (l.set I (IntKind.i64.wrap (x7 - d))) J := ⟨_, rfl⟩
        rw [← hx] at hci HS8
        clear hx hce hfr
        go_wp2_with fail
        refine wp_region_held_drew (S := fun w' => w'.cell? ⟨o, 0, none⟩ = some (.slice (some ⟨b, 0, none⟩) 24 capb)) (by kernel_rfl) (by exact hoc) (fun hHeld => ?_)
        refine wpAnyH_take (i := 0) (v := .pointer (some ⟨o, 0, none⟩)) rfl (by kernel_rfl) (by kernel_rfl) (by kernel_rfl) (fun _ _ _ h => h) (Or.inl ⟨by rfl, ?_⟩) (by assumption) ?_
        · (intro w hSw; (try dsimp only at hSw); go_simp)
        simp only [Act.put, List.setIfInBounds_toArray]
        refine wpAnyH_take (i := 1) (v := .slice (some ⟨b, 0, none⟩) 24 capb) rfl (by kernel_rfl) (by kernel_rfl) (by kernel_rfl) (fun _ _ _ h => h) (Or.inl ⟨by rfl, ?_⟩) (by assumption) ?_
        · (intro w hSw; (try dsimp only at hSw); go_simp)
        simp only [Act.put]
        refine wpAnyH_take (i := 2) (v := .int .i64 (J : Int)) rfl (by kernel_rfl) (by kernel_rfl) (by kernel_rfl) (fun _ _ _ h => h) (Or.inl ⟨by rfl, ?_⟩) (by assumption) ?_
        · (intro w hSw; (try dsimp only at hSw); go_simp)
        simp only [Act.put]
        refine wpAnyH_take (i := 3) (v := .pointer (some ⟨o, 0, none⟩)) rfl (by kernel_rfl) (by kernel_rfl) (by kernel_rfl) (fun _ _ _ h => h) (Or.inl ⟨by rfl, ?_⟩) (by assumption) ?_
        · (intro w hSw; (try dsimp only at hSw); go_simp)
        simp only [Act.put]
        refine wpAnyH_take (i := 4) (v := .slice (some ⟨b, 0, none⟩) 24 capb) rfl (by kernel_rfl) (by kernel_rfl) (by kernel_rfl) (fun _ _ _ h => h) (Or.inl ⟨by rfl, ?_⟩) (by assumption) ?_
        · (intro w hSw; (try dsimp only at hSw); go_simp)
        simp only [Act.put]
        refine wpAnyH_take (i := 5) (v := .int .i64 (J : Int)) rfl (by kernel_rfl) (by kernel_rfl) (by kernel_rfl) (fun _ _ _ h => h) (Or.inl ⟨by rfl, ?_⟩) (by assumption) ?_
        · (intro w hSw; (try dsimp only at hSw); go_simp)
        simp only [Act.put]
        refine wpAnyH_take (i := 6) (v := .pointer (some ⟨b, J, none⟩)) rfl (by kernel_rfl) (by kernel_rfl) (by kernel_rfl) (fun _ _ _ h => h) (Or.inl ⟨by rfl, ?_⟩) (by assumption) ?_
        · (intro w hSw; (try dsimp only at hSw); go_simp)
        simp only [Act.put]
        refine wpAnyH_take (i := 8) (v := .int .i64 d) rfl (by kernel_rfl) (by kernel_rfl) (by kernel_rfl) (fun _ _ _ h => h) (Or.inl ⟨by rfl, ?_⟩) (by assumption) ?_
        · (intro w hSw; (try dsimp only at hSw); go_simp)
        simp only [Act.put]
        refine wpAnyH_ready (rs := [7]) (by kernel_rfl) (by simp) ?_
        refine AllReadyH.cons rfl (fun K hK => ?_) AllReadyH.nil
        go_simp
        refine hK.out _ _ (by first | assumption | go_keep) (fun hHeld => ?_)
        clear hK K
        refine wpAnyH_take (i := 9) (v := .int .i64 (IntKind.i64.wrap (x8 + d))) rfl (by kernel_rfl) (by kernel_rfl) (by kernel_rfl) (fun _ _ _ h => h) (Or.inl ⟨by rfl, ?_⟩) (by assumption) ?_
        · (intro w hSw; (try dsimp only at hSw); go_simp)
        simp only [Act.put]
        refine wpAnyH_ready (rs := [10]) (by kernel_rfl) (by simp) ?_
        refine AllReadyH.cons rfl (fun K hK => ?_) AllReadyH.nil
        go_simp
        refine hK.out _ _ (by first | assumption | go_keep) (fun hHeld => ?_)
        clear hK K
        refine wpAnyH_ready (rs := [11]) (by kernel_rfl) (by simp) ?_
        refine AllReadyH.cons rfl (fun K hK => ?_) AllReadyH.nil
        go_simp
        refine hK.out _ _ ((World.cell?_setCell_far _ ⟨b, J, none⟩ _ _ (by show b ≠ o; omega)).trans hoc) (fun hHeld => ?_)
        clear hK K
        refine wpAnyH_done (by kernel_rfl) ?_ _
        go_wp2_with fail
        go_roundw
        case rel => exact ⟨r - 1, _, by omega, by congr 1; omega, Lib.hid ((((HP5.out.set I (wrap64 (x7 - d))).set J (wrap64 (x8 + d))).drew.drew).more (by omega))⟩
        case measure => simp [intOf]; omega
    · have e : r = 0 := by omega
      subst e
      have HP0 := Lib.hid (HP.out.more (show KC + 2 + 6 * (11 - 0) ≤ KC + 68 by omega))
      clear HP
      go_wp2_with (first | (go_at_call 62; refine (S1.pick_any B g a n cap (KC + 68) 30 _ (by omega) (by omega) (by omega) HP0.out.st).mono ?_; rintro e w3 ⟨q0, rfl, hq0, hq9, hs, hg⟩; refine Hid.out ?_) | fail)
      have HP3 := Lib.hid (HP0.out.call hs hg)
      obtain ⟨q, rfl, hq'⟩ := nat_in hq0 hq9
      clear hs hg hq0 hq9 HP0
      have hoc := HP3.out.oc
      have hof := HP3.out.of
      have hrc := HP3.out.rc
      have hrf := HP3.out.rf
      have hbs := HP3.out.bs
      have hol := HP3.out.ol
      have hne := HP3.out.ne
      have hne2 : ¬ o = b := fun e => hne e.symm
      have hlo := HP3.out.lo
      have hbw : ¬ b = w.heap.size := by omega
      have hwb : ¬ w.heap.size = b := by omega
      have how : ¬ o = w.heap.size := by omega
      have hwo : ¬ w.heap.size = o := by omega
      obtain ⟨hce, hfr, hcap, hcap9⟩ := HP3.out.facts
      have HCE := Lib.hid hce
      have HFR := Lib.hid hfr
      clear hce hfr
      by_cases e0 : q = 0
      · subst e0
        refine Lib.hid ?_
        go_wp2_with fail
        refine wp_region_held_drew (S := fun w' => w'.cell? ⟨o, 0, none⟩ = some (.slice (some ⟨b, 0, none⟩) 24 capb)) (by kernel_rfl) (by exact hoc) (fun hHeld => ?_)
        refine wpAnyH_take (i := 0) (v := .pointer (some ⟨o, 0, none⟩)) rfl (by kernel_rfl) (by kernel_rfl) (by kernel_rfl) (fun _ _ _ h => h) (Or.inl ⟨by rfl, ?_⟩) (by assumption) ?_
        · (intro w hSw; (try dsimp only at hSw); go_simp)
        simp only [Act.put, List.setIfInBounds_toArray]
        refine wpAnyH_take (i := 1) (v := .slice (some ⟨b, 0, none⟩) 24 capb) rfl (by kernel_rfl) (by kernel_rfl) (by kernel_rfl) (fun _ _ _ h => h) (Or.inl ⟨by rfl, ?_⟩) (by assumption) ?_
        · (intro w hSw; (try dsimp only at hSw); go_simp)
        simp only [Act.put]
        refine wpAnyH_take (i := 2) (v := .pointer (some ⟨g, 0, none⟩)) rfl (by kernel_rfl) (by kernel_rfl) (by kernel_rfl) (fun _ _ _ h => h) (Or.inl ⟨by rfl, ?_⟩) (by assumption) ?_
        · (intro w hSw; (try dsimp only at hSw); go_simp)
        simp only [Act.put]
        refine wpAnyH_ready (rs := [3]) (by kernel_rfl) (by simp) ?_
        refine AllReadyH.cons rfl (fun K hK => ?_) AllReadyH.nil
        go_simp
        go_at_call 62
        refine (S1.pick_any B g a n cap (KC + 70) 24 _ (by omega) (by omega) (by omega) HP3.out.drew.st).mono ?_
        rintro e w4 ⟨i0, rfl, hi0, hi9, hs, hg⟩
        have HP4 := Lib.hid (HP3.out.drew.call hs hg)
        obtain ⟨I, rfl, hI'⟩ := nat_in hi0 hi9
        have hI : I < 24 := by omega
        have hI0 : (0 : Int) ≤ (I : Int) := by omega
        have hoc4 := HP4.out.oc
        have hof4 := HP4.out.of
        have hrc4 := HP4.out.rc
        have hrf4 := HP4.out.rf
        obtain ⟨hce4, hfr4, _, _⟩ := HP4.out.facts
        have hci := hce4 I hI
        have hfi := hfr4 I
        generalize at0 l I = x at hci
        clear hce4 hfr4 hi0 hi9
        refine hK.out _ _ (by exact hoc4) (fun hHeld => ?_)
        clear hK K
        refine wpAnyH_take (i := 4) (v := .pointer (some ⟨b, I, none⟩)) rfl (by kernel_rfl) (by kernel_rfl) (by kernel_rfl) (fun _ _ _ h => h) (Or.inl ⟨by rfl, ?_⟩) (by assumption) ?_
        · (intro w hSw; (try dsimp only at hSw); go_simp)
        simp only [Act.put]
        refine wpAnyH_ready (rs := [5]) (by kernel_rfl) (by simp) ?_
        refine AllReadyH.cons rfl (fun K hK => ?_) AllReadyH.nil
        go_simp
        refine hK.out _ _ (by first | assumption | go_keep) (fun hHeld => ?_)
        clear hK K
        refine wpAnyH_take (i := 6) (v := .int .i64 (IntKind.i64.wrap (x + 1))) rfl (by kernel_rfl) (by kernel_rfl) (by kernel_rfl) (fun _ _ _ h => h) (Or.inl ⟨by rfl, ?_⟩) (by assumption) ?_
        · (intro w hSw; (try dsimp only at hSw); go_simp)
        simp only [Act.put]
        refine wpAnyH_ready (rs := [7]) (by kernel_rfl) (by simp) ?_
        refine AllReadyH.cons rfl (fun K hK => ?_) AllReadyH.nil
        go_simp
        refine hK.out _ _ (by first | assumption | go_keep) (fun hHeld => ?_)
        clear hK K
        refine wpAnyH_ready (rs := [8]) (by kernel_rfl) (by simp) ?_
        refine AllReadyH.cons rfl (fun K hK => ?_) AllReadyH.nil
        go_simp
        refine hK.out _ _ ((World.cell?_setCell_far _ ⟨b, I, none⟩ _ _ (by show b ≠ o; omega)).trans hoc4) (fun hHeld => ?_)
        clear hK K
        refine wpAnyH_done (by kernel_rfl) ?_ _
        go_wp2_with fail
        refine bodyPost_ret (v := dv (some ⟨b, 0, none⟩) 24 capb) (by simp [results, Try.results54, go_sem, hrc4]) rfl (prof_fin (HP4.out.set I _) (by omega) _)
      by_cases e1 : q = 1
      · subst e1
        have hc1 : ((capb - 1 : Nat) : Int) = (capb : Int) - 1 := by omega
        refine Lib.hid ?_
        go_wp2_with fail
        refine bodyPost_ret (v := dv (some ⟨b, 1, none⟩) 23 (capb - 1)) (by simp [results, Try.results54, go_sem, hrc]) rfl (prof_tail HP3.out (by omega) _ _)
      by_cases e2 : q = 2
      · subst e2
        refine Lib.hid ?_
        go_wp2_with (first | (go_at_call 48; refine (sflat_own _).mono ?_; rintro e w4 ⟨b2, cap2, rfl, hgb2, hO2, hb4⟩; refine Hid.out ?_) | fail)
        have hfl : flatL.length = 24 := by simp [flatL]
        rw [hfl]
        have HP4 := Lib.hid (HP3.out.call (HP3.out.st.other hb4) (grown_of_below hb4))
        have hrow : w4.ownsRow (w.heap.size + 1) 3 1 (.slice (some ⟨b2, 0, none⟩) 24 cap2) 24 (flatL.map iv) := by
          have := own_lower (B' := w.heap.size + 1) hO2 (by omega)
          unfold IOwn at this; rw [hfl] at this; exact this
        have HP5 := Lib.hid (HP4.out.swap hrow hfl (by omega))
        have hoc4 := HP4.out.oc
        have hof4 := HP4.out.of
        have hrc4 := HP4.out.rc
        have hrf4 := HP4.out.rf
        have hbl2 := (World.ownsRow.lt hrow b2 rfl).2
        have hne5 : ¬ b2 = o := by omega
        have hne6 : ¬ o = b2 := by omega
        have hne7 : ¬ b2 = w.heap.size := by omega
        have hne8 : ¬ w.heap.size = b2 := by omega
        have hr4 : IOwn w4 (w.heap.size + 1) (.slice (some ⟨b2, 0, none⟩) 24 cap2) flatL := by unfold IOwn; rw [hfl]; exact hrow
        obtain ⟨_, hce4, hfr4⟩ := row_facts hfl hr4
        have h40 := hce4 0 (by omega)
        have h41 := hce4 1 (by omega)
        have hf40 := hfr4 0
        have hf41 := hfr4 1
        clear hrow hr4 hce4 hfr4 hO2 hb4 hfl
        refine Lib.hid ?_
        go_wp2_with fail
        refine bodyPost_ret (v := dv (some ⟨b2, 0, none⟩) 24 cap2) (by simp [results, Try.results54, go_sem, hrc4]) rfl (prof_fin ((HP5.out.set 0 _).set 1 _) (by omega) _)
      by_cases e3 : q = 3
      · subst e3
        have hmk := run_make_row' (P := Try.prog) 24 3 (.int .i64 0) 8 Try.underlying24 infoI rfl .i64 .i64 24 (by omega) (by omega)
        simp only [show ((24 : Nat) : Int) = 24 from rfl] at hmk
        have hrow : (w3.alloc (.cells (madeCells #[.int .i64 0] 24) 3)).ownsRow (w.heap.size + 1) 3 1 (.slice (some ⟨w3.heap.size, 0, none⟩) 24 24) 24 ((List.replicate 24 (0 : Int)).map iv) := by
          have := own_lower (B' := w.heap.size + 1) (l := List.replicate 24 (0 : Int)) (v := .slice (some ⟨w3.heap.size, 0, none⟩) 24 24) (B := w3.heap.size) (w := w3.alloc (.cells (madeCells #[.int .i64 0] 24) 3)) (by unfold IOwn; rw [List.length_replicate]; exact made24 w3) (by omega)
          unfold IOwn at this; rw [List.length_replicate] at this; exact this
        have HP4 := Lib.hid ((HP3.out.alloc (.cells (madeCells #[.int .i64 0] 24) 3)).swap hrow (by simp) (by omega))
        have hm3 := HP4.out.facts.1 3 (by omega)
        have hf3 := HP4.out.facts.2.1 3
        have hq1 : o < w3.heap.size := hol
        have hq2 : w.heap.size < w3.heap.size := by omega
        rw [World.setCell_alloc_past _ _ _ _ hol] at hm3 hf3
        have hmm : (madeCells #[Value.int IntKind.i64 0] 24)[3]? = some (iv 0) := by
          rw [← Array.getElem?_toList, toList_madeCells_one]; rfl
        clear hrow
        refine Lib.hid ?_
        go_upto_region 20 with (fail)
        go_cut [90] (fun s wx => Hid (PI w wx B g a n cap (KC + 70) o w3.heap.size 24 ((List.replicate 24 (0 : Int)).set 3 1000)))
        case first =>
          go_wp2_with fail
          go_meet
          have h := HP4.out.set 3 1000
          rw [World.setCell_alloc_past _ _ _ _ hol, World.setCell_alloc_at _ _ _ _ _ (by simp)] at h
          exact Lib.hid h
        case rest =>
          clear hm3 hf3 hmm hmk HP4 hoc hof hrc hrf HP3 HCE HFR
          obtain ⟨w5, hwb⟩ : ∃ w5, w5 = wc := ⟨_, rfl⟩
          subst hwb
          have HP5 := hcut
          clear hcut
          obtain ⟨b3, hb3⟩ : ∃ b3, b3 = w3.heap.size := ⟨_, rfl⟩
          have hoc5 := HP5.out.oc
          have hne5 := HP5.out.ne
          rw [← hb3] at HP5 hoc5 hne5
          have HB3 := Lib.hid hb3
          have hb3g : g < b3 := by omega
          try simp only [← HB3.out]
          clear hb3
          go_upto_region 21 with (fail)
          go_cut [95] (fun s wx => ∃ l5, Hid (PI w wx B g a n cap (KC + 72) o b3 24 l5))
          case first =>
            go_wp2_with fail
            refine wp_region_held_drew (S := fun w' => w'.cell? ⟨o, 0, none⟩ = some (.slice (some ⟨b3, 0, none⟩) 24 24)) (by kernel_rfl) (by exact hoc5) (fun hHeld => ?_)
            refine wpAnyH_take (i := 0) (v := .pointer (some ⟨o, 0, none⟩)) rfl (by kernel_rfl) (by kernel_rfl) (by kernel_rfl) (fun _ _ _ h => h) (Or.inl ⟨by rfl, ?_⟩) (by assumption) ?_
            · (intro w hSw; (try dsimp only at hSw); go_simp)
            simp only [Act.put, List.setIfInBounds_toArray]
            refine wpAnyH_take (i := 1) (v := .slice (some ⟨b3, 0, none⟩) 24 24) rfl (by kernel_rfl) (by kernel_rfl) (by kernel_rfl) (fun _ _ _ h => h) (Or.inl ⟨by rfl, ?_⟩) (by assumption) ?_
            · (intro w hSw; (try dsimp only at hSw); go_simp)
            simp only [Act.put]
            refine wpAnyH_take (i := 2) (v := .pointer (some ⟨g, 0, none⟩)) rfl (by kernel_rfl) (by kernel_rfl) (by kernel_rfl) (fun _ _ _ h => h) (Or.inl ⟨by rfl, ?_⟩) (by assumption) ?_
            · (intro w hSw; (try dsimp only at hSw); go_simp)
            simp only [Act.put]
            refine wpAnyH_ready (rs := [3]) (by kernel_rfl) (by simp) ?_
            refine AllReadyH.cons rfl (fun K hK => ?_) AllReadyH.nil
            go_simp
            go_at_call 62
            refine (S1.pick_any B g a n cap (KC + 70) 2 _ (by omega) (by omega) (by omega) HP5.out.drew.st).mono ?_
            rintro e w6 ⟨i0, rfl, hi0, hi9, hs, hg⟩
            have HP6 := Lib.hid (HP5.out.drew.call hs hg)
            have hoc6 := HP6.out.oc
            obtain ⟨hce6, hfr6, _, _⟩ := HP6.out.facts
            have h64 := hce6 4 (by omega)
            have hf64 := hfr6 4
            generalize at0 _ 4 = x4 at h64
            clear hce6 hfr6 hi0 hi9
            refine hK.out _ _ (by exact hoc6) (fun hHeld => ?_)
            clear hK K
            refine wpAnyH_take (i := 4) (v := .int .i64 (IntKind.i64.wrap (1000 + i0))) rfl (by kernel_rfl) (by kernel_rfl) (by kernel_rfl) (fun _ _ _ h => h) (Or.inl ⟨by rfl, ?_⟩) (by assumption) ?_
            · (intro w hSw; (try dsimp only at hSw); go_simp)
            simp only [Act.put]
            refine wpAnyH_ready (rs := [5]) (by kernel_rfl) (by simp) ?_
            refine AllReadyH.cons rfl (fun K hK => ?_) AllReadyH.nil
            go_simp
            refine hK.out _ _ (by first | assumption | go_keep) (fun hHeld => ?_)
            clear hK K
            refine wpAnyH_ready (rs := [6]) (by kernel_rfl) (by simp) ?_
            refine AllReadyH.cons rfl (fun K hK => ?_) AllReadyH.nil
            go_simp
            refine hK.out _ _ ((World.cell?_setCell_far _ ⟨b3, 4, none⟩ _ _ (by show b3 ≠ o; exact hne5)).trans hoc6) (fun hHeld => ?_)
            clear hK K
            refine wpAnyH_done (by kernel_rfl) ?_ _
            go_wp2_with fail
            go_meet
            exact ⟨_, Lib.hid (HP6.out.set 4 _)⟩
          case rest =>
            obtain ⟨l5, HP6⟩ := hcut
            obtain ⟨w6, hwb⟩ : ∃ w6, w6 = wc := ⟨_, rfl⟩
            subst hwb
            clear HP5 hoc5
            have hoc6 := HP6.out.oc
            have hof6 := HP6.out.of
            have hrc6 := HP6.out.rc
            have hrf6 := HP6.out.rf
            obtain ⟨hce6, hfr6, _, _⟩ := HP6.out.facts
            have h63 := hce6 3 (by omega)
            have h64 := hce6 4 (by omega)
            have h65 := hce6 5 (by omega)
            have hf65 := hfr6 5
            have hbs6 := HP6.out.bs
            have hbw6 : ¬ b3 = w.heap.size := by omega
            have hwb6 : ¬ w.heap.size = b3 := by omega
            have hne6 : ¬ o = b3 := fun e => hne5 e.symm
            generalize at0 l5 3 = x3 at h63
            generalize at0 l5 4 = x4 at h64
            generalize at0 l5 5 = x5 at h65
            clear hce6 hfr6
            go_wp2_with fail
            refine wp_region_held_drew (S := fun w' => w'.cell? ⟨o, 0, none⟩ = some (.slice (some ⟨b3, 0, none⟩) 24 24) ∧ w'.cell? ⟨b3, 3, none⟩ = some (iv x3) ∧ w'.cell? ⟨b3, 4, none⟩ = some (iv x4)) (by kernel_rfl) (by exact ⟨hoc6, h63, h64⟩) (fun hHeld => ?_)
            refine wpAnyH_take (i := 0) (v := .pointer (some ⟨o, 0, none⟩)) rfl (by kernel_rfl) (by kernel_rfl) (by kernel_rfl) (fun _ _ _ h => h) (Or.inl ⟨by rfl, ?_⟩) (by assumption) ?_
            · (intro w hSw; (try dsimp only at hSw); go_simp)
            simp only [Act.put, List.setIfInBounds_toArray]
            refine wpAnyH_take (i := 1) (v := .slice (some ⟨b3, 0, none⟩) 24 24) rfl (by kernel_rfl) (by kernel_rfl) (by kernel_rfl) (fun _ _ _ h => h) (Or.inl ⟨by rfl, ?_⟩) (by assumption) ?_
            · (intro w hSw; (try dsimp only at hSw); go_simp)
            simp only [Act.put]
            refine wpAnyH_take (i := 2) (v := .pointer (some ⟨o, 0, none⟩)) rfl (by kernel_rfl) (by kernel_rfl) (by kernel_rfl) (fun _ _ _ h => h) (Or.inl ⟨by rfl, ?_⟩) (by assumption) ?_
            · (intro w hSw; (try dsimp only at hSw); go_simp)
            simp only [Act.put]
            refine wpAnyH_take (i := 3) (v := .slice (some ⟨b3, 0, none⟩) 24 24) rfl (by kernel_rfl) (by kernel_rfl) (by kernel_rfl) (fun _ _ _ h => h) (Or.inl ⟨by rfl, ?_⟩) (by assumption) ?_
            · (intro w hSw; (try dsimp only at hSw); go_simp)
            simp only [Act.put]
            refine wpAnyH_take (i := 4) (v := .pointer (some ⟨b3, 3, none⟩)) rfl (by kernel_rfl) (by kernel_rfl) (by kernel_rfl) (fun _ _ _ h => h) (Or.inl ⟨by rfl, ?_⟩) (by assumption) ?_
            · (intro w hSw; (try dsimp only at hSw); go_simp)
            simp only [Act.put]
            refine wpAnyH_take (i := 5) (v := iv x3) rfl (by kernel_rfl) (by kernel_rfl) (by kernel_rfl) (fun _ _ _ h => h) (Or.inl ⟨by rfl, ?_⟩) (by assumption) ?_
            · (intro w hSw; (try dsimp only at hSw); go_simp)
            simp only [Act.put]
            refine wpAnyH_take (i := 6) (v := .int .i64 (IntKind.i64.wrap (2400 - x3))) rfl (by kernel_rfl) (by kernel_rfl) (by kernel_rfl) (fun _ _ _ h => h) (Or.inl ⟨by rfl, ?_⟩) (by assumption) ?_
            · (intro w hSw; (try dsimp only at hSw); go_simp)
            simp only [Act.put]
            refine wpAnyH_take (i := 7) (v := .pointer (some ⟨o, 0, none⟩)) rfl (by kernel_rfl) (by kernel_rfl) (by kernel_rfl) (fun _ _ _ h => h) (Or.inl ⟨by rfl, ?_⟩) (by assumption) ?_
            · (intro w hSw; (try dsimp only at hSw); go_simp)
            simp only [Act.put]
            refine wpAnyH_take (i := 8) (v := .slice (some ⟨b3, 0, none⟩) 24 24) rfl (by kernel_rfl) (by kernel_rfl) (by kernel_rfl) (fun _ _ _ h => h) (Or.inl ⟨by rfl, ?_⟩) (by assumption) ?_
            · (intro w hSw; (try dsimp only at hSw); go_simp)
            simp only [Act.put]
            refine wpAnyH_take (i := 9) (v := .pointer (some ⟨b3, 4, none⟩)) rfl (by kernel_rfl) (by kernel_rfl) (by kernel_rfl) (fun _ _ _ h => h) (Or.inl ⟨by rfl, ?_⟩) (by assumption) ?_
            · (intro w hSw; (try dsimp only at hSw); go_simp)
            simp only [Act.put]
            refine wpAnyH_take (i := 10) (v := iv x4) rfl (by kernel_rfl) (by kernel_rfl) (by kernel_rfl) (fun _ _ _ h => h) (Or.inl ⟨by rfl, ?_⟩) (by assumption) ?_
            · (intro w hSw; (try dsimp only at hSw); go_simp)
            simp only [Act.put]
            refine wpAnyH_take (i := 11) (v := .int .i64 (IntKind.i64.wrap (IntKind.i64.wrap (2400 - x3) - x4))) rfl (by kernel_rfl) (by kernel_rfl) (by kernel_rfl) (fun _ _ _ h => h) (Or.inl ⟨by rfl, ?_⟩) (by assumption) ?_
            · (intro w hSw; (try dsimp only at hSw); go_simp)
            simp only [Act.put]
            refine wpAnyH_ready (rs := [12]) (by kernel_rfl) (by simp) ?_
            refine AllReadyH.cons rfl (fun K hK => ?_) AllReadyH.nil
            go_simp
            refine hK.out _ _ (by first | assumption | go_keep) (fun hHeld => ?_)
            clear hK K
            refine wpAnyH_ready (rs := [13]) (by kernel_rfl) (by simp) ?_
            refine AllReadyH.cons rfl (fun K hK => ?_) AllReadyH.nil
            go_simp
            refine hK.out _ _ ⟨(World.cell?_setCell_far _ ⟨b3, 5, none⟩ _ _ (by show b3 ≠ o; exact hne5)).trans hoc6, (World.cell?_setCell_other _ ⟨b3, 5, none⟩ ⟨b3, 3, none⟩ _ (by simp)).trans h63, (World.cell?_setCell_other _ ⟨b3, 5, none⟩ ⟨b3, 4, none⟩ _ (by simp)).trans h64⟩ (fun hHeld => ?_)
            clear hK K
            refine wpAnyH_done (by kernel_rfl) ?_ _
            go_wp2_with fail
            refine bodyPost_ret (v := dv (some ⟨b3, 0, none⟩) 24 24) (by simp [results, Try.results54, go_sem, hrc6]) rfl (prof_drew (prof_fin (K1 := KC + 72) (HP6.out.set 5 _) (by omega) _))
      · refine Lib.hid ?_
        go_wp2_with fail
        refine bodyPost_ret (v := dv (some ⟨b, 0, none⟩) 24 capb) (by simp [results, Try.results54, go_sem, hrc]) rfl (prof_fin HP3.out (by omega) _)
end Go.Proofs.Ytkgkeohnnpkahaa.S6
