/- RaiseCurve, the model's: contracts. Conditions: each theorem's own premises. -/
import Derived.Test.YtpldbakllegheabCvRaise
namespace Go.Proofs.Ytpldbakllegheab.S7
open Go.RowKit Go.Sort P7

/-- Points beside a bool, as the model gives them. -/
def GivesCA (w : World) (l : List Cp) (ok : Bool) (e : Ending) (w' : World) : Prop :=
  ∃ g cap, e = .returned (.tuple #[.slice (some ⟨g, 0, none⟩) l.length cap, .bool ok]) ∧ w.heap.size ≤ g ∧ CAt w' (some ⟨g, 0, none⟩) l ∧ Below w.heap.size w w' ∧ g < w'.heap.size ∧ l.length ≤ cap ∧ cap ≤ maxLen
theorem GivesCI.any {w : World} {l : List Cp} {ok : Bool} {e : Ending} {w' : World} (h : GivesCI w l ok e w') : GivesCA w l ok e w' := by
  obtain ⟨g, cap, he, hg, ho, hb⟩ := h
  refine ⟨g, cap, he, hg, own_cat ho, hb, (ho.lt g rfl).2, ?_, ?_⟩
  · rcases ho.2 with ⟨hv, _⟩ | ⟨g', c', cur, hv, _, _, h1, h2, _⟩
    · cases hv
    · injection hv with _ _ e
      subst e; exact h1
  · rcases ho.2 with ⟨hv, _⟩ | ⟨g', c', cur, hv, _, _, h1, h2, _⟩
    · cases hv
    · injection hv with _ _ e
      subst e; exact h2
theorem cell_two {w w' : World} {c : Cp} (h : w' = (w.alloc (.cells #[.int .i64 c.fl, .int .i64 c.hd] 38)).drew) : ∀ j u, (ccs2 c)[j]? = some u → w'.cell? ((⟨w.heap.size, 0, none⟩ : Addr).add j) = some u := by
  subst h
  intro j u hu
  have e : (⟨w.heap.size, 0, none⟩ : Addr).add j = ⟨w.heap.size, 0 + j, none⟩ := add_plus _ _ _
  rw [e, Nat.zero_add]
  show (w.alloc _).cell? _ = _
  rw [World.cell?_alloc_at _ _ _ _ rfl]
  have : (#[Value.int .i64 c.fl, .int .i64 c.hd])[j]? = (ccs2 c)[j]? := by simp [ccs2]
  rw [this]; exact hu
theorem spost_no {cs : List Cp} {h : Int} {w w1 : World} {g cap : Nat} (hn : rB cs h = false) (hg : w.heap.size ≤ g) (hgl : g < w1.heap.size) (hcc : cap ≤ maxLen) (hb : Below w.heap.size w w1) : GivesCA w (rL cs h) (rB cs h) (.returned (.tuple #[.slice (some ⟨g, 0, none⟩) 0 cap, .bool false])) w1 := by
  rw [rL_no hn, hn]; exact ⟨g, cap, rfl, hg, .inl rfl, hb, hgl, Nat.zero_le _, hcc⟩
set_option maxHeartbeats 8000000 in
set_option maxRecDepth 100000 in
theorem sraise_any (A : Option Addr) (cap : Nat) (cs : List Cp) (h : Int) (w : World) (hA : CAt w A cs) (hm : cs.length ≤ 1048576) :
    Calls Try.prog 30 #[.slice A cs.length cap, .int .i64 h] w (GivesCA w (rL cs h) (rB cs h)) := by
  have HA := Lib.hid hA
  obtain ⟨v, hv⟩ : ∃ v, gB cs = v := ⟨_, rfl⟩
  have HV := Lib.hid (fun w' (hb : Below w.heap.size w w') => sgood_v hv A cap w' (hA.kept hb (Nat.le_refl _)) hm)
  obtain ⟨v1, hv1⟩ : ∃ v, decide (-1000 ≤ h ∧ h ≤ 1000) = v := ⟨_, rfl⟩
  have HI := Lib.hid (fun w => in_eq h (-1000) 1000 v1 hv1 w)
  have HB0 := Lib.hid (show Below w.heap.size w (w.alloc (.cells #[] 38)) from alloc_below _ _)
  by_cases hbad : v = false ∨ v1 = false
  · have hfin := Lib.hid (show rB cs h = false by unfold rB; rw [hv, hv1]; rcases hbad with e | e <;> rw [e] <;> simp)
    clear hv hv1 hA
    go_enter Try.func30, Try.ntmps30
    cases v <;> cases v1 <;> first | (exact absurd hbad (by decide)) | skip
    all_goals
      clear hbad
      go_wp2_with (first
        | (go_at_call 53; refine (HV.out _ HB0.out).mono ?_; rintro e w1 ⟨rfl, hb1⟩)
        | (go_at_call 51; refine (HI.out _).mono ?_; rintro e w1x ⟨rfl, hw⟩; replace hw := hw.symm; subst hw))
      go_ret2
      exact spost_no hfin.out (Nat.le_refl _) (Nat.lt_of_lt_of_le (by simp) hb1.size) (by unfold maxLen; omega) (HB0.out.trans (hb1.mono (by simp)))
  · have e1 : v = true := by cases v with | true => rfl | false => exact absurd (.inl rfl) hbad
    have e2 : v1 = true := by cases v1 with | true => rfl | false => exact absurd (.inr rfl) hbad
    subst e1 e2
    have g := gB_of hv
    have hl0 := g.1
    have hl9 := g.2.1
    have HG := Lib.hid g
    have hh := of_decide_eq_true hv1
    obtain ⟨hh0, hh9⟩ := hh
    obtain ⟨b, off, hA', hbl, k0, k1⟩ := hA.at_ (show 0 < cs.length by omega)
    subst hA'
    obtain ⟨v2, hv2⟩ : ∃ v, gB (raiseC cs h) = v := ⟨_, rfl⟩
    have HR := Lib.hid (show rB cs h = v2 by unfold rB; rw [hv, hv1, hv2]; rfl)
    have HV2 := Lib.hid (fun w' g' c' (ho : CAt w' (some ⟨g', 0, none⟩) (raiseC cs h)) => by
      have := sgood_v hv2 (some ⟨g', 0, none⟩) c' w' ho (by rw [raiseC_len]; omega)
      rwa [raiseC_len] at this)
    obtain ⟨i0, hi0, hz0, hz1, hz2⟩ := info_parts infoC
    clear hv hA k0 k1 g hv2 hv1 hbad
    go_enter Try.func30, Try.ntmps30
    go_wp2_with (first
      | (go_at_call 53; refine (HV.out _ HB0.out).mono ?_; rintro e w1 ⟨rfl, hb1⟩)
      | (go_at_call 51; refine (HI.out _).mono ?_; rintro e w1x ⟨rfl, hw⟩; replace hw := hw.symm; subst hw))
    have HO0 := Lib.hid (own_on (own_emptyC w w.heap.size (Nat.le_refl _)) hb1)
    have HB1 := Lib.hid (HB0.out.trans (hb1.mono (by simp)))
    clear hb1
    go_loopw [6, 7] (fun v i wr => ∃ k gv cv : Nat, k ≤ cs.length ∧ v = .slice (some ⟨gv, 0, none⟩) k cv ∧ i = .int .i64 (k : Int) ∧ w.heap.size ≤ gv ∧ Hid (wr.ownsRow w.heap.size 38 2 (.slice (some ⟨gv, 0, none⟩) k cv) k (ccs (raiseC (cs.take k) h))) ∧ Hid (Below w.heap.size w wr)) (fun _ i _ => cs.length - (intOf i).toNat)
    case atStart => exact ⟨0, w.heap.size, 0, Nat.zero_le _, rfl, rfl, Nat.le_refl _, Lib.hid (by simpa [raiseC, ccs] using HO0.out), HB1⟩
    case round =>
      clear HO0 HB1
      obtain ⟨k, gv, cv, hk, rfl, rfl, hgv, hown, hb⟩ := hrel
      have hz := hb.out.size
      by_cases hlt : k < cs.length
      · obtain ⟨b', off', hA', _, c0, c1⟩ := HA.out.at_ hlt
        simp only [Option.some.injEq, Addr.mk.injEq, and_true] at hA'
        obtain ⟨rfl, rfl⟩ := hA'
        have hk0 : (0 : Int) ≤ (k : Int) := by omega
        have hkn : (k : Int) < (cs.length : Int) := by omega
        have HN := Lib.hid (show ccs (raiseC (cs.take (k + 1)) h) = ccs (raiseC (cs.take k) h) ++ ccs2 (up h (cAt cs k)) by rw [raise_take cs h k hlt, ccs_snoc])
        have hx := HG.out.at_ hlt
        have hup : up h (cAt cs k) = ⟨(cAt cs k).fl, (cAt cs k).hd + h⟩ := rfl
        rw [hup] at HN
        generalize (cAt cs k).fl = x at *
        generalize (cAt cs k).hd = y at *
        obtain ⟨_, hy0, hy9⟩ := hx
        have hyw : IntKind.i64.wrap (y + h) = y + h := w64 _ (by omega)
        have cr0 := (hb.out.cell (p := ⟨b, off + k * 2, none⟩) hbl).trans c0
        have cr1 := (hb.out.cell (p := ⟨b, off + k * 2 + 1, none⟩) hbl).trans c1
        go_upto_region 7 with (fail)
        refine wp_region_held_drew (S := fun w' => w'.cell? ⟨b, off + k * 2, none⟩ = some (.int .i64 x) ∧ w'.cell? ⟨b, off + k * 2 + 1, none⟩ = some (.int .i64 y)) (by kernel_rfl) (by exact ⟨cr0, cr1⟩) (fun hHeld => ?_)
        refine wpAnyH_take (i := 0) (v := .slice (some ⟨gv, 0, none⟩) k cv) rfl (by kernel_rfl) (by kernel_rfl) (by kernel_rfl) (fun _ _ _ h => h) (Or.inl ⟨by rfl, ?_⟩) (by assumption) ?_
        · (intro w hSw; (try dsimp only at hSw); go_simp)
        simp only [Act.put, List.setIfInBounds_toArray]
        refine wpAnyH_take (i := 1) (v := .slice (some ⟨b, off, none⟩) cs.length cap) rfl (by kernel_rfl) (by kernel_rfl) (by kernel_rfl) (fun _ _ _ h => h) (Or.inl ⟨by rfl, ?_⟩) (by assumption) ?_
        · (intro w hSw; (try dsimp only at hSw); go_simp)
        simp only [Act.put]
        refine wpAnyH_take (i := 2) (v := .int .i64 (k : Int)) rfl (by kernel_rfl) (by kernel_rfl) (by kernel_rfl) (fun _ _ _ h => h) (Or.inl ⟨by rfl, ?_⟩) (by assumption) ?_
        · (intro w hSw; (try dsimp only at hSw); go_simp)
        simp only [Act.put]
        refine wpAnyH_take (i := 3) (v := .pointer (some ⟨b, off + k * 2, none⟩)) rfl (by kernel_rfl) (by kernel_rfl) (by kernel_rfl) (fun _ _ _ h => h) (Or.inl ⟨by rfl, ?_⟩) (by assumption) ?_
        · (intro w hSw; (try dsimp only at hSw); go_simp)
        simp only [Act.put]
        refine wpAnyH_take (i := 4) (v := .pointer (some ⟨b, off + k * 2, none⟩)) rfl (by kernel_rfl) (by kernel_rfl) (by kernel_rfl) (fun _ _ _ h => h) (Or.inl ⟨by rfl, ?_⟩) (by assumption) ?_
        · (intro w hSw; (try dsimp only at hSw); go_simp)
        simp only [Act.put]
        refine wpAnyH_take (i := 5) (v := .int .i64 x) rfl (by kernel_rfl) (by kernel_rfl) (by kernel_rfl) (fun _ _ _ h => h) (Or.inl ⟨by rfl, ?_⟩) (by assumption) ?_
        · (intro w hSw; (try dsimp only at hSw); go_simp)
        simp only [Act.put]
        refine wpAnyH_take (i := 6) (v := .slice (some ⟨b, off, none⟩) cs.length cap) rfl (by kernel_rfl) (by kernel_rfl) (by kernel_rfl) (fun _ _ _ h => h) (Or.inl ⟨by rfl, ?_⟩) (by assumption) ?_
        · (intro w hSw; (try dsimp only at hSw); go_simp)
        simp only [Act.put]
        refine wpAnyH_take (i := 7) (v := .int .i64 (k : Int)) rfl (by kernel_rfl) (by kernel_rfl) (by kernel_rfl) (fun _ _ _ h => h) (Or.inl ⟨by rfl, ?_⟩) (by assumption) ?_
        · (intro w hSw; (try dsimp only at hSw); go_simp)
        simp only [Act.put]
        refine wpAnyH_take (i := 8) (v := .pointer (some ⟨b, off + k * 2, none⟩)) rfl (by kernel_rfl) (by kernel_rfl) (by kernel_rfl) (fun _ _ _ h => h) (Or.inl ⟨by rfl, ?_⟩) (by assumption) ?_
        · (intro w hSw; (try dsimp only at hSw); go_simp)
        simp only [Act.put]
        refine wpAnyH_take (i := 9) (v := .pointer (some ⟨b, off + k * 2 + 1, none⟩)) rfl (by kernel_rfl) (by kernel_rfl) (by kernel_rfl) (fun _ _ _ h => h) (Or.inl ⟨by rfl, ?_⟩) (by assumption) ?_
        · (intro w hSw; (try dsimp only at hSw); go_simp)
        simp only [Act.put]
        refine wpAnyH_take (i := 10) (v := .int .i64 y) rfl (by kernel_rfl) (by kernel_rfl) (by kernel_rfl) (fun _ _ _ h => h) (Or.inl ⟨by rfl, ?_⟩) (by assumption) ?_
        · (intro w hSw; (try dsimp only at hSw); go_simp)
        simp only [Act.put]
        refine wpAnyH_take (i := 11) (v := .int .i64 h) rfl (by kernel_rfl) (by kernel_rfl) (by kernel_rfl) (fun _ _ _ h => h) (Or.inl ⟨by rfl, ?_⟩) (by assumption) ?_
        · (intro w hSw; (try dsimp only at hSw); go_simp)
        simp only [Act.put]
        refine wpAnyH_take (i := 12) (v := .int .i64 (y + h)) rfl (by kernel_rfl) (by kernel_rfl) (by kernel_rfl) (fun _ _ _ h => h) (Or.inl ⟨by rfl, ?_⟩) (by assumption) ?_
        · (intro w hSw; (try dsimp only at hSw); go_simp)
        simp only [Act.put]
        refine wpAnyH_take (i := 13) (v := .agg #[.int .i64 x, .int .i64 (y + h)]) rfl (by kernel_rfl) (by kernel_rfl) (by kernel_rfl) (fun _ _ _ h => h) (Or.inl ⟨by rfl, ?_⟩) (by assumption) ?_
        · (intro w hSw; (try dsimp only at hSw); go_simp)
        simp only [Act.put]
        refine wpAnyH_ready (rs := [14]) (by kernel_rfl) (by simp) ?_
        refine AllReadyH.cons rfl (fun K hK => ?_) AllReadyH.nil
        go_simp
        refine hK.out _ _ (by first | assumption | go_keep) (fun hHeld => ?_)
        clear hK K
        refine wpAnyH_ready (rs := [15]) (by kernel_rfl) (by simp) ?_
        refine AllReadyH.cons rfl (fun K hK => ?_) AllReadyH.nil
        refine step_append_own _ (by rfl) _ _ 24 (by rfl) w.heap.size 38 i0 (.agg #[.int .i64 0, .int .i64 0]) 2 16 Try.underlying24 hi0 hz0 hz1 hz2 rfl (by decide) (.slice (some ⟨gv, 0, none⟩) k cv) k (ccs (raiseC (cs.take k) h)) (by rfl) ((hown.out.alloc _).drew)
          ⟨wr.heap.size, 0, none⟩ 1 1 (ccs2 ⟨x, y + h⟩) (by rfl) (by rfl) (cell_two rfl) (by intro u hu; exact ccs_one [⟨x, y + h⟩] u (by simpa [ccs] using hu)) (by simp only [maxLen]; omega) (by omega) (by simp; omega) ?_
        intro v' w4 hown4 hgrow hnil
        have hB4 := Lib.hid ((hb.out.alloc hz _).drew.grown hgrow (by simp; omega) (fun g hg => by simp [Value.ownBlock] at hg; omega))
        refine hK.out _ _ ⟨(hB4.out.cell (p := ⟨b, off + k * 2, none⟩) hbl).trans c0, (hB4.out.cell (p := ⟨b, off + k * 2 + 1, none⟩) hbl).trans c1⟩ (fun hHeld => ?_)
        clear hK K
        refine wpAnyH_ready (rs := [16]) (by kernel_rfl) (by simp) ?_
        refine AllReadyH.cons rfl (fun K hK => ?_) AllReadyH.nil
        go_simp
        refine hK.out _ _ (by first | assumption | go_keep) (fun hHeld => ?_)
        clear hK K
        refine wpAnyH_done (by kernel_rfl) ?_ _
        obtain ⟨g5, c5, hv5, hg5⟩ := own_slC hown4 (fun e => by have := (hnil.1 e).2; omega)
        subst hv5
        have HO5 := Lib.hid (show w4.ownsRow w.heap.size 38 2 (.slice (some ⟨g5, 0, none⟩) (k + 1) c5) (k + 1) (ccs (raiseC (cs.take (k + 1)) h)) by rw [HN.out]; exact hown4)
        clear hown4 hgrow hnil
        go_wp2
        go_roundw
        case rel => exact ⟨k + 1, g5, c5, by omega, rfl, by go_num, hg5, HO5, hB4⟩
        case measure => simp [intOf]; omega
      · have e : k = cs.length := by omega
        subst e
        have ho := hown.out
        rw [List.take_length] at ho
        have HO2 := Lib.hid ho
        have HVX := Lib.hid (HV2.out wr gv cv (by have h1 := raiseC_len cs h; have h2 := ho; rw [← h1] at h2; exact own_cat h2))
        clear ho hown
        go_wp2_with (go_at_call 53; refine HVX.out.mono ?_; rintro e w3 ⟨rfl, hb3⟩; refine Hid.out ?_)
        have hB3 := hb.out.trans (hb3.mono hz)
        cases v2 with
        | false =>
          refine Lib.hid ?_
          go_wp2
          go_ret2
          exact (rpost_no HR.out hB3).any
        | true =>
          refine Lib.hid ?_
          go_wp2
          go_ret2
          exact (rpost_yes HR.out rfl hgv (own_lowC (own_on HO2.out hb3) (Nat.le_refl _)) hB3).any
end Go.Proofs.Ytpldbakllegheab.S7
