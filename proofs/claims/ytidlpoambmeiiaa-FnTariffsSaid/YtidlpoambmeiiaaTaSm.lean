/- SimplerTariff of the program: contracts. Conditions: each theorem's own premises. -/
import Derived.Test.YtidlpoambmeiiaaTaOut
namespace Go.Proofs.Ytidlpoambmeiiaa.S14
open Go.RowKit Go.Sort P14

theorem cells_new2 (w : World) (a b : Value) (t : TypeId) : ∀ j u, [a, b][j]? = some u → (w.alloc (.cells #[a, b] t)).cell? ((⟨w.heap.size, 0, none⟩ : Addr).add j) = some u := by
  intro j u hu
  have h := C2.new w t a b
  rw [add_plus, Nat.zero_add]
  match j, hu with
  | 0, hu => injection hu with hu; subst hu; exact h.k0
  | 1, hu => injection hu with hu; subst hu; exact h.k1
theorem ccs2_one (p : Bl) : ∀ u ∈ ccs2 p, u.oneCell' = true := by
  intro u hu
  simp [ccs2] at hu
  rcases hu with rfl | rfl <;> rfl
def SmI (t : Ta) (w : World) (e : Ending) (w' : World) : Prop := (gB t = true ∧ GivesT w (smT t) true e w') ∨ (gB t = false ∧ GivesTN w e w')
set_option maxHeartbeats 8000000 in
set_option maxRecDepth 100000 in
theorem simp_any (t : Ta) (A : Option Addr) (c : Nat) (w : World) (h : TAt w t A) :
    Calls Try.prog 42 #[tv t A c] w (SmI t w) := by
  have HC0 := Lib.hid (CR.new w 29 29 t A c)
  obtain ⟨b, hb⟩ : ∃ b, gB t = b := ⟨_, rfl⟩
  have HG := Lib.hid (fun w' (hb' : Below w.heap.size w w') => valid_w hb A c w' (h.kept hb'))
  have HA := Lib.hid h.x
  clear h
  cases b with
  | false =>
    have HN := Lib.hid hb
    clear hb
    go_enter Try.func42, Try.ntmps42
    go_wp2_with (first | (go_at_call 18; refine (HG.out _ HC0.out.bw).mono ?_; rintro e w1 ⟨rfl, hb1⟩; have HC1 := Lib.hid (HC0.out.call hb1); clear hb1; refine Hid.out ?_) | fail)
    obtain ⟨_, ⟨hlr, r0, r1, hfr⟩, _⟩ := HC1.out
    refine Lib.hid ?_
    go_wp2_with fail
    refine bodyPost_ret (v := .tuple #[tv ⟨0, []⟩ none 0, .bool false]) (by simp [results, Try.results42, go_sem, r0, r1]) rfl (.inr ⟨HN.out, rfl, two_set HC1.out.bw (by omega)⟩)
  | true =>
    have HGB := Lib.hid hb
    have hg := (gB_of hb).2.1
    obtain ⟨i0, hi0, hz0, hz1, hz2⟩ := info_parts infoC
    clear hb
    go_enter Try.func42, Try.ntmps42
    go_wp2_with (first | (go_at_call 18; refine (HG.out _ HC0.out.bw).mono ?_; rintro e w1 ⟨rfl, hb1⟩; have HC1 := Lib.hid (HC0.out.call hb1); clear hb1; refine Hid.out ?_) | fail)
    obtain ⟨⟨hla, q0, q1, _⟩, ⟨hlr, _, _, _⟩, _⟩ := HC1.out
    have HO := Lib.hid (OT.start w1 29 t.fee)
    have HB := Lib.hid (alloc_below w1 (.cells #[.int .i64 t.fee, .slice none 0 0] 29))
    clear HC0 HG
    refine Lib.hid ?_
    go_wp2_with fail
    clear q0 q1
    go_loopw [5, 17] (fun _ i wr => ∃ (k : Nat) (v : Value), k ≤ t.bs.length ∧ i = .int .i64 (k : Int) ∧ Hid (OT wr w1.heap.size t.fee v (smL t.bs k)) ∧ Hid (Below w1.heap.size w1 wr)) (fun _ i _ => t.bs.length - (intOf i).toNat)
    case atStart => exact ⟨0, _, Nat.zero_le _, rfl, HO, HB⟩
    case round =>
      clear HO HB
      obtain ⟨k, v, hk, rfl, hO, HB⟩ := hrel
      by_cases hlt : k < t.bs.length
      · have HCr := Lib.hid (HC1.out.call HB.out)
        have HAr := Lib.hid (HA.out.kept HCr.out.bw (Nat.le_refl _))
        obtain ⟨bb, off, hA, hbl, h0, h1⟩ := HAr.out.at_ hlt
        subst hA
        have hk0 : (0 : Int) ≤ (k : Int) := by omega
        have hkn : (k : Int) < (t.bs.length : Int) := by omega
        have hle := smL_len t.bs k
        have HSY := Lib.hid (fun h => smL_yes (bs := t.bs) (k := k) h)
        have HSN := Lib.hid (fun h => smL_no (bs := t.bs) (k := k) h)
        obtain ⟨p, hp⟩ : ∃ p, cAt t.bs k = p := ⟨_, rfl⟩
        rw [hp] at h0 h1 HSY
        have HP := Lib.hid hp
        clear hp
        obtain ⟨x, y⟩ := p
        simp only at h0 h1
        have HOa := Lib.hid (hO.out.on (alloc_below wr (.cells #[.int .i64 x, .int .i64 y] 62)))
        have HBa := Lib.hid (HB.out.alloc HB.out.size (.cells #[.int .i64 x, .int .i64 y] 62))
        have HQa := Lib.hid (C2.new wr 62 (.int .i64 x) (.int .i64 y))
        have HXa := Lib.hid (HCr.out.call (alloc_below wr (.cells #[.int .i64 x, .int .i64 y] 62)))
        have HAa := Lib.hid (HA.out.kept HXa.out.bw (Nat.le_refl _))
        have hG := @cell_g
        obtain ⟨T, hT⟩ : ∃ T, T = wr.heap.size := ⟨_, rfl⟩
        have hbT : bb < T := by rw [hT]; exact hbl
        go_wp2
        generalize hWa : wr.alloc (.cells #[.int .i64 x, .int .i64 y] 62) = wa at *
        clear hWa h0 h1 hO HB HCr HAr
        rw [← hT] at *
        obtain ⟨hT2, x0, x1, _⟩ := HQa.out
        obtain ⟨⟨hl0, q0, q1, _⟩, _, hba⟩ := HXa.out
        have hbz := hba.size
        have hbw : bb < wa.heap.size := by omega
        by_cases he : k + 1 = t.bs.length
        · have HV := Lib.hid (HSY.out (.inl he))
          have d1 : ((k : Int) + 1 == ((t.bs.length : Nat) : Int)) = true := by simp; omega
          clear he
          refine region_below (by kernel_rfl) (by kernel_rfl) ?_
          repeat (first | go_big_quiet_step (fail))
          refine wpQuiet_nil ?_
          intro wb hb1
          have HOb := Lib.hid (HOa.out.on hb1)
          have HBb := Lib.hid (HBa.out.trans (hb1.mono HBa.out.size))
          have HQb := Lib.hid (C2.kept HQa.out hb1)
          clear hb1 HOa HBa HQa HXa HAa q0 q1 x0 x1
          have ho := HOb.out.own
          unfold COwn at ho
          obtain ⟨_, c0, c1, _⟩ := HQb.out
          obtain ⟨o0, o1, of, ol, _⟩ := HOb.out
          go_wp2_with (at_builtin; go_must (refine wpList_append_own _ rfl _ _ 27 rfl (w1.heap.size + 1) 62 i0 _ 2 16 Try.underlying27 hi0 hz0 hz1 hz2 rfl (by omega) _ _ _ rfl (ho.alloc _) ⟨wb.heap.size, 0, none⟩ 1 1 (ccs2 ⟨x, y⟩) rfl rfl (cells_new2 _ _ _ _) (ccs2_one _) (by unfold maxLen; omega) (by omega) (by have := HBb.out.size; simp; omega) ?_); intro v' w7 hown' hgrow hnil; clear hnil; obtain ⟨gq, cq, hvq, hgq, hgl⟩ := World.ownsRow.form hown' (by omega); subst hvq; have g7 := (HOb.out.on (alloc_below wb (.cells #[.int .i64 x, .int .i64 y] 62))).grown hgrow; have g71 := g7.2.1; have g7f := g7.2.2.1; have g7l := g7.2.2.2)
          have HPU := Lib.hid ((HOb.out.on (alloc_below wb (.cells #[.int .i64 x, .int .i64 y] 62))).push (p := ⟨x, y⟩) hown' hgrow)
          have HBF := Lib.hid ((HOb.out.on (alloc_below wb (.cells #[.int .i64 x, .int .i64 y] 62))).below (v' := .slice (some ⟨gq, 0, none⟩) ((smL t.bs k).length + 1) cq) (HBb.out.alloc HBb.out.size _) hgrow (Nat.le_refl _))
          rw [← HV.out] at HPU
          go_roundw
          case rel => exact ⟨k + 1, _, by omega, by go_num, HPU, HBF⟩
          case measure => simp [intOf]; omega
        · have d1 : ((k : Int) + 1 == ((t.bs.length : Nat) : Int)) = false := by simp; omega
          have hk2 : (k : Int) + 1 < ((t.bs.length : Nat) : Int) := by omega
          have hk3 : (0 : Int) ≤ (k : Int) + 1 := by omega
          have hkw : IntKind.i64.wrap ((k : Int) + 1) = (k : Int) + 1 := IntWalk.i64_in _ (by omega)
          obtain ⟨b', off', hA, hbl', _, g1⟩ := HAa.out.at_ (show k + 1 < t.bs.length by omega)
          simp only [Option.some.injEq, Addr.mk.injEq, and_true] at hA
          obtain ⟨rfl, rfl⟩ := hA
          have HST := Lib.hid (show stays t.bs k ↔ (cAt t.bs (k + 1)).pr ≠ y from ⟨fun h => by rcases h with h | h; exact absurd h he; rw [HP.out] at h; exact h, fun h => .inr (by rw [HP.out]; exact h)⟩)
          generalize (cAt t.bs (k + 1)).pr = z at *
          clear he
          by_cases hzy : z = y
          · have HV := Lib.hid (HSN.out (fun h => HST.out.1 h hzy))
            have d2 : (z == y) = true := by simp [hzy]
            have d3 : (z != y) = false := by simp [hzy]
            clear hzy
            refine region_below (by kernel_rfl) (by kernel_rfl) ?_
            repeat (first | go_big_quiet_step (fail))
            refine wpQuiet_nil ?_
            intro wb hb1
            have HOb := Lib.hid (HOa.out.on hb1)
            have HBb := Lib.hid (HBa.out.trans (hb1.mono HBa.out.size))
            have HQb := Lib.hid (C2.kept HQa.out hb1)
            clear hb1 HOa HBa HQa HXa HAa q0 q1 x0 x1
            rw [← HV.out] at HOb
            go_wp2
            go_roundw
            case rel => exact ⟨k + 1, v, by omega, by go_num, HOb, HBb⟩
            case measure => simp [intOf]; omega
          · have HV := Lib.hid (HSY.out (HST.out.2 hzy))
            have d2 : (z == y) = false := by simp [hzy]
            have d3 : (z != y) = true := by simp [hzy]
            clear hzy
            refine region_below (by kernel_rfl) (by kernel_rfl) ?_
            repeat (first | go_big_quiet_step (fail))
            refine wpQuiet_nil ?_
            intro wb hb1
            have HOb := Lib.hid (HOa.out.on hb1)
            have HBb := Lib.hid (HBa.out.trans (hb1.mono HBa.out.size))
            have HQb := Lib.hid (C2.kept HQa.out hb1)
            clear hb1 HOa HBa HQa HXa HAa q0 q1 x0 x1
            have ho := HOb.out.own
            unfold COwn at ho
            obtain ⟨_, c0, c1, _⟩ := HQb.out
            obtain ⟨o0, o1, of, ol, _⟩ := HOb.out
            go_wp2_with (at_builtin; go_must (refine wpList_append_own _ rfl _ _ 27 rfl (w1.heap.size + 1) 62 i0 _ 2 16 Try.underlying27 hi0 hz0 hz1 hz2 rfl (by omega) _ _ _ rfl (ho.alloc _) ⟨wb.heap.size, 0, none⟩ 1 1 (ccs2 ⟨x, y⟩) rfl rfl (cells_new2 _ _ _ _) (ccs2_one _) (by unfold maxLen; omega) (by omega) (by have := HBb.out.size; simp; omega) ?_); intro v' w7 hown' hgrow hnil; clear hnil; obtain ⟨gq, cq, hvq, hgq, hgl⟩ := World.ownsRow.form hown' (by omega); subst hvq; have g7 := (HOb.out.on (alloc_below wb (.cells #[.int .i64 x, .int .i64 y] 62))).grown hgrow; have g71 := g7.2.1; have g7f := g7.2.2.1; have g7l := g7.2.2.2)
            have HPU := Lib.hid ((HOb.out.on (alloc_below wb (.cells #[.int .i64 x, .int .i64 y] 62))).push (p := ⟨x, y⟩) hown' hgrow)
            have HBF := Lib.hid ((HOb.out.on (alloc_below wb (.cells #[.int .i64 x, .int .i64 y] 62))).below (v' := .slice (some ⟨gq, 0, none⟩) ((smL t.bs k).length + 1) cq) (HBb.out.alloc HBb.out.size _) hgrow (Nat.le_refl _))
            rw [← HV.out] at HPU
            go_roundw
            case rel => exact ⟨k + 1, _, by omega, by go_num, HPU, HBF⟩
            case measure => simp [intOf]; omega
      · have e : k = t.bs.length := by omega
        subst e
        have hpos := smL_pos (bs := t.bs) (by omega)
        obtain ⟨g0, cp, rfl, hg0, _⟩ := World.ownsRow.form hO.out.own hpos
        obtain ⟨_, ⟨hlr2, r0, r1, hfr⟩, hbz⟩ := (HC1.out.call HB.out)
        obtain ⟨o0, o1, of, ol, _⟩ := hO.out
        have HF := Lib.hid (gives_t HC1.out HB.out hO.out rfl)
        have HL := Lib.hid (And.intro HGB.out (show smT t = ⟨t.fee, smL t.bs t.bs.length⟩ from rfl))
        have hne2 : w1.heap.size ≠ w.heap.size + 1 := by omega
        clear hk hbz
        go_wp2
        refine bodyPost_ret (v := .tuple #[.agg #[.int .i64 t.fee, .slice (some ⟨g0, 0, none⟩) (smL t.bs t.bs.length).length cp], .bool true]) (by simp [results, Try.results42, go_sem, r0, r1]) rfl (.inl ⟨HL.out.1, ?_⟩)
        exact HF.out
end Go.Proofs.Ytidlpoambmeiiaa.S14
