/- IsAbove, the model's: contracts. Conditions: each theorem's own premises. -/
import Derived.Test.YtpldbakllegheabCvAbv
import Derived.Test.YtpldbakllegheabCvRaise
import Derived.Test.YtpldbakllegheabCvHeadS
namespace Go.Proofs.Ytpldbakllegheab.S7
open Go.RowKit Go.Sort P7

theorem least_any (x y : Int) (w : World) : Calls Try.prog 62 #[.int .i64 x, .int .i64 y] w fun e w' => e = .returned (.int .i64 (if x < y then x else y)) ∧ w' = w := by
  by_cases h : x < y
  · rw [if_pos h]
    go_enter Try.func62, Try.ntmps62
    go_wp2
    go_ret
    exact ⟨rfl, rfl⟩
  · rw [if_neg h]
    have h2 : y ≤ x := by omega
    go_enter Try.func62, Try.ntmps62
    go_wp2
    go_ret
    exact ⟨rfl, rfl⟩
theorem infoI7 : (Try.prog.info? 3).map (fun i => (i.zero, i.size, i.bytes)) = some (some (.int .i64 0), 1, 8) := by kernel_rfl
/-- The flows of points, as cells. -/
def fls (cs : List Cp) : List Value := cs.map fun c => .int .i64 c.fl
theorem fls_len (cs : List Cp) : (fls cs).length = cs.length := by simp [fls]
theorem fls_app (a b : List Cp) : fls (a ++ b) = fls a ++ fls b := by simp [fls]
theorem fls_get (cs : List Cp) (k : Nat) (h : k < cs.length) : (fls cs)[k]? = some (.int .i64 (cAt cs k).fl) := by
  simp [fls, cAt_get cs k h]
theorem own_emptyI (w : World) (B : Nat) (hB : B ≤ w.heap.size) : (w.alloc (.cells #[] 3)).ownsRow B 3 1 (.slice (some ⟨w.heap.size, 0, none⟩) 0 0) 0 [] :=
  ⟨rfl, .inr ⟨w.heap.size, 0, #[], rfl, hB, by simpa using (MapKept.heap_alloc w (.cells #[] 3)).1, Nat.le_refl _, Nat.zero_le _, rfl, rfl⟩⟩
theorem own_slI {w : World} {B n : Nat} {v : Value} {xs : List Value} (h : w.ownsRow B 3 1 v n xs) (hne : v ≠ .slice none 0 0) : ∃ g cap, v = .slice (some ⟨g, 0, none⟩) n cap ∧ B ≤ g := by
  rcases h.2 with ⟨hv, _⟩ | ⟨g, cap, cur, hv, hb, _⟩
  · exact absurd hv hne
  · exact ⟨g, cap, hv, hb⟩
theorem cell_one7 {w w' : World} {x : Int} (h : w' = w.alloc (.cells #[.int .i64 x] 3)) : ∀ j u, [Value.int .i64 x][j]? = some u → w'.cell? ((⟨w.heap.size, 0, none⟩ : Addr).add j) = some u := by
  subst h
  intro j u hu
  have e : (⟨w.heap.size, 0, none⟩ : Addr).add j = ⟨w.heap.size, 0 + j, none⟩ := add_plus _ _ _
  rw [e, Nat.zero_add, World.cell?_alloc_at _ _ _ _ rfl]
  have : (#[Value.int .i64 x])[j]? = [Value.int .i64 x][j]? := by simp
  rw [this]; exact hu
/-- The flows of points behind others. -/
def flk (a b : List Cp) (k : Nat) : List Value := fls a ++ fls (b.take k)
theorem flk_zero (a b : List Cp) : flk a b 0 = fls a := by simp [flk, fls]
theorem flk_next (a b : List Cp) (k : Nat) (h : k < b.length) : flk a b (k + 1) = flk a b k ++ [.int .i64 (cAt b k).fl] := by
  unfold flk; rw [take_at b k h, fls_app, List.append_assoc]; rfl
theorem flk_full (a b : List Cp) (k : Nat) (h : b.length ≤ k) : flk a b k = fls (a ++ b) := by unfold flk; rw [List.take_of_length_le h, fls_app]
/-- What the model compares: where both have the flow, the fractions told. -/
theorem bel_eq {a b : List Cp} {f : Int} {x y u v : Nat} (e1 : hA a f = ((x : Int), (y : Int), true)) (e2 : hA b f = ((u : Int), (v : Int), true)) : belB a b f = decide ((x : Int) * (v : Int) < (u : Int) * (y : Int)) := by
  unfold belB; rw [e1, e2]; simp
theorem hA_nat {a : List Cp} {f : Int} {i : Nat} (h : HK a f i) : ∃ x y : Nat, hA a f = ((x : Int), (y : Int), true) ∧ lowN (hNum a f i) (hDen a i) = (x : Int) ∧ lowD (hNum a f i) (hDen a i) = (y : Int) ∧ y ≤ 1000 ∧ x ≤ 1000000 := by
  rcases hA_frac a f with e | ⟨x, y, e, hy0, hy9, hx9⟩
  · rw [hA_yes h] at e; exact absurd (congrArg (fun t : Tri => t.2.2) e) (by simp)
  · have e' := e
    rw [hA_yes h] at e'
    simp only [Prod.mk.injEq, and_true] at e'
    exact ⟨x, y, e, e'.1, e'.2, hy9, by omega⟩
theorem hA_past {cs : List Cp} {f : Int} (h : (cAt cs (cs.length - 1)).fl < f) : hA cs f = (0, 0, false) := hA_no fun k hk => by have := hk.last; omega
theorem cat_fl {a b : List Cp} (g1 : P7.Good a) (g2 : P7.Good b) {k : Nat} (h : k < (a ++ b).length) : 0 ≤ (cAt (a ++ b) k).fl := by
  by_cases e : k < a.length
  · have : cAt (a ++ b) k = cAt a k := by unfold cAt; simp [List.getD, List.getElem?_append_left e]
    rw [this]; exact (g1.at_ e).1.1
  · have : cAt (a ++ b) k = cAt b (k - a.length) := by unfold cAt; simp [List.getD, List.getElem?_append_right (Nat.le_of_not_lt e)]
    rw [this]
    rw [List.length_append] at h
    exact (g2.at_ (by omega)).1.1

set_option maxHeartbeats 8000000 in
set_option maxRecDepth 100000 in
theorem sabove_any (A A2 : Option Addr) (c c2 : Nat) (a b : List Cp) (w : World) (h : CAt w A a) (hm : a.length ≤ 1048576) (k : CAt w A2 b) (km : b.length ≤ 1048576) :
    Calls Try.prog 33 #[.slice A a.length c, .slice A2 b.length c2] w (APost a b w) := by
  obtain ⟨v, hv⟩ : ∃ v, gB a = v := ⟨_, rfl⟩
  obtain ⟨v2, hv2⟩ : ∃ v, gB b = v := ⟨_, rfl⟩
  have H1 := Lib.hid (sgood_v hv A c w h hm)
  have H2 := Lib.hid (fun w' (hb : Below w.heap.size w w') => sgood_v hv2 A2 c2 w' (k.kept hb (Nat.le_refl _)) km)
  cases v with
  | false =>
    have hfin := Lib.hid (abA_no (a := a) (b := b) (by rw [hv]; rfl))
    clear h k hv hv2
    go_enter Try.func33, Try.ntmps33
    go_wp2_with (go_at_call 53; refine H1.out.mono ?_; rintro e w1 ⟨rfl, hb1⟩)
    go_ret2
    exact apost_of hfin.out hb1
  | true =>
    cases v2 with
    | false =>
      have hfin := Lib.hid (abA_no (a := a) (b := b) (by rw [hv2]; simp))
      clear h k hv hv2
      go_enter Try.func33, Try.ntmps33
      go_wp2_with (first
        | (go_at_call_of 53 (Value.slice A2 b.length c2); refine (H2.out _ hb1).mono ?_; rintro e w2 ⟨rfl, hb2⟩)
        | (go_at_call 53; refine H1.out.mono ?_; rintro e w1 ⟨rfl, hb1⟩))
      go_ret2
      exact apost_of hfin.out (hb1.trans (hb2.mono hb1.size))
    | true =>
      have g1 := gB_of hv
      have g2 := gB_of hv2
      have ha0 := g1.1
      have ha9 := g1.2.1
      have hb0 := g2.1
      have hb9 := g2.2.1
      have hR := Lib.hid (abA_yes hv hv2)
      have HG1 := Lib.hid g1
      have HG2 := Lib.hid g2
      obtain ⟨b1, o1, hA, hl1, y0, y1⟩ := h.at_ (show 0 < a.length by omega)
      obtain ⟨b2, o2, hA2, hl2, y2, y3⟩ := k.at_ (show 0 < b.length by omega)
      subst hA hA2
      clear y0 y1 y2 y3
      have HA1 := Lib.hid h
      have HA2 := Lib.hid k
      obtain ⟨i0, hi0, hz0, hz1, hz2⟩ := info_parts infoI7
      clear h k hv hv2 g1 g2
      go_enter Try.func33, Try.ntmps33
      go_wp2_with (first
        | (go_at_call_of 53 (Value.slice (some { block := b2, off := o2, spot := none }) b.length c2); refine (H2.out _ hb1).mono ?_; rintro e w2 ⟨rfl, hb2⟩)
        | (go_at_call 53; refine H1.out.mono ?_; rintro e w1 ⟨rfl, hb1⟩))
      have hB2 := hb1.trans (hb2.mono hb1.size)
      have hz2' := hB2.size
      have HO0 := Lib.hid (own_emptyI w2 w.heap.size hz2')
      have HB0 := Lib.hid (hB2.alloc hz2' (.cells #[] 3))
      clear hB2 hb1 hb2
      go_loopw [6, 7] (fun v i wr => ∃ k gv cv : Nat, k ≤ a.length ∧ v = .slice (some ⟨gv, 0, none⟩) k cv ∧ i = .int .i64 (k : Int) ∧ Hid (wr.ownsRow w.heap.size 3 1 (.slice (some ⟨gv, 0, none⟩) k cv) k (fls (a.take k))) ∧ Hid (Below w.heap.size w wr)) (fun _ i _ => a.length - (intOf i).toNat)
      case atStart => exact ⟨0, w2.heap.size, 0, Nat.zero_le _, rfl, rfl, Lib.hid (by simpa [fls] using HO0.out), HB0⟩
      case round =>
        clear HO0 HB0
        obtain ⟨k, gv, cv, hk, rfl, rfl, hown, hb⟩ := hrel
        have hz := hb.out.size
        by_cases hlt : k < a.length
        · obtain ⟨bb, oo, hA, _, c0, c1⟩ := (HA1.out.kept hb.out (Nat.le_refl _)).at_ hlt
          simp only [Option.some.injEq, Addr.mk.injEq, and_true] at hA
          obtain ⟨rfl, rfl⟩ := hA
          have hk0 : (0 : Int) ≤ (k : Int) := by omega
          have hkn : (k : Int) < (a.length : Int) := by omega
          have HN := Lib.hid (show fls (a.take (k + 1)) = fls (a.take k) ++ [.int .i64 (cAt a k).fl] by rw [take_at a k hlt, fls_app]; rfl)
          have ho2 := hown.out
          generalize (cAt a k).fl = x at *
          generalize (cAt a k).hd = y at *
          go_wp2_with (at_builtin; go_must (refine wpList_append_own _ rfl _ _ 59 rfl w.heap.size 3 i0 _ 1 8 Try.underlying59 hi0 hz0 hz1 hz2 rfl (by omega) _ _ _ rfl (ho2.alloc _) ⟨wr.heap.size, 0, none⟩ 1 1 [.int .i64 x] rfl rfl (cell_one7 rfl) ?c2 ?c3 ?c4 ?c5 ?_))
          case c2 => intro u hu; simp at hu; subst hu; rfl
          case c3 => unfold maxLen; omega
          case c4 => omega
          case c5 => simp; omega
          intro v' w3 hown' hgrow hnil
          obtain ⟨g5, c5, hv5, _⟩ := own_slI hown' (fun e => hnil e)
          subst hv5
          have HO5 := Lib.hid (show w3.ownsRow w.heap.size 3 1 (.slice (some ⟨g5, 0, none⟩) (k + 1) c5) (k + 1) (fls (a.take (k + 1))) by rw [HN.out]; exact hown')
          have hB3 := Lib.hid ((hb.out.alloc hz _).grown hgrow (by simp; omega) (fun g hg => (ho2.lt g hg).1))
          clear hown' hgrow hnil ho2
          go_wp2_with fail
          go_roundw
          case rel => exact ⟨k + 1, g5, c5, by omega, rfl, by go_num, HO5, hB3⟩
          case measure => simp [intOf]; omega
        · have e : k = a.length := by omega
          subst e
          have HO0 := Lib.hid (show wr.ownsRow w.heap.size 3 1 (.slice (some ⟨gv, 0, none⟩) a.length cv) a.length (flk a b 0) by rw [flk_zero]; simpa using hown.out)
          have HB0 := hb
          clear hown
          go_wp2
          go_loopw [6, 8] (fun v i wr => ∃ k gv cv : Nat, k ≤ b.length ∧ v = .slice (some ⟨gv, 0, none⟩) (a.length + k) cv ∧ i = .int .i64 (k : Int) ∧ Hid (wr.ownsRow w.heap.size 3 1 (.slice (some ⟨gv, 0, none⟩) (a.length + k) cv) (a.length + k) (flk a b k)) ∧ Hid (Below w.heap.size w wr)) (fun _ i _ => b.length - (intOf i).toNat)
          case atStart => exact ⟨0, gv, cv, Nat.zero_le _, rfl, rfl, HO0, HB0⟩
          case round =>
            clear HO0 HB0 hb hz hk hlt
            obtain ⟨k, gv, cv, hk, rfl, rfl, hown, hb⟩ := hrel
            have hz := hb.out.size
            by_cases hlt : k < b.length
            · obtain ⟨bb, oo, hA, _, c0, c1⟩ := (HA2.out.kept hb.out (Nat.le_refl _)).at_ hlt
              simp only [Option.some.injEq, Addr.mk.injEq, and_true] at hA
              obtain ⟨rfl, rfl⟩ := hA
              have hk0 : (0 : Int) ≤ (k : Int) := by omega
              have hkn : (k : Int) < (b.length : Int) := by omega
              have HN := Lib.hid (flk_next a b k hlt)
              have ho2 := hown.out
              generalize (cAt b k).fl = x at *
              generalize (cAt b k).hd = y at *
              go_wp2_with (at_builtin; go_must (refine wpList_append_own _ rfl _ _ 59 rfl w.heap.size 3 i0 _ 1 8 Try.underlying59 hi0 hz0 hz1 hz2 rfl (by omega) _ _ _ rfl (ho2.alloc _) ⟨wr.heap.size, 0, none⟩ 1 1 [.int .i64 x] rfl rfl (cell_one7 rfl) ?c2 ?c3 ?c4 ?c5 ?_))
              case c2 => intro u hu; simp at hu; subst hu; rfl
              case c3 => unfold maxLen; omega
              case c4 => omega
              case c5 => simp; omega
              intro v' w3 hown' hgrow hnil
              obtain ⟨g5, c5, hv5, _⟩ := own_slI hown' (fun e => hnil e)
              subst hv5
              have HO5 := Lib.hid (show w3.ownsRow w.heap.size 3 1 (.slice (some ⟨g5, 0, none⟩) (a.length + (k + 1)) c5) (a.length + (k + 1)) (flk a b (k + 1)) by rw [HN.out]; exact hown')
              have hB3 := Lib.hid ((hb.out.alloc hz _).grown hgrow (by simp; omega) (fun g hg => (ho2.lt g hg).1))
              have hadd : a.length + k + 1 = a.length + (k + 1) := by omega
              clear hown' hgrow hnil ho2
              go_wp2_with fail
              go_roundw
              case rel => exact ⟨k + 1, g5, c5, by omega, rfl, by go_num, HO5, hB3⟩
              case measure => simp [intOf]; omega
            · have e : k = b.length := by omega
              subst e
              have HOF := Lib.hid (show wr.ownsRow w.heap.size 3 1 (.slice (some ⟨gv, 0, none⟩) (a.length + b.length) cv) (a.length + b.length) (fls (a ++ b)) by have := hown.out; rwa [flk_full a b _ (Nat.le_refl _)] at this)
              clear hown
              obtain ⟨na, hna⟩ : ∃ na, na = a.length - 1 := ⟨_, rfl⟩
              obtain ⟨nb, hnb⟩ : ∃ nb, nb = b.length - 1 := ⟨_, rfl⟩
              have hna1 : na < a.length := by omega
              have hnb1 : nb < b.length := by omega
              have hwa : IntKind.i64.wrap ((a.length : Int) - 1) = (na : Int) := by rw [w64 _ (by omega)]; omega
              have hwb : IntKind.i64.wrap ((b.length : Int) - 1) = (nb : Int) := by rw [w64 _ (by omega)]; omega
              have hna0 : (0 : Int) ≤ (na : Int) := by omega
              have hnb0 : (0 : Int) ≤ (nb : Int) := by omega
              have hna2 : (na : Int) < (a.length : Int) := by omega
              have hnb2 : (nb : Int) < (b.length : Int) := by omega
              have HNA := Lib.hid hna
              have HNB := Lib.hid hnb
              obtain ⟨bb, oo, hA, hbb1, c0, _⟩ := (HA1.out.kept hb.out (Nat.le_refl _)).at_ hna1
              simp only [Option.some.injEq, Addr.mk.injEq, and_true] at hA
              obtain ⟨rfl, rfl⟩ := hA
              obtain ⟨bb, oo, hA, hbb2, d0, _⟩ := (HA2.out.kept hb.out (Nat.le_refl _)).at_ hnb1
              simp only [Option.some.injEq, Addr.mk.injEq, and_true] at hA
              obtain ⟨rfl, rfl⟩ := hA
              obtain ⟨X, hX⟩ : ∃ X, X = (cAt a na).fl := ⟨_, rfl⟩
              obtain ⟨Y, hY⟩ : ∃ Y, Y = (cAt b nb).fl := ⟨_, rfl⟩
              rw [← hX] at c0
              rw [← hY] at d0
              have HXX := Lib.hid hX
              have HYY := Lib.hid hY
              obtain ⟨M, hM⟩ : ∃ M, M = if X < Y then X else Y := ⟨_, rfl⟩
              have HL := Lib.hid (fun w' (_ : Below wr.heap.size wr w') => (least_any X Y w').mono (fun e w'' (h : e = .returned (.int .i64 (if X < Y then X else Y)) ∧ w'' = w') => (⟨by rw [hM]; exact h.1, by rw [h.2]; exact Below.refl _ _⟩ : e = .returned (.int .i64 M) ∧ Below w'.heap.size w' w'')))
              have HMM := Lib.hid hM
              clear hna hnb hna1 hnb1 hX hY hM
              have hG := @cell_g
              go_upto_region 12 with (fail)
              refine region_below (by kernel_rfl) (by kernel_rfl) ?_
              repeat (first | go_big_quiet_step ((go_at_call 62; exact met_at HL.out)))
              refine wpQuiet_nil ?_
              intro w5 hb5
              clear hG HL hwa hwb c0 d0 hna0 hnb0 hna2 hnb2
              have HOF5 := Lib.hid (own_on HOF.out hb5)
              have HB5 := Lib.hid (hb.out.trans (hb5.mono hz))
              have hgv5 := (HOF5.out.lt gv rfl).2
              clear hb5 HOF
              go_wp2
              go_loopw [10] (fun i wr => ∃ k : Nat, k ≤ a.length + b.length ∧ i = .int .i64 (k : Int) ∧ Hid (NoB a b k) ∧ Hid (Below w5.heap.size w5 wr) ∧ Hid (Below w.heap.size w wr)) (fun i _ => a.length + b.length - (intOf i).toNat)
              case atStart => exact ⟨0, Nat.zero_le _, rfl, Lib.hid (NoB.zero _ _), Lib.hid (Below.refl _ _), HB5⟩
              case round =>
                obtain ⟨k, hk, rfl, hno, hb5, hbw⟩ := hrel
                have hzw := hbw.out.size
                by_cases hlt : k < a.length + b.length
                · have hcl := (own_on HOF5.out hb5.out).cellAt k (by omega)
                  rw [fls_get (a ++ b) k (by simp; omega)] at hcl
                  have hk0 : (0 : Int) ≤ (k : Int) := by omega
                  have hkn : (k : Int) < (a.length : Int) + (b.length : Int) := by omega
                  obtain ⟨F, hF⟩ : ∃ F, F = (cAt (a ++ b) k).fl := ⟨_, rfl⟩
                  rw [← hF] at hcl
                  have HN := Lib.hid (fun (h : belB a b F = false) => NoB.next hno.out (by rw [← hF]; exact h))
                  have HFX := Lib.hid (fun (h : belB a b F = true) => abv_no (show k < (a ++ b).length by simp; omega) (by rw [← hF]; exact h))
                  have hF0 : 0 ≤ F := by rw [hF]; exact cat_fl HG1.out HG2.out (by simp; omega)
                  clear hF
                  by_cases hpast : M < F
                  · have HN2 := Lib.hid (HN.out (by
                      have hm := HMM.out
                      by_cases hxy : X < Y
                      · rw [if_pos hxy] at hm
                        have h1 : hA a F = (0, 0, false) := hA_past (by rw [← HNA.out, ← HXX.out]; omega)
                        unfold belB; rw [h1]; rfl
                      · rw [if_neg hxy] at hm
                        have h1 : hA b F = (0, 0, false) := hA_past (by rw [← HNB.out, ← HYY.out]; omega)
                        unfold belB; rw [h1]; simp))
                    clear HN HFX
                    go_wp2
                    go_roundw
                    case rel => exact ⟨k + 1, by omega, by go_num, HN2, hb5, hbw⟩
                    case measure => simp [intOf]; omega
                  · have hle : F ≤ X ∧ F ≤ Y := by
                      have hm := HMM.out
                      by_cases hxy : X < Y
                      · rw [if_pos hxy] at hm; omega
                      · rw [if_neg hxy] at hm; omega
                    obtain ⟨i, hi⟩ := hk_ex (f := F) HG1.out hF0 (by rw [← HNA.out, ← HXX.out]; exact hle.1)
                    obtain ⟨j, hj⟩ := hk_ex (f := F) HG2.out hF0 (by rw [← HNB.out, ← HYY.out]; exact hle.2)
                    obtain ⟨x, y, e1, e2, e3, hy9, hx9⟩ := hA_nat hi
                    obtain ⟨u, v, f1, f2, f3, hv9, hu9⟩ := hA_nat hj
                    have hbe := bel_eq e1 f1
                    have HH1 := Lib.hid (fun w' (hb : Below w.heap.size w w') => l7head_any hi (some ⟨b1, o1, none⟩) c w' (HA1.out.kept hb (Nat.le_refl _)))
                    have HH2 := Lib.hid (fun w' (hb : Below w.heap.size w w') => l7head_any hj (some ⟨b2, o2, none⟩) c2 w' (HA2.out.kept hb (Nat.le_refl _)))
                    unfold lowV at HH1 HH2
                    rw [e2, e3] at HH1
                    rw [f2, f3] at HH2
                    rw [hbe] at HN HFX
                    have m1 : x * v ≤ 1000000 * 1000 := Nat.mul_le_mul hx9 hv9
                    have m2 : u * y ≤ 1000000 * 1000 := Nat.mul_le_mul hu9 hy9
                    have q1 : ((x * v : Nat) : Int) = (x : Int) * (v : Int) := Int.natCast_mul _ _
                    have q2 : ((u * y : Nat) : Int) = (u : Int) * (y : Int) := Int.natCast_mul _ _
                    have wP : IntKind.i64.wrap ((x : Int) * (v : Int)) = (x : Int) * (v : Int) := w64 _ (by omega)
                    have wQ : IntKind.i64.wrap ((u : Int) * (y : Int)) = (u : Int) * (y : Int) := w64 _ (by omega)
                    have hnp : ¬ (M < F) := hpast
                    have hcl6 := Lib.hid (fun w6 (hb6 : Below wr.heap.size wr w6) => (hb6.cell (p := ⟨gv, k, none⟩) (Nat.lt_of_lt_of_le hgv5 hb5.out.size)).trans hcl)
                    clear hi hj e1 e2 e3 f1 f2 f3 hbe q1 q2 m1 m2
                    by_cases hlt3 : (x : Int) * (v : Int) < (u : Int) * (y : Int)
                    · have hfin := Lib.hid (hR.out.trans (by rw [HFX.out (by simpa using hlt3)]))
                      clear HN HFX
                      go_wp2_with (first
                        | (go_at_call_of 57 (Value.slice (some { block := b2, off := o2, spot := none }) b.length c2); refine (HH2.out _ (hbw.out.trans (hb6.mono hzw))).mono ?_; rintro e w7 ⟨rfl, hb7⟩)
                        | (go_at_call 57; refine (HH1.out _ hbw.out).mono ?_; rintro e w6 ⟨rfl, hb6⟩; have hcl7 := hcl6.out _ hb6))
                      go_ret2
                      exact apost_of hfin.out (hbw.out.trans ((hb6.trans (hb7.mono hb6.size)).mono hzw))
                    · have HN2 := Lib.hid (HN.out (by simpa using hlt3))
                      clear HN HFX
                      go_wp2_with (first
                        | (go_at_call_of 57 (Value.slice (some { block := b2, off := o2, spot := none }) b.length c2); refine (HH2.out _ (hbw.out.trans (hb6.mono hzw))).mono ?_; rintro e w7 ⟨rfl, hb7⟩)
                        | (go_at_call 57; refine (HH1.out _ hbw.out).mono ?_; rintro e w6 ⟨rfl, hb6⟩; have hcl7 := hcl6.out _ hb6))
                      go_roundw
                      case rel => exact ⟨k + 1, by omega, by go_num, HN2, Lib.hid (hb5.out.trans ((hb6.trans (hb7.mono hb6.size)).mono hb5.out.size)), Lib.hid (hbw.out.trans ((hb6.trans (hb7.mono hb6.size)).mono hzw))⟩
                      case measure => simp [intOf]; omega
                · have e : k = a.length + b.length := by omega
                  have hfin := Lib.hid (hR.out.trans (by rw [abv_yes (by rw [show (a ++ b).length = a.length + b.length by simp, ← e]; exact hno.out)]))
                  have hlt2 : ¬ ((k : Int) < (a.length : Int) + (b.length : Int)) := by omega
                  go_wp2
                  go_ret2
                  exact apost_of hfin.out hbw.out
end Go.Proofs.Ytpldbakllegheab.S7
