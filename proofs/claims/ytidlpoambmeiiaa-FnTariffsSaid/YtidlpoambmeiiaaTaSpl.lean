/- The parts of a cost and the cost, the program's: contracts. Conditions: each theorem's own premises. -/
import Derived.Test.YtidlpoambmeiiaaTaGood
import Derived.Test.YtidlpoambmeiiaaTaSum
import Derived.Lib.MinMax
namespace Go.Proofs.Ytidlpoambmeiiaa.S14
open Go.RowKit Go.Sort P14

theorem GivesI.none {w w1 : World} (hb : Below w.heap.size w w1) : GivesI w [] false (.returned (.tuple #[.slice (some ⟨w1.heap.size, 0, none⟩) 0 0, .bool false])) (w1.alloc (.cells #[] 3)) :=
  ⟨w1.heap.size, 0, rfl, hb.size, own_empty w1 _ hb.size, hb.alloc hb.size _⟩
theorem own_single (w : World) (B : Nat) (hB : B ≤ w.heap.size) (x : Int) : IOwn (w.alloc (.cells #[.int .i64 x] 3)) B (.slice (some ⟨w.heap.size, 0, none⟩) 1 1) [x] :=
  ⟨rfl, .inr ⟨w.heap.size, 1, #[.int .i64 x], rfl, hB, by simpa using (MapKept.heap_alloc w (.cells #[.int .i64 x] 3)).1, Nat.le_refl _, by unfold maxLen; omega, rfl, rfl⟩⟩
theorem cell_one_new (w : World) (x : Value) (t : TypeId) : ∀ j u, [x][j]? = some u → (w.alloc (.cells #[x] t)).cell? ((⟨w.heap.size, 0, none⟩ : Addr).add j) = some u := by
  intro j u hu
  match j, hu with
  | 0, hu =>
    injection hu with hu
    subst hu
    rw [add_plus, Nat.add_zero]
    exact box_at
theorem own_ne {w : World} {B g : Nat} {v : Value} {l : List Int} (h : IOwn w B v l) (hg : w.heap.size ≤ g) : some g ≠ v.ownBlock := fun e => by have := (World.ownsRow.lt h g e.symm).2; omega
def SplI (t : Ta) (v : Int) (w : World) : Ending → World → Prop := GivesI w (spR t v) (okV t v)
theorem spl_no {t : Ta} {v : Int} {w : World} {e : Ending} {w' : World} (h : okV t v = false) (hg : GivesI w [] false e w') : SplI t v w e w' := by
  unfold SplI; rw [spR_no h, h]; exact hg
set_option maxHeartbeats 4000000 in
set_option maxRecDepth 100000 in
theorem split_any (t : Ta) (A : Option Addr) (c : Nat) (v : Int) (w : World) (h : TAt w t A) :
    Calls Try.prog 33 #[tv t A c, .int .i64 v] w (SplI t v w) := by
  have HA := Lib.hid h.x
  have HV := Lib.hid (fun b (hv : gB t = b) w' (hb : Below w.heap.size w w') => valid_w hv A c w' (h.kept hb))
  have HB0 := Lib.hid (alloc_below w (tb 29 t A c))
  have HQ0 := Lib.hid (B2.new w 29 t A c)
  clear h
  cases hv : gB t with
  | false =>
    have H1 := Lib.hid (HV.out false hv)
    have HN := Lib.hid (okV_bad (v := v) hv)
    clear hv HV
    go_enter Try.func33, Try.ntmps33
    go_wp2_with (first | (go_at_call 18; refine (H1.out _ HB0.out).mono ?_; rintro e w1 ⟨rfl, hb1⟩; have HB1 := Lib.hid (HB0.out.trans (hb1.mono HB0.out.size)); clear hb1; refine Hid.out ?_) | fail)
    refine Lib.hid ?_
    go_wp2_with fail
    go_ret2
    exact spl_no HN.out (GivesI.none HB1.out)
  | true =>
    have H1 := Lib.hid (HV.out true hv)
    have g := gB_of hv
    by_cases hr : 0 ≤ v ∧ v ≤ 100000
    · have HOK := Lib.hid (okV_mk hv hr)
      have HG := Lib.hid g
      obtain ⟨hr0, hr9⟩ := hr
      have d1 : decide (v < 0) = false := by simp; omega
      have d2 : decide (100000 < v) = false := by simp; omega
      have hln := g.2.1.2
      obtain ⟨i0, hi, hz0, hz1, hz2⟩ := info_parts infoI
      clear hv HV g
      go_enter Try.func33, Try.ntmps33
      go_wp2_with (first | (go_at_call 18; refine (H1.out _ HB0.out).mono ?_; rintro e w1 ⟨rfl, hb1⟩; have HB1 := Lib.hid (HB0.out.trans (hb1.mono HB0.out.size)); have HQ1 := Lib.hid (C2.kept HQ0.out hb1); clear hb1; refine Hid.out ?_) | fail)
      obtain ⟨_, q0, q1, _⟩ := HQ1.out
      have HS1 := Lib.hid (own_single w1 w.heap.size HB1.out.size t.fee)
      have HB2 := Lib.hid (HB1.out.alloc HB1.out.size (.cells #[.int .i64 t.fee] 3))
      have hqs := HQ1.out.lt
      clear HQ0 HB0 H1
      refine Lib.hid ?_
      go_wp2_with fail
      clear d1 d2 q0 q1 hqs
      go_loopw [6, 7, 28] (fun s e i wr => ∃ k : Nat, k ≤ t.bs.length ∧ e = .int .i64 (pre t.bs k) ∧ i = .int .i64 (k : Int) ∧ Hid (IOwn wr w.heap.size s (spL t v k)) ∧ Hid (s ≠ .slice none 0 0) ∧ Hid (Below w.heap.size w wr)) (fun _ _ i _ => t.bs.length - (intOf i).toNat)
      case atStart => exact ⟨0, Nat.zero_le _, rfl, rfl, HS1, Lib.hid (by simp), HB2⟩
      case round =>
        clear HS1 HB2
        obtain ⟨k, hk, rfl, rfl, hown, hvn, HB⟩ := hrel
        by_cases hlt : k < t.bs.length
        · obtain ⟨b, off, hA, hbl, h0, h1⟩ := HA.out.at_ hlt
          subst hA
          obtain ⟨hc, hfz⟩ := bcell HB.out
          have hk0 : (0 : Int) ≤ (k : Int) := by omega
          have hkn : (k : Int) < (t.bs.length : Int) := by omega
          have hfl := spL_len t v k
          have hsn := Lib.hid (spL_succ t v k)
          obtain ⟨⟨x0, x1, x2⟩, y0, y1⟩ := HG.out.at_ hlt
          have hpl := prt_le HG.out (v := v) hlt
          have hws : IntKind.i64.wrap (min v (cAt t.bs k).up - pre t.bs k) = min v (cAt t.bs k).up - pre t.bs k := IntWalk.i64_in _ (by omega)
          have hwp : IntKind.i64.wrap ((cAt t.bs k).pr * max 0 (min v (cAt t.bs k).up - pre t.bs k)) = prt t v k := IntWalk.i64_in (prt t v k) (by omega)
          have HE := Lib.hid (show pre t.bs (k + 1) = (cAt t.bs k).up from rfl)
          generalize prt t v k = P at *
          generalize pre t.bs k = E at *
          generalize (cAt t.bs k).up = x at *
          generalize (cAt t.bs k).pr = y at *
          have hzw := HB.out.size
          have ho := (hown.out.on (alloc_below wr (.cells #[.int .i64 x, .int .i64 y] 62)))
          have HBN := Lib.hid (HB.out.alloc hzw (.cells #[.int .i64 x, .int .i64 y] 62))
          have hzb := alloc_size wr (.cells #[.int .i64 x, .int .i64 y] 62)
          have C9 := Lib.hid ((C2.new wr 62 (.int .i64 x) (.int .i64 y)).kept (alloc_below _ (.cells #[iv P] 3)))
          unfold IOwn at ho
          clear hpl
          go_wp2_with (at_builtin; go_must (refine wpList_append_own _ rfl _ _ 42 rfl w.heap.size 3 i0 (.int .i64 0) 1 8 Try.underlying42 hi hz0 hz1 hz2 rfl (by decide) _ _ _ rfl (ho.alloc _) ⟨wr.heap.size + 1, 0, none⟩ 1 1 [iv P] rfl rfl (by have := cell_one_new (wr.alloc (.cells #[.int .i64 x, .int .i64 y] 62)) (iv P) 3; rw [hzb] at this; exact this) (by intro u hu; simp at hu; subst hu; rfl) (by unfold maxLen; omega) (by omega) (by have := HBN.out.size; simp at this ⊢; omega) ?_); intro v' w7 hown' hgrow hnil; have c9 := (hgrow.cell_far ⟨wr.heap.size, 0, none⟩ C9.out.lt (own_ne hown.out (Nat.le_refl _))).trans C9.out.k0)
          have hown3 := Lib.hid (IOwn.push hown')
          rw [← hsn.out] at hown3
          have hB7 := Lib.hid ((HBN.out.alloc HBN.out.size (.cells #[iv P] 3)).grown hgrow (by have := HBN.out.size; simp at this ⊢; omega) (fun g hg => (ho.lt g hg).1))
          have hnil3 := Lib.hid (show v' ≠ .slice none 0 0 from fun e => by simp [e] at hnil)
          go_roundw
          case rel => exact ⟨k + 1, by omega, by rw [HE.out], by go_num, hown3, hnil3, hB7⟩
          case measure => simp [intOf]; omega
        · have e : k = t.bs.length := by omega
          subst e
          obtain ⟨g0, cp, rfl, hg⟩ := own_slice hown.out hvn.out
          have HO := hown.out
          have HR := Lib.hid (spR_yes HOK.out)
          have HLL := Lib.hid (spL_len t v t.bs.length)
          clear hk hown hvn
          go_wp2
          go_ret2
          unfold SplI
          rw [HR.out, HOK.out]
          exact ⟨g0, cp, by rfl, hg, HO, HB.out⟩
    · have HN := Lib.hid (okV_low (t := t) hr)
      clear hv HV g
      by_cases e1 : v < 0
      · go_enter Try.func33, Try.ntmps33
        go_wp2_with (first | (go_at_call 18; refine (H1.out _ HB0.out).mono ?_; rintro e w1 ⟨rfl, hb1⟩; have HB1 := Lib.hid (HB0.out.trans (hb1.mono HB0.out.size)); clear hb1; refine Hid.out ?_) | fail)
        refine Lib.hid ?_
        go_wp2_with fail
        go_ret2
        exact spl_no HN.out (GivesI.none HB1.out)
      · have e2 : 100000 < v := by omega
        go_enter Try.func33, Try.ntmps33
        go_wp2_with (first | (go_at_call 18; refine (H1.out _ HB0.out).mono ?_; rintro e w1 ⟨rfl, hb1⟩; have HB1 := Lib.hid (HB0.out.trans (hb1.mono HB0.out.size)); clear hb1; refine Hid.out ?_) | fail)
        refine Lib.hid ?_
        go_wp2_with fail
        go_ret2
        exact spl_no HN.out (GivesI.none HB1.out)
/-- What a call that tells a cost gives. -/
def CoI (t : Ta) (v : Int) (w : World) (e : Ending) (w' : World) : Prop := e = .returned (.tuple #[.int .i64 (coR t v), .bool (okV t v)]) ∧ Below w.heap.size w w'
set_option maxHeartbeats 2000000 in
theorem cost_any (t : Ta) (A : Option Addr) (c : Nat) (v : Int) (w : World) (h : TAt w t A) :
    Calls Try.prog 21 #[tv t A c, .int .i64 v] w (CoI t v w) := by
  have HS := Lib.hid (fun w' (hb : Below w.heap.size w w') => split_any t A c v w' (h.kept hb))
  have HB0 := Lib.hid (alloc_below w (tb 29 t A c))
  have hL := spR_len t v
  have HC := Lib.hid (coR_sum t v)
  have HLW := Lib.hid (fun i => spR_low t v i)
  have HPS := Lib.hid (fun k => psum_low t v k)
  clear h
  unfold SplI at HS
  unfold CoI
  generalize spR t v = L at *
  generalize okV t v = ok at *
  generalize coR t v = C at *
  go_enter Try.func21, Try.ntmps21
  go_wp2_with (first | (go_at_call 33; refine (HS.out _ HB0.out).mono ?_; rintro e w1 ⟨g, cap, rfl, hg, ho, hb1⟩; have HB1 := Lib.hid (HB0.out.trans (hb1.mono HB0.out.size)); have HO := Lib.hid ho.iat; clear ho hb1 hg; refine Hid.out ?_) | fail)
  refine Lib.hid ?_
  go_wp2_with fail
  go_loopw [8, 10, 19] (fun s _ i wr => ∃ k : Nat, k ≤ L.length ∧ s = .int .i64 (psum L k) ∧ i = .int .i64 (k : Int) ∧ Hid (wr = w1)) (fun _ _ i _ => L.length - (intOf i).toNat)
  case atStart => exact ⟨0, Nat.zero_le _, rfl, rfl, Lib.hid rfl⟩
  case round =>
    obtain ⟨k, hk, rfl, rfl, hw⟩ := hrel
    have hw' := hw.out
    clear hw
    subst hw'
    by_cases hlt : k < L.length
    · obtain ⟨b, off, hA, hbl, h0⟩ := HO.out.at_ hlt
      simp only [Option.some.injEq, Addr.mk.injEq, and_true] at hA
      obtain ⟨rfl, rfl⟩ := hA
      rw [Nat.zero_add] at h0
      have hk0 : (0 : Int) ≤ (k : Int) := by omega
      have hkn : (k : Int) < (L.length : Int) := by omega
      have hp := HPS.out k
      have hq := HLW.out k
      have HNX := Lib.hid (show psum L (k + 1) = psum L k + L.getD k 0 from rfl)
      generalize L.getD k 0 = y at *
      generalize psum L k = S at *
      go_wp2
      go_roundw
      case rel => exact ⟨k + 1, by omega, by rw [HNX.out], by go_num, Lib.hid (by trivial)⟩
      case measure => simp [intOf]; omega
    · have e : k = L.length := by omega
      subst e
      rw [HC.out]
      clear hk
      go_wp2
      go_ret2
      exact ⟨rfl, HB1.out⟩
theorem cost_w {t : Ta} {v : Int} {C : Int} {b : Bool} (hc : coR t v = C) (hb : okV t v = b) (A : Option Addr) (c : Nat) (w : World) (h : TAt w t A) :
    Calls Try.prog 21 #[tv t A c, .int .i64 v] w fun e w' => e = .returned (.tuple #[.int .i64 C, .bool b]) ∧ Below w.heap.size w w' := by
  rw [← hc, ← hb]; exact cost_any t A c v w h
end Go.Proofs.Ytidlpoambmeiiaa.S14
