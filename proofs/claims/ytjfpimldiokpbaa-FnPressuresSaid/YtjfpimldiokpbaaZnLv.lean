/- FewestLevels of the model, by its search for the lowest place without a level: contracts. Conditions: each theorem's own premises. -/
import Derived.Test.YtjfpimldiokpbaaZnRd
namespace Go.Proofs.Ytjfpimldiokpbaa.S12
open Go.RowKit Go.Sort P12

/-- The lowest of the first k places that no level suits, or -1. -/
def LW (l : List Int) (a b : Int) (out : List Int) (k : Nat) (v : Int) : Prop :=
  (v = -1 ∧ ∀ i, i < k → usd a b out (l.getD i 0) = true) ∨ (0 ≤ v ∧ v ≤ 1000 ∧ v ∈ l ∧ usd a b out v = false ∧ ∀ i, i < k → usd a b out (l.getD i 0) = false → v ≤ l.getD i 0)
theorem lw_zero (l : List Int) (a b : Int) (out : List Int) : LW l a b out 0 (-1) := .inl ⟨rfl, fun i hi => absurd hi (by omega)⟩
theorem lw_in {l : List Int} {a b : Int} {out : List Int} {k : Nat} {v : Int} (h : LW l a b out k v) : -1 ≤ v ∧ v ≤ 1000 := by
  rcases h with ⟨h, _⟩ | ⟨h1, h2, _⟩ <;> omega
theorem lw_used {l : List Int} {a b : Int} {out : List Int} {k : Nat} {v : Int} (h : LW l a b out k v) (hu : usd a b out (l.getD k 0) = true) : LW l a b out (k + 1) v := by
  rcases h with ⟨h, h2⟩ | ⟨h1, h2, h3, h4, h5⟩
  · refine .inl ⟨h, fun i hi => ?_⟩
    by_cases e : i = k
    · subst e; exact hu
    · exact h2 i (by omega)
  · refine .inr ⟨h1, h2, h3, h4, fun i hi hiu => ?_⟩
    by_cases e : i = k
    · subst e; rw [hu] at hiu; cases hiu
    · exact h5 i (by omega) hiu
theorem lw_take {l : List Int} {a b : Int} {out : List Int} {k : Nat} {v : Int} (hq : Pl l) (hk : k < l.length) (h : LW l a b out k v) (hu : usd a b out (l.getD k 0) = false) (hv : v < 0 ∨ l.getD k 0 < v) : LW l a b out (k + 1) (l.getD k 0) := by
  have hx := hq.at_ hk
  refine .inr ⟨hx.1, hx.2, getD_mem hk, hu, fun i hi hiu => ?_⟩
  by_cases e : i = k
  · subst e; omega
  · rcases h with ⟨h, h2⟩ | ⟨h1, h2, h3, h4, h5⟩
    · rw [h2 i (by omega)] at hiu; cases hiu
    · have := h5 i (by omega) hiu; omega
theorem lw_keep {l : List Int} {a b : Int} {out : List Int} {k : Nat} {v : Int} (h : LW l a b out k v) (h0 : ¬ v < 0) (h1 : ¬ l.getD k 0 < v) : LW l a b out (k + 1) v := by
  rcases h with ⟨h, h2⟩ | ⟨g1, g2, g3, g4, g5⟩
  · omega
  · refine .inr ⟨g1, g2, g3, g4, fun i hi hiu => ?_⟩
    by_cases e : i = k
    · subst e; omega
    · exact g5 i (by omega) hiu
theorem lw_done {l : List Int} {a b : Int} {out : List Int} {v : Int} (h : LW l a b out l.length v) (h0 : v < 0) : Full l a b out := by
  rcases h with ⟨h, h2⟩ | ⟨g1, _⟩
  · intro x hx
    obtain ⟨i, hi, rfl⟩ := mem_getD hx
    exact h2 i hi
  · omega
theorem lw_more {l : List Int} {a b : Int} {out : List Int} {v : Int} (hg : GS l a b out) (h : LW l a b out l.length v) (h0 : ¬ v < 0) : GS l a b (out ++ [v + b]) := by
  rcases h with ⟨h, h2⟩ | ⟨g1, g2, g3, g4, g5⟩
  · omega
  · refine gs_more hg g3 g4 (fun y hy hyu => ?_)
    obtain ⟨i, hi, rfl⟩ := mem_getD hy
    exact g5 i hi hyu
theorem usd_take (a b : Int) (out : List Int) (x : Int) {j : Nat} (hj : j < out.length) : usd a b (out.take (j + 1)) x = (usd a b (out.take j) x || suB x a b (out.getD j 0)) := by
  rw [List.take_succ_eq_append_getElem hj, usd_snoc]
  have e : out.getD j 0 = out[j] := by simp [List.getD, hj]
  rw [e]
def lenV : Value → Nat
  | .slice _ n _ => n
  | _ => 0
set_option maxHeartbeats 8000000 in
set_option maxRecDepth 100000 in
theorem slev_any (A : Option Addr) (cap : Nat) (l : List Int) (a b : Int) (w : World) (hI : IAt w A l) (hq : ZAsk l a b) :
    Calls Try.prog 57 #[.slice A l.length cap, rv a b] w (Gives1 w (fewL l a b)) := by
  have ha1 := hq.a1
  have hab := hq.ab
  have hb1 := hq.b1
  have hn12 := hq.n
  have HAT := Lib.hid (fun (i : Nat) (hi : i < l.length) => hq.toPl.at_ hi)
  have HIK := Lib.hid (fun w' (hb : Below w.heap.size w w') => hI.kept hb (Nat.le_refl _))
  have HTK := Lib.hid (fun k v out (h : LW l a b out k v) (hk : k < l.length) => lw_take hq.toPl hk h)
  have HGL := Lib.hid (fun out (h : GS l a b out) => gs_len hab h)
  have HGM := Lib.hid (fun out (h : GS l a b out) (j : Nat) (hj : j < out.length) => show 0 ≤ out.getD j 0 ∧ out.getD j 0 ≤ 1200 from by
    obtain ⟨x, hx, e⟩ := gs_mem h _ (getD_mem hj)
    have := hq.toPl.mem hx
    rw [e]; omega)
  have HO0 := Lib.hid (own_empty' w (rb 25 a b))
  have HT0 := Lib.hid (BT.new w 25 a b)
  have HX0 := Lib.hid (show Below (w.heap.size + 1) (w.alloc (rb 25 a b)) ((w.alloc (rb 25 a b)).alloc (.cells #[] 3)) from (Below.refl _ _).alloc (by simp) _)
  obtain ⟨i0, hi, hz0, hz1, hz2⟩ := info_parts infoI
  clear hI hq
  go_enter Try.func57, Try.ntmps57
  go_wp2
  go_loopw [5] (fun v wr => ∃ out : List Int, Hid (GS l a b out) ∧ Hid (IOwn wr (w.heap.size + 1) v out) ∧ Hid (v ≠ .slice none 0 0) ∧ Hid (Below (w.heap.size + 1) (w.alloc (rb 25 a b)) wr)) (fun v _ => l.length - lenV v)
  case atStart => exact ⟨[], Lib.hid .nil, HO0, Lib.hid (by simp), HX0⟩
  case round =>
    clear HO0 HX0
    obtain ⟨out, hgs, hown, hvn, hBo⟩ := hrel
    obtain ⟨g, c, rfl, hg⟩ := own_slice hown.out hvn.out
    have hlout := HGL.out out hgs.out
    have hglt := iown_lt' hown.out
    obtain ⟨wo, hwo⟩ : ∃ wo, wo = wr := ⟨_, rfl⟩
    subst hwo
    have hzo := hBo.out.size
    simp at hzo
    have HCE := Lib.hid (fun (j : Nat) (hj : j < out.length) => show wo.cell? ⟨g, j, none⟩ = some (iv (out.getD j 0)) from by
      rw [hown.out.cellAt j (by omega)]; simp [List.getD, hj])
    clear hvn
    go_wp2
    go_loopw [6, 7] (fun lw i wr => ∃ (k : Nat) (v : Int), k ≤ l.length ∧ i = .int .i64 (k : Int) ∧ lw = .int .i64 v ∧ Hid (LW l a b out k v) ∧ Hid (Below wo.heap.size wo wr)) (fun _ i _ => l.length - (intOf i).toNat)
    case atStart => exact ⟨0, -1, Nat.zero_le _, rfl, rfl, Lib.hid (lw_zero l a b out), Lib.hid (Below.refl _ _)⟩
    case round =>
      obtain ⟨k, v, hk, rfl, rfl, hLW, hBm⟩ := hrel
      obtain ⟨v0, v1⟩ := lw_in hLW.out
      by_cases hlt : k < l.length
      · obtain ⟨wm, hwm⟩ : ∃ wm, wm = wr := ⟨_, rfl⟩
        subst hwm
        have hzm := hBm.out.size
        have HBW := Lib.hid (hBo.out.trans (hBm.out.mono (by omega)))
        obtain ⟨bb, off, hA, hbl, p0⟩ := (HIK.out _ (below_box HBW.out)).at_ hlt
        subst hA
        obtain ⟨q9, q0, q1⟩ := HT0.out.keep HBW.out (by omega)
        obtain ⟨x0, x1⟩ := HAT.out k hlt
        have hk0 : (0 : Int) ≤ (k : Int) := by omega
        have hkn : (k : Int) < (l.length : Int) := by omega
        have HU1 := Lib.hid (fun hu => lw_used hLW.out hu)
        have HU2 := Lib.hid (fun hu hv => HTK.out k v out hLW.out hlt hu hv)
        have HU3 := Lib.hid (fun h0 h1 => lw_keep hLW.out h0 h1)
        have HUT := Lib.hid (fun (j : Nat) (hj : j < out.length) => usd_take a b out (l.getD k 0) hj)
        have HSS := Lib.hid (fun (j : Nat) (hj : j < out.length) w' => ssu_any (l.getD k 0) a b (out.getD j 0) w' ⟨x0, x1⟩ (by have := HGM.out out hgs.out j hj; omega))
        have HFT := Lib.hid (show usd a b (out.take out.length) (l.getD k 0) = usd a b out (l.getD k 0) by rw [List.take_length])
        generalize l.getD k 0 = x at *
        go_wp2
        go_loopw [8, 9] (fun s jv wr => ∃ j : Nat, j ≤ out.length ∧ jv = .int .i64 (j : Int) ∧ s = .bool (usd a b (out.take j) x) ∧ Hid (Below wm.heap.size wm wr)) (fun _ jv _ => out.length - (intOf jv).toNat)
        case atStart => exact ⟨0, Nat.zero_le _, rfl, rfl, Lib.hid (Below.refl _ _)⟩
        case round =>
          obtain ⟨j, hj, rfl, rfl, hBi⟩ := hrel
          by_cases hjl : j < out.length
          · have p1 := (hBi.out.cell (p := ⟨bb, off + k, none⟩) hbl).trans p0
            have r0 := (hBi.out.cell (p := ⟨w.heap.size, 0, none⟩) q9).trans q0
            have r1 := (hBi.out.cell (p := ⟨w.heap.size, 1, none⟩) q9).trans q1
            have hbl1 := Nat.lt_of_lt_of_le hbl hBi.out.size
            have r9 := Nat.lt_of_lt_of_le q9 hBi.out.size
            have s0 := ((hBm.out.trans (hBi.out.mono hzm)).cell (p := ⟨g, j, none⟩) hglt).trans (HCE.out j hjl)
            have s9 : g < wr.heap.size := Nat.lt_of_lt_of_le hglt (Nat.le_trans hzm hBi.out.size)
            have HCL := Lib.hid (HSS.out j hjl)
            have HUJ := Lib.hid (HUT.out j hjl)
            have hj0 : (0 : Int) ≤ (j : Int) := by omega
            have hjn : (j : Int) < (out.length : Int) := by omega
            have hG := @cell_g
            generalize out.getD j 0 = h at *
            clear p0 q0 q1
            cases hu : usd a b (out.take j) x with
            | true =>
              have HUK := Lib.hid (show usd a b (out.take (j + 1)) x = true by rw [HUJ.out, hu]; rfl)
              clear hu
              go_wp2
              refine region_below (by kernel_rfl) (by kernel_rfl) ?_
              repeat (first | go_big_quiet_step (fail))
              refine wpQuiet_nil ?_
              intro wz hbz
              have HBZ := Lib.hid (hBi.out.trans (hbz.mono hBi.out.size))
              clear hbz
              go_wp2
              go_roundw
              case rel => exact ⟨j + 1, by omega, by go_num, by rw [HUK.out], HBZ⟩
              case measure => simp [intOf]; omega
            | false =>
              have HUK := Lib.hid (show usd a b (out.take (j + 1)) x = suB x a b h by rw [HUJ.out, hu]; rfl)
              generalize suB x a b h = sb at *
              clear hu
              go_wp2
              refine region_below (by kernel_rfl) (by kernel_rfl) ?_
              repeat (first | go_big_quiet_step ((go_at_call 60; exact met HCL.out)))
              refine wpQuiet_nil ?_
              intro wz hbz
              have HBZ := Lib.hid (hBi.out.trans (hbz.mono hBi.out.size))
              clear hbz
              go_wp2
              go_roundw
              case rel => exact ⟨j + 1, by omega, by go_num, by rw [HUK.out]; try simp, HBZ⟩
              case measure => simp [intOf]; omega
          · have hjo : j = out.length := by omega
            have HBF := Lib.hid (hBm.out.trans (hBi.out.mono hzm))
            have p1 := (hBi.out.cell (p := ⟨bb, off + k, none⟩) hbl).trans p0
            have hbl1 := Nat.lt_of_lt_of_le hbl hBi.out.size
            have HUE := Lib.hid (show usd a b (out.take j) x = usd a b out x by rw [hjo]; exact HFT.out)
            clear hjo p0 q0 q1
            cases hu : usd a b out x with
            | true =>
              have HUK := Lib.hid (HUE.out.trans hu)
              have HN := Lib.hid (HU1.out hu)
              have hu2 := HUK.out
              clear hu
              rw [hu2]
              clear hu2
              go_wp2
              go_roundw
              case rel => exact ⟨k + 1, v, by omega, by go_num, rfl, HN, HBF⟩
              case measure => simp [intOf]; omega
            | false =>
              have hu2 := HUE.out.trans hu
              rw [hu2]
              clear hu2
              by_cases h0 : v < 0
              · have HN := Lib.hid (HU2.out hu (.inl h0))
                have g0 : decide (v < 0) = true := by simp [h0]
                clear hu h0
                go_wp2
                go_roundw
                case rel => exact ⟨k + 1, x, by omega, by go_num, rfl, HN, HBF⟩
                case measure => simp [intOf]; omega
              · have g0 : decide (v < 0) = false := by simp; omega
                by_cases h1 : x < v
                · have HN := Lib.hid (HU2.out hu (.inr h1))
                  have g1 : decide (x < v) = true := by simp [h1]
                  clear hu h0 h1
                  go_wp2
                  go_roundw
                  case rel => exact ⟨k + 1, x, by omega, by go_num, rfl, HN, HBF⟩
                  case measure => simp [intOf]; omega
                · have HN := Lib.hid (HU3.out (by omega) (by omega))
                  have g1 : decide (x < v) = false := by simp; omega
                  clear hu h0 h1
                  go_wp2
                  go_roundw
                  case rel => exact ⟨k + 1, v, by omega, by go_num, rfl, HN, HBF⟩
                  case measure => simp [intOf]; omega
      · have hkN : k = l.length := by omega
        have hL := hLW.out
        rw [hkN] at hL
        have HBF := Lib.hid (hBo.out.trans (hBm.out.mono (by omega)))
        have hzm := hBm.out.size
        clear hkN
        by_cases h0 : v < 0
        · have hR := few_is hgs.out (lw_done hL h0)
          have g0 : decide (v < 0) = true := by simp [h0]
          have HO := Lib.hid (hown.out.on hBm.out)
          have HR := Lib.hid hR
          clear hR hL h0
          go_wp2
          go_ret
          rw [HR.out]
          exact ⟨g, c, rfl, by omega, own_lower HO.out, below_box HBF.out⟩
        · have g0 : decide (v < 0) = false := by simp; omega
          have HG2 := Lib.hid (lw_more hgs.out hL h0)
          have hl2 := HGL.out _ HG2.out
          rw [List.length_append, List.length_singleton] at hl2
          obtain ⟨wp, hwp⟩ : ∃ wp, wp = wr := ⟨_, rfl⟩
          subst hwp
          have hBp := HBF
          have ho := hown.out.on hBm.out
          unfold IOwn at ho
          obtain ⟨q9, q0, q1⟩ := HT0.out.keep hBp.out (by omega)
          have hs : IntKind.i64.wrap (v + b) = v + b := IntWalk.i64_in _ (by omega)
          have hlo : (out ++ [v + b]).length = out.length + 1 := by simp
          clear hL h0
          go_wp2_with (at_builtin; go_must (refine wpList_append_own _ rfl _ _ 28 rfl (w.heap.size + 1) 3 i0 (.int .i64 0) 1 8 Try.underlying28 hi hz0 hz1 hz2 rfl (by decide) _ _ _ rfl (ho.alloc _) ⟨wp.heap.size, 0, none⟩ 1 1 [iv (v + b)] rfl rfl (cell_one_new _ _ _) (by intro u hu; simp at hu; subst hu; rfl) (by unfold maxLen; omega) (by omega) (by have := hBp.out.size; simp at this ⊢; omega) ?_); intro v' w7 hown' hgrow hnil)
          have hown3 := Lib.hid (IOwn.push hown')
          have hB7 := Lib.hid ((hBp.out.alloc (by have := hBp.out.size; simpa using this) (.cells #[iv (v + b)] 3)).grown hgrow (by have := hBp.out.size; simp at this ⊢; omega) (fun g hg => (ho.lt g hg).1))
          have hnil3 := Lib.hid (show v' ≠ .slice none 0 0 from fun e => by simp [e] at hnil)
          obtain ⟨g7, c7, rfl, _⟩ := own_slice hown3.out hnil3.out
          have hvs := hown3
          clear hown' hgrow hnil ho hs hown3 q0 q1
          go_wp2
          go_roundw
          case rel => exact ⟨out ++ [v + b], HG2, hvs, hnil3, hB7⟩
          case measure => simp [lenV]; omega
end Go.Proofs.Ytjfpimldiokpbaa.S12
