/- A list of curves, drawn: contracts. Conditions: each theorem's own premises. -/
import Derived.Test.YtpldbakllegheabCvDL
import Derived.Deep.DeepCutAuto
namespace Go.Proofs.Ytpldbakllegheab.S7
open Go.RowKit Go.Sort P7

theorem one_cell' {w w' : World} {y : Value} {t : TypeId} (h : w' = w.alloc (.cells #[y] t)) : ∀ j u, [y][j]? = some u → w'.cell? ((⟨w.heap.size, 0, none⟩ : Addr).add j) = some u := by
  subst h
  intro j u hu
  rw [add_plus, Nat.zero_add, World.cell?_alloc_at _ _ _ _ rfl]
  have : (#[y])[j]? = [y][j]? := by simp
  rw [this]; exact hu

set_option maxHeartbeats 1500000 in
set_option maxRecDepth 100000 in
theorem curves_any (B g : Nat) (a : Option Addr) (n cap KC : Nat) (w : World) (hK : KC ≤ 400000) (h : S1.St B g a n cap KC w) (hgw : g < w.heap.size) :
    Calls Try.prog 48 #[.pointer (some ⟨g, 0, none⟩)] w (CrsPost B g a n cap (KC + 400) w) := by
  have HS := Lib.hid h
  have hBg := h.bg
  obtain ⟨i0, hi0, hz0, hz1, hz2⟩ := info_parts infoCS
  have HP0 := Lib.hid (DL.start h hgw)
  clear h
  go_enter Try.func48, Try.ntmps48
  refine Hid.out ?_
  refine Lib.hid ?_
  go_wp2_with (first | (go_at_call 42; refine (S1.pick_any B g a n cap KC 4 _ (by omega) (by omega) (by omega) HP0.out.st).mono ?_; rintro e w1 ⟨r0, rfl, hr00, hr09, hs, hg⟩; refine Hid.out ?_) | fail)
  have HP1 := Lib.hid (HP0.out.call hs hg)
  clear hs hg HP0
  refine Lib.hid ?_
  go_wp2_with (first | (go_at_call 42; refine (S1.pick_any B g a n cap (KC + 2) 16 _ (by omega) (by omega) (by omega) HP1.out.st).mono ?_; rintro e w2 ⟨r1, rfl, hr10, hr19, hs, hg⟩; refine Hid.out ?_) | fail)
  have HP2 := Lib.hid (HP1.out.call hs hg)
  clear hs hg HP1
  obtain ⟨N0, rfl, hN⟩ := nat_in hr00 hr09
  obtain ⟨N1, rfl, hN1⟩ := nat_in hr10 hr19
  obtain ⟨d, hd⟩ : ∃ d : Nat, (N1 : Int) / 15 = (d : Int) := ⟨N1 / 15, by omega⟩
  have hd1 : d ≤ 1 := by omega
  obtain ⟨N, hNN⟩ : ∃ N : Nat, (N0 : Int) + 1 + (d : Int) = (N : Int) := ⟨N0 + 1 + d, by omega⟩
  have hN5 : N ≤ 5 := by omega
  clear hr00 hr09 hr10 hr19
  refine Lib.hid ?_
  go_wp2_with fail
  go_loopw [3, 4] (fun v nn wr => ∃ (r gv cv : Nat) (ls : List (List Cp)) (x : Nat → Value), r + ls.length = N ∧ v = .slice (some ⟨gv, 0, none⟩) ls.length cv ∧ nn = .int .i64 (r : Int) ∧ Hid (DL w wr B g a n cap (KC + 4 + 60 * ls.length) gv cv ls x)) (fun _ nn _ => (intOf nn).toNat)
  case atStart => exact ⟨N, _, _, [], _, by simp, rfl, by first | rfl | congr 1, Lib.hid (HP2.out.more (by simp))⟩
  case round =>
    clear HP2 hNN hd
    obtain ⟨r, gv, cv, ls, x, hrk, rfl, rfl, HP⟩ := hrel
    refine Hid.out ?_
    by_cases hlt : 0 < r
    · have hgz := HP.out.gr.size
      have hgvl : gv < wr.heap.size := (World.ownsRow.lt HP.out.own gv rfl).2
      have hglo := HP.out.lo
      refine Lib.hid ?_
      go_wp2_with (first | (go_at_call 39; refine (curve_any B g a n cap (KC + 4 + 60 * ls.length) _ (by omega) HP.out.st (by omega)).mono ?_; rintro e w3 ⟨gy, cy, cs, rfl, hgy, hl, hcc, hat, hs, hg⟩; refine Hid.out ?_) | fail)
      have HY := Lib.hid (show RowC w3 gv g (.slice (some ⟨gy, 0, none⟩) cs.length cy) cs from ⟨gy, cy, rfl, hgy.2, by omega, by omega, hat, hl, hcc⟩)
      have HP3 := Lib.hid (HP.out.call hs hg)
      have hgz3 := HP3.out.gr.size
      clear hs hg hat HP
      refine Lib.hid ?_
      go_wp2_with (at_builtin; go_must (refine wpList_append_own_at _ rfl _ _ 30 rfl w.heap.size 24 i0 _ 1 24 Try.underlying30 hi0 hz0 hz1 hz2 rfl (by omega) _ _ _ rfl (HP3.out.own.alloc _) ⟨w3.heap.size, 0, none⟩ 1 1 [(.slice (some ⟨gy, 0, none⟩) cs.length cy)] rfl rfl (one_cell' rfl) ?c2 ?c3 ?c4 ?c5 ?_))
      case c2 => intro u hu; simp at hu; subst hu; rfl
      case c3 => unfold maxLen; omega
      case c4 => omega
      case c5 => simp; omega
      intro v' w4 hown' hgrow hnil hat'
      obtain ⟨g5, c5, hv5, hg5⟩ := own_slS hown' (fun e => by first | exact hnil e | exact absurd (hnil.1 e).2 (by omega))
      subst hv5
      have hn5 : g5 = gv ∨ g5 = (w3.alloc (.cells #[(.slice (some ⟨gy, 0, none⟩) cs.length cy)] 24)).heap.size := by simpa [Value.ownBlock] using hat'
      have HP4 := Lib.hid (HP3.out.push HY.out hgrow hown' hg5 hn5)
      clear hown' hgrow hnil hat' HP3 HY hn5
      refine Hid.out ?_
      refine Lib.hid ?_
      go_wp2_with fail
      go_roundw
      case rel => exact ⟨r - 1, g5, c5, ls ++ [cs], _, by simp; omega, by simp, by congr 1; omega, Lib.hid (HP4.out.more (by simp; omega))⟩
      case measure => simp [intOf]; omega
    · have e : r = 0 := by omega
      subst e
      have hl5 : ls.length ≤ 5 := by omega
      refine Lib.hid ?_
      go_wp2_with (first | (go_at_call 61; refine (S1.one_any B g a n cap (KC + 4 + 60 * ls.length) 24 _ (by omega) (by omega) (by omega) HP.out.st).mono ?_; rintro e w3 ⟨yes, rfl, hs, hg⟩; refine Hid.out ?_) | fail)
      have HP3 := Lib.hid (HP.out.call hs hg)
      obtain ⟨hf1, hf2⟩ := HP3.out.facts
      clear hs hg HP
      refine Lib.hid ?_
      cases yes with
      | true =>
        go_wp2_with fail
        go_ret
        exact crs_none HP3.out (by omega)
      | false =>
        go_wp2_with fail
        go_ret
        exact crs_post HP3.out (by omega) hl5
end Go.Proofs.Ytpldbakllegheab.S7
