/- The model's ParseAmount; the law FnExactParseAmount walked: contracts. Conditions: each theorem's own premises. -/
import Derived.Test.YtpdkphokinhhdaaDoorParseOne
import Derived.Test.YtpdkphokinhhdaaDoorSplitOne
import Derived.Test.YtpdkphokinhhdaaDoorReadOne
namespace Go.Proofs.YtpdkphokinhhdaaDoor.S3
open Go.RowKit Go.Sort P1 P3 S1 S2
open Go.Lib hiding intOf

/-- What a slice of the call's own holds, cell by cell. -/
theorem own_at {B : Nat} {v : Value} {ps : List (List UInt8)} {w : World} (h : OwnStrs B v ps w) (hne : ps ≠ []) :
    ∃ g cap, v = .slice (some ⟨g, 0, none⟩) ps.length cap ∧ B ≤ g ∧ ∀ (j : Nat) (hj : j < ps.length), w.cell? ⟨g, j, none⟩ = some (strV ps[j]) := by
  have hc := fun g (hg : v.ownBlock = some g) => World.ownsRow.cells h hg
  rcases h.2 with ⟨_, h0⟩ | ⟨g, cap, cur, rfl, hb, _, _⟩
  · exact absurd (List.length_eq_zero_iff.1 h0) hne
  · refine ⟨g, cap, rfl, hb, fun j hj => ?_⟩
    have := hc g rfl j (strV ps[j]) (by simp [hj])
    by_cases h0 : j = 0
    · subst h0; simpa [Addr.add] using this
    · simpa [Addr.add, h0] using this
theorem ans_short {l : List UInt8} {v u : Int} {ok : Bool} (h : Ans l v u ok) (hb : ¬ (l.length ≤ 20 ∧ (splitL 32 l).length = 2)) : ok = false ∧ v = 0 ∧ u = 0 := by
  cases ok
  · exact ⟨rfl, (h.no rfl).1, (h.no rfl).2.1⟩
  · obtain ⟨h1, h2⟩ := h.yes rfl
    have a := text_len h1
    have b := text_split v u
    rw [h2] at a b
    exact absurd ⟨by omega, by rw [b]; rfl⟩ hb
theorem ans_head {l : List UInt8} {v u : Int} {ok : Bool} (h : Ans l v u ok) (hok : ok = true) : okA v u = true ∧ (splitL 32 l).headD [] = decDigits v.toNat := by
  obtain ⟨h1, h2⟩ := h.yes hok
  rw [← h2, text_split]
  exact ⟨h1, rfl⟩
theorem split_head_len (b : UInt8) (l : List UInt8) : ((splitL b l).headD []).length ≤ l.length := by
  induction l with
  | nil => simp [splitL]
  | cons c l ih =>
    unfold splitL
    split
    · simp
    · match hq : splitL b l with
      | [] => simp
      | p :: r => rw [hq] at ih; simp at ih ⊢; omega
theorem c32 : (32 : Int) = ((32 : UInt8).toNat : Int) := rfl

set_option maxHeartbeats 8000000 in
set_option maxRecDepth 100000 in
theorem sparse_amt (s : ByteArray) (v u : Int) (ok : Bool) (hA : Ans s.data.toList v u ok) (hs : s.size ≤ 1048576) (w : World) :
    Calls Tryd.prog 24 #[.string s] w (GivesM v u ok w) := by
  obtain ⟨S, hS⟩ : ∃ S, S = w.heap.size + 1 := ⟨_, rfl⟩
  have hB : Below S (outB w) (outB w) := Below.refl _ _
  have HSS := Lib.hid hS
  have HSZ := Lib.hid (show S = (outB w).heap.size by simp [hS])
  have HC := Lib.hid (fun w => split_any s 32 32 c32 w hs)
  have HA := Lib.hid hA
  have HN := Lib.hid (splitL_ne 32 s.data.toList)
  have hl := toL s
  have HH := Lib.hid (fun h => ans_head hA h)
  have hA0 := Lib.hid hA
  clear hS
  by_cases hgo : s.data.toList.length ≤ 20 ∧ (splitL 32 s.data.toList).length = 2
  · obtain ⟨g1, g2⟩ := hgo
    rw [hl] at g1
    have HP := Lib.hid g2
    clear hA g2
    go_enter Tryd.func24, Tryd.ntmps24
    go_wp2_with (go_at_call 46; refine (HC.out _).mono ?_; rintro e w1 ⟨vv, rfl, hown, hb1⟩; have hB := on_base hB HSZ.out hb1; obtain ⟨c0, c1, z0, z1, hlo⟩ := out_facts hB HSS.out; refine Hid.out ?_)
    obtain ⟨g, cap, rfl, hgB, hcell⟩ := own_at hown HN.out
    have hcz := hcell 0 (by rw [HP.out]; omega)
    have hhd : (splitL 32 s.data.toList)[0]'(by rw [HP.out]; omega) = (splitL 32 s.data.toList).headD [] := by
      match hq : splitL 32 s.data.toList, HP.out with
      | x :: r, _ => rfl
    rw [hhd] at hcz
    have hpl := split_head_len 32 s.data.toList
    rw [hl] at hpl
    unfold strV at hcz
    rw [HP.out]
    have hgl : g < w1.heap.size := World.block_lt_of_cell? w1 _ hcz
    have hBf := Lib.hid hB
    clear hcell hown hhd
    generalize (splitL 32 s.data.toList).headD [] = p0 at *
    by_cases hmill : p0 = millL
    · have hE : (p0 == [49, 48, 48, 48, 48, 48, 48]) = true := beq_iff_eq.2 hmill
      have HVv := Lib.hid (show ok = true → (1000000 : Int) = v from fun h => by
        obtain ⟨h1, h2⟩ := HH.out h
        rw [hmill] at h2
        have := mill_iff h2.symm
        obtain ⟨⟨a0, a1⟩, _⟩ := okA_iff.1 h1
        omega)
      clear hmill HH
      refine Lib.hid ?_
      go_wp2_with fail
      go_quiet (fail)
      go_wp2
      have hBf := Lib.hid (below_drewN hBf.out nq)
      go_loopw [7, 8] (fun i _ wr => ∃ k : Nat, 1 ≤ k ∧ k ≤ 5 ∧ i = .int .i64 (k : Int) ∧ Hid (∀ j : Int, 1 ≤ j → j < k → ¬ (okA 1000000 j = true ∧ textL 1000000 j = s.data.toList)) ∧ Below S (outB w) wr) (fun i _ _ => 5 - (intOf i).toNat)
      case atStart => exact ⟨1, Nat.le_refl _, by omega, rfl, Lib.hid (fun j h1 h2 => by omega), hBf.out⟩
      case round =>
        obtain ⟨k, hk1, hk5, rfl, hm, hBr⟩ := hrel
        obtain ⟨d0, d1, y0, y1, hlr⟩ := out_facts hBr HSS.out
        have hSz : S ≤ wr.heap.size := by have := HSS.out; omega
        by_cases hk : k < 5
        · by_cases hok : okA 1000000 (k : Int) = true
          · have HG := Lib.hid (fun w => sgood_v hok w)
            have HX := Lib.hid (fun w => stext_any 1000000 (k : Int) w hok)
            by_cases he : textL 1000000 (k : Int) = s.data.toList
            · obtain ⟨hVe, rfl, rfl⟩ := HA.out.hit hok he
              have HVE := Lib.hid hVe
              have hE2 : (textL 1000000 (k : Int) == s.toList) = true := by rw [Lib.toList_data]; exact beq_iff_eq.2 he
              clear hok he hm hVe
              generalize textL 1000000 (k : Int) = L at *
              go_wp2_with (first | (go_at_call 42; refine (HG.out _).mono ?_; rintro e w3 ⟨rfl, hb3⟩; have a0 := (hb3.cell (p := ⟨wr.heap.size, 0, none⟩) (by simp)).trans (show (wr.alloc (.cells #[.int .i64 1000000, .int .i64 (k : Int)] 29)).cell? ⟨wr.heap.size, 0, none⟩ = some (.int .i64 1000000) by go_simp); have a1 := (hb3.cell (p := ⟨wr.heap.size, 1, none⟩) (by simp)).trans (show (wr.alloc (.cells #[.int .i64 1000000, .int .i64 (k : Int)] 29)).cell? ⟨wr.heap.size, 1, none⟩ = some (.int .i64 (k : Int)) by go_simp); have hB := Below.trans (hBr.alloc hSz _) (hb3.mono (by simp; omega)); have hal : wr.heap.size < w3.heap.size := (by have := hb3.size; simp at this; omega); obtain ⟨c0, c1, z0, z1, hlo⟩ := out_facts hB HSS.out) | (go_at_call 45; refine (HX.out _).mono ?_; rintro e w4 ⟨rfl, hb4⟩; have a2 := (hb4.cell (p := ⟨wr.heap.size, 0, none⟩) hal).trans a0; have a3 := (hb4.cell (p := ⟨wr.heap.size, 1, none⟩) hal).trans a1; have hB := on_base hB HSZ.out hb4; obtain ⟨c4, c5, z4, z5, hlo2⟩ := out_facts hB HSS.out))
              refine bodyPost_ret (v := .tuple #[av 1000000 (k : Int), .bool true]) (by simp [results, Tryd.results24, go_sem, c4, c5]) rfl ⟨by rw [← HVE.out], ?_⟩
              exact ((under_one hB HSS.out).setCell (p := ⟨w.heap.size, 0, none⟩) (Nat.le_refl _) _).setCell (p := ⟨w.heap.size, 1, none⟩) (Nat.le_refl _) _
            · have hE2 : (textL 1000000 (k : Int) == s.toList) = false := by rw [Lib.toList_data]; exact beq_eq_false_iff_ne.2 he
              have hm2 := Lib.hid (show ∀ j : Int, 1 ≤ j → j < ((k + 1 : Nat) : Int) → ¬ (okA 1000000 j = true ∧ textL 1000000 j = s.data.toList) from fun j h1 h2 h3 => by
                by_cases e : j = (k : Int)
                · rw [e] at h3; exact he h3.2
                · exact hm.out j h1 (by omega) h3)
              clear hok he hm
              generalize textL 1000000 (k : Int) = L at *
              go_wp2_with (first | (go_at_call 42; refine (HG.out _).mono ?_; rintro e w3 ⟨rfl, hb3⟩; have a0 := (hb3.cell (p := ⟨wr.heap.size, 0, none⟩) (by simp)).trans (show (wr.alloc (.cells #[.int .i64 1000000, .int .i64 (k : Int)] 29)).cell? ⟨wr.heap.size, 0, none⟩ = some (.int .i64 1000000) by go_simp); have a1 := (hb3.cell (p := ⟨wr.heap.size, 1, none⟩) (by simp)).trans (show (wr.alloc (.cells #[.int .i64 1000000, .int .i64 (k : Int)] 29)).cell? ⟨wr.heap.size, 1, none⟩ = some (.int .i64 (k : Int)) by go_simp); have hB := Below.trans (hBr.alloc hSz _) (hb3.mono (by simp; omega)); have hal : wr.heap.size < w3.heap.size := (by have := hb3.size; simp at this; omega); obtain ⟨c0, c1, z0, z1, hlo⟩ := out_facts hB HSS.out) | (go_at_call 45; refine (HX.out _).mono ?_; rintro e w4 ⟨rfl, hb4⟩; have a2 := (hb4.cell (p := ⟨wr.heap.size, 0, none⟩) hal).trans a0; have a3 := (hb4.cell (p := ⟨wr.heap.size, 1, none⟩) hal).trans a1; have hB := on_base hB HSZ.out hb4; obtain ⟨c4, c5, z4, z5, hlo2⟩ := out_facts hB HSS.out))
              go_roundw
              case rel => exact ⟨k + 1, by omega, by omega, by go_num, hm2, hB⟩
              case measure => simp [intOf]; omega
          · have hm2 := Lib.hid (show ∀ j : Int, 1 ≤ j → j < ((k + 1 : Nat) : Int) → ¬ (okA 1000000 j = true ∧ textL 1000000 j = s.data.toList) from fun j h1 h2 h3 => by
              by_cases e : j = (k : Int)
              · rw [e] at h3; exact hok h3.1
              · exact hm.out j h1 (by omega) h3)
            rw [Bool.not_eq_true] at hok
            have HG := Lib.hid (fun w => sgood_v hok w)
            clear hok hm
            go_wp2_with (go_at_call 42; refine (HG.out _).mono ?_; rintro e w3 ⟨rfl, hb3⟩; have a0 := (hb3.cell (p := ⟨wr.heap.size, 0, none⟩) (by simp)).trans (show (wr.alloc (.cells #[.int .i64 1000000, .int .i64 (k : Int)] 29)).cell? ⟨wr.heap.size, 0, none⟩ = some (.int .i64 1000000) by go_simp); have a1 := (hb3.cell (p := ⟨wr.heap.size, 1, none⟩) (by simp)).trans (show (wr.alloc (.cells #[.int .i64 1000000, .int .i64 (k : Int)] 29)).cell? ⟨wr.heap.size, 1, none⟩ = some (.int .i64 (k : Int)) by go_simp); have hB := Below.trans (hBr.alloc hSz _) (hb3.mono (by simp; omega)); have hal : wr.heap.size < w3.heap.size := (by have := hb3.size; simp at this; omega); obtain ⟨c0, c1, z0, z1, hlo⟩ := out_facts hB HSS.out)
            go_roundw
            case rel => exact ⟨k + 1, by omega, by omega, by go_num, hm2, hB⟩
            case measure => simp [intOf]; omega
        · obtain ⟨rfl, rfl, rfl⟩ := HA.out.miss HVv.out (fun j h1 h2 => hm.out j h1 (by omega))
          go_wp2
          refine bodyPost_ret (v := .tuple #[av 0 0, .bool false]) (by simp [results, Tryd.results24, go_sem, d0, d1]) rfl ⟨rfl, ?_⟩
          exact ((under_one hBr HSS.out).setCell (p := ⟨w.heap.size, 0, none⟩) (Nat.le_refl _) _).setCell (p := ⟨w.heap.size, 1, none⟩) (Nat.le_refl _) _
    · have hE : (p0 == [49, 48, 48, 48, 48, 48, 48]) = false := beq_eq_false_iff_ne.2 hmill
      have HVN := Lib.hid (show ok = true → parseL p0 = some v from fun h => by
        obtain ⟨h1, h2⟩ := HH.out h
        rw [h2]
        refine read_text h1 (fun hv => hmill ?_)
        rw [h2, hv]
        exact mill_dec)
      clear hmill HH
      have HR := Lib.hid (fun (hz : (ByteArray.mk p0.toArray).size ≤ maxLen) w => read_any ⟨p0.toArray⟩ w hz)
      have hz : (ByteArray.mk p0.toArray).size ≤ maxLen := by simp [ByteArray.size, maxLen]; omega
      cases hp : parseL p0 with
      | none =>
        have hok : ok = false := by
          cases ok
          · rfl
          · have := HVN.out rfl; rw [hp] at this; cases this
        subst hok
        obtain ⟨rfl, rfl, _⟩ := hA0.out.no rfl
        have HR2 := Lib.hid (HR.out hz)
        rw [readV_none hp] at HR2
        clear hp hz HR HVN
        refine Lib.hid ?_
        go_wp2_with fail
        go_quiet (fail)
        go_wp2_with (go_at_call 47; refine (HR2.out _).mono ?_; rintro e w3 ⟨rfl, d, rfl⟩)
        have hBf := Lib.hid (below_drewN hBf.out (nq + d))
        go_loopw [7, 8] (fun i _ wr => i = .int .i64 1 ∧ Below S (outB w) wr) (fun _ _ _ => 0)
        case atStart => exact ⟨rfl, hBf.out⟩
        case round =>
          obtain ⟨rfl, hBr⟩ := hrel
          obtain ⟨d0, d1, y0, y1, hlr⟩ := out_facts hBr HSS.out
          go_wp2
          refine bodyPost_ret (v := .tuple #[av 0 0, .bool false]) (by simp [results, Tryd.results24, go_sem, d0, d1]) rfl ⟨rfl, ?_⟩
          exact ((under_one hBr HSS.out).setCell (p := ⟨w.heap.size, 0, none⟩) (Nat.le_refl _) _).setCell (p := ⟨w.heap.size, 1, none⟩) (Nat.le_refl _) _
      | some V =>
        have HVv := Lib.hid (show ok = true → V = v from fun h => by have := HVN.out h; rw [hp] at this; injection this)
        have HR2 := Lib.hid (HR.out hz)
        rw [readV_some hp] at HR2
        clear hp hz HR HVN
        refine Lib.hid ?_
        go_wp2_with fail
        go_quiet (fail)
        go_wp2_with (go_at_call 47; refine (HR2.out _).mono ?_; rintro e w3 ⟨rfl, d, rfl⟩)
        have hBf := Lib.hid (below_drewN hBf.out (nq + d))
        go_loopw [7, 8] (fun i _ wr => ∃ k : Nat, 1 ≤ k ∧ k ≤ 5 ∧ i = .int .i64 (k : Int) ∧ Hid (∀ j : Int, 1 ≤ j → j < k → ¬ (okA V j = true ∧ textL V j = s.data.toList)) ∧ Below S (outB w) wr) (fun i _ _ => 5 - (intOf i).toNat)
        case atStart => exact ⟨1, Nat.le_refl _, by omega, rfl, Lib.hid (fun j h1 h2 => by omega), hBf.out⟩
        case round =>
          obtain ⟨k, hk1, hk5, rfl, hm, hBr⟩ := hrel
          obtain ⟨d0, d1, y0, y1, hlr⟩ := out_facts hBr HSS.out
          have hSz : S ≤ wr.heap.size := by have := HSS.out; omega
          by_cases hk : k < 5
          · by_cases hok : okA V (k : Int) = true
            · have HG := Lib.hid (fun w => sgood_v hok w)
              have HX := Lib.hid (fun w => stext_any V (k : Int) w hok)
              by_cases he : textL V (k : Int) = s.data.toList
              · obtain ⟨hVe, rfl, rfl⟩ := HA.out.hit hok he
                have HVE := Lib.hid hVe
                have hE2 : (textL V (k : Int) == s.toList) = true := by rw [Lib.toList_data]; exact beq_iff_eq.2 he
                clear hok he hm hVe
                generalize textL V (k : Int) = L at *
                go_wp2_with (first | (go_at_call 42; refine (HG.out _).mono ?_; rintro e w3 ⟨rfl, hb3⟩; have a0 := (hb3.cell (p := ⟨wr.heap.size, 0, none⟩) (by simp)).trans (show (wr.alloc (.cells #[.int .i64 V, .int .i64 (k : Int)] 29)).cell? ⟨wr.heap.size, 0, none⟩ = some (.int .i64 V) by go_simp); have a1 := (hb3.cell (p := ⟨wr.heap.size, 1, none⟩) (by simp)).trans (show (wr.alloc (.cells #[.int .i64 V, .int .i64 (k : Int)] 29)).cell? ⟨wr.heap.size, 1, none⟩ = some (.int .i64 (k : Int)) by go_simp); have hB := Below.trans (hBr.alloc hSz _) (hb3.mono (by simp; omega)); have hal : wr.heap.size < w3.heap.size := (by have := hb3.size; simp at this; omega); obtain ⟨c0, c1, z0, z1, hlo⟩ := out_facts hB HSS.out) | (go_at_call 45; refine (HX.out _).mono ?_; rintro e w4 ⟨rfl, hb4⟩; have a2 := (hb4.cell (p := ⟨wr.heap.size, 0, none⟩) hal).trans a0; have a3 := (hb4.cell (p := ⟨wr.heap.size, 1, none⟩) hal).trans a1; have hB := on_base hB HSZ.out hb4; obtain ⟨c4, c5, z4, z5, hlo2⟩ := out_facts hB HSS.out))
                refine bodyPost_ret (v := .tuple #[av V (k : Int), .bool true]) (by simp [results, Tryd.results24, go_sem, c4, c5]) rfl ⟨by rw [← HVE.out], ?_⟩
                exact ((under_one hB HSS.out).setCell (p := ⟨w.heap.size, 0, none⟩) (Nat.le_refl _) _).setCell (p := ⟨w.heap.size, 1, none⟩) (Nat.le_refl _) _
              · have hE2 : (textL V (k : Int) == s.toList) = false := by rw [Lib.toList_data]; exact beq_eq_false_iff_ne.2 he
                have hm2 := Lib.hid (show ∀ j : Int, 1 ≤ j → j < ((k + 1 : Nat) : Int) → ¬ (okA V j = true ∧ textL V j = s.data.toList) from fun j h1 h2 h3 => by
                  by_cases e : j = (k : Int)
                  · rw [e] at h3; exact he h3.2
                  · exact hm.out j h1 (by omega) h3)
                clear hok he hm
                generalize textL V (k : Int) = L at *
                go_wp2_with (first | (go_at_call 42; refine (HG.out _).mono ?_; rintro e w3 ⟨rfl, hb3⟩; have a0 := (hb3.cell (p := ⟨wr.heap.size, 0, none⟩) (by simp)).trans (show (wr.alloc (.cells #[.int .i64 V, .int .i64 (k : Int)] 29)).cell? ⟨wr.heap.size, 0, none⟩ = some (.int .i64 V) by go_simp); have a1 := (hb3.cell (p := ⟨wr.heap.size, 1, none⟩) (by simp)).trans (show (wr.alloc (.cells #[.int .i64 V, .int .i64 (k : Int)] 29)).cell? ⟨wr.heap.size, 1, none⟩ = some (.int .i64 (k : Int)) by go_simp); have hB := Below.trans (hBr.alloc hSz _) (hb3.mono (by simp; omega)); have hal : wr.heap.size < w3.heap.size := (by have := hb3.size; simp at this; omega); obtain ⟨c0, c1, z0, z1, hlo⟩ := out_facts hB HSS.out) | (go_at_call 45; refine (HX.out _).mono ?_; rintro e w4 ⟨rfl, hb4⟩; have a2 := (hb4.cell (p := ⟨wr.heap.size, 0, none⟩) hal).trans a0; have a3 := (hb4.cell (p := ⟨wr.heap.size, 1, none⟩) hal).trans a1; have hB := on_base hB HSZ.out hb4; obtain ⟨c4, c5, z4, z5, hlo2⟩ := out_facts hB HSS.out))
                go_roundw
                case rel => exact ⟨k + 1, by omega, by omega, by go_num, hm2, hB⟩
                case measure => simp [intOf]; omega
            · have hm2 := Lib.hid (show ∀ j : Int, 1 ≤ j → j < ((k + 1 : Nat) : Int) → ¬ (okA V j = true ∧ textL V j = s.data.toList) from fun j h1 h2 h3 => by
                by_cases e : j = (k : Int)
                · rw [e] at h3; exact hok h3.1
                · exact hm.out j h1 (by omega) h3)
              rw [Bool.not_eq_true] at hok
              have HG := Lib.hid (fun w => sgood_v hok w)
              clear hok hm
              go_wp2_with (go_at_call 42; refine (HG.out _).mono ?_; rintro e w3 ⟨rfl, hb3⟩; have a0 := (hb3.cell (p := ⟨wr.heap.size, 0, none⟩) (by simp)).trans (show (wr.alloc (.cells #[.int .i64 V, .int .i64 (k : Int)] 29)).cell? ⟨wr.heap.size, 0, none⟩ = some (.int .i64 V) by go_simp); have a1 := (hb3.cell (p := ⟨wr.heap.size, 1, none⟩) (by simp)).trans (show (wr.alloc (.cells #[.int .i64 V, .int .i64 (k : Int)] 29)).cell? ⟨wr.heap.size, 1, none⟩ = some (.int .i64 (k : Int)) by go_simp); have hB := Below.trans (hBr.alloc hSz _) (hb3.mono (by simp; omega)); have hal : wr.heap.size < w3.heap.size := (by have := hb3.size; simp at this; omega); obtain ⟨c0, c1, z0, z1, hlo⟩ := out_facts hB HSS.out)
              go_roundw
              case rel => exact ⟨k + 1, by omega, by omega, by go_num, hm2, hB⟩
              case measure => simp [intOf]; omega
          · obtain ⟨rfl, rfl, rfl⟩ := HA.out.miss HVv.out (fun j h1 h2 => hm.out j h1 (by omega))
            go_wp2
            refine bodyPost_ret (v := .tuple #[av 0 0, .bool false]) (by simp [results, Tryd.results24, go_sem, d0, d1]) rfl ⟨rfl, ?_⟩
            exact ((under_one hBr HSS.out).setCell (p := ⟨w.heap.size, 0, none⟩) (Nat.le_refl _) _).setCell (p := ⟨w.heap.size, 1, none⟩) (Nat.le_refl _) _
  · obtain ⟨rfl, rfl, rfl⟩ := ans_short hA hgo
    have HGO := Lib.hid hgo
    clear hA hgo
    go_enter Tryd.func24, Tryd.ntmps24
    go_wp2_with (go_at_call 46; refine (HC.out _).mono ?_; rintro e w1 ⟨vv, rfl, hown, hb1⟩; have hB := on_base hB HSZ.out hb1; obtain ⟨c0, c1, z0, z1, hlo⟩ := out_facts hB HSS.out; refine Hid.out ?_)
    obtain ⟨g, cap, rfl, hgB, hcell⟩ := own_at hown HN.out
    clear hcell hown
    by_cases h20 : s.size ≤ 20
    · have hn2 : (((splitL 32 s.data.toList).length : Nat) : Int) ≠ 2 := fun h => HGO.out ⟨by rw [hl]; exact h20, by omega⟩
      generalize (splitL 32 s.data.toList).length = n at *
      have hn3 : ((n : Int) != 2) = true := bne_iff_ne.2 hn2
      clear hn2
      refine Lib.hid ?_
      go_wp2
      refine bodyPost_ret (v := .tuple #[av 0 0, .bool false]) (by simp [results, Tryd.results24, go_sem, c0, c1]) rfl ⟨rfl, ?_⟩
      exact ((under_one hB HSS.out).setCell (p := ⟨w.heap.size, 0, none⟩) (Nat.le_refl _) _).setCell (p := ⟨w.heap.size, 1, none⟩) (Nat.le_refl _) _
    · refine Lib.hid ?_
      go_wp2
      refine bodyPost_ret (v := .tuple #[av 0 0, .bool false]) (by simp [results, Tryd.results24, go_sem, c0, c1]) rfl ⟨rfl, ?_⟩
      exact ((under_one hB HSS.out).setCell (p := ⟨w.heap.size, 0, none⟩) (Nat.le_refl _) _).setCell (p := ⟨w.heap.size, 1, none⟩) (Nat.le_refl _) _

theorem eqamt_same (x y : Int) (w : World) :
    Calls Tryd.prog 26 #[av x y, av x y] w fun e w' => e = .returned (.bool true) ∧ Below w.heap.size w w' := by
  go_enter Tryd.func26, Tryd.ntmps26
  go_wp2
  go_ret
  exact ⟨rfl, (((Below.refl _ _).alloc (Nat.le_refl _) _).alloc (by simp) _)⟩

theorem walkExactParseAmount (s : ByteArray) (w : World) (_ws : s.size ≤ maxLen) (hT : Tab w) (hE : Errs w) (hFu : Fu w) :
    Calls Tryd.prog 5 #[.string s] w fun e w' => e = .returned (.bool true) ∧ Below w.heap.size w w' := by
  by_cases h1 : s.size ≤ 1048576
  · obtain ⟨v, u, ok, hA⟩ := ans_has s.data.toList
    have HS := Lib.hid (fun w => sparse_amt s v u ok hA h1 w)
    have HI := Lib.hid (fun w' (hb : Below w.heap.size w w') => parse_any s v u ok hA h1 w' (hT.later hb) (hE.later hb) (hFu.later hb))
    have HQ := Lib.hid (fun w => eqamt_same v u w)
    clear hA hT hE hFu
    go_enter Tryd.func5, Tryd.ntmps5
    go_wp2_with (go_at_call 24; refine (HS.out _).mono ?_; rintro e w1 ⟨rfl, hb1⟩; refine Hid.out ?_)
    have HB1 := Lib.hid hb1
    have hlt1 : w.heap.size ≤ w1.heap.size := hb1.size
    clear hb1
    refine Lib.hid ?_
    go_wp2_with (first
      | (go_at_call 25; refine (HI.out _ (HB1.out.alloc hlt1 _)).mono ?_; rintro e w2 ⟨rfl, hb2⟩; have x0 := (hb2.cell (p := ⟨w1.heap.size, 0, none⟩) (by simp)).trans (show (w1.alloc (.cells #[.int .i64 v, .int .i64 u] 29)).cell? ⟨w1.heap.size, 0, none⟩ = some (.int .i64 v) by go_simp); have x1 := (hb2.cell (p := ⟨w1.heap.size, 1, none⟩) (by simp)).trans (show (w1.alloc (.cells #[.int .i64 v, .int .i64 u] 29)).cell? ⟨w1.heap.size, 1, none⟩ = some (.int .i64 u) by go_simp); have HB2 := Lib.hid ((HB1.out.alloc hlt1 _).trans (hb2.mono (by simp; omega))); have hl12 : w1.heap.size < w2.heap.size := (by have := hb2.size; simp at this; omega))
      | (go_at_call 26; refine (HQ.out _).mono ?_; rintro e w3 ⟨rfl, hb3⟩))
    go_ret
    exact ⟨rfl, (HB2.out.alloc (by omega) _).trans (hb3.mono (by simp; omega))⟩
  · go_enter Tryd.func5, Tryd.ntmps5
    go_wp2_with fail
    go_ret
    exact ⟨rfl, Below.refl _ _⟩
end Go.Proofs.YtpdkphokinhhdaaDoor.S3
