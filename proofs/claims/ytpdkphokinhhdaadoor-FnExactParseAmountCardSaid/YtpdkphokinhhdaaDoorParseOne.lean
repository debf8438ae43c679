/- The program's ParseAmount: contracts. Conditions: each theorem's own premises. -/
import Derived.Test.YtpdkphokinhhdaaDoorParsePlain
import Derived.WalkSmall
namespace Go.Proofs.YtpdkphokinhhdaaDoor.S3
open Go.RowKit Go.Sort P1 P3 S1 S2
open Go.Lib hiding intOf

theorem toL (s : ByteArray) : s.data.toList.length = s.size := by simp
set_option maxHeartbeats 1000000 in
theorem scut_any (s : ByteArray) (w : World) (hs : s.size ≤ 1048576) :
    Calls Tryd.prog 59 #[.string s, .string ⟨#[32]⟩] w fun e w' => (∃ (P r : ByteArray) (b : Bool), e = .returned (.tuple #[.string P, .string r, .bool b]) ∧ P.data.toList = aheadL 32 s.data.toList ∧ P.size ≤ s.size) ∧ Below w.heap.size w w' := by
  have HI := Lib.hid (fun w => Tryd.stringslite_Index_one s 32 w)
  obtain ⟨hn, ho⟩ := ahead_index 32 s.data.toList
  have hge := indexByte_ge s.data.toList 32
  by_cases h : indexByte s.data.toList 32 = -1
  · have hfin := Lib.hid (hn h).symm
    rw [h] at HI
    clear hn ho h hge
    go_enter Tryd.func59, Tryd.ntmps59
    go_wp2_with (go_at_call 64; refine (HI.out _).mono ?_; rintro e w' ⟨rfl, rfl⟩)
    go_ret3
    exact ⟨⟨s, _, _, rfl, hfin.out, Nat.le_refl _⟩, Below.refl _ _⟩
  · obtain ⟨o, hoe⟩ : ∃ o : Nat, indexByte s.data.toList 32 = o := ⟨(indexByte s.data.toList 32).toNat, by omega⟩
    have hlt := (List.getElem?_eq_some_iff.1 (indexByte_some hoe).1).1
    rw [toL] at hlt
    have hfin := Lib.hid (ho o hoe)
    have hP := Lib.hid (show (s.extract 0 o).data.toList = aheadL 32 s.data.toList by rw [hfin.out, extract_data]; simp)
    have hPs := Lib.hid (show (s.extract 0 o).size ≤ s.size by rw [ByteArray.size_extract]; omega)
    rw [hoe] at HI
    have h1 : (o : Int) ≤ (s.size : Int) := by omega
    have h2 : (o : Int) + 1 ≤ (s.size : Int) := by omega
    clear hn ho h hge hoe
    go_enter Tryd.func59, Tryd.ntmps59
    go_wp2_with (go_at_call 64; refine (HI.out _).mono ?_; rintro e w' ⟨rfl, rfl⟩)
    go_quiet (fail)
    go_wp2
    go_ret3
    exact ⟨⟨_, _, _, rfl, by simpa using hP.out, by simpa using hPs.out⟩, below_drewN (Below.refl _ _) _⟩
theorem cut_any (s : ByteArray) (w : World) (hs : s.size ≤ 1048576) :
    Calls Tryd.prog 48 #[.string s, .string ⟨#[32]⟩] w fun e w' => (∃ (P r : ByteArray) (b : Bool), e = .returned (.tuple #[.string P, .string r, .bool b]) ∧ P.data.toList = aheadL 32 s.data.toList ∧ P.size ≤ s.size) ∧ Below w.heap.size w w' := by
  have H := Lib.hid (fun w => scut_any s w hs)
  go_enter Tryd.func48, Tryd.ntmps48
  go_wp2_with (go_at_call 59; refine (H.out _).mono ?_; rintro e w' ⟨⟨P, r, b, rfl, hP, hPs⟩, hb⟩)
  go_ret3
  exact ⟨⟨P, r, b, rfl, hP, hPs⟩, hb⟩

/-- An amount and whether it is one. -/
def GivesM (v u : Int) (ok : Bool) (w : World) (e : Ending) (w' : World) : Prop := e = .returned (.tuple #[av v u, .bool ok]) ∧ Below w.heap.size w w'
abbrev outB (w : World) : World := w.alloc (.cells #[.int .i64 0, .int .i64 0] 29)
theorem out_facts {w w' : World} {S : Nat} (h : Below S (outB w) w') (hS : S = w.heap.size + 1) :
    w'.cell? ⟨w.heap.size, 0, none⟩ = some (.int .i64 0) ∧ w'.cell? ⟨w.heap.size, 1, none⟩ = some (.int .i64 0) ∧ w'.frozen? ⟨w.heap.size, 0, none⟩ = false ∧ w'.frozen? ⟨w.heap.size, 1, none⟩ = false ∧ w.heap.size < w'.heap.size := by
  obtain ⟨c0, c1⟩ := box_one h hS
  refine ⟨c0, c1, ?_, ?_, box_lt1 h hS⟩
  · rw [h.frozen (p := ⟨w.heap.size, 0, none⟩) (by show w.heap.size < S; omega)]; go_simp
  · rw [h.frozen (p := ⟨w.heap.size, 1, none⟩) (by show w.heap.size < S; omega)]; go_simp

theorem head_setup (w : World) : Below (w.heap.size + 1) (outB w) (outB w) := Below.refl _ _

set_option maxHeartbeats 4000000 in
set_option maxRecDepth 100000 in
theorem parse_v (s : ByteArray) (v u : Int) (ok : Bool) (V : Int) (hA : Ans s.data.toList v u ok) (hs : s.size ≤ 1048576) (w : World) (hT : Tab w) (hFu : Fu w) (hV : atoiAll (aheadL 32 s.data.toList) = .ok V) :
    Calls Tryd.prog 25 #[.string s] w (GivesM v u ok w) := by
  obtain ⟨S, hS⟩ : ∃ S, S = w.heap.size + 1 := ⟨_, rfl⟩
  have hB : Below S (outB w) (outB w) := Below.refl _ _
  have HSS := Lib.hid hS
  have HSZ := Lib.hid (show S = (outB w).heap.size by simp [hS])
  have HC := Lib.hid (fun w => cut_any s w hs)
  have HAt := Lib.hid (fun (P : ByteArray) (h : P.data.toList = aheadL 32 s.data.toList) (hz : P.size ≤ 1048576) w => atoi_ok P hz V (by rw [h]; exact hV) w)
  have HTX := Lib.hid (fun (k : Int) w' (hb : Below S (outB w) w') => atext_any V k w' (hT.later (under_one hb hS)) (hFu.later (under_one hb hS)))
  have HA := Lib.hid hA
  have HVv := Lib.hid (show ok = true → V = v from fun h => by
    obtain ⟨h1, h2⟩ := hA.yes h
    have h3 := atoi_text h1
    rw [← text_ahead v u, h2, hV] at h3
    injection h3)
  clear hS hT hFu hV hA
  go_enter Tryd.func25, Tryd.ntmps25
  go_wp2_with (first
    | (go_at_call 48; refine (HC.out _).mono ?_; rintro e w1 ⟨⟨P, r, b, rfl, hP, hPs⟩, hb1⟩; have hB := on_base hB HSZ.out hb1; obtain ⟨c0, c1, z0, z1, hlo⟩ := out_facts hB HSS.out)
    | (go_at_call 49; refine (HAt.out P hP (by omega) _).mono ?_; rintro e w2 ⟨rfl, hb1⟩; have hB := on_base hB HSZ.out hb1; obtain ⟨c0, c1, z0, z1, hlo⟩ := out_facts hB HSS.out))
  clear c0 c1 z0 z1 hlo HC HAt
  go_loopw [9, 10, 11, 12] (fun i _ _ _ wr => ∃ k : Nat, 1 ≤ k ∧ k ≤ 5 ∧ i = .int .i64 (k : Int) ∧ Hid (∀ j : Int, 1 ≤ j → j < k → ¬ (okA V j = true ∧ textL V j = s.data.toList)) ∧ Below S (outB w) wr) (fun i _ _ _ _ => 5 - (intOf i).toNat)
  case atStart => exact ⟨1, Nat.le_refl _, by omega, rfl, Lib.hid (fun j h1 h2 => by omega), hB⟩
  case round =>
    clear hB
    obtain ⟨k, hk1, hk5, rfl, hm, hBr⟩ := hrel
    obtain ⟨d0, d1, y0, y1, hlr⟩ := out_facts hBr HSS.out
    have hSz : S ≤ wr.heap.size := by have := HSS.out; omega
    by_cases hk : k < 5
    · by_cases hok : okA V (k : Int) = true
      · have HK := Lib.hid (HTX.out (k : Int))
        rw [hok, if_pos rfl] at HK
        by_cases he : textL V (k : Int) = s.data.toList
        · obtain ⟨rfl, rfl, rfl⟩ := HA.out.hit hok he
          have hE : (textL V (k : Int) == s.toList) = true := by rw [Lib.toList_data]; exact beq_iff_eq.2 he
          clear hok he hm
          generalize textL V (k : Int) = L at *
          go_wp2_with (go_at_call 23; refine (HK.out _ (hBr.alloc hSz _)).mono ?_; rintro e w3 ⟨rfl, hb3⟩; have a0 := (hb3.cell (p := ⟨wr.heap.size, 0, none⟩) (by simp)).trans (show (wr.alloc (.cells #[.int .i64 V, .int .i64 (k : Int)] 29)).cell? ⟨wr.heap.size, 0, none⟩ = some (.int .i64 V) by go_simp); have a1 := (hb3.cell (p := ⟨wr.heap.size, 1, none⟩) (by simp)).trans (show (wr.alloc (.cells #[.int .i64 V, .int .i64 (k : Int)] 29)).cell? ⟨wr.heap.size, 1, none⟩ = some (.int .i64 (k : Int)) by go_simp); have hB := Below.trans (hBr.alloc hSz _) (hb3.mono (by simp; omega)); obtain ⟨c0, c1, z0, z1, hlo⟩ := out_facts hB HSS.out)
          refine bodyPost_ret (v := .tuple #[av V (k : Int), .bool true]) (by simp [results, Tryd.results25, go_sem, c0, c1]) rfl ⟨rfl, ?_⟩
          exact ((under_one hB HSS.out).setCell (p := ⟨w.heap.size, 0, none⟩) (Nat.le_refl _) _).setCell (p := ⟨w.heap.size, 1, none⟩) (Nat.le_refl _) _
        · have hE : (textL V (k : Int) == s.toList) = false := by rw [Lib.toList_data]; exact beq_eq_false_iff_ne.2 he
          have hm2 := Lib.hid (show ∀ j : Int, 1 ≤ j → j < ((k + 1 : Nat) : Int) → ¬ (okA V j = true ∧ textL V j = s.data.toList) from fun j h1 h2 h3 => by
            by_cases e : j = (k : Int)
            · rw [e] at h3; exact he h3.2
            · exact hm.out j h1 (by omega) h3)
          clear hok he hm
          generalize textL V (k : Int) = L at *
          go_wp2_with (go_at_call 23; refine (HK.out _ (hBr.alloc hSz _)).mono ?_; rintro e w3 ⟨rfl, hb3⟩; have a0 := (hb3.cell (p := ⟨wr.heap.size, 0, none⟩) (by simp)).trans (show (wr.alloc (.cells #[.int .i64 V, .int .i64 (k : Int)] 29)).cell? ⟨wr.heap.size, 0, none⟩ = some (.int .i64 V) by go_simp); have a1 := (hb3.cell (p := ⟨wr.heap.size, 1, none⟩) (by simp)).trans (show (wr.alloc (.cells #[.int .i64 V, .int .i64 (k : Int)] 29)).cell? ⟨wr.heap.size, 1, none⟩ = some (.int .i64 (k : Int)) by go_simp); have hB := Below.trans (hBr.alloc hSz _) (hb3.mono (by simp; omega)); obtain ⟨c0, c1, z0, z1, hlo⟩ := out_facts hB HSS.out)
          go_roundw
          case rel => exact ⟨k + 1, by omega, by omega, by go_num, hm2, hB⟩
          case measure => simp [intOf]; omega
      · have HK := Lib.hid (HTX.out (k : Int))
        have hm2 := Lib.hid (show ∀ j : Int, 1 ≤ j → j < ((k + 1 : Nat) : Int) → ¬ (okA V j = true ∧ textL V j = s.data.toList) from fun j h1 h2 h3 => by
          by_cases e : j = (k : Int)
          · rw [e] at h3; exact hok h3.1
          · exact hm.out j h1 (by omega) h3)
        rw [Bool.not_eq_true] at hok
        rw [hok, if_neg (by simp)] at HK
        clear hok hm
        go_wp2_with (go_at_call 23; refine (HK.out _ (hBr.alloc hSz _)).mono ?_; rintro e w3 ⟨rfl, hb3⟩; have a0 := (hb3.cell (p := ⟨wr.heap.size, 0, none⟩) (by simp)).trans (show (wr.alloc (.cells #[.int .i64 V, .int .i64 (k : Int)] 29)).cell? ⟨wr.heap.size, 0, none⟩ = some (.int .i64 V) by go_simp); have a1 := (hb3.cell (p := ⟨wr.heap.size, 1, none⟩) (by simp)).trans (show (wr.alloc (.cells #[.int .i64 V, .int .i64 (k : Int)] 29)).cell? ⟨wr.heap.size, 1, none⟩ = some (.int .i64 (k : Int)) by go_simp); have hB := Below.trans (hBr.alloc hSz _) (hb3.mono (by simp; omega)); obtain ⟨c0, c1, z0, z1, hlo⟩ := out_facts hB HSS.out)
        go_roundw
        case rel => exact ⟨k + 1, by omega, by omega, by go_num, hm2, hB⟩
        case measure => simp [intOf]; omega
    · obtain ⟨rfl, rfl, rfl⟩ := HA.out.miss HVv.out (fun j h1 h2 => hm.out j h1 (by omega))
      go_wp2
      refine bodyPost_ret (v := .tuple #[av 0 0, .bool false]) (by simp [results, Tryd.results25, go_sem, d0, d1]) rfl ⟨rfl, ?_⟩
      exact ((under_one hBr HSS.out).setCell (p := ⟨w.heap.size, 0, none⟩) (Nat.le_refl _) _).setCell (p := ⟨w.heap.size, 1, none⟩) (Nat.le_refl _) _

set_option maxHeartbeats 4000000 in
set_option maxRecDepth 100000 in
theorem parse_bad (s : ByteArray) (v u : Int) (ok : Bool) (hA : Ans s.data.toList v u ok) (hs : s.size ≤ 1048576) (w : World) (hE : Errs w) (hV : ∀ V, atoiAll (aheadL 32 s.data.toList) ≠ .ok V) :
    Calls Tryd.prog 25 #[.string s] w (GivesM v u ok w) := by
  have hok : ok = false := by
    cases ok
    · rfl
    · obtain ⟨h1, h2⟩ := hA.yes rfl
      have h3 := atoi_text h1
      rw [← text_ahead v u, h2] at h3
      exact absurd h3 (hV v)
  subst hok
  obtain ⟨rfl, rfl, _⟩ := hA.no rfl
  obtain ⟨S, hS⟩ : ∃ S, S = w.heap.size + 1 := ⟨_, rfl⟩
  have hB : Below S (outB w) (outB w) := Below.refl _ _
  have HSS := Lib.hid hS
  have HSZ := Lib.hid (show S = (outB w).heap.size by simp [hS])
  have HC := Lib.hid (fun w => cut_any s w hs)
  have HAt := Lib.hid (fun (P : ByteArray) (h : P.data.toList = aheadL 32 s.data.toList) (hz : P.size ≤ 1048576) w' (hb : Below S (outB w) w') => atoi_bad P hz (by rw [h]; exact hV) w' (hE.later (under_one hb hS)))
  clear hS hE hV hA
  go_enter Tryd.func25, Tryd.ntmps25
  go_wp2_with (first
    | (go_at_call 48; refine (HC.out _).mono ?_; rintro e w1 ⟨⟨P, r, b, rfl, hP, hPs⟩, hb1⟩; have hB := on_base hB HSZ.out hb1; obtain ⟨c0, c1, z0, z1, hlo⟩ := out_facts hB HSS.out)
    | (go_at_call 49; refine (HAt.out P hP (by omega) _ hB).mono ?_; rintro e w2 ⟨n, N, rfl, hb1⟩; have hB := on_base hB HSZ.out hb1; obtain ⟨c0, c1, z0, z1, hlo⟩ := out_facts hB HSS.out))
  refine bodyPost_ret (v := .tuple #[av 0 0, .bool false]) (by simp [results, Tryd.results25, go_sem, c0, c1]) rfl ⟨rfl, ?_⟩
  exact ((under_one hB HSS.out).setCell (p := ⟨w.heap.size, 0, none⟩) (Nat.le_refl _) _).setCell (p := ⟨w.heap.size, 1, none⟩) (Nat.le_refl _) _

theorem parse_any (s : ByteArray) (v u : Int) (ok : Bool) (hA : Ans s.data.toList v u ok) (hs : s.size ≤ 1048576) (w : World) (hT : Tab w) (hE : Errs w) (hFu : Fu w) :
    Calls Tryd.prog 25 #[.string s] w (GivesM v u ok w) := by
  by_cases h : ∃ V, atoiAll (aheadL 32 s.data.toList) = .ok V
  · obtain ⟨V, hV⟩ := h
    exact parse_v s v u ok V hA hs w hT hFu hV
  · exact parse_bad s v u ok hA hs w hE (fun V hV => h ⟨V, hV⟩)
end Go.Proofs.YtpdkphokinhhdaaDoor.S3
