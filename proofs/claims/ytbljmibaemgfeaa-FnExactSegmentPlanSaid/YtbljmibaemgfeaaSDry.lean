/- What is dry, for the model: contracts. Conditions: each theorem's own premises. -/
import Derived.Test.YtbljmibaemgfeaaSSeg
import Derived.Test.YtbljmibaemgfeaaGivesNone
import Derived.Deep.DeepCutAuto
namespace Go.Proofs.Ytbljmibaemgfeaa.S2
open Go.RowKit Go.Sort P2 P4

theorem hasB_nodes {N : Nat} {s : Nat → Bool} {m : Nat} (h1 : 1 ≤ m) (h2 : m ≤ N) : hasB (nodesL N s true) (m : Int) = s m := by
  unfold hasB
  rw [Bool.eq_iff_iff, decide_eq_true_eq, nodesL_mem]
  constructor
  · rintro ⟨v, hv, _, _, h⟩
    have e : m = v := by omega
    rw [e]; exact h
  · intro h; exact ⟨m, rfl, h1, h2, h⟩
theorem hasB_idx {M : Nat} {s : Nat → Bool} {i : Nat} (h : i < M) : hasB (idxL M s true) (i : Int) = s (9 + i) := by
  unfold hasB
  rw [Bool.eq_iff_iff, decide_eq_true_eq, idxL_mem]
  constructor
  · rintro ⟨v, hv, _, h2⟩
    have e : i = v := by omega
    rw [e]; exact h2
  · intro h2; exact ⟨i, rfl, h, h2⟩
theorem own_lat {w : World} {B g c : Nat} {l : List Int} (h : IOwn w B (.slice (some ⟨g, 0, none⟩) l.length c) l) : LAt w g 0 c l := by
  have hc : l.length ≤ c ∧ c ≤ maxLen := by
    rcases h.2 with ⟨h, _⟩ | ⟨g', c', cur, h, _, _, hle, hm, _⟩
    · cases h
    · injection h with _ _ h3
      rw [h3]; exact ⟨hle, hm⟩
  refine ⟨iown_lt' h, hc.1, hc.2, fun i hi => ?_⟩
  rcases h.iat with h | ⟨b, off, h, _, h2⟩
  · rw [h] at hi; simp at hi
  · simp only [Option.some.injEq, Addr.mk.injEq, and_true] at h
    obtain ⟨rfl, rfl⟩ := h
    exact h2 i hi
theorem own_of_block {w : World} {B P0 : Nat} (h : w.heap[P0]? = some (.cells #[] 3 (0, 0))) (hB : B ≤ P0) : IOwn w B (.slice (some ⟨P0, 0, none⟩) 0 0) [] :=
  ⟨rfl, .inr ⟨P0, 0, #[], rfl, hB, h, Nat.le_refl _, Nat.zero_le _, rfl, rfl⟩⟩
theorem LAt.far {w w' : World} {g o c x : Nat} {r : List Int} (h : LAt w g o c r) (hg : w.grownBy w' (some x)) (hne : g ≠ x) : LAt w' g o c r :=
  ⟨Nat.lt_of_lt_of_le h.1 hg.size, h.2.1, h.2.2.1, fun i hi => (hg.cell_far ⟨g, o + i, none⟩ h.1 (by simp; exact hne)).trans (h.2.2.2 i hi)⟩
/-- Two slices of numbers, the first one made by the call. -/
def GivesD (w : World) (l1 l2 : List Int) (e : Ending) (w' : World) : Prop :=
  ∃ g1 o1 c1 g2 o2 c2, e = .returned (.tuple #[.slice (some ⟨g1, o1, none⟩) l1.length c1, .slice (some ⟨g2, o2, none⟩) l2.length c2]) ∧ w.heap.size ≤ g1 ∧ LAt w' g1 o1 c1 l1 ∧ LAt w' g2 o2 c2 l2 ∧ Below w.heap.size w w'
theorem idxL_step (m : Nat) (s : Nat → Bool) (b : Bool) : idxL (m + 1) s b = if s (9 + m) = b then idxL m s b ++ [(m : Int)] else idxL m s b := idxL_succ m s b


set_option maxHeartbeats 2000000 in
set_option maxRecDepth 100000 in
theorem sdry_any (N X : Nat) (A : Option Addr) (cap : Nat) (ps : List Pp) (AV : Option Addr) (capv : Nat) (vs : List Vv) (s : Nat → Bool) (hs : s = coB ps (bar vs true) (one X)) (w : World) (h : PAt w A ps) (hv : VAt w AV vs) (hg : P2.Good N ps) (hvl : vs.length ≤ 10) (hx1 : 1 ≤ X) (hx2 : X ≤ N) :
    Calls Try.prog 136 #[nv N A ps.length cap, .slice AV vs.length capv, .int .i64 (X : Int)] w (GivesD w (nodesL N s false) (idxL ps.length s false)) := by
  have HSP := Lib.hid (fun w' (hb' : Below w.heap.size w w') => by
    have := spread_node N X A cap ps AV capv vs true w' (h.kept hb' (Nat.le_refl _)) (hv.kept hb' (Nat.le_refl _)) hg hvl hx1 hx2
    rwa [← hs] at this)
  have hl10 := hg.2.2.1
  have hN8 : N ≤ 8 := by have := hg.2.1; omega
  obtain ⟨i0, hi0, hz0, hz1, hz2⟩ := info_parts infoI
  clear h hv hg hs
  obtain ⟨W1, hW1⟩ : ∃ W1, W1 = w.alloc (.cells #[.int .i64 (N : Int), .slice A ps.length cap] 32) := ⟨_, rfl⟩
  have hzW : W1.heap.size = w.heap.size + 1 := by rw [hW1]; simp
  have p0 : W1.cell? ⟨w.heap.size, 0, none⟩ = some (.int .i64 (N : Int)) := by rw [hW1]; go_simp
  have p1 : W1.cell? ⟨w.heap.size, 1, none⟩ = some (.slice A ps.length cap) := by rw [hW1]; go_simp
  have HBW := Lib.hid (show Below w.heap.size w W1 from by rw [hW1]; exact (Below.refl _ _).alloc (Nat.le_refl _) _)
  have HW1 := Lib.hid hW1
  have HZW := Lib.hid hzW
  have hl1 : w.heap.size < W1.heap.size := by omega
  clear hW1 hzW
  go_enter Try.func136, Try.ntmps136
  go_upto_region 1 with (fail)
  rw [← HW1.out]
  clear HW1
  go_wp2_with (go_at_call 123; (with_reducible refine (HSP.out W1 HBW.out).mono ?_); rintro e w3 ⟨⟨g1, o1, c1, g2, o2, c2, rfl, hL1, hL2, _⟩, hb3w⟩; have HL1 := Lib.hid hL1; have HL2 := Lib.hid hL2; have HX3 := Lib.hid hb3w; refine Hid.out ?_)
  have d0 := (HX3.out.cell (p := ⟨w.heap.size, 0, none⟩) hl1).trans p0
  have d1 := (HX3.out.cell (p := ⟨w.heap.size, 1, none⟩) hl1).trans p1
  have hw3 : w.heap.size < w3.heap.size := by have := HX3.out.size; omega
  have HB3 := Lib.hid (HBW.out.trans (HX3.out.mono HBW.out.size))
  obtain ⟨B, hB⟩ : ∃ B, B = w3.heap.size := ⟨_, rfl⟩
  have HO0 := Lib.hid (show IOwn ((w3.alloc (.cells #[] 3)).alloc (.cells #[] 3)) B (.slice (some ⟨B, 0, none⟩) 0 0) [] from by
    rw [hB]; exact (own_empty w3 w3.heap.size (Nat.le_refl _)).on ((Below.refl _ _).alloc (Nat.le_refl _) _))
  have HP0 := Lib.hid (show ((w3.alloc (.cells #[] 3)).alloc (.cells #[] 3)).heap[B + 1]? = some (.cells #[] 3 (0, 0)) from by
    have h1 := heap_alloc_new (w3.alloc (.cells #[] 3)) (.cells #[] 3)
    rw [hB]; simpa using h1)
  have HB5 := Lib.hid (show Below B w3 ((w3.alloc (.cells #[] 3)).alloc (.cells #[] 3)) from by rw [hB]; exact ((Below.refl _ _).alloc (Nat.le_refl _) _).alloc (by simp) _)
  have hBw : w.heap.size < B := by omega
  have HBE := Lib.hid hB
  have h11 := HL1.out.1
  have h21 := HL2.out.1
  clear hL1 hL2 hb3w hB
  refine Lib.hid ?_
  go_wp2_with fail
  rw [← HBE.out]
  go_loopw [10, 12] (fun v i wr => ∃ m : Nat, 1 ≤ m ∧ m ≤ N + 1 ∧ i = .int .i64 (m : Int) ∧ Hid (IOwn wr B v (nodesL (m - 1) s false)) ∧ Hid (v ≠ .slice none 0 0) ∧ Hid (v.ownBlock ≠ some (B + 1)) ∧ Hid (wr.heap[B + 1]? = some (.cells #[] 3 (0, 0))) ∧ Hid (Below B w3 wr)) (fun _ i _ => N + 1 - (intOf i).toNat)
  case atStart => exact ⟨1, by omega, by omega, rfl, HO0, Lib.hid (by simp), Lib.hid (by simp [Value.ownBlock]), HP0, HB5⟩
  case round =>
    clear HO0 HP0 HB5
    obtain ⟨m, hm1, hmN, rfl, hown, hvn, hvb, hp0, hb⟩ := hrel
    have hBE := HBE.out
    have c0 := (hb.out.cell (p := ⟨w.heap.size, 0, none⟩) hBw).trans d0
    have c1' := (hb.out.cell (p := ⟨w.heap.size, 1, none⟩) hBw).trans d1
    have hzr := hb.out.size
    have hPl : B + 1 < wr.heap.size := (Array.getElem?_eq_some_iff.1 hp0.out).1
    have L1r := Lib.hid (show LAt wr g1 o1 c1 (nodesL N s true) from HL1.out.kept (by rw [← hBE]; exact hb.out))
    have hnl := nodesL_len N s true
    by_cases hlt : m ≤ N
    · have hmi : (m : Int) ≤ (N : Int) := by omega
      obtain ⟨sm, hsm⟩ : ∃ sm, s m = sm := ⟨_, rfl⟩
      have HH := Lib.hid (by have := has_any (some ⟨g1, o1, none⟩) c1 (nodesL N s true) (m : Int) wr L1r.out.iat (by omega); rwa [hasB_nodes hm1 hlt, hsm] at this)
      have HSM := Lib.hid hsm
      have hil := nodesL_len (m - 1) s false
      clear hsm hBE
      cases sm with
      | false =>
        have HN := Lib.hid (show nodesL m s false = nodesL (m - 1) s false ++ [(m : Int)] by rw [nodesL_step m s false hm1, if_pos HSM.out])
        have ho := hown.out
        unfold IOwn at ho
        go_wp2_with (first
          | (go_at_call 96; refine HH.out.mono ?_; rintro e w' ⟨rfl, hw⟩; replace hw := hw.symm; subst hw)
          | (at_builtin; go_must (refine wpList_append_lies _ rfl _ _ 26 rfl B 3 i0 (.int .i64 0) 1 8 Try.underlying26 hi0 hz0 hz1 hz2 rfl (by decide) _ _ _ rfl (ho.alloc _) ⟨wr.heap.size, 0, none⟩ 1 1 [iv (m : Int)] rfl rfl (cell_one_new _ _ _) ?c2 (by omega) ?c3 ?c4 ?c5 (wr.heap.size + 1) (by simp) ?_)))
        case c2 => intro u hu; simp at hu; subst hu; rfl
        case c3 => unfold maxLen; omega
        case c4 => omega
        case c5 => simp; omega
        intro gg cap' w5 hown' hgrow hat hlt1
        have hown3 := Lib.hid (IOwn.push hown')
        rw [← HN.out] at hown3
        have hB3 := Lib.hid ((hb.out.alloc (by have := HBE.out; omega) (.cells #[iv (m : Int)] 3)).grown hgrow (by have := HBE.out; simp; omega) (fun g hg => (ho.lt g hg).1))
        have hp3 := Lib.hid (show w5.heap[B + 1]? = some (.cells #[] 3 (0, 0)) from by
          rw [hgrow.block (B + 1) (by simp; omega) (fun e => hvb.out e.symm)]
          rw [((Below.refl wr.heap.size wr).alloc (Nat.le_refl _) (.cells #[iv (m : Int)] 3)).block (B + 1) hPl]; exact hp0.out)
        have hvb3 := Lib.hid (show gg ≠ B + 1 from by
          rcases hat with hat | hat
          · intro e; exact hvb.out (by rw [hat, e])
          · omega)
        clear hown' hgrow hat hlt1 ho
        go_wp2_with fail
        go_roundw
        case rel => exact ⟨m + 1, by omega, by omega, by go_num, hown3, Lib.hid (by simp), Lib.hid (by simp [Value.ownBlock]; exact hvb3.out), hp3, hB3⟩
        case measure => simp [intOf]; omega
      | true =>
        have HN := Lib.hid (show nodesL m s false = nodesL (m - 1) s false by rw [nodesL_step m s false hm1, if_neg (by rw [HSM.out]; simp)])
        have hown3 := hown
        rw [← HN.out] at hown3
        clear hown
        go_wp2_with (go_at_call 96; refine HH.out.mono ?_; rintro e w' ⟨rfl, hw⟩; replace hw := hw.symm; subst hw)
        go_roundw
        case rel => exact ⟨m + 1, by omega, by omega, by go_num, hown3, hvn, hvb, hp0, hb⟩
        case measure => simp [intOf]; omega
    · have hmN2 : m = N + 1 := by omega
      have hNm : (N : Int) < (m : Int) := by omega
      have hfin : nodesL (m - 1) s false = nodesL N s false := by rw [hmN2]; rfl
      rw [hfin] at hown
      obtain ⟨gn, cn, rfl, hgn⟩ := own_slice hown.out hvn.out
      have hgn1 : gn ≠ B + 1 := fun e => hvb.out (by simp [Value.ownBlock, e])
      obtain ⟨W5, hW5⟩ : ∃ W5, W5 = wr := ⟨_, rfl⟩
      have LN := Lib.hid (own_lat hown.out)
      have HOP := Lib.hid (own_of_block (B := B) hp0.out (by omega))
      have hgnl := iown_lt' hown.out
      clear hfin hmN2 hown hvn hvb hBE L1r
      go_wp2_with fail
      go_loopw [11, 13] (fun v i wr2 => ∃ m : Nat, m ≤ ps.length ∧ i = .int .i64 (m : Int) ∧ Hid (IOwn wr2 B v (idxL m s false)) ∧ Hid (v ≠ .slice none 0 0) ∧ Hid (v.ownBlock ≠ some gn) ∧ Hid (LAt wr2 gn 0 cn (nodesL N s false)) ∧ Hid (Below B w3 wr2)) (fun _ i _ => ps.length - (intOf i).toNat)
      case atStart => exact ⟨0, by omega, rfl, HOP, Lib.hid (by simp), Lib.hid (by simp [Value.ownBlock]; exact fun e => hgn1 e.symm), LN, hb⟩
      case round =>
        clear HOP LN hp0 hW5 c1' hzr hPl hgnl c0
        obtain ⟨m, hmN, rfl, hown, hvn, hvb, LN, hb⟩ := hrel
        have hBE := HBE.out
        have c1' := (hb.out.cell (p := ⟨w.heap.size, 1, none⟩) hBw).trans d1
        have hzr := hb.out.size
        have L2r := Lib.hid (show LAt wr g2 o2 c2 (idxL ps.length s true) from HL2.out.kept (by rw [← hBE]; exact hb.out))
        have hnl := idxL_len ps.length s true
        have hgnl := LN.out.1
        by_cases hlt : m < ps.length
        · have hmi : (m : Int) < (ps.length : Int) := by omega
          obtain ⟨sm, hsm⟩ : ∃ sm, s (9 + m) = sm := ⟨_, rfl⟩
          have HH := Lib.hid (by have := has_any (some ⟨g2, o2, none⟩) c2 (idxL ps.length s true) (m : Int) wr L2r.out.iat (by omega); rwa [hasB_idx hlt, hsm] at this)
          have HSM := Lib.hid hsm
          have hil := idxL_len m s false
          clear hsm hBE
          cases sm with
          | false =>
            have HN := Lib.hid (show idxL (m + 1) s false = idxL m s false ++ [(m : Int)] by rw [idxL_step m s false, if_pos HSM.out])
            have ho := hown.out
            unfold IOwn at ho
            go_wp2_with (first
              | (go_at_call 96; refine HH.out.mono ?_; rintro e w' ⟨rfl, hw⟩; replace hw := hw.symm; subst hw)
              | (at_builtin; go_must (refine wpList_append_lies _ rfl _ _ 26 rfl B 3 i0 (.int .i64 0) 1 8 Try.underlying26 hi0 hz0 hz1 hz2 rfl (by decide) _ _ _ rfl (ho.alloc _) ⟨wr.heap.size, 0, none⟩ 1 1 [iv (m : Int)] rfl rfl (cell_one_new _ _ _) ?d2 (by omega) ?d3 ?d4 ?d5 (wr.heap.size + 1) (by simp) ?_)))
            case d2 => intro u hu; simp at hu; subst hu; rfl
            case d3 => unfold maxLen; omega
            case d4 => omega
            case d5 => simp; omega
            intro gg cap' w5 hown' hgrow hat hlt1
            have hown3 := Lib.hid (IOwn.push hown')
            rw [← HN.out] at hown3
            have hB3 := Lib.hid ((hb.out.alloc (by have := HBE.out; omega) (.cells #[iv (m : Int)] 3)).grown hgrow (by have := HBE.out; simp; omega) (fun g hg => (ho.lt g hg).1))
            have LN3 := Lib.hid (show LAt w5 gn 0 cn (nodesL N s false) from by
              have h1 := lat_new LN.out (.cells #[iv (m : Int)] 3)
              refine ⟨Nat.lt_of_lt_of_le h1.1 hgrow.size, h1.2.1, h1.2.2.1, fun i hi => (hgrow.cell_far ⟨gn, 0 + i, none⟩ h1.1 (fun e => hvb.out e.symm)).trans (h1.2.2.2 i hi)⟩)
            have hvb3 := Lib.hid (show gg ≠ gn from by
              rcases hat with hat | hat
              · intro e; exact hvb.out (by rw [hat, e])
              · omega)
            clear hown' hgrow hat hlt1 ho
            go_wp2_with fail
            go_roundw
            case rel => exact ⟨m + 1, by omega, by go_num, hown3, Lib.hid (by simp), Lib.hid (by simp [Value.ownBlock]; exact hvb3.out), LN3, hB3⟩
            case measure => simp [intOf]; omega
          | true =>
            have HN := Lib.hid (show idxL (m + 1) s false = idxL m s false by rw [idxL_step m s false, if_neg (by rw [HSM.out]; simp)])
            have hown3 := hown
            rw [← HN.out] at hown3
            clear hown
            go_wp2_with (go_at_call 96; refine HH.out.mono ?_; rintro e w' ⟨rfl, hw⟩; replace hw := hw.symm; subst hw)
            go_roundw
            case rel => exact ⟨m + 1, by omega, by go_num, hown3, hvn, hvb, LN, hb⟩
            case measure => simp [intOf]; omega
        · have hmN2 : m = ps.length := by omega
          have hfin : idxL m s false = idxL ps.length s false := by rw [hmN2]
          rw [hfin] at hown
          obtain ⟨gi, ci, rfl, hgi⟩ := own_slice hown.out hvn.out
          have LI := Lib.hid (own_lat hown.out)
          clear hfin hmN2 hBE
          go_wp2_with fail
          go_ret2
          exact ⟨gn, 0, cn, gi, 0, ci, rfl, by omega, LN.out, LI.out, HB3.out.trans (hb.out.mono (by omega))⟩

theorem givesa_none {w w0 : World} (h : Below w0.heap.size w0 w) : GivesA w0 [] false (.returned (.tuple #[.slice (some ⟨w.heap.size, 0, none⟩) 0 0, .bool false])) (w.alloc (.cells #[] 3)) := (gives_none h).any

set_option maxHeartbeats 4000000 in
set_option maxRecDepth 100000 in
theorem sdrynodes_no1 (n : Int) (A : Option Addr) (cap : Nat) (ps : List Pp) (AV : Option Addr) (capv : Nat) (vs : List Vv) (x : Int) (w : World) (h : PAt w A ps) (hm : ps.length ≤ maxLen) (hv : VAt w AV vs) (hmv : vs.length ≤ maxLen) (hb : goodV n ps vs = false) :
    Calls Try.prog 72 #[nv n A ps.length cap, .slice AV vs.length capv, .int .i64 x] w (GivesA w [] false) := by
  have H := Lib.hid (fun w' (hb' : Below w.heap.size w w') => sgoodv_v hb A cap AV capv w' (h.kept hb' (Nat.le_refl _)) hm (hv.kept hb' (Nat.le_refl _)) hmv)
  clear h hm hv hmv hb
  go_enter Try.func72, Try.ntmps72
  go_wp2_with (go_at_call 101; refine (H.out _ ((Below.refl _ _).alloc (Nat.le_refl _) _)).mono ?_; rintro e w1 ⟨rfl, hb1⟩; have HB1 := Lib.hid (((Below.refl w.heap.size w).alloc (Nat.le_refl _) (.cells #[.int .i64 n, .slice A ps.length cap] 32)).trans (hb1.mono (by simp))); have hw1 : w.heap.size < w1.heap.size := (by have := hb1.size; simp at this; omega); have a0 := (hb1.cell (p := ⟨w.heap.size, 0, none⟩) (by simp)).trans (show (w.alloc (.cells #[.int .i64 n, .slice A ps.length cap] 32)).cell? ⟨w.heap.size, 0, none⟩ = some (.int .i64 n) by go_simp); have a1 := (hb1.cell (p := ⟨w.heap.size, 1, none⟩) (by simp)).trans (show (w.alloc (.cells #[.int .i64 n, .slice A ps.length cap] 32)).cell? ⟨w.heap.size, 1, none⟩ = some (.slice A ps.length cap) by go_simp); clear hb1)
  go_ret2
  exact givesa_none HB1.out
set_option maxHeartbeats 4000000 in
set_option maxRecDepth 100000 in
theorem sdrynodes_no2 (n : Int) (A : Option Addr) (cap : Nat) (ps : List Pp) (AV : Option Addr) (capv : Nat) (vs : List Vv) (x : Int) (w : World) (h : PAt w A ps) (hm : ps.length ≤ maxLen) (hv : VAt w AV vs) (hmv : vs.length ≤ maxLen) (hb : goodV n ps vs = true) (hx : nodeB n ps x = false) :
    Calls Try.prog 72 #[nv n A ps.length cap, .slice AV vs.length capv, .int .i64 x] w (GivesA w [] false) := by
  have H := Lib.hid (fun w' (hb' : Below w.heap.size w w') => sgoodv_v hb A cap AV capv w' (h.kept hb' (Nat.le_refl _)) hm (hv.kept hb' (Nat.le_refl _)) hmv)
  have HN := Lib.hid (fun w' (hb' : Below w.heap.size w w') => snode_v hx A cap w' (h.kept hb' (Nat.le_refl _)) hm)
  clear h hm hv hmv hb hx
  go_enter Try.func72, Try.ntmps72
  go_wp2_with (first
    | (go_at_call 101; refine (H.out _ ((Below.refl _ _).alloc (Nat.le_refl _) _)).mono ?_; rintro e w1 ⟨rfl, hb1⟩; have HB1 := Lib.hid (((Below.refl w.heap.size w).alloc (Nat.le_refl _) (.cells #[.int .i64 n, .slice A ps.length cap] 32)).trans (hb1.mono (by simp))); have hw1 : w.heap.size < w1.heap.size := (by have := hb1.size; simp at this; omega); have a0 := (hb1.cell (p := ⟨w.heap.size, 0, none⟩) (by simp)).trans (show (w.alloc (.cells #[.int .i64 n, .slice A ps.length cap] 32)).cell? ⟨w.heap.size, 0, none⟩ = some (.int .i64 n) by go_simp); have a1 := (hb1.cell (p := ⟨w.heap.size, 1, none⟩) (by simp)).trans (show (w.alloc (.cells #[.int .i64 n, .slice A ps.length cap] 32)).cell? ⟨w.heap.size, 1, none⟩ = some (.slice A ps.length cap) by go_simp); clear hb1)
    | (go_at_call 102; refine (HN.out _ HB1.out).mono ?_; rintro e w2 ⟨rfl, hb2⟩; have HB2 := Lib.hid (HB1.out.trans (hb2.mono HB1.out.size)); clear hb2))
  go_ret2
  exact givesa_none HB2.out
set_option maxHeartbeats 4000000 in
set_option maxRecDepth 100000 in
theorem sdrynodes_yes (N X : Nat) (A : Option Addr) (cap : Nat) (ps : List Pp) (AV : Option Addr) (capv : Nat) (vs : List Vv) (w : World) (h : PAt w A ps) (hv : VAt w AV vs) (hb : goodV N ps vs = true) (hx : nodeB N ps X = true) :
    Calls Try.prog 72 #[nv N A ps.length cap, .slice AV vs.length capv, .int .i64 X] w (GivesA w (nodesL N (coB ps (bar vs true) (one X)) false) true) := by
  have hgd := goodV_of hb
  have hm : ps.length ≤ maxLen := by have := hgd.1.2.2.1; unfold maxLen; omega
  have hmv : vs.length ≤ maxLen := by have := hgd.2.1; unfold maxLen; omega
  obtain ⟨_, hx1, hx2⟩ := nodeB_of hx
  have H := Lib.hid (fun w' (hb' : Below w.heap.size w w') => sgoodv_v hb A cap AV capv w' (h.kept hb' (Nat.le_refl _)) hm (hv.kept hb' (Nat.le_refl _)) hmv)
  have HN := Lib.hid (fun w' (hb' : Below w.heap.size w w') => snode_v hx A cap w' (h.kept hb' (Nat.le_refl _)) hm)
  have HD := Lib.hid (fun w' (hb' : Below w.heap.size w w') => sdry_any N X A cap ps AV capv vs _ rfl w' (h.kept hb' (Nat.le_refl _)) (hv.kept hb' (Nat.le_refl _)) hgd.1 hgd.2.1 (by omega) (by omega))
  have HID := Lib.hid (fun g o c w' (hb' : Below w.heap.size w w') hl => sidsp_any N A cap ps g o c (coB ps (bar vs true) (one X)) false w' (h.kept hb' (Nat.le_refl _)) hl hgd.1.2.2.1)
  clear h hm hv hmv hb hx hgd hx1 hx2
  go_enter Try.func72, Try.ntmps72
  go_wp2_with (first
    | (go_at_call 101; refine (H.out _ ((Below.refl _ _).alloc (Nat.le_refl _) _)).mono ?_; rintro e w1 ⟨rfl, hb1⟩; have HB1 := Lib.hid (((Below.refl w.heap.size w).alloc (Nat.le_refl _) (.cells #[.int .i64 (N : Int), .slice A ps.length cap] 32)).trans (hb1.mono (by simp))); have hw1 : w.heap.size < w1.heap.size := (by have := hb1.size; simp at this; omega); have a0 := (hb1.cell (p := ⟨w.heap.size, 0, none⟩) (by simp)).trans (show (w.alloc (.cells #[.int .i64 (N : Int), .slice A ps.length cap] 32)).cell? ⟨w.heap.size, 0, none⟩ = some (.int .i64 (N : Int)) by go_simp); have a1 := (hb1.cell (p := ⟨w.heap.size, 1, none⟩) (by simp)).trans (show (w.alloc (.cells #[.int .i64 (N : Int), .slice A ps.length cap] 32)).cell? ⟨w.heap.size, 1, none⟩ = some (.slice A ps.length cap) by go_simp); clear hb1)
    | (go_at_call 102; refine (HN.out _ HB1.out).mono ?_; rintro e w2 ⟨rfl, hb2⟩; have HB2 := Lib.hid (HB1.out.trans (hb2.mono HB1.out.size)); have c0 := (hb2.cell (p := ⟨w.heap.size, 0, none⟩) hw1).trans a0; have c1 := (hb2.cell (p := ⟨w.heap.size, 1, none⟩) hw1).trans a1; have hw2 : w.heap.size < w2.heap.size := (by have := hb2.size; omega); clear hb2)
    | (go_at_call 136; refine (HD.out _ HB2.out).mono ?_; rintro e w3 ⟨g1, o1, c1x, g2, o2, c2x, rfl, hgd1, hL1, hL2, hb3⟩; have HL1 := Lib.hid hL1; have HL2 := Lib.hid hL2; have HB3 := Lib.hid (HB2.out.trans (hb3.mono HB2.out.size)); have d0 := (hb3.cell (p := ⟨w.heap.size, 0, none⟩) hw2).trans c0; have d1 := (hb3.cell (p := ⟨w.heap.size, 1, none⟩) hw2).trans c1; have hw3 := hb3.size; clear hL1 hL2 hb3)
    | (go_at_call 124; refine (HID.out g2 o2 c2x _ HB3.out HL2.out).mono ?_; rintro e w4 ⟨g3, c3, rfl, hg3, hO3, hb4⟩; have HI4 := Lib.hid hO3.iat; have hl3 := iown_lt' hO3; have HB4 := Lib.hid (HB3.out.trans (hb4.mono HB3.out.size)); clear hO3 hb4))
  go_ret2
  exact ⟨g1, o1, c1x, rfl, by have := HB2.out.size; omega, HL1.out.iat, HB3.out, HL1.out.1⟩

set_option maxHeartbeats 4000000 in
set_option maxRecDepth 100000 in
theorem sdrypipes_no1 (n : Int) (A : Option Addr) (cap : Nat) (ps : List Pp) (AV : Option Addr) (capv : Nat) (vs : List Vv) (x : Int) (w : World) (h : PAt w A ps) (hm : ps.length ≤ maxLen) (hv : VAt w AV vs) (hmv : vs.length ≤ maxLen) (hb : goodV n ps vs = false) :
    Calls Try.prog 73 #[nv n A ps.length cap, .slice AV vs.length capv, .int .i64 x] w (GivesA w [] false) := by
  have H := Lib.hid (fun w' (hb' : Below w.heap.size w w') => sgoodv_v hb A cap AV capv w' (h.kept hb' (Nat.le_refl _)) hm (hv.kept hb' (Nat.le_refl _)) hmv)
  clear h hm hv hmv hb
  go_enter Try.func73, Try.ntmps73
  go_wp2_with (go_at_call 101; refine (H.out _ ((Below.refl _ _).alloc (Nat.le_refl _) _)).mono ?_; rintro e w1 ⟨rfl, hb1⟩; have HB1 := Lib.hid (((Below.refl w.heap.size w).alloc (Nat.le_refl _) (.cells #[.int .i64 n, .slice A ps.length cap] 32)).trans (hb1.mono (by simp))); have hw1 : w.heap.size < w1.heap.size := (by have := hb1.size; simp at this; omega); have a0 := (hb1.cell (p := ⟨w.heap.size, 0, none⟩) (by simp)).trans (show (w.alloc (.cells #[.int .i64 n, .slice A ps.length cap] 32)).cell? ⟨w.heap.size, 0, none⟩ = some (.int .i64 n) by go_simp); have a1 := (hb1.cell (p := ⟨w.heap.size, 1, none⟩) (by simp)).trans (show (w.alloc (.cells #[.int .i64 n, .slice A ps.length cap] 32)).cell? ⟨w.heap.size, 1, none⟩ = some (.slice A ps.length cap) by go_simp); clear hb1)
  go_ret2
  exact givesa_none HB1.out
set_option maxHeartbeats 4000000 in
set_option maxRecDepth 100000 in
theorem sdrypipes_no2 (n : Int) (A : Option Addr) (cap : Nat) (ps : List Pp) (AV : Option Addr) (capv : Nat) (vs : List Vv) (x : Int) (w : World) (h : PAt w A ps) (hm : ps.length ≤ maxLen) (hv : VAt w AV vs) (hmv : vs.length ≤ maxLen) (hb : goodV n ps vs = true) (hx : nodeB n ps x = false) :
    Calls Try.prog 73 #[nv n A ps.length cap, .slice AV vs.length capv, .int .i64 x] w (GivesA w [] false) := by
  have H := Lib.hid (fun w' (hb' : Below w.heap.size w w') => sgoodv_v hb A cap AV capv w' (h.kept hb' (Nat.le_refl _)) hm (hv.kept hb' (Nat.le_refl _)) hmv)
  have HN := Lib.hid (fun w' (hb' : Below w.heap.size w w') => snode_v hx A cap w' (h.kept hb' (Nat.le_refl _)) hm)
  clear h hm hv hmv hb hx
  go_enter Try.func73, Try.ntmps73
  go_wp2_with (first
    | (go_at_call 101; refine (H.out _ ((Below.refl _ _).alloc (Nat.le_refl _) _)).mono ?_; rintro e w1 ⟨rfl, hb1⟩; have HB1 := Lib.hid (((Below.refl w.heap.size w).alloc (Nat.le_refl _) (.cells #[.int .i64 n, .slice A ps.length cap] 32)).trans (hb1.mono (by simp))); have hw1 : w.heap.size < w1.heap.size := (by have := hb1.size; simp at this; omega); have a0 := (hb1.cell (p := ⟨w.heap.size, 0, none⟩) (by simp)).trans (show (w.alloc (.cells #[.int .i64 n, .slice A ps.length cap] 32)).cell? ⟨w.heap.size, 0, none⟩ = some (.int .i64 n) by go_simp); have a1 := (hb1.cell (p := ⟨w.heap.size, 1, none⟩) (by simp)).trans (show (w.alloc (.cells #[.int .i64 n, .slice A ps.length cap] 32)).cell? ⟨w.heap.size, 1, none⟩ = some (.slice A ps.length cap) by go_simp); clear hb1)
    | (go_at_call 102; refine (HN.out _ HB1.out).mono ?_; rintro e w2 ⟨rfl, hb2⟩; have HB2 := Lib.hid (HB1.out.trans (hb2.mono HB1.out.size)); clear hb2))
  go_ret2
  exact givesa_none HB2.out
set_option maxHeartbeats 4000000 in
set_option maxRecDepth 100000 in
theorem sdrypipes_yes (N X : Nat) (A : Option Addr) (cap : Nat) (ps : List Pp) (AV : Option Addr) (capv : Nat) (vs : List Vv) (w : World) (h : PAt w A ps) (hv : VAt w AV vs) (hb : goodV N ps vs = true) (hx : nodeB N ps X = true) :
    Calls Try.prog 73 #[nv N A ps.length cap, .slice AV vs.length capv, .int .i64 X] w (GivesA w (pipesL ps ps.length (coB ps (bar vs true) (one X)) false) true) := by
  have hgd := goodV_of hb
  have hm : ps.length ≤ maxLen := by have := hgd.1.2.2.1; unfold maxLen; omega
  have hmv : vs.length ≤ maxLen := by have := hgd.2.1; unfold maxLen; omega
  obtain ⟨_, hx1, hx2⟩ := nodeB_of hx
  have H := Lib.hid (fun w' (hb' : Below w.heap.size w w') => sgoodv_v hb A cap AV capv w' (h.kept hb' (Nat.le_refl _)) hm (hv.kept hb' (Nat.le_refl _)) hmv)
  have HN := Lib.hid (fun w' (hb' : Below w.heap.size w w') => snode_v hx A cap w' (h.kept hb' (Nat.le_refl _)) hm)
  have HD := Lib.hid (fun w' (hb' : Below w.heap.size w w') => sdry_any N X A cap ps AV capv vs _ rfl w' (h.kept hb' (Nat.le_refl _)) (hv.kept hb' (Nat.le_refl _)) hgd.1 hgd.2.1 (by omega) (by omega))
  have HID := Lib.hid (fun g o c w' (hb' : Below w.heap.size w w') hl => sidsp_any N A cap ps g o c (coB ps (bar vs true) (one X)) false w' (h.kept hb' (Nat.le_refl _)) hl hgd.1.2.2.1)
  clear h hm hv hmv hb hx hgd hx1 hx2
  go_enter Try.func73, Try.ntmps73
  go_wp2_with (first
    | (go_at_call 101; refine (H.out _ ((Below.refl _ _).alloc (Nat.le_refl _) _)).mono ?_; rintro e w1 ⟨rfl, hb1⟩; have HB1 := Lib.hid (((Below.refl w.heap.size w).alloc (Nat.le_refl _) (.cells #[.int .i64 (N : Int), .slice A ps.length cap] 32)).trans (hb1.mono (by simp))); have hw1 : w.heap.size < w1.heap.size := (by have := hb1.size; simp at this; omega); have a0 := (hb1.cell (p := ⟨w.heap.size, 0, none⟩) (by simp)).trans (show (w.alloc (.cells #[.int .i64 (N : Int), .slice A ps.length cap] 32)).cell? ⟨w.heap.size, 0, none⟩ = some (.int .i64 (N : Int)) by go_simp); have a1 := (hb1.cell (p := ⟨w.heap.size, 1, none⟩) (by simp)).trans (show (w.alloc (.cells #[.int .i64 (N : Int), .slice A ps.length cap] 32)).cell? ⟨w.heap.size, 1, none⟩ = some (.slice A ps.length cap) by go_simp); clear hb1)
    | (go_at_call 102; refine (HN.out _ HB1.out).mono ?_; rintro e w2 ⟨rfl, hb2⟩; have HB2 := Lib.hid (HB1.out.trans (hb2.mono HB1.out.size)); have c0 := (hb2.cell (p := ⟨w.heap.size, 0, none⟩) hw1).trans a0; have c1 := (hb2.cell (p := ⟨w.heap.size, 1, none⟩) hw1).trans a1; have hw2 : w.heap.size < w2.heap.size := (by have := hb2.size; omega); clear hb2)
    | (go_at_call 136; refine (HD.out _ HB2.out).mono ?_; rintro e w3 ⟨g1, o1, c1x, g2, o2, c2x, rfl, hgd1, hL1, hL2, hb3⟩; have HL1 := Lib.hid hL1; have HL2 := Lib.hid hL2; have HB3 := Lib.hid (HB2.out.trans (hb3.mono HB2.out.size)); have d0 := (hb3.cell (p := ⟨w.heap.size, 0, none⟩) hw2).trans c0; have d1 := (hb3.cell (p := ⟨w.heap.size, 1, none⟩) hw2).trans c1; have hw3 := hb3.size; clear hL1 hL2 hb3)
    | (go_at_call 124; refine (HID.out g2 o2 c2x _ HB3.out HL2.out).mono ?_; rintro e w4 ⟨g3, c3, rfl, hg3, hO3, hb4⟩; have HI4 := Lib.hid hO3.iat; have hl3 := iown_lt' hO3; have HB4 := Lib.hid (HB3.out.trans (hb4.mono HB3.out.size)); clear hO3 hb4))
  go_ret2
  exact ⟨g3, 0, c3, rfl, by have := HB3.out.size; omega, HI4.out, HB4.out, hl3⟩
end Go.Proofs.Ytbljmibaemgfeaa.S2
