/- Valves that are gathered; the shut valves of the program: contracts. Conditions: each theorem's own premises. -/
import Derived.Test.YtbljmibaemgfeaaBkOne
import Derived.Test.YtbljmibaemgfeaaValTwo
import Derived.Test.YtbljmibaemgfeaaSprOne
import Derived.Test.YtbljmibaemgfeaaSegOne
import Derived.Deep.DeepCutAuto
namespace Go.Proofs.Ytbljmibaemgfeaa.S2
open Go.RowKit Go.Sort P2 P4

def vcs4 (p : Vv) : List Value := [.int .i64 p.id, .int .i64 p.pp, .int .i64 p.nd, .bool p.sh]
def vcs (ps : List Vv) : List Value := ps.flatMap vcs4
theorem vcs_snoc (ps : List Vv) (p : Vv) : vcs (ps ++ [p]) = vcs ps ++ vcs4 p := by simp [vcs, List.flatMap_append]
theorem vcs_len (ps : List Vv) : (vcs ps).length = ps.length * 4 := by
  induction ps with
  | nil => rfl
  | cons p ps ih =>
    have e : vcs (p :: ps) = vcs4 p ++ vcs ps := rfl
    rw [e, List.length_append, ih]; simp [vcs4]; omega
theorem vcs_get (ps : List Vv) : ∀ i, i < ps.length → ∀ j, j < 4 → (vcs ps)[i * 4 + j]? = (vcs4 (vAt ps i))[j]? := by
  induction ps with
  | nil => intro i h; simp at h
  | cons p ps ih =>
    intro i hi j hj
    have e : vcs (p :: ps) = vcs4 p ++ vcs ps := rfl
    have l4 : (vcs4 p).length = 4 := rfl
    match i with
    | 0 =>
      have e2 : vAt (p :: ps) 0 = p := by simp [vAt, List.getD]
      rw [e, e2, Nat.zero_mul, Nat.zero_add, List.getElem?_append_left (by omega)]
    | i + 1 =>
      have e2 : vAt (p :: ps) (i + 1) = vAt ps i := by simp [vAt, List.getD]
      rw [e, e2, List.getElem?_append_right (by omega), ← ih i (by simpa using hi) j hj, l4]
      congr 1; omega

/-- Read as valves. -/
theorem own_vat {w : World} {B cap : Nat} {A : Option Addr} {ps : List Vv} (h : w.ownsRow B 60 4 (.slice A ps.length cap) ps.length (vcs ps)) : VAt w A ps := by
  rcases Nat.eq_zero_or_pos ps.length with h0 | h0
  · exact .inl (List.length_eq_zero_iff.1 h0)
  · obtain ⟨g, cap', hv, _, hlt⟩ := h.form h0
    injection hv with hA
    subst hA
    refine .inr ⟨g, 0, rfl, hlt, fun i hi => ?_⟩
    simp only [Nat.zero_add]
    have hc := fun j (hj : j < 4) => (h.cellAt (i * 4 + j) (by omega)).trans (vcs_get ps i hi j hj)
    exact ⟨hc 0 (by omega), hc 1 (by omega), hc 2 (by omega), hc 3 (by omega)⟩


theorem vcs_one (vs : List Vv) : ∀ u ∈ vcs vs, u.oneCell' = true := by
  intro u hu
  obtain ⟨p, _, hp⟩ := List.mem_flatMap.1 hu
  simp [vcs4] at hp
  rcases hp with rfl | rfl | rfl | rfl <;> rfl
theorem own_emptyV (w : World) (B : Nat) (hB : B ≤ w.heap.size) : (w.alloc (.cells #[] 60)).ownsRow B 60 4 (.slice (some ⟨w.heap.size, 0, none⟩) 0 0) 0 [] :=
  ⟨rfl, .inr ⟨w.heap.size, 0, #[], rfl, hB, by simpa using (MapKept.heap_alloc w (.cells #[] 60)).1, Nat.le_refl _, Nat.zero_le _, rfl, rfl⟩⟩
/-- The shut ones of the first k valves. -/
def shutTo (vs : List Vv) (k : Nat) : List Vv := (vs.take k).filter (·.sh)
theorem shutTo_succ (vs : List Vv) (k : Nat) (h : k < vs.length) : shutTo vs (k + 1) = if (vAt vs k).sh = true then shutTo vs k ++ [vAt vs k] else shutTo vs k := by
  unfold shutTo
  have e : vs[k] = vAt vs k := by simp [vAt, List.getD, h]
  rw [List.take_succ_eq_append_getElem h, List.filter_append, e]
  cases hs : (vAt vs k).sh <;> simp [hs]
theorem shutTo_all (vs : List Vv) (k : Nat) (h : vs.length ≤ k) : shutTo vs k = bar vs true := by unfold shutTo bar; rw [List.take_of_length_le h]; rfl
theorem shutTo_len (vs : List Vv) (k : Nat) : (shutTo vs k).length ≤ k := Nat.le_trans (List.length_filter_le _ _) (List.length_take_le _ _)
theorem cell_four {w w' : World} {v : Vv} (h : w' = w.alloc (.cells #[.int .i64 v.id, .int .i64 v.pp, .int .i64 v.nd, .bool v.sh] 60)) : ∀ j u, (vcs4 v)[j]? = some u → w'.cell? ((⟨w.heap.size, 0, none⟩ : Addr).add j) = some u := by
  subst h
  intro j u hu
  have e : (⟨w.heap.size, 0, none⟩ : Addr).add j = ⟨w.heap.size, j, none⟩ := by unfold Addr.add; split <;> simp_all
  rw [e, World.cell?_alloc_at _ _ _ _ rfl]
  have : (#[Value.int .i64 v.id, .int .i64 v.pp, .int .i64 v.nd, .bool v.sh])[j]? = (vcs4 v)[j]? := by simp [vcs4]
  rw [this]; exact hu

theorem own_sliceV {w : World} {B n : Nat} {v : Value} {xs : List Value} (h : w.ownsRow B 60 4 v n xs) (hne : v ≠ .slice none 0 0) : ∃ g cap, v = .slice (some ⟨g, 0, none⟩) n cap ∧ B ≤ g := by
  rcases h.2 with ⟨hv, _⟩ | ⟨g, cap, cur, hv, hb, _⟩
  · exact absurd hv hne
  · exact ⟨g, cap, hv, hb⟩
/-- Valves in a slice of the call's own. -/
def GivesV (w : World) (l : List Vv) (e : Ending) (w' : World) : Prop :=
  ∃ A cap, e = .returned (.slice A l.length cap) ∧ VAt w' A l ∧ Below w.heap.size w w'
set_option maxHeartbeats 4000000 in
set_option maxRecDepth 100000 in
theorem shutv_any (AV : Option Addr) (capv : Nat) (vs : List Vv) (w : World) (h : VAt w AV vs) (hm : vs.length ≤ 10) :
    Calls Try.prog 159 #[.slice AV vs.length capv] w (GivesV w (bar vs true)) := by
  have HA := Lib.hid h
  obtain ⟨i0, hi0, hz0, hz1, hz2⟩ := info_parts infoV
  clear h
  go_enter Try.func159, Try.ntmps159
  go_wp2_with fail
  have HO0 := Lib.hid (own_emptyV w w.heap.size (Nat.le_refl _))
  have HB0 := Lib.hid (show Below w.heap.size w (w.alloc (.cells #[] 60)) from (Below.refl _ _).alloc (Nat.le_refl _) _)
  go_loopw [3, 9] (fun v i wr => ∃ k : Nat, k ≤ vs.length ∧ i = .int .i64 (k : Int) ∧ Hid (wr.ownsRow w.heap.size 60 4 v (shutTo vs k).length (vcs (shutTo vs k))) ∧ Hid (v ≠ .slice none 0 0) ∧ Hid (Below w.heap.size w wr)) (fun _ i _ => vs.length - (intOf i).toNat)
  case atStart => exact ⟨0, Nat.zero_le _, rfl, HO0, Lib.hid (by simp), HB0⟩
  case round =>
    clear HO0 HB0
    obtain ⟨k, hk, rfl, hown, hvn, hb⟩ := hrel
    obtain ⟨gv, cv, rfl, hgv⟩ := own_sliceV hown.out hvn.out
    by_cases hlt : k < vs.length
    · obtain ⟨b, off, hA, hbl, h0, h1, h2, h3⟩ := (HA.out.kept hb.out (Nat.le_refl _)).at_ hlt
      subst hA
      have hk0 : (0 : Int) ≤ (k : Int) := by omega
      have hkn : (k : Int) < (vs.length : Int) := by omega
      have HST := Lib.hid (shutTo_succ vs k hlt)
      have hil := shutTo_len vs k
      have hzr := hb.out.size
      generalize vAt vs k = v at *
      obtain ⟨id, pp, nd, sh⟩ := v
      dsimp only at h0 h1 h2 h3
      cases sh with
      | true =>
        have HN := Lib.hid (show shutTo vs (k + 1) = shutTo vs k ++ [⟨id, pp, nd, true⟩] by rw [HST.out]; rfl)
        have ho := hown.out
        obtain ⟨wq, hwq⟩ : ∃ wq, wq = wr.alloc (.cells #[.int .i64 id, .int .i64 pp, .int .i64 nd, .bool true] 60) := ⟨_, rfl⟩
        have hzq : wq.heap.size = wr.heap.size + 1 := by rw [hwq]; simp
        have HQ := Lib.hid hwq
        have HZQ := Lib.hid hzq
        have p3 : wq.cell? ⟨wr.heap.size, 3, none⟩ = some (.bool true) := by rw [hwq]; go_simp
        have p0 : wq.cell? ⟨wr.heap.size, 0, none⟩ = some (.int .i64 id) := by rw [hwq]; go_simp
        have p1 : wq.cell? ⟨wr.heap.size, 1, none⟩ = some (.int .i64 pp) := by rw [hwq]; go_simp
        have p2 : wq.cell? ⟨wr.heap.size, 2, none⟩ = some (.int .i64 nd) := by rw [hwq]; go_simp
        have ho2 : wq.ownsRow w.heap.size 60 4 (.slice (some ⟨gv, 0, none⟩) (shutTo vs k).length cv) (shutTo vs k).length (vcs (shutTo vs k)) := by rw [hwq]; exact ho.alloc _
        have hbq : Below w.heap.size w wq := by rw [hwq]; exact hb.out.alloc hzr _
        clear hwq hzq HST ho
        go_upto_region 5 with (fail)
        rw [← HQ.out]
        go_wp2_with (at_builtin; go_must (refine wpList_append_own _ rfl _ _ 34 rfl w.heap.size 60 i0 _ 4 32 Try.underlying34 hi0 hz0 hz1 hz2 rfl (by omega) _ _ _ rfl (ho2.alloc _) ⟨wq.heap.size, 0, none⟩ 1 1 (vcs4 ⟨id, pp, nd, true⟩) rfl rfl (cell_four (v := ⟨id, pp, nd, true⟩) rfl) ?c2 ?c3 ?c4 ?c5 ?_))
        case c2 => intro u hu; exact vcs_one [⟨id, pp, nd, true⟩] u (by simpa [vcs] using hu)
        case c3 => unfold maxLen; omega
        case c4 => omega
        case c5 => have := hbq.size; simp; omega
        intro v' w3 hown' hgrow hnil
        have hown3 := Lib.hid (show w3.ownsRow w.heap.size 60 4 v' (shutTo vs (k + 1)).length (vcs (shutTo vs (k + 1))) by rw [HN.out, vcs_snoc, List.length_append]; exact hown')
        have hB3 := Lib.hid ((hbq.alloc hbq.size _).grown hgrow (by have := hbq.size; simp; omega) (fun g hg => (ho2.lt g hg).1))
        have hvn3 := Lib.hid (show v' ≠ .slice none 0 0 from fun e => hnil e)
        clear hown' hgrow hnil ho2
        go_wp2_with fail
        go_roundw
        case rel => exact ⟨k + 1, by omega, by go_num, hown3, hvn3, hB3⟩
        case measure => simp [intOf]; omega
      | false =>
        have HN := Lib.hid (show shutTo vs (k + 1) = shutTo vs k by rw [HST.out]; rfl)
        have hown3 := Lib.hid (show (wr.alloc (.cells #[.int .i64 id, .int .i64 pp, .int .i64 nd, .bool false] 60)).ownsRow w.heap.size 60 4 (.slice (some ⟨gv, 0, none⟩) (shutTo vs k).length cv) (shutTo vs (k + 1)).length (vcs (shutTo vs (k + 1))) by rw [HN.out]; exact hown.out.alloc _)
        have hB3 := Lib.hid (hb.out.alloc hzr (.cells #[.int .i64 id, .int .i64 pp, .int .i64 nd, .bool false] 60))
        clear HST hown
        go_wp2_with fail
        go_roundw
        case rel => exact ⟨k + 1, by omega, by go_num, hown3, hvn, hB3⟩
        case measure => simp [intOf]; omega
    · have hfin := shutTo_all vs k (by omega)
      have hown2 := hown.out
      rw [hfin] at hown2
      have HW := Lib.hid (own_vat hown2)
      have HF := Lib.hid hfin
      clear hown2 hown hfin
      go_wp2_with fail
      go_ret
      exact ⟨_, cv, by rw [HF.out]; rfl, HW.out, hb.out⟩
end Go.Proofs.Ytbljmibaemgfeaa.S2
