/- Days and the arguments of the laws on tanks, drawn: contracts. Conditions: each theorem's own premises. -/
import Derived.Test.YtikppgbipdflbaaDoorTkDJ
import Derived.Deep.RegionHeld
namespace Go.Proofs.YtikppgbipdflbaaDoor.S11
open Go.RowKit Go.Sort P11

/-- What a drawn day is. -/
def DyPost (B g : Nat) (a : Option Addr) (n cap K : Nat) (w : World) (e : Ending) (w' : World) : Prop :=
  ∃ (q1 c1 : Nat) (l1 : List Int) (q2 c2 : Nat) (l2 : List Int), e = .returned (.tuple #[.slice (some ⟨q1, 0, none⟩) l1.length c1, .slice (some ⟨q2, 0, none⟩) l2.length c2]) ∧ l1.length ≤ 14 ∧ l2.length ≤ 14 ∧ w.heap.size ≤ q1 ∧ w.heap.size ≤ q2 ∧ IAt w' (some ⟨q1, 0, none⟩) l1 ∧ IAt w' (some ⟨q2, 0, none⟩) l2 ∧ S1.St B g a n cap K w' ∧ w.grownBy w' (some g)
theorem iat_lt {w : World} {q : Nat} {l : List Int} (h : IAt w (some ⟨q, 0, none⟩) l) : l = [] ∨ q < w.heap.size := by
  rcases h with h | ⟨b, off, hA, hlt, _⟩
  · exact .inl h
  · injection hA with hA
    injection hA with e1
    exact .inr (by omega)
set_option maxHeartbeats 4000000 in
set_option maxRecDepth 100000 in
theorem day_draw (B g : Nat) (a : Option Addr) (n cap K : Nat) (w : World) (hK : K ≤ 700000) (h : S1.St B g a n cap K w) (hgw : g < w.heap.size) :
    Calls Tryd.prog 42 #[.pointer (some ⟨g, 0, none⟩)] w (DyPost B g a n cap (K + 150) w) := by
  have HS0 := Lib.hid h
  clear h
  go_enter Tryd.func42, Tryd.ntmps42
  go_wp2_with (first | (go_at_call 45; refine (S1.among_mem B g a n cap (K) w.heap.size 6 6 [1, 2, 3, 4, 6, 8] _ rfl (by omega) (by simp) (by simp) (S1.st_new HS0.out _) (fun j hj => S1.ti_new w [1, 2, 3, 4, 6, 8] 3 j hj) (by omega)).mono ?_; rintro e w1 ⟨⟨z1, rfl, hm⟩, hs, hg⟩; refine Hid.out ?_) | fail)
  have HG1 := Lib.hid (S1.grown_trans (World.grownBy_alloc w _ (some g)) hg)
  have HS1 := Lib.hid hs
  have hz1 := HG1.out.size
  obtain ⟨n1, hn1⟩ : ∃ n1 : Nat, z1 = (n1 : Int) := ⟨z1.toNat, by simp at hm; omega⟩
  have hn18 : n1 ≤ 8 := by simp at hm; omega
  subst hn1
  clear hs hg hm HS0
  refine Lib.hid ?_
  go_wp2_with (first | (go_at_call 57; refine (S1.one_any B g a n cap (K + 2) 20 _ (by omega) (by omega) (by omega) HS1.out).mono ?_; rintro e w2 ⟨b2, rfl, hs, hg⟩; refine Hid.out ?_) | fail)
  have HG2 := Lib.hid (S1.grown_trans HG1.out hg)
  have HS2 := Lib.hid hs
  have hz2 := HG2.out.size
  clear hs hg HS1 HG1
  cases b2
  · skip
    refine Lib.hid ?_
    go_wp2_with (first | (go_at_call 58; refine (volumes_draw B g a n cap (K + 4) n1 _ (by omega) (by omega) HS2.out (by omega)).mono ?_; rintro e w4 ⟨q1, c1, l1, rfl, hl1, hq1, ha1, hs, hg⟩; refine Hid.out ?_) | fail)
    have HG4 := Lib.hid (S1.grown_trans HG2.out hg)
    have HS4 := Lib.hid hs
    have HA4 := Lib.hid ha1
    have hz4 := HG4.out.size
    have hq1w : w.heap.size ≤ q1 := by omega
    clear hs hg ha1 HS2 HG2
    refine Lib.hid ?_
    go_wp2_with (first | (go_at_call 57; refine (S1.one_any B g a n cap (K + 4 + 50) 24 _ (by omega) (by omega) (by omega) HS4.out).mono ?_; rintro e w5 ⟨b5, rfl, hs, hg⟩; refine Hid.out ?_) | fail)
    have HG5 := Lib.hid (S1.grown_trans HG4.out hg)
    have HS5 := Lib.hid hs
    have HA5 := Lib.hid (HA4.out.far hg (by omega))
    have hz5 := HG5.out.size
    clear hs hg HS4 HG4 HA4
    cases b5
    · refine Lib.hid ?_
      go_wp2_with (first | (go_at_call 58; refine (volumes_draw B g a n cap (K + 4 + 52) n1 _ (by omega) (by omega) HS5.out (by omega)).mono ?_; rintro e w6 ⟨q2, c2, l2, rfl, hl2, hq2, ha2, hs, hg⟩; refine Hid.out ?_) | fail)
      have HG6 := Lib.hid (S1.grown_trans HG5.out hg)
      have HS6 := Lib.hid (hs.more (K' := K + 150) (by omega))
      have HA6 := Lib.hid (HA5.out.far hg (by omega))
      have HB6 := Lib.hid ha2
      clear hs hg ha2 HS5 HG5 HA5
      refine Lib.hid ?_
      go_wp2_with fail
      refine bodyPost_ret (v := .tuple #[.slice (some ⟨q1, 0, none⟩) l1.length c1, .slice (some ⟨q2, 0, none⟩) l2.length c2]) (by simp [results, Tryd.results42, go_sem, hl1, hl2]) rfl ⟨q1, c1, l1, q2, c2, l2, rfl, by omega, by omega, hq1w, by omega, HA6.out, HB6.out, HS6.out, HG6.out⟩
    · refine Lib.hid ?_
      go_wp2_with (first | (go_at_call 58; refine (volumes_draw B g a n cap (K + 4 + 52) (n1 + 1) _ (by omega) (by omega) HS5.out (by omega)).mono ?_; rintro e w6 ⟨q2, c2, l2, rfl, hl2, hq2, ha2, hs, hg⟩; refine Hid.out ?_) | fail)
      have HG6 := Lib.hid (S1.grown_trans HG5.out hg)
      have HS6 := Lib.hid (hs.more (K' := K + 150) (by omega))
      have HA6 := Lib.hid (HA5.out.far hg (by omega))
      have HB6 := Lib.hid ha2
      clear hs hg ha2 HS5 HG5 HA5
      refine Lib.hid ?_
      go_wp2_with fail
      refine bodyPost_ret (v := .tuple #[.slice (some ⟨q1, 0, none⟩) l1.length c1, .slice (some ⟨q2, 0, none⟩) l2.length c2]) (by simp [results, Tryd.results42, go_sem, hl1, hl2]) rfl ⟨q1, c1, l1, q2, c2, l2, rfl, by omega, by omega, hq1w, by omega, HA6.out, HB6.out, HS6.out, HG6.out⟩
  · refine Lib.hid ?_
    go_wp2_with (first | (go_at_call 45; refine (S1.among_mem B g a n cap (K + 4) w2.heap.size 3 3 [0, 12, 13] _ rfl (by omega) (by simp) (by simp) (S1.st_new HS2.out _) (fun j hj => S1.ti_new w2 [0, 12, 13] 3 j hj) (by omega)).mono ?_; rintro e w3 ⟨⟨z3, rfl, hm⟩, hs, hg⟩; refine Hid.out ?_) | fail)
    have HG3 := Lib.hid (S1.grown_trans (S1.grown_new HG2.out _) hg)
    have HS3 := Lib.hid hs
    have hz3 := HG3.out.size
    obtain ⟨n3, hn3⟩ : ∃ n3 : Nat, z3 = (n3 : Int) := ⟨z3.toNat, by simp at hm; omega⟩
    have hn313 : n3 ≤ 13 := by simp at hm; omega
    subst hn3
    clear hs hg hm HS2 HG2
    refine Lib.hid ?_
    go_wp2_with (first | (go_at_call 58; refine (volumes_draw B g a n cap (K + 6) n3 _ (by omega) (by omega) HS3.out (by omega)).mono ?_; rintro e w4 ⟨q1, c1, l1, rfl, hl1, hq1, ha1, hs, hg⟩; refine Hid.out ?_) | fail)
    have HG4 := Lib.hid (S1.grown_trans HG3.out hg)
    have HS4 := Lib.hid hs
    have HA4 := Lib.hid ha1
    have hz4 := HG4.out.size
    have hq1w : w.heap.size ≤ q1 := by omega
    clear hs hg ha1 HS3 HG3
    refine Lib.hid ?_
    go_wp2_with (first | (go_at_call 57; refine (S1.one_any B g a n cap (K + 6 + 50) 24 _ (by omega) (by omega) (by omega) HS4.out).mono ?_; rintro e w5 ⟨b5, rfl, hs, hg⟩; refine Hid.out ?_) | fail)
    have HG5 := Lib.hid (S1.grown_trans HG4.out hg)
    have HS5 := Lib.hid hs
    have HA5 := Lib.hid (HA4.out.far hg (by omega))
    have hz5 := HG5.out.size
    clear hs hg HS4 HG4 HA4
    cases b5
    · refine Lib.hid ?_
      go_wp2_with (first | (go_at_call 58; refine (volumes_draw B g a n cap (K + 6 + 52) n3 _ (by omega) (by omega) HS5.out (by omega)).mono ?_; rintro e w6 ⟨q2, c2, l2, rfl, hl2, hq2, ha2, hs, hg⟩; refine Hid.out ?_) | fail)
      have HG6 := Lib.hid (S1.grown_trans HG5.out hg)
      have HS6 := Lib.hid (hs.more (K' := K + 150) (by omega))
      have HA6 := Lib.hid (HA5.out.far hg (by omega))
      have HB6 := Lib.hid ha2
      clear hs hg ha2 HS5 HG5 HA5
      refine Lib.hid ?_
      go_wp2_with fail
      refine bodyPost_ret (v := .tuple #[.slice (some ⟨q1, 0, none⟩) l1.length c1, .slice (some ⟨q2, 0, none⟩) l2.length c2]) (by simp [results, Tryd.results42, go_sem, hl1, hl2]) rfl ⟨q1, c1, l1, q2, c2, l2, rfl, by omega, by omega, hq1w, by omega, HA6.out, HB6.out, HS6.out, HG6.out⟩
    · refine Lib.hid ?_
      go_wp2_with (first | (go_at_call 58; refine (volumes_draw B g a n cap (K + 6 + 52) (n3 + 1) _ (by omega) (by omega) HS5.out (by omega)).mono ?_; rintro e w6 ⟨q2, c2, l2, rfl, hl2, hq2, ha2, hs, hg⟩; refine Hid.out ?_) | fail)
      have HG6 := Lib.hid (S1.grown_trans HG5.out hg)
      have HS6 := Lib.hid (hs.more (K' := K + 150) (by omega))
      have HA6 := Lib.hid (HA5.out.far hg (by omega))
      have HB6 := Lib.hid ha2
      clear hs hg ha2 HS5 HG5 HA5
      refine Lib.hid ?_
      go_wp2_with fail
      refine bodyPost_ret (v := .tuple #[.slice (some ⟨q1, 0, none⟩) l1.length c1, .slice (some ⟨q2, 0, none⟩) l2.length c2]) (by simp [results, Tryd.results42, go_sem, hl1, hl2]) rfl ⟨q1, c1, l1, q2, c2, l2, rfl, by omega, by omega, hq1w, by omega, HA6.out, HB6.out, HS6.out, HG6.out⟩
end Go.Proofs.YtikppgbipdflbaaDoor.S11
