/- The branch that begins at a node, as the program builds it: contracts. Conditions: each theorem's own premises. -/
import Derived.Test.YtgjogjmfpbinfaaBrK
import Derived.Test.YtgjogjmfpbinfaaBrB
import Derived.Test.YtgjogjmfpbinfaaDistOne
namespace Go.Proofs.Ytgjogjmfpbinfaa.S2
open Go.RowKit Go.Sort P2

section
variable {ops : Array Oper} {rest : List Oper} {o : Oper} {a : Act} {w : World} {Q : Exit → Act → World → Prop}
theorem neq_pp (w : World) {p q : Pp} (h : p ≠ q) : (binOp .neq 75 (pv p) (pv q)).run Try.prog w = .ok (.bool true) w := by
  have h1 := eql_pp w h
  unfold pv at h1 ⊢
  rw [run_eql_struct] at h1
  rw [run_neq_struct]
  generalize (Op.equalIn 10000 75 _ _).run Try.prog w = r at *
  cases r with
  | ok b w' => simp at h1 ⊢; obtain ⟨rfl, rfl⟩ := h1; exact ⟨rfl, rfl⟩
  | halt h w' => simp at h1
theorem wpP_neq (hgd : o.guard = none) (x y : Operand) (ho : o.op = .binOp .neq 75 x y 75) (p q : Pp) (hx : a.eval x = pv p) (hy : a.eval y = pv q) (hne : p ≠ q)
    (h : wpList Try.prog ops Q rest (a.put o.dst (.bool true)) w) : wpList Try.prog ops Q (o :: rest) a w :=
  wpList_plain hgd fun _ hK => by
    have hz := neq_pp w hne
    have hg := run_eqGuard_agg (P := Try.prog) w .neq 75 x y #[.int .i64 p.id, .int .i64 p.fr, .int .i64 p.to, .int .i64 p.sz] #[.int .i64 q.id, .int .i64 q.fr, .int .i64 q.to, .int .i64 q.sz] (by kernel_rfl)
    unfold Oper.wp execOp
    simp [ho, hx, hy, Sem.run_bind, hz, hg, Result.andThen]
    exact hK _ _ h
end
theorem infoBr : (Try.prog.info? 144).map (fun i => (i.zero, i.size, i.bytes)) = some (some (.agg #[.int .i64 0, .int .i64 0, .int .i64 0, .int .i64 0, .int .i64 0, .slice none 0 0]), 6, 64) := by kernel_rfl
theorem WRow.set5 {w : World} {g : Nat} {x : Int} {q : Pp} {v0 : Value} (h : WRow w g (bcs x q v0)) (v : Value) : WRow (w.setCell ⟨g, 5, none⟩ v) g (bcs x q v) := by
  unfold WRow at h ⊢
  rw [heap_setCell_same w g 5 _ _ v h]
  simp
theorem setCell_off (w : World) (g k : Nat) (v : Value) : w.grownBy (w.setCell ⟨g, k, none⟩ v) (some g) :=
  ⟨rfl, rfl, rfl, by simp, fun b _ hne => heap_setCell_other w ⟨g, k, none⟩ b v (fun e => hne (by rw [e]))⟩
theorem KIn.low {ps : List Pp} {d : Nat} {w w' : World} {x : Int} {B : Nat} {A : Option Addr} {l c : Nat} {ks : List Kd} {g : Nat} (h : KIn ps d w x B (.slice A l c) ks) (hg : w.grownBy w' (some g)) (hgB : g < B) : KIn ps d w' x B (.slice A l c) ks := by
  refine ⟨h.own.kept hg ?_, fun k hk => RepIn.kept (fun b h _ => h) (fun b hp hlt => hg.block b hlt (fun e => by have := hp.1; simp at e; omega)) hg.size _ _ _ _ (h.rep k hk)⟩
  rcases Nat.eq_zero_or_pos ks.length with h0 | h0
  · rcases h.own.2 with ⟨hv, _⟩ | ⟨g2, cap, cur, hv, hb, _⟩
    · left; rw [hv]; rfl
    · right; rw [hv]; simp [Value.ownBlock]; omega
  · obtain ⟨g2, cap, hv, hb, _⟩ := h.own.form h0
    right; rw [hv]; simp [Value.ownBlock]; omega

/-- The pipes at each node lie there. -/
def Rows (w : World) (G : Nat) (n : Nat) (ps : List Pp) : Prop := G < w.heap.size ∧ ∀ v : Nat, v ≤ n → ∃ A c, w.cell? ⟨G, v, none⟩ = some (.slice A (rowOf ps v).length c) ∧ PAt w A (rowOf ps v)
theorem Rows.below {w w' : World} {G n : Nat} {ps : List Pp} (h : Rows w G n ps) (hb : Below w.heap.size w w') : Rows w' G n ps :=
  ⟨Nat.lt_of_lt_of_le h.1 hb.size, fun v hv => by
    obtain ⟨A, c, hc, hp⟩ := h.2 v hv
    exact ⟨A, c, (hb.cell h.1).trans hc, hp.kept hb (Nat.le_refl _)⟩⟩
/-- What it gives. -/
def BatIs (ps : List Pp) (d : Nat) (x : Int) (q : Pp) (w : World) (e : Ending) (w' : World) : Prop :=
  ∃ A c, e = .returned (bv x q A (kidsL ps x q).length c) ∧ RepIn ps (fun b => w.heap.size ≤ b) d w' A x q ∧ Below w.heap.size w w'

set_option maxHeartbeats 2000000 in
set_option maxRecDepth 100000 in
theorem bat_any {n : Nat} {ps : List Pp} (hg : P2.Good n ps) (ha : Acy ps) (G cap : Nat) : ∀ (d : Nat) (v : Nat) (q : Pp) (w : World), Rows w G n ps → BrOk n ps (v : Int) q → cntB n ps (v : Int) q ≤ d →
    Calls Try.prog 214 #[.slice (some ⟨G, 0, none⟩) (n + 1) cap, .int .i64 (v : Int), pv q] w (BatIs ps d v q w) := by
  intro d
  induction d with
  | zero => intro v q w _ hbr hc; have := cnt_pos hbr; omega
  | succ d ih =>
    intro v q w hrows hbr hcnt
    have hv1 : 1 ≤ v := by have := hbr.lo; omega
    have hvn : v ≤ n := by have := hbr.hi; omega
    have hGl := hrows.1
    obtain ⟨AR, cR, hcr, hpr⟩ := hrows.2 v hvn
    have hal := kidsTo_all ps v q
    rw [rowTo_all ps ps.length v (Nat.le_refl _)] at hal
    have HAL := Lib.hid hal
    have HRW := Lib.hid (fun w' (hb : Below w.heap.size w w') => hrows.below hb)
    have HIH := Lib.hid ih
    have HPR := Lib.hid (fun w' (hb : Below w.heap.size w w') => hpr.kept hb (Nat.le_refl _))
    have hmemk : ∀ k p, (rowOf ps v)[k]? = some p → p ∈ ps ∧ Tch p (v : Int) := fun k p hp => by
      obtain ⟨h1, h2⟩ := List.mem_filter.1 (List.mem_of_getElem? hp)
      exact ⟨h1, by simpa [touchB, Tch] using h2⟩
    have HK := Lib.hid (fun k p (hp : (rowOf ps v)[k]? = some p) (hne : p ≠ q) => (show ∃ u : Nat, oth p (v : Int) = (u : Int) ∧ BrOk n ps (u : Int) p ∧ cntB n ps (u : Int) p ≤ d from by
      obtain ⟨hm1, hm2⟩ := hmemk k p hp
      have hmem : p ∈ kidsL ps (v : Int) q := mem_kids.2 ⟨hm1, hm2, hne⟩
      have hb := hbr.kid hg hmem
      obtain ⟨u, hu⟩ := Int.eq_ofNat_of_zero_le (show (0 : Int) ≤ oth p v from by have := hb.lo; omega)
      have h1 := cnt_kid ha hbr hmem
      rw [hu] at hb h1
      exact ⟨u, hu, hb, by omega⟩))
    have hRl : (rowOf ps v).length ≤ 10 := Nat.le_trans (List.length_filter_le _ _) hg.2.2.1
    have hv0 : (0 : Int) ≤ (v : Int) := by omega
    have hvn1 : (v : Int) < (n : Int) + 1 := by omega
    clear ih hrows hpr hmemk hal hbr hcnt
    generalize rowOf ps v = R at *
    obtain ⟨W, hW⟩ : ∃ W, W = (((w.alloc (.cells #[.int .i64 q.id, .int .i64 q.fr, .int .i64 q.to, .int .i64 q.sz] 75)).alloc (.cells #[.int .i64 0, .int .i64 0, .int .i64 0, .int .i64 0, .int .i64 0, .slice none 0 0] 144)).alloc (.cells #[.int .i64 (v : Int), .int .i64 q.id, .int .i64 q.fr, .int .i64 q.to, .int .i64 q.sz, .slice none 0 0] 144)) := ⟨_, rfl⟩
    have HW0 : Hid (Below w.heap.size w W) := Lib.hid (by rw [hW]; exact ((((Below.refl w.heap.size w).alloc (Nat.le_refl _) _).alloc (by simp) _).alloc (by simp; omega) _))
    have HWS : Hid (W.heap.size = w.heap.size + 1 + 1 + 1) := Lib.hid (by rw [hW]; simp [Nat.add_assoc])
    have HWP : Hid (PC W w.heap.size 0 q) := Lib.hid (by
      have h1 : PC (w.alloc (.cells #[.int .i64 q.id, .int .i64 q.fr, .int .i64 q.to, .int .i64 q.sz] 75)) w.heap.size 0 q := by
        unfold PC
        refine ⟨?_, ?_, ?_, ?_⟩ <;> rw [World.cell?_alloc_at _ _ _ _ rfl] <;> rfl
      rw [hW]
      exact h1.kept ((((Below.refl _ _).alloc (Nat.le_refl _) _).alloc (by simp) _).block _ (by simp)))
    have HW6 : Hid (WRow W (w.heap.size + 1) (bcs 0 ⟨0, 0, 0, 0⟩ (.slice none 0 0))) := Lib.hid (by
      have e : w.heap.size + 1 = (w.alloc (.cells #[.int .i64 q.id, .int .i64 q.fr, .int .i64 q.to, .int .i64 q.sz] 75)).heap.size := by simp
      have h1 : WRow ((w.alloc (.cells #[.int .i64 q.id, .int .i64 q.fr, .int .i64 q.to, .int .i64 q.sz] 75)).alloc (.cells #[.int .i64 0, .int .i64 0, .int .i64 0, .int .i64 0, .int .i64 0, .slice none 0 0] 144)) (w.heap.size + 1) (bcs 0 ⟨0, 0, 0, 0⟩ (.slice none 0 0)) := by
        unfold WRow
        rw [e]
        exact heap_alloc_new _ _
      rw [hW]
      exact h1.kept (((Below.refl _ _).alloc (Nat.le_refl _) _).block _ (by simp)))
    have HW7 : Hid (WRow W (w.heap.size + 1 + 1) (bcs v q (.slice none 0 0))) := Lib.hid (by
      have e : w.heap.size + 1 + 1 = ((w.alloc (.cells #[.int .i64 q.id, .int .i64 q.fr, .int .i64 q.to, .int .i64 q.sz] 75)).alloc (.cells #[.int .i64 0, .int .i64 0, .int .i64 0, .int .i64 0, .int .i64 0, .slice none 0 0] 144)).heap.size := by simp
      rw [hW]
      unfold WRow
      rw [e]
      exact heap_alloc_new _ _)
    have hcr3 : W.cell? ⟨G, v, none⟩ = some (.slice AR R.length cR) := (HW0.out.cell hGl).trans hcr
    rw [hW] at hcr3
    go_enter Try.func214, Try.ntmps214
    go_wp2
    rw [← hW]
    clear hW hcr hcr3
    go_loopw [18] (fun i wr => ∃ (k : Nat) (A9 : Option Addr) (c9 : Nat) (ks : List Kd), k ≤ R.length ∧ i = .int .i64 (k : Int) ∧ Hid (ks.map (·.1) = kidsTo R q k) ∧ Hid (WRow wr (w.heap.size + 1 + 1) (bcs v q (.slice A9 ks.length c9))) ∧ Hid (WRow wr (w.heap.size + 1) (bcs 0 ⟨0, 0, 0, 0⟩ (.slice none 0 0))) ∧ Hid (PC wr w.heap.size 0 q) ∧ Hid (KIn ps d wr v (w.heap.size + 1 + 1 + 1) (.slice A9 ks.length c9) ks) ∧ Hid (Below w.heap.size w wr) ∧ Hid (W.heap.size ≤ wr.heap.size)) (fun i _ => R.length - (intOf i).toNat)
    case atStart => exact ⟨0, none, 0, [], Nat.zero_le _, rfl, Lib.hid (by simp [kidsTo]), HW7, HW6, HWP, Lib.hid (KIn.nil ps d W v _), HW0, Lib.hid (Nat.le_refl _)⟩
    case round =>
      clear HW7 HW6 HWP
      obtain ⟨k, A9, c9, ks, hk, rfl, hks, hw7, hw6, hpc, hkin, hB, hsz⟩ := hrel
      by_cases hlt : k < R.length
      · obtain ⟨p, hp⟩ : ∃ p, R[k]? = some p := ⟨_, List.getElem?_eq_getElem hlt⟩
        have hrep := HPR.out wr hB.out
        rcases hrep with h0 | ⟨b, off, hA, hbl, hcell⟩
        · rw [h0] at hlt; simp at hlt
        · subst hA
          obtain ⟨c0, c1, c2, c3⟩ := hcell k hlt
          have hpa : pAt R k = p := by simp [pAt, List.getD, hp]
          rw [hpa] at c0 c1 c2 c3
          have hk0 : (0 : Int) ≤ (k : Int) := by omega
          have hkn : (k : Int) < (R.length : Int) := by omega
          have hs0 := HWS.out
          have hs1 := hsz.out
          have hl0 : w.heap.size < wr.heap.size := by omega
          have hl1 : w.heap.size + 1 < wr.heap.size := by omega
          have hl2 : w.heap.size + 1 + 1 < wr.heap.size := by omega
          have hBr : w.heap.size + 1 + 1 + 1 ≤ wr.heap.size := by omega
          clear hs0 hs1
          obtain ⟨p1, p2, p3, p4⟩ := hpc.out
          have HP := Lib.hid hp
          clear hcell hpa hp
          by_cases hpq : p = q
          · subst hpq
            have HKS := Lib.hid (kidsTo_no HP.out rfl)
            go_wp2
            go_roundw
            case rel => exact ⟨k + 1, A9, c9, ks, by omega, by go_num, Lib.hid (by rw [HKS.out]; exact hks.out), Lib.hid (hw7.out.kept (Below.heap_alloc wr _ _ hl2)), Lib.hid (hw6.out.kept (Below.heap_alloc wr _ _ hl1)), Lib.hid (hpc.out.kept (Below.heap_alloc wr _ _ hl0)), Lib.hid (hkin.out.below ((Below.refl _ _).alloc (Nat.le_refl _) _)), Lib.hid (hB.out.alloc hB.out.size _), Lib.hid (by have := hsz.out; simp; omega)⟩
            case measure => simp [intOf]; omega
          · have HKS := Lib.hid (kidsTo_yes HP.out hpq)
            obtain ⟨u, hu, hbu, hcu⟩ := HK.out k p HP.out hpq
            have HU := Lib.hid hu
            have HO := Lib.hid (fun w' => other_v hu w')
            have HC := Lib.hid (fun w' (hb : Below w.heap.size w w') => HIH.out u p w' (HRW.out w' hb) hbu hcu)
            have HNE := Lib.hid hpq
            clear hu hbu hcu hpq
            go_upto_region 6 with (first | (with_reducible refine wpP_neq rfl _ _ rfl p q rfl rfl HNE.out ?_))
            obtain ⟨i0, hi0, hz0, hz1, hz2⟩ := info_parts infoBr
            have vr : wr.cell? ⟨w.heap.size + 1 + 1, 5, none⟩ = some (.slice A9 ks.length c9) := hw7.out.cell 5
            have v0 : ((wr.alloc (.cells #[.int .i64 p.id, .int .i64 p.fr, .int .i64 p.to, .int .i64 p.sz] 75)).drew).cell? ⟨w.heap.size + 1 + 1, 5, none⟩ = some (.slice A9 ks.length c9) := ((((Below.refl wr.heap.size wr).alloc (Nat.le_refl _) (.cells #[.int .i64 p.id, .int .i64 p.fr, .int .i64 p.to, .int .i64 p.sz] 75)).drew).cell hl2).trans vr
            have hvb : ∀ g, (Value.slice A9 ks.length c9).ownBlock = some g → w.heap.size + 1 + 1 + 1 ≤ g ∧ g < wr.heap.size := fun g hg => hkin.out.own.lt g hg
            have hkl : ks.length ≤ 10 := (by have h1 := kidsTo_len R q k; rw [← hks.out, List.length_map] at h1; omega)
            have hfar9 : (Value.slice A9 ks.length c9).ownBlock ≠ some wr.heap.size := fun e => (by have := hvb _ e; omega)
            have hfar7 : (Value.slice A9 ks.length c9).ownBlock ≠ some (w.heap.size + 1 + 1) := fun e => (by have := hvb _ e; omega)
            refine wp_region_held_drew (S := fun w' => w'.cell? ⟨wr.heap.size, 0, none⟩ = some (.int .i64 p.id) ∧ w'.cell? ⟨wr.heap.size, 1, none⟩ = some (.int .i64 p.fr) ∧ w'.cell? ⟨wr.heap.size, 2, none⟩ = some (.int .i64 p.to) ∧ w'.cell? ⟨wr.heap.size, 3, none⟩ = some (.int .i64 p.sz)) (by kernel_rfl) (by go_keep) (fun hHeld => ?_)
            refine wpAnyH_take (i := 0) (v := .pointer (some ⟨w.heap.size + 1 + 1, 5, none⟩)) rfl (by kernel_rfl) (by kernel_rfl) (by kernel_rfl) (fun _ _ _ h => h) (Or.inl ⟨by rfl, ?_⟩) (by assumption) ?_
            · (intro w hSw; (try dsimp only at hSw); go_simp)
            simp only [Act.put, List.setIfInBounds_toArray]
            refine wpAnyH_take (i := 2) (v := .slice (some ⟨G, 0, none⟩) (n + 1) cap) rfl (by kernel_rfl) (by kernel_rfl) (by kernel_rfl) (fun _ _ _ h => h) (Or.inl ⟨by rfl, ?_⟩) (by assumption) ?_
            · (intro w hSw; (try dsimp only at hSw); go_simp)
            simp only [Act.put]
            refine wpAnyH_take (i := 3) (v := .agg #[.int .i64 p.id, .int .i64 p.fr, .int .i64 p.to, .int .i64 p.sz]) rfl (by kernel_rfl) (by kernel_rfl) (by kernel_rfl) (fun _ _ _ h => h) (Or.inl ⟨by rfl, ?_⟩) (by assumption) ?_
            · (intro w hSw; (try dsimp only at hSw); go_simp)
            simp only [Act.put]
            refine wpAnyH_take (i := 4) (v := .int .i64 (v : Int)) rfl (by kernel_rfl) (by kernel_rfl) (by kernel_rfl) (fun _ _ _ h => h) (Or.inl ⟨by rfl, ?_⟩) (by assumption) ?_
            · (intro w hSw; (try dsimp only at hSw); go_simp)
            simp only [Act.put]
            refine wpAnyH_take (i := 6) (v := .agg #[.int .i64 p.id, .int .i64 p.fr, .int .i64 p.to, .int .i64 p.sz]) rfl (by kernel_rfl) (by kernel_rfl) (by kernel_rfl) (fun _ _ _ h => h) (Or.inl ⟨by rfl, ?_⟩) (by assumption) ?_
            · (intro w hSw; (try dsimp only at hSw); go_simp)
            simp only [Act.put]
            refine wpAnyH_ready (rs := [1, 5]) (by kernel_rfl) (by simp) ?_
            refine AllReadyH.cons rfl (fun K hK => ?_) (AllReadyH.cons rfl (fun K hK => ?_) AllReadyH.nil)
            · go_simp
              refine hK.out _ _ (by first | assumption | go_keep) (fun hHeld => ?_)
              clear hK K
              refine wpAnyH_ready (rs := [5]) (by kernel_rfl) (by simp) ?_
              refine AllReadyH.cons rfl (fun K hK => ?_) AllReadyH.nil
              go_simp
              go_at_call 170
              refine (HO.out _).mono ?_
              rintro e w3 ⟨rfl, hb3⟩
              have HB3 := Lib.hid ((((Below.refl wr.heap.size wr).alloc (Nat.le_refl _) (.cells #[.int .i64 p.id, .int .i64 p.fr, .int .i64 p.to, .int .i64 p.sz] 75)).drew).trans (hb3.mono (by simp)))
              have hz3 : wr.heap.size + 1 ≤ w3.heap.size := (by have := hb3.size; simp at this; omega)
              have v3 : w3.cell? ⟨w.heap.size + 1 + 1, 5, none⟩ = some (.slice A9 ks.length c9) := (HB3.out.cell hl2).trans vr
              have hHeld2 := hHeld
              refine hK.out _ _ (by rcases hHeld2 with ⟨q0, q1, q2, q3⟩; exact ⟨(hb3.cell (by simp)).trans q0, (hb3.cell (by simp)).trans q1, (hb3.cell (by simp)).trans q2, (hb3.cell (by simp)).trans q3⟩) (fun hHeld => ?_)
              clear hK K hHeld2
              clear hb3
              refine wpAnyH_ready (rs := [7]) (by kernel_rfl) (by simp) ?_
              refine AllReadyH.cons rfl (fun K hK => ?_) AllReadyH.nil
              go_simp
              go_at_call 214
              refine (HC.out _ (hB.out.trans (HB3.out.mono hB.out.size))).mono ?_
              rintro e w4 ⟨A4, c4, rfl, hrep4, hb4⟩
              have HREP4 := Lib.hid hrep4
              obtain ⟨m4, hm4⟩ : ∃ m4, (kidsL ps (u : Int) p).length = m4 := ⟨_, rfl⟩
              have HM4 := Lib.hid hm4
              rw [hm4]
              have HB4 := Lib.hid (HB3.out.trans (hb4.mono (by omega)))
              have hz4 : wr.heap.size + 1 ≤ w4.heap.size := (by have := hb4.size; omega)
              have v4 : w4.cell? ⟨w.heap.size + 1 + 1, 5, none⟩ = some (.slice A9 ks.length c9) := (HB4.out.cell hl2).trans vr
              have hl24 : w.heap.size + 1 + 1 < w4.heap.size := (by omega)
              have hHeld2 := hHeld
              refine hK.out _ _ (by rcases hHeld2 with ⟨q0, q1, q2, q3⟩; exact ⟨(hb4.cell (by show wr.heap.size < w3.heap.size; omega)).trans q0, (hb4.cell (by show wr.heap.size < w3.heap.size; omega)).trans q1, (hb4.cell (by show wr.heap.size < w3.heap.size; omega)).trans q2, (hb4.cell (by show wr.heap.size < w3.heap.size; omega)).trans q3⟩) (fun hHeld => ?_)
              clear hK K hHeld2
              clear hb4 hrep4 hm4
              refine wpAnyH_ready (rs := [8]) (by kernel_rfl) (by simp) ?_
              refine AllReadyH.cons rfl (fun K hK => ?_) AllReadyH.nil
              go_simp
              refine hK.out _ _ (by first | assumption | go_keep) (fun hHeld => ?_)
              clear hK K
              have v5 : (w4.alloc (.cells #[.int .i64 (u : Int), .int .i64 p.id, .int .i64 p.fr, .int .i64 p.to, .int .i64 p.sz, .slice A4 m4 c4] 144)).cell? ⟨w.heap.size + 1 + 1, 5, none⟩ = some (.slice A9 ks.length c9) := (((Below.refl w4.heap.size w4).alloc (Nat.le_refl _) _).cell hl24).trans v4
              refine wpAnyH_ready (rs := [9]) (by kernel_rfl) (by simp) ?_
              refine AllReadyH.cons rfl (fun K hK => ?_) AllReadyH.nil
              refine step_append_lies _ (by rfl) _ _ _ (by rfl) (w.heap.size + 1 + 1 + 1) 144 i0 _ 6 64 Try.underlying142 hi0 hz0 hz1 hz2 rfl (by omega) (.slice A9 ks.length c9) ks.length (bls ps v ks) (by rfl) ((hkin.out.below HB4.out).own.alloc _)
                ⟨w4.heap.size, 0, none⟩ 1 1 [.int .i64 (u : Int), .int .i64 p.id, .int .i64 p.fr, .int .i64 p.to, .int .i64 p.sz, .slice A4 m4 c4] (by rfl) (by rfl) (World.news_of_block (cs := #[.int .i64 (u : Int), .int .i64 p.id, .int .i64 p.fr, .int .i64 p.to, .int .i64 p.sz, .slice A4 m4 c4]) (t := 144) (fr := (0, 0)) (heap_alloc_new w4 _)) (by simp [Value.oneCell'])
                (by omega) (by simp only [maxLen]; omega) (by omega) (by simp; omega) (w4.heap.size + 1) (by simp) ?_
              intro g5 c5 w5 hown5 hgrow hat hlt5
              have hHeld2 := hHeld
              refine hK.out _ _ (by rcases hHeld2 with ⟨q0, q1, q2, q3⟩; exact ⟨(hgrow.cell_far _ (by simp; omega) (fun e => hfar9 e.symm)).trans q0, (hgrow.cell_far _ (by simp; omega) (fun e => hfar9 e.symm)).trans q1, (hgrow.cell_far _ (by simp; omega) (fun e => hfar9 e.symm)).trans q2, (hgrow.cell_far _ (by simp; omega) (fun e => hfar9 e.symm)).trans q3⟩) (fun hHeld => ?_)
              clear hK K hHeld2
              have HW5 := Lib.hid (((hw7.out.kept (HB4.out.block _ hl2)).kept (((Below.refl w4.heap.size w4).alloc (Nat.le_refl _) (.cells #[.int .i64 (u : Int), .int .i64 p.id, .int .i64 p.fr, .int .i64 p.to, .int .i64 p.sz, .slice A4 m4 c4] 144)).block _ hl24)).kept (hgrow.block _ (by simp; omega) (fun e => hfar7 e.symm)))
              have hz5 : w4.heap.size + 1 ≤ w5.heap.size := (by have := hgrow.size; simp at this; omega)
              have v6 : w5.cell? ⟨w.heap.size + 1 + 1, 5, none⟩ = some (.slice A9 ks.length c9) := HW5.out.cell 5
              have f6 : w5.frozen? ⟨w.heap.size + 1 + 1, 5, none⟩ = false := frozen_of_row w5 _ 5 _ _ HW5.out
              refine wpAnyH_ready (rs := [10]) (by kernel_rfl) (by simp) ?_
              refine AllReadyH.cons rfl (fun K hK => ?_) AllReadyH.nil
              go_simp
              refine hK.out _ _ (by first | assumption | go_keep) (fun hHeld => ?_)
              clear hK K
              refine wpAnyH_ready (rs := [11]) (by kernel_rfl) (by simp) ?_
              refine AllReadyH.cons rfl (fun K hK => ?_) AllReadyH.nil
              go_simp
              have hHeld2 := hHeld
              refine hK.out _ _ (by rcases hHeld2 with ⟨q0, q1, q2, q3⟩; exact ⟨((setCell_off w5 (w.heap.size + 1 + 1) 5 _).cell_far _ (by show wr.heap.size < w5.heap.size; omega) (by intro e; simp at e; omega)).trans q0, ((setCell_off w5 (w.heap.size + 1 + 1) 5 _).cell_far _ (by show wr.heap.size < w5.heap.size; omega) (by intro e; simp at e; omega)).trans q1, ((setCell_off w5 (w.heap.size + 1 + 1) 5 _).cell_far _ (by show wr.heap.size < w5.heap.size; omega) (by intro e; simp at e; omega)).trans q2, ((setCell_off w5 (w.heap.size + 1 + 1) 5 _).cell_far _ (by show wr.heap.size < w5.heap.size; omega) (by intro e; simp at e; omega)).trans q3⟩) (fun hHeld => ?_)
              clear hK K hHeld2
              refine wpAnyH_done (by kernel_rfl) ?_ _
              have hH1 : (w4.alloc (.cells #[.int .i64 (u : Int), .int .i64 p.id, .int .i64 p.fr, .int .i64 p.to, .int .i64 p.sz, .slice A4 m4 c4] 144)).heap.size = w4.heap.size + 1 := (by simp)
              have HBL := Lib.hid ((((HB4.out.mono (show w.heap.size + 1 + 1 ≤ wr.heap.size by omega)).alloc (by omega) (.cells #[.int .i64 (u : Int), .int .i64 p.id, .int .i64 p.fr, .int .i64 p.to, .int .i64 p.sz, .slice A4 m4 c4] 144)).grown hgrow (by rw [hH1]; omega) (fun g hg => by have := hvb g hg; omega)).setCell (p := ⟨w.heap.size + 1 + 1, 5, none⟩) (Nat.le_refl _) (.slice (some ⟨g5, 0, none⟩) (ks.length + 1) c5))
              have HKN := Lib.hid ((KIn.push (B := w.heap.size + 1 + 1 + 1) (b0 := w3.heap.size) (k := (p, A4, c4)) ((hkin.out.below HB4.out).below ((Below.refl w4.heap.size w4).alloc (Nat.le_refl _) (.cells #[.int .i64 (u : Int), .int .i64 p.id, .int .i64 p.fr, .int .i64 p.to, .int .i64 p.sz, .slice A4 m4 c4] 144))) (by unfold bl6; simp only [HU.out, HM4.out]; exact hown5) hgrow (by rcases hat with h | h; exact .inl h.symm; exact .inr (by rw [hH1, h]; rfl)) (by simp only [HU.out]; exact HREP4.out.below ((Below.refl w4.heap.size w4).alloc (Nat.le_refl _) (.cells #[.int .i64 (u : Int), .int .i64 p.id, .int .i64 p.fr, .int .i64 p.to, .int .i64 p.sz, .slice A4 m4 c4] 144))) (by omega) (fun g hg => by have := hvb g hg; omega)).low (setCell_off w5 (w.heap.size + 1 + 1) 5 (.slice (some ⟨g5, 0, none⟩) (ks.length + 1) c5)) (by omega))
              have hle : (ks ++ [((p, A4, c4) : Kd)]).length = ks.length + 1 := (by simp)
              have HW6 := Lib.hid (HW5.out.set5 (.slice (some ⟨g5, 0, none⟩) (ks.length + 1) c5))
              clear hgrow hown5 hat hH1
              go_wp2_with fail
              go_roundw
              case rel => exact ⟨k + 1, some ⟨g5, 0, none⟩, c5, ks ++ [((p, A4, c4) : Kd)], by omega, by go_num, Lib.hid (by rw [HKS.out, ← hks.out]; simp), Lib.hid (by rw [hle]; exact HW6.out), Lib.hid (hw6.out.kept (HBL.out.block _ (by omega))), Lib.hid (hpc.out.kept (HBL.out.block _ (by omega))), Lib.hid (by rw [hle]; exact HKN.out), Lib.hid (hB.out.trans (HBL.out.mono (by omega))), Lib.hid (by have := hsz.out; simp; omega)⟩
              case measure => simp [intOf]; omega
            · go_simp
              go_at_call 170
              refine (HO.out _).mono ?_
              rintro e w3 ⟨rfl, hb3⟩
              have HB3 := Lib.hid ((((Below.refl wr.heap.size wr).alloc (Nat.le_refl _) (.cells #[.int .i64 p.id, .int .i64 p.fr, .int .i64 p.to, .int .i64 p.sz] 75)).drew).trans (hb3.mono (by simp)))
              have hz3 : wr.heap.size + 1 ≤ w3.heap.size := (by have := hb3.size; simp at this; omega)
              have v3 : w3.cell? ⟨w.heap.size + 1 + 1, 5, none⟩ = some (.slice A9 ks.length c9) := (HB3.out.cell hl2).trans vr
              have hHeld2 := hHeld
              refine hK.out _ _ (by rcases hHeld2 with ⟨q0, q1, q2, q3⟩; exact ⟨(hb3.cell (by simp)).trans q0, (hb3.cell (by simp)).trans q1, (hb3.cell (by simp)).trans q2, (hb3.cell (by simp)).trans q3⟩) (fun hHeld => ?_)
              clear hK K hHeld2
              clear hb3
              refine wpAnyH_ready (rs := [1, 7]) (by kernel_rfl) (by simp) ?_
              refine AllReadyH.cons rfl (fun K hK => ?_) (AllReadyH.cons rfl (fun K hK => ?_) AllReadyH.nil)
              · go_simp
                refine hK.out _ _ (by first | assumption | go_keep) (fun hHeld => ?_)
                clear hK K
                refine wpAnyH_ready (rs := [7]) (by kernel_rfl) (by simp) ?_
                refine AllReadyH.cons rfl (fun K hK => ?_) AllReadyH.nil
                go_simp
                go_at_call 214
                refine (HC.out _ (hB.out.trans (HB3.out.mono hB.out.size))).mono ?_
                rintro e w4 ⟨A4, c4, rfl, hrep4, hb4⟩
                have HREP4 := Lib.hid hrep4
                obtain ⟨m4, hm4⟩ : ∃ m4, (kidsL ps (u : Int) p).length = m4 := ⟨_, rfl⟩
                have HM4 := Lib.hid hm4
                rw [hm4]
                have HB4 := Lib.hid (HB3.out.trans (hb4.mono (by omega)))
                have hz4 : wr.heap.size + 1 ≤ w4.heap.size := (by have := hb4.size; omega)
                have v4 : w4.cell? ⟨w.heap.size + 1 + 1, 5, none⟩ = some (.slice A9 ks.length c9) := (HB4.out.cell hl2).trans vr
                have hl24 : w.heap.size + 1 + 1 < w4.heap.size := (by omega)
                have hHeld2 := hHeld
                refine hK.out _ _ (by rcases hHeld2 with ⟨q0, q1, q2, q3⟩; exact ⟨(hb4.cell (by show wr.heap.size < w3.heap.size; omega)).trans q0, (hb4.cell (by show wr.heap.size < w3.heap.size; omega)).trans q1, (hb4.cell (by show wr.heap.size < w3.heap.size; omega)).trans q2, (hb4.cell (by show wr.heap.size < w3.heap.size; omega)).trans q3⟩) (fun hHeld => ?_)
                clear hK K hHeld2
                clear hb4 hrep4 hm4
                refine wpAnyH_ready (rs := [8]) (by kernel_rfl) (by simp) ?_
                refine AllReadyH.cons rfl (fun K hK => ?_) AllReadyH.nil
                go_simp
                refine hK.out _ _ (by first | assumption | go_keep) (fun hHeld => ?_)
                clear hK K
                have v5 : (w4.alloc (.cells #[.int .i64 (u : Int), .int .i64 p.id, .int .i64 p.fr, .int .i64 p.to, .int .i64 p.sz, .slice A4 m4 c4] 144)).cell? ⟨w.heap.size + 1 + 1, 5, none⟩ = some (.slice A9 ks.length c9) := (((Below.refl w4.heap.size w4).alloc (Nat.le_refl _) _).cell hl24).trans v4
                refine wpAnyH_ready (rs := [9]) (by kernel_rfl) (by simp) ?_
                refine AllReadyH.cons rfl (fun K hK => ?_) AllReadyH.nil
                refine step_append_lies _ (by rfl) _ _ _ (by rfl) (w.heap.size + 1 + 1 + 1) 144 i0 _ 6 64 Try.underlying142 hi0 hz0 hz1 hz2 rfl (by omega) (.slice A9 ks.length c9) ks.length (bls ps v ks) (by rfl) ((hkin.out.below HB4.out).own.alloc _)
                  ⟨w4.heap.size, 0, none⟩ 1 1 [.int .i64 (u : Int), .int .i64 p.id, .int .i64 p.fr, .int .i64 p.to, .int .i64 p.sz, .slice A4 m4 c4] (by rfl) (by rfl) (World.news_of_block (cs := #[.int .i64 (u : Int), .int .i64 p.id, .int .i64 p.fr, .int .i64 p.to, .int .i64 p.sz, .slice A4 m4 c4]) (t := 144) (fr := (0, 0)) (heap_alloc_new w4 _)) (by simp [Value.oneCell'])
                  (by omega) (by simp only [maxLen]; omega) (by omega) (by simp; omega) (w4.heap.size + 1) (by simp) ?_
                intro g5 c5 w5 hown5 hgrow hat hlt5
                have hHeld2 := hHeld
                refine hK.out _ _ (by rcases hHeld2 with ⟨q0, q1, q2, q3⟩; exact ⟨(hgrow.cell_far _ (by simp; omega) (fun e => hfar9 e.symm)).trans q0, (hgrow.cell_far _ (by simp; omega) (fun e => hfar9 e.symm)).trans q1, (hgrow.cell_far _ (by simp; omega) (fun e => hfar9 e.symm)).trans q2, (hgrow.cell_far _ (by simp; omega) (fun e => hfar9 e.symm)).trans q3⟩) (fun hHeld => ?_)
                clear hK K hHeld2
                have HW5 := Lib.hid (((hw7.out.kept (HB4.out.block _ hl2)).kept (((Below.refl w4.heap.size w4).alloc (Nat.le_refl _) (.cells #[.int .i64 (u : Int), .int .i64 p.id, .int .i64 p.fr, .int .i64 p.to, .int .i64 p.sz, .slice A4 m4 c4] 144)).block _ hl24)).kept (hgrow.block _ (by simp; omega) (fun e => hfar7 e.symm)))
                have hz5 : w4.heap.size + 1 ≤ w5.heap.size := (by have := hgrow.size; simp at this; omega)
                have v6 : w5.cell? ⟨w.heap.size + 1 + 1, 5, none⟩ = some (.slice A9 ks.length c9) := HW5.out.cell 5
                have f6 : w5.frozen? ⟨w.heap.size + 1 + 1, 5, none⟩ = false := frozen_of_row w5 _ 5 _ _ HW5.out
                refine wpAnyH_ready (rs := [10]) (by kernel_rfl) (by simp) ?_
                refine AllReadyH.cons rfl (fun K hK => ?_) AllReadyH.nil
                go_simp
                refine hK.out _ _ (by first | assumption | go_keep) (fun hHeld => ?_)
                clear hK K
                refine wpAnyH_ready (rs := [11]) (by kernel_rfl) (by simp) ?_
                refine AllReadyH.cons rfl (fun K hK => ?_) AllReadyH.nil
                go_simp
                have hHeld2 := hHeld
                refine hK.out _ _ (by rcases hHeld2 with ⟨q0, q1, q2, q3⟩; exact ⟨((setCell_off w5 (w.heap.size + 1 + 1) 5 _).cell_far _ (by show wr.heap.size < w5.heap.size; omega) (by intro e; simp at e; omega)).trans q0, ((setCell_off w5 (w.heap.size + 1 + 1) 5 _).cell_far _ (by show wr.heap.size < w5.heap.size; omega) (by intro e; simp at e; omega)).trans q1, ((setCell_off w5 (w.heap.size + 1 + 1) 5 _).cell_far _ (by show wr.heap.size < w5.heap.size; omega) (by intro e; simp at e; omega)).trans q2, ((setCell_off w5 (w.heap.size + 1 + 1) 5 _).cell_far _ (by show wr.heap.size < w5.heap.size; omega) (by intro e; simp at e; omega)).trans q3⟩) (fun hHeld => ?_)
                clear hK K hHeld2
                refine wpAnyH_done (by kernel_rfl) ?_ _
                have hH1 : (w4.alloc (.cells #[.int .i64 (u : Int), .int .i64 p.id, .int .i64 p.fr, .int .i64 p.to, .int .i64 p.sz, .slice A4 m4 c4] 144)).heap.size = w4.heap.size + 1 := (by simp)
                have HBL := Lib.hid ((((HB4.out.mono (show w.heap.size + 1 + 1 ≤ wr.heap.size by omega)).alloc (by omega) (.cells #[.int .i64 (u : Int), .int .i64 p.id, .int .i64 p.fr, .int .i64 p.to, .int .i64 p.sz, .slice A4 m4 c4] 144)).grown hgrow (by rw [hH1]; omega) (fun g hg => by have := hvb g hg; omega)).setCell (p := ⟨w.heap.size + 1 + 1, 5, none⟩) (Nat.le_refl _) (.slice (some ⟨g5, 0, none⟩) (ks.length + 1) c5))
                have HKN := Lib.hid ((KIn.push (B := w.heap.size + 1 + 1 + 1) (b0 := w3.heap.size) (k := (p, A4, c4)) ((hkin.out.below HB4.out).below ((Below.refl w4.heap.size w4).alloc (Nat.le_refl _) (.cells #[.int .i64 (u : Int), .int .i64 p.id, .int .i64 p.fr, .int .i64 p.to, .int .i64 p.sz, .slice A4 m4 c4] 144))) (by unfold bl6; simp only [HU.out, HM4.out]; exact hown5) hgrow (by rcases hat with h | h; exact .inl h.symm; exact .inr (by rw [hH1, h]; rfl)) (by simp only [HU.out]; exact HREP4.out.below ((Below.refl w4.heap.size w4).alloc (Nat.le_refl _) (.cells #[.int .i64 (u : Int), .int .i64 p.id, .int .i64 p.fr, .int .i64 p.to, .int .i64 p.sz, .slice A4 m4 c4] 144))) (by omega) (fun g hg => by have := hvb g hg; omega)).low (setCell_off w5 (w.heap.size + 1 + 1) 5 (.slice (some ⟨g5, 0, none⟩) (ks.length + 1) c5)) (by omega))
                have hle : (ks ++ [((p, A4, c4) : Kd)]).length = ks.length + 1 := (by simp)
                have HW6 := Lib.hid (HW5.out.set5 (.slice (some ⟨g5, 0, none⟩) (ks.length + 1) c5))
                clear hgrow hown5 hat hH1
                go_wp2_with fail
                go_roundw
                case rel => exact ⟨k + 1, some ⟨g5, 0, none⟩, c5, ks ++ [((p, A4, c4) : Kd)], by omega, by go_num, Lib.hid (by rw [HKS.out, ← hks.out]; simp), Lib.hid (by rw [hle]; exact HW6.out), Lib.hid (hw6.out.kept (HBL.out.block _ (by omega))), Lib.hid (hpc.out.kept (HBL.out.block _ (by omega))), Lib.hid (by rw [hle]; exact HKN.out), Lib.hid (hB.out.trans (HBL.out.mono (by omega))), Lib.hid (by have := hsz.out; simp; omega)⟩
                case measure => simp [intOf]; omega
              · go_simp
                go_at_call 214
                refine (HC.out _ (hB.out.trans (HB3.out.mono hB.out.size))).mono ?_
                rintro e w4 ⟨A4, c4, rfl, hrep4, hb4⟩
                have HREP4 := Lib.hid hrep4
                obtain ⟨m4, hm4⟩ : ∃ m4, (kidsL ps (u : Int) p).length = m4 := ⟨_, rfl⟩
                have HM4 := Lib.hid hm4
                rw [hm4]
                have HB4 := Lib.hid (HB3.out.trans (hb4.mono (by omega)))
                have hz4 : wr.heap.size + 1 ≤ w4.heap.size := (by have := hb4.size; omega)
                have v4 : w4.cell? ⟨w.heap.size + 1 + 1, 5, none⟩ = some (.slice A9 ks.length c9) := (HB4.out.cell hl2).trans vr
                have hl24 : w.heap.size + 1 + 1 < w4.heap.size := (by omega)
                have hHeld2 := hHeld
                refine hK.out _ _ (by rcases hHeld2 with ⟨q0, q1, q2, q3⟩; exact ⟨(hb4.cell (by show wr.heap.size < w3.heap.size; omega)).trans q0, (hb4.cell (by show wr.heap.size < w3.heap.size; omega)).trans q1, (hb4.cell (by show wr.heap.size < w3.heap.size; omega)).trans q2, (hb4.cell (by show wr.heap.size < w3.heap.size; omega)).trans q3⟩) (fun hHeld => ?_)
                clear hK K hHeld2
                clear hb4 hrep4 hm4
                refine wpAnyH_ready (rs := [1, 8]) (by kernel_rfl) (by simp) ?_
                refine AllReadyH.cons rfl (fun K hK => ?_) (AllReadyH.cons rfl (fun K hK => ?_) AllReadyH.nil)
                · go_simp
                  refine hK.out _ _ (by first | assumption | go_keep) (fun hHeld => ?_)
                  clear hK K
                  refine wpAnyH_ready (rs := [8]) (by kernel_rfl) (by simp) ?_
                  refine AllReadyH.cons rfl (fun K hK => ?_) AllReadyH.nil
                  go_simp
                  refine hK.out _ _ (by first | assumption | go_keep) (fun hHeld => ?_)
                  clear hK K
                  have v5 : (w4.alloc (.cells #[.int .i64 (u : Int), .int .i64 p.id, .int .i64 p.fr, .int .i64 p.to, .int .i64 p.sz, .slice A4 m4 c4] 144)).cell? ⟨w.heap.size + 1 + 1, 5, none⟩ = some (.slice A9 ks.length c9) := (((Below.refl w4.heap.size w4).alloc (Nat.le_refl _) _).cell hl24).trans v4
                  refine wpAnyH_ready (rs := [9]) (by kernel_rfl) (by simp) ?_
                  refine AllReadyH.cons rfl (fun K hK => ?_) AllReadyH.nil
                  refine step_append_lies _ (by rfl) _ _ _ (by rfl) (w.heap.size + 1 + 1 + 1) 144 i0 _ 6 64 Try.underlying142 hi0 hz0 hz1 hz2 rfl (by omega) (.slice A9 ks.length c9) ks.length (bls ps v ks) (by rfl) ((hkin.out.below HB4.out).own.alloc _)
                    ⟨w4.heap.size, 0, none⟩ 1 1 [.int .i64 (u : Int), .int .i64 p.id, .int .i64 p.fr, .int .i64 p.to, .int .i64 p.sz, .slice A4 m4 c4] (by rfl) (by rfl) (World.news_of_block (cs := #[.int .i64 (u : Int), .int .i64 p.id, .int .i64 p.fr, .int .i64 p.to, .int .i64 p.sz, .slice A4 m4 c4]) (t := 144) (fr := (0, 0)) (heap_alloc_new w4 _)) (by simp [Value.oneCell'])
                    (by omega) (by simp only [maxLen]; omega) (by omega) (by simp; omega) (w4.heap.size + 1) (by simp) ?_
                  intro g5 c5 w5 hown5 hgrow hat hlt5
                  have hHeld2 := hHeld
                  refine hK.out _ _ (by rcases hHeld2 with ⟨q0, q1, q2, q3⟩; exact ⟨(hgrow.cell_far _ (by simp; omega) (fun e => hfar9 e.symm)).trans q0, (hgrow.cell_far _ (by simp; omega) (fun e => hfar9 e.symm)).trans q1, (hgrow.cell_far _ (by simp; omega) (fun e => hfar9 e.symm)).trans q2, (hgrow.cell_far _ (by simp; omega) (fun e => hfar9 e.symm)).trans q3⟩) (fun hHeld => ?_)
                  clear hK K hHeld2
                  have HW5 := Lib.hid (((hw7.out.kept (HB4.out.block _ hl2)).kept (((Below.refl w4.heap.size w4).alloc (Nat.le_refl _) (.cells #[.int .i64 (u : Int), .int .i64 p.id, .int .i64 p.fr, .int .i64 p.to, .int .i64 p.sz, .slice A4 m4 c4] 144)).block _ hl24)).kept (hgrow.block _ (by simp; omega) (fun e => hfar7 e.symm)))
                  have hz5 : w4.heap.size + 1 ≤ w5.heap.size := (by have := hgrow.size; simp at this; omega)
                  have v6 : w5.cell? ⟨w.heap.size + 1 + 1, 5, none⟩ = some (.slice A9 ks.length c9) := HW5.out.cell 5
                  have f6 : w5.frozen? ⟨w.heap.size + 1 + 1, 5, none⟩ = false := frozen_of_row w5 _ 5 _ _ HW5.out
                  refine wpAnyH_ready (rs := [10]) (by kernel_rfl) (by simp) ?_
                  refine AllReadyH.cons rfl (fun K hK => ?_) AllReadyH.nil
                  go_simp
                  refine hK.out _ _ (by first | assumption | go_keep) (fun hHeld => ?_)
                  clear hK K
                  refine wpAnyH_ready (rs := [11]) (by kernel_rfl) (by simp) ?_
                  refine AllReadyH.cons rfl (fun K hK => ?_) AllReadyH.nil
                  go_simp
                  have hHeld2 := hHeld
                  refine hK.out _ _ (by rcases hHeld2 with ⟨q0, q1, q2, q3⟩; exact ⟨((setCell_off w5 (w.heap.size + 1 + 1) 5 _).cell_far _ (by show wr.heap.size < w5.heap.size; omega) (by intro e; simp at e; omega)).trans q0, ((setCell_off w5 (w.heap.size + 1 + 1) 5 _).cell_far _ (by show wr.heap.size < w5.heap.size; omega) (by intro e; simp at e; omega)).trans q1, ((setCell_off w5 (w.heap.size + 1 + 1) 5 _).cell_far _ (by show wr.heap.size < w5.heap.size; omega) (by intro e; simp at e; omega)).trans q2, ((setCell_off w5 (w.heap.size + 1 + 1) 5 _).cell_far _ (by show wr.heap.size < w5.heap.size; omega) (by intro e; simp at e; omega)).trans q3⟩) (fun hHeld => ?_)
                  clear hK K hHeld2
                  refine wpAnyH_done (by kernel_rfl) ?_ _
                  have hH1 : (w4.alloc (.cells #[.int .i64 (u : Int), .int .i64 p.id, .int .i64 p.fr, .int .i64 p.to, .int .i64 p.sz, .slice A4 m4 c4] 144)).heap.size = w4.heap.size + 1 := (by simp)
                  have HBL := Lib.hid ((((HB4.out.mono (show w.heap.size + 1 + 1 ≤ wr.heap.size by omega)).alloc (by omega) (.cells #[.int .i64 (u : Int), .int .i64 p.id, .int .i64 p.fr, .int .i64 p.to, .int .i64 p.sz, .slice A4 m4 c4] 144)).grown hgrow (by rw [hH1]; omega) (fun g hg => by have := hvb g hg; omega)).setCell (p := ⟨w.heap.size + 1 + 1, 5, none⟩) (Nat.le_refl _) (.slice (some ⟨g5, 0, none⟩) (ks.length + 1) c5))
                  have HKN := Lib.hid ((KIn.push (B := w.heap.size + 1 + 1 + 1) (b0 := w3.heap.size) (k := (p, A4, c4)) ((hkin.out.below HB4.out).below ((Below.refl w4.heap.size w4).alloc (Nat.le_refl _) (.cells #[.int .i64 (u : Int), .int .i64 p.id, .int .i64 p.fr, .int .i64 p.to, .int .i64 p.sz, .slice A4 m4 c4] 144))) (by unfold bl6; simp only [HU.out, HM4.out]; exact hown5) hgrow (by rcases hat with h | h; exact .inl h.symm; exact .inr (by rw [hH1, h]; rfl)) (by simp only [HU.out]; exact HREP4.out.below ((Below.refl w4.heap.size w4).alloc (Nat.le_refl _) (.cells #[.int .i64 (u : Int), .int .i64 p.id, .int .i64 p.fr, .int .i64 p.to, .int .i64 p.sz, .slice A4 m4 c4] 144))) (by omega) (fun g hg => by have := hvb g hg; omega)).low (setCell_off w5 (w.heap.size + 1 + 1) 5 (.slice (some ⟨g5, 0, none⟩) (ks.length + 1) c5)) (by omega))
                  have hle : (ks ++ [((p, A4, c4) : Kd)]).length = ks.length + 1 := (by simp)
                  have HW6 := Lib.hid (HW5.out.set5 (.slice (some ⟨g5, 0, none⟩) (ks.length + 1) c5))
                  clear hgrow hown5 hat hH1
                  go_wp2_with fail
                  go_roundw
                  case rel => exact ⟨k + 1, some ⟨g5, 0, none⟩, c5, ks ++ [((p, A4, c4) : Kd)], by omega, by go_num, Lib.hid (by rw [HKS.out, ← hks.out]; simp), Lib.hid (by rw [hle]; exact HW6.out), Lib.hid (hw6.out.kept (HBL.out.block _ (by omega))), Lib.hid (hpc.out.kept (HBL.out.block _ (by omega))), Lib.hid (by rw [hle]; exact HKN.out), Lib.hid (hB.out.trans (HBL.out.mono (by omega))), Lib.hid (by have := hsz.out; simp; omega)⟩
                  case measure => simp [intOf]; omega
                · go_simp
                  refine hK.out _ _ (by first | assumption | go_keep) (fun hHeld => ?_)
                  clear hK K
                  have v5 : (w4.alloc (.cells #[.int .i64 (u : Int), .int .i64 p.id, .int .i64 p.fr, .int .i64 p.to, .int .i64 p.sz, .slice A4 m4 c4] 144)).cell? ⟨w.heap.size + 1 + 1, 5, none⟩ = some (.slice A9 ks.length c9) := (((Below.refl w4.heap.size w4).alloc (Nat.le_refl _) _).cell hl24).trans v4
                  refine wpAnyH_ready (rs := [1]) (by kernel_rfl) (by simp) ?_
                  refine AllReadyH.cons rfl (fun K hK => ?_) AllReadyH.nil
                  go_simp
                  refine hK.out _ _ (by first | assumption | go_keep) (fun hHeld => ?_)
                  clear hK K
                  refine wpAnyH_ready (rs := [9]) (by kernel_rfl) (by simp) ?_
                  refine AllReadyH.cons rfl (fun K hK => ?_) AllReadyH.nil
                  refine step_append_lies _ (by rfl) _ _ _ (by rfl) (w.heap.size + 1 + 1 + 1) 144 i0 _ 6 64 Try.underlying142 hi0 hz0 hz1 hz2 rfl (by omega) (.slice A9 ks.length c9) ks.length (bls ps v ks) (by rfl) ((hkin.out.below HB4.out).own.alloc _)
                    ⟨w4.heap.size, 0, none⟩ 1 1 [.int .i64 (u : Int), .int .i64 p.id, .int .i64 p.fr, .int .i64 p.to, .int .i64 p.sz, .slice A4 m4 c4] (by rfl) (by rfl) (World.news_of_block (cs := #[.int .i64 (u : Int), .int .i64 p.id, .int .i64 p.fr, .int .i64 p.to, .int .i64 p.sz, .slice A4 m4 c4]) (t := 144) (fr := (0, 0)) (heap_alloc_new w4 _)) (by simp [Value.oneCell'])
                    (by omega) (by simp only [maxLen]; omega) (by omega) (by simp; omega) (w4.heap.size + 1) (by simp) ?_
                  intro g5 c5 w5 hown5 hgrow hat hlt5
                  have hHeld2 := hHeld
                  refine hK.out _ _ (by rcases hHeld2 with ⟨q0, q1, q2, q3⟩; exact ⟨(hgrow.cell_far _ (by simp; omega) (fun e => hfar9 e.symm)).trans q0, (hgrow.cell_far _ (by simp; omega) (fun e => hfar9 e.symm)).trans q1, (hgrow.cell_far _ (by simp; omega) (fun e => hfar9 e.symm)).trans q2, (hgrow.cell_far _ (by simp; omega) (fun e => hfar9 e.symm)).trans q3⟩) (fun hHeld => ?_)
                  clear hK K hHeld2
                  have HW5 := Lib.hid (((hw7.out.kept (HB4.out.block _ hl2)).kept (((Below.refl w4.heap.size w4).alloc (Nat.le_refl _) (.cells #[.int .i64 (u : Int), .int .i64 p.id, .int .i64 p.fr, .int .i64 p.to, .int .i64 p.sz, .slice A4 m4 c4] 144)).block _ hl24)).kept (hgrow.block _ (by simp; omega) (fun e => hfar7 e.symm)))
                  have hz5 : w4.heap.size + 1 ≤ w5.heap.size := (by have := hgrow.size; simp at this; omega)
                  have v6 : w5.cell? ⟨w.heap.size + 1 + 1, 5, none⟩ = some (.slice A9 ks.length c9) := HW5.out.cell 5
                  have f6 : w5.frozen? ⟨w.heap.size + 1 + 1, 5, none⟩ = false := frozen_of_row w5 _ 5 _ _ HW5.out
                  refine wpAnyH_ready (rs := [10]) (by kernel_rfl) (by simp) ?_
                  refine AllReadyH.cons rfl (fun K hK => ?_) AllReadyH.nil
                  go_simp
                  refine hK.out _ _ (by first | assumption | go_keep) (fun hHeld => ?_)
                  clear hK K
                  refine wpAnyH_ready (rs := [11]) (by kernel_rfl) (by simp) ?_
                  refine AllReadyH.cons rfl (fun K hK => ?_) AllReadyH.nil
                  go_simp
                  have hHeld2 := hHeld
                  refine hK.out _ _ (by rcases hHeld2 with ⟨q0, q1, q2, q3⟩; exact ⟨((setCell_off w5 (w.heap.size + 1 + 1) 5 _).cell_far _ (by show wr.heap.size < w5.heap.size; omega) (by intro e; simp at e; omega)).trans q0, ((setCell_off w5 (w.heap.size + 1 + 1) 5 _).cell_far _ (by show wr.heap.size < w5.heap.size; omega) (by intro e; simp at e; omega)).trans q1, ((setCell_off w5 (w.heap.size + 1 + 1) 5 _).cell_far _ (by show wr.heap.size < w5.heap.size; omega) (by intro e; simp at e; omega)).trans q2, ((setCell_off w5 (w.heap.size + 1 + 1) 5 _).cell_far _ (by show wr.heap.size < w5.heap.size; omega) (by intro e; simp at e; omega)).trans q3⟩) (fun hHeld => ?_)
                  clear hK K hHeld2
                  refine wpAnyH_done (by kernel_rfl) ?_ _
                  have hH1 : (w4.alloc (.cells #[.int .i64 (u : Int), .int .i64 p.id, .int .i64 p.fr, .int .i64 p.to, .int .i64 p.sz, .slice A4 m4 c4] 144)).heap.size = w4.heap.size + 1 := (by simp)
                  have HBL := Lib.hid ((((HB4.out.mono (show w.heap.size + 1 + 1 ≤ wr.heap.size by omega)).alloc (by omega) (.cells #[.int .i64 (u : Int), .int .i64 p.id, .int .i64 p.fr, .int .i64 p.to, .int .i64 p.sz, .slice A4 m4 c4] 144)).grown hgrow (by rw [hH1]; omega) (fun g hg => by have := hvb g hg; omega)).setCell (p := ⟨w.heap.size + 1 + 1, 5, none⟩) (Nat.le_refl _) (.slice (some ⟨g5, 0, none⟩) (ks.length + 1) c5))
                  have HKN := Lib.hid ((KIn.push (B := w.heap.size + 1 + 1 + 1) (b0 := w3.heap.size) (k := (p, A4, c4)) ((hkin.out.below HB4.out).below ((Below.refl w4.heap.size w4).alloc (Nat.le_refl _) (.cells #[.int .i64 (u : Int), .int .i64 p.id, .int .i64 p.fr, .int .i64 p.to, .int .i64 p.sz, .slice A4 m4 c4] 144))) (by unfold bl6; simp only [HU.out, HM4.out]; exact hown5) hgrow (by rcases hat with h | h; exact .inl h.symm; exact .inr (by rw [hH1, h]; rfl)) (by simp only [HU.out]; exact HREP4.out.below ((Below.refl w4.heap.size w4).alloc (Nat.le_refl _) (.cells #[.int .i64 (u : Int), .int .i64 p.id, .int .i64 p.fr, .int .i64 p.to, .int .i64 p.sz, .slice A4 m4 c4] 144))) (by omega) (fun g hg => by have := hvb g hg; omega)).low (setCell_off w5 (w.heap.size + 1 + 1) 5 (.slice (some ⟨g5, 0, none⟩) (ks.length + 1) c5)) (by omega))
                  have hle : (ks ++ [((p, A4, c4) : Kd)]).length = ks.length + 1 := (by simp)
                  have HW6 := Lib.hid (HW5.out.set5 (.slice (some ⟨g5, 0, none⟩) (ks.length + 1) c5))
                  clear hgrow hown5 hat hH1
                  go_wp2_with fail
                  go_roundw
                  case rel => exact ⟨k + 1, some ⟨g5, 0, none⟩, c5, ks ++ [((p, A4, c4) : Kd)], by omega, by go_num, Lib.hid (by rw [HKS.out, ← hks.out]; simp), Lib.hid (by rw [hle]; exact HW6.out), Lib.hid (hw6.out.kept (HBL.out.block _ (by omega))), Lib.hid (hpc.out.kept (HBL.out.block _ (by omega))), Lib.hid (by rw [hle]; exact HKN.out), Lib.hid (hB.out.trans (HBL.out.mono (by omega))), Lib.hid (by have := hsz.out; simp; omega)⟩
                  case measure => simp [intOf]; omega
      · have hkk : k = R.length := by omega
        subst hkk
        have hlen : ks.length = (kidsL ps (v : Int) q).length := by
          have h1 := hks.out
          rw [HAL.out] at h1
          rw [← h1, List.length_map]
        have HREP := Lib.hid (hkin.out.done (q := q) (by rw [hks.out, HAL.out]))
        have HLEN := Lib.hid hlen
        have t0 : wr.cell? ⟨w.heap.size + 1 + 1, 0, none⟩ = some (.int .i64 (v : Int)) := hw7.out.cell 0
        have t1 : wr.cell? ⟨w.heap.size + 1 + 1, 1, none⟩ = some (.int .i64 q.id) := hw7.out.cell 1
        have t2 : wr.cell? ⟨w.heap.size + 1 + 1, 2, none⟩ = some (.int .i64 q.fr) := hw7.out.cell 2
        have t3 : wr.cell? ⟨w.heap.size + 1 + 1, 3, none⟩ = some (.int .i64 q.to) := hw7.out.cell 3
        have t4 : wr.cell? ⟨w.heap.size + 1 + 1, 4, none⟩ = some (.int .i64 q.sz) := hw7.out.cell 4
        have t5 : wr.cell? ⟨w.heap.size + 1 + 1, 5, none⟩ = some (.slice A9 ks.length c9) := hw7.out.cell 5
        clear hlen
        go_wp2_with ((with_reducible refine wpB_store rfl _ _ rfl rfl (w.heap.size + 1) rfl v q A9 ks.length c9 rfl 0 ⟨0, 0, 0, 0⟩ none 0 0 hw6.out ?_); intro w7 he7 hg7; refine Hid.out ?_)
        have s0 : w7.cell? ⟨w.heap.size + 1, 0, none⟩ = some (.int .i64 (v : Int)) := he7.cell 0
        have s1 : w7.cell? ⟨w.heap.size + 1, 1, none⟩ = some (.int .i64 q.id) := he7.cell 1
        have s2 : w7.cell? ⟨w.heap.size + 1, 2, none⟩ = some (.int .i64 q.fr) := he7.cell 2
        have s3 : w7.cell? ⟨w.heap.size + 1, 3, none⟩ = some (.int .i64 q.to) := he7.cell 3
        have s4 : w7.cell? ⟨w.heap.size + 1, 4, none⟩ = some (.int .i64 q.sz) := he7.cell 4
        have s5 : w7.cell? ⟨w.heap.size + 1, 5, none⟩ = some (.slice A9 ks.length c9) := he7.cell 5
        have HB7 := Lib.hid (hB.out.grown hg7 hB.out.size (fun g hg => by simp at hg; omega))
        have HR7 := Lib.hid (RepIn.kept (Q := fun b => w.heap.size ≤ b) (fun b h _ => (show w.heap.size ≤ b by have h' : w.heap.size + 1 + 1 + 1 ≤ b := h; omega)) (fun b' hp' hlt' => hg7.block b' hlt' (fun e => by have h' : w.heap.size + 1 + 1 + 1 ≤ b' := hp'; simp at e; omega)) hg7.size _ _ _ _ HREP.out)
        clear hg7 he7
        refine Lib.hid ?_
        go_wp2
        refine bodyPost_ret (v := .agg #[.int .i64 (v : Int), .int .i64 q.id, .int .i64 q.fr, .int .i64 q.to, .int .i64 q.sz, .slice A9 ks.length c9]) (by simp [results, Try.results214, go_sem, s0, s1, s2, s3, s4, s5]) rfl ⟨A9, c9, by rw [HLEN.out], HR7.out, HB7.out⟩
end Go.Proofs.Ytgjogjmfpbinfaa.S2
