/- The model's l2Without: contracts. Conditions: each theorem's own premises. -/
import Derived.Test.YtlkomipjamelkabWoPl
namespace Go.Proofs.Ytlkomipjamelkab.S2
open Go.RowKit P2

section
variable {P : Program} (w : World)
theorem step_append_own {ops : Array Oper} {o : Oper} {a : Act} {K : Act → World → Prop} {Q : Exit → Act → World → Prop} {E : Prop} (hgd : o.guard = none) (s x : Operand) (t : TypeId)
    (ho : o.op = .call { callee := .builtin .append, args := #[s, x], argTypes := #[t, t] })
    (base : Nat) (e : TypeId) (i : TypeInfo) (z : Value) (size bytes : Nat) (ht : P.underlying t = some (.slice e)) (hi : P.info? e = some i) (hz : i.zero = some z)
    (hsize : i.size = size) (hby : i.bytes = bytes) (hzs : z.cells.size = size) (hsz : 0 < size)
    (v : Value) (n : Nat) (xs : List Value) (hs : a.eval s = v) (hown : w.ownsRow base e size v n xs)
    (ad : Addr) (m c : Nat) (news : List Value) (hx : a.eval x = .slice (some ad) m c) (hl : news.length = m * size) (hnews : ∀ j u, news[j]? = some u → w.cell? (ad.add j) = some u) (h1 : ∀ u ∈ news, u.oneCell' = true)
    (h63 : n + m ≤ maxLen) (hbytes : (n + m) * bytes ≤ 140737488355328) (hbase : base ≤ w.heap.size)
    (h : ∀ v' w', w'.ownsRow base e size v' (n + m) (xs ++ news) → w.grownBy w' v.ownBlock → (v' = .slice none 0 0 ↔ v = .slice none 0 0 ∧ m = 0) → K (a.put o.dst v') w') :
    if Region.wanted o (yielded ops a.tmps) = true then Oper.wp P o a w K Q else E := by
  have hw : Region.wanted o (yielded ops a.tmps) = true := by simp [Region.wanted, hgd]
  rw [if_pos hw]
  exact wp_append_own w s x t ho base e i z size bytes ht hi hz hsize hby hzs hsz v n xs hs hown ad m c news hx hl hnews h1 h63 hbytes hbase h
end
theorem own_emptyP (w : World) (B : Nat) (hB : B ≤ w.heap.size) : (w.alloc (.cells #[] 40)).ownsRow B 40 4 (.slice (some ⟨w.heap.size, 0, none⟩) 0 0) 0 [] :=
  ⟨rfl, .inr ⟨w.heap.size, 0, #[], rfl, hB, by simpa using (MapKept.heap_alloc w (.cells #[] 40)).1, Nat.le_refl _, Nat.zero_le _, rfl, rfl⟩⟩
theorem pcs_one (ps : List Pp) : ∀ u ∈ pcs ps, u.oneCell' = true := by
  intro u hu
  obtain ⟨p, _, hp⟩ := List.mem_flatMap.1 hu
  simp [pcs4] at hp
  rcases hp with rfl | rfl | rfl | rfl <;> rfl
theorem pat_part {w w' : World} {b off : Nat} {ps qs : List Pp} (k : Nat) (h : PAt w (some ⟨b, off, none⟩) ps) (hbl : b < w.heap.size) (hb : Below w.heap.size w w') (hq : ∀ q, q < qs.length → k + q < ps.length ∧ pAt qs q = pAt ps (k + q)) :
    ∀ j u, (pcs qs)[j]? = some u → w'.cell? ((⟨b, off + k * 4, none⟩ : Addr).add j) = some u := by
  intro j u hu
  have hadd : (⟨b, off + k * 4, none⟩ : Addr).add j = ⟨b, off + k * 4 + j, none⟩ := by unfold Addr.add; split <;> simp_all
  rw [hadd, hb.cell (p := ⟨b, off + k * 4 + j, none⟩) hbl]
  have hjl : j < (pcs qs).length := (List.getElem?_eq_some_iff.1 hu).1
  rw [pcs_len] at hjl
  obtain ⟨q, r, hr, rfl⟩ : ∃ q r, r < 4 ∧ j = q * 4 + r := ⟨j / 4, j % 4, Nat.mod_lt _ (by omega), by omega⟩
  obtain ⟨h1, h2⟩ := hq q (by omega)
  rw [pcs_get qs q (by omega) r hr, h2] at hu
  rcases h with h | ⟨b', off', hA, _, h⟩
  · subst h; simp at h1
  · injection hA with hA
    injection hA with e1 e2 _
    subst e1; subst e2
    obtain ⟨c0, c1, c2, c3⟩ := h (k + q) h1
    have e : off + k * 4 + (q * 4 + r) = off + (k + q) * 4 + r := by omega
    rw [e]
    match r, hr, hu with
    | 0, _, hu => rw [← (Option.some.inj hu)]; exact c0
    | 1, _, hu => rw [← (Option.some.inj hu)]; exact c1
    | 2, _, hu => rw [← (Option.some.inj hu)]; exact c2
    | 3, _, hu => rw [← (Option.some.inj hu)]; exact c3
theorem pat_take {w w' : World} {b off i : Nat} {ps : List Pp} (h : PAt w (some ⟨b, off, none⟩) ps) (hbl : b < w.heap.size) (hb : Below w.heap.size w w') (hi : i ≤ ps.length) :
    ∀ j u, (pcs (ps.take i))[j]? = some u → w'.cell? ((⟨b, off, none⟩ : Addr).add j) = some u := by
  have := pat_part (qs := ps.take i) 0 h hbl hb (fun q hq => by
    rw [List.length_take] at hq
    refine ⟨by omega, ?_⟩
    have hqi : q < i := by omega
    simp [pAt, List.getD, hqi])
  simpa using this
theorem pat_drop {w w' : World} {b off i : Nat} {ps : List Pp} (h : PAt w (some ⟨b, off, none⟩) ps) (hbl : b < w.heap.size) (hb : Below w.heap.size w w') :
    ∀ j u, (pcs (ps.drop i))[j]? = some u → w'.cell? ((⟨b, off + i * 4, none⟩ : Addr).add j) = some u :=
  pat_part (qs := ps.drop i) i h hbl hb (fun q hq => by
    rw [List.length_drop] at hq
    refine ⟨by omega, ?_⟩
    simp [pAt, List.getD, List.getElem?_drop])

set_option maxHeartbeats 4000000 in
set_option maxRecDepth 100000 in
theorem swo_any (N i b off n cap : Nat) (ps : List Pp) (w : World) (h : PAt w (some ⟨b, off, none⟩) ps) (hn : ps.length = n) (hi : i < n) (hc : n ≤ cap) (hl : n ≤ 10) :
    Calls Try.prog 99 #[nv N (some ⟨b, off, none⟩) n cap, .int .i64 (i : Int)] w fun e w' => ∃ g c, e = .returned (nv N (some ⟨g, 0, none⟩) (n - 1) c) ∧ w.heap.size ≤ g ∧ n - 1 ≤ c ∧ PAt w' (some ⟨g, 0, none⟩) (ps.take i ++ ps.drop (i + 1)) ∧ Below w.heap.size w w' := by
  have HA := Lib.hid h
  obtain ⟨i0, hi0, hz0, hz1, hz2⟩ := info_parts infoP
  have hi1 : (0 : Int) ≤ (i : Int) := by omega
  have hi2 : (i : Int) < (n : Int) := by omega
  have hi3 : (i : Int) ≤ (cap : Int) := by omega
  have hi4 : (i : Int) + 1 ≤ (n : Int) := by omega
  have hi5 : (n : Int) ≤ (cap : Int) := by omega
  have hi6 : (0 : Int) ≤ (i : Int) + 1 := by omega
  obtain ⟨a2, ha2, ha3⟩ : ∃ a2 : Addr, (if cap = i + 1 then some (⟨b, off, none⟩ : Addr) else some ⟨b, off + (i + 1) * 4, none⟩) = some a2 ∧ (cap ≠ i + 1 → a2 = ⟨b, off + (i + 1) * 4, none⟩) := by
    by_cases e : cap = i + 1
    · exact ⟨_, by rw [if_pos e], fun h => absurd e h⟩
    · exact ⟨_, by rw [if_neg e], fun _ => rfl⟩
  have hw1 : IntKind.i64.wrap ((i : Int) + 1) = (i : Int) + 1 := IntWalk.i64_in _ (by omega)
  have hbl : b < w.heap.size := by
    rcases h with h | ⟨b', off', hA, hlt, _⟩
    · rw [h] at hn; simp at hn; omega
    · injection hA with hA; injection hA with hb' _ _; rw [hb']; exact hlt
  clear h
  go_enter Try.func99, Try.ntmps99
  go_wp2
  refine wp_region_held_drew (S := fun w' => w'.cell? ⟨w.heap.size, 0, none⟩ = some (.int .i64 N) ∧ w'.cell? ⟨w.heap.size, 1, none⟩ = some (.slice (some ⟨b, off, none⟩) n cap)) (by kernel_rfl) (by go_keep) (fun hHeld => ?_)
  refine wpAnyH_take (i := 0) (v := .pointer (some ⟨w.heap.size, 0, none⟩)) rfl (by kernel_rfl) (by kernel_rfl) (by kernel_rfl) (fun _ _ _ h => h) (Or.inl ⟨by rfl, ?_⟩) (by assumption) ?_
  · (intro w hSw; (try dsimp only at hSw); go_simp)
  simp only [Act.put, List.setIfInBounds_toArray]
  refine wpAnyH_take (i := 1) (v := .int .i64 (N : Int)) rfl (by kernel_rfl) (by kernel_rfl) (by kernel_rfl) (fun _ _ _ h => h) (Or.inl ⟨by rfl, ?_⟩) (by assumption) ?_
  · (intro w hSw; (try dsimp only at hSw); go_simp)
  simp only [Act.put]
  refine wpAnyH_take (i := 3) (v := .pointer (some ⟨w.heap.size, 1, none⟩)) rfl (by kernel_rfl) (by kernel_rfl) (by kernel_rfl) (fun _ _ _ h => h) (Or.inl ⟨by rfl, ?_⟩) (by assumption) ?_
  · (intro w hSw; (try dsimp only at hSw); go_simp)
  simp only [Act.put]
  refine wpAnyH_take (i := 4) (v := .slice (some ⟨b, off, none⟩) n cap) rfl (by kernel_rfl) (by kernel_rfl) (by kernel_rfl) (fun _ _ _ h => h) (Or.inl ⟨by rfl, ?_⟩) (by assumption) ?_
  · (intro w hSw; (try dsimp only at hSw); go_simp)
  simp only [Act.put]
  refine wpAnyH_take (i := 5) (v := .int .i64 (i : Int)) rfl (by kernel_rfl) (by kernel_rfl) (by kernel_rfl) (fun _ _ _ h => h) (Or.inl ⟨by rfl, ?_⟩) (by assumption) ?_
  · (intro w hSw; (try dsimp only at hSw); go_simp)
  simp only [Act.put]
  refine wpAnyH_take (i := 6) (v := .slice (some ⟨b, off, none⟩) i cap) rfl (by kernel_rfl) (by kernel_rfl) (by kernel_rfl) (fun _ _ _ h => h) (Or.inl ⟨by rfl, ?_⟩) (by assumption) ?_
  · (intro w hSw; (try dsimp only at hSw); go_simp)
  simp only [Act.put]
  refine wpAnyH_take (i := 8) (v := .pointer (some ⟨w.heap.size, 1, none⟩)) rfl (by kernel_rfl) (by kernel_rfl) (by kernel_rfl) (fun _ _ _ h => h) (Or.inl ⟨by rfl, ?_⟩) (by assumption) ?_
  · (intro w hSw; (try dsimp only at hSw); go_simp)
  simp only [Act.put]
  refine wpAnyH_take (i := 9) (v := .slice (some ⟨b, off, none⟩) n cap) rfl (by kernel_rfl) (by kernel_rfl) (by kernel_rfl) (fun _ _ _ h => h) (Or.inl ⟨by rfl, ?_⟩) (by assumption) ?_
  · (intro w hSw; (try dsimp only at hSw); go_simp)
  simp only [Act.put]
  refine wpAnyH_take (i := 10) (v := .int .i64 (i : Int)) rfl (by kernel_rfl) (by kernel_rfl) (by kernel_rfl) (fun _ _ _ h => h) (Or.inl ⟨by rfl, ?_⟩) (by assumption) ?_
  · (intro w hSw; (try dsimp only at hSw); go_simp)
  simp only [Act.put]
  refine wpAnyH_take (i := 11) (v := .int .i64 ((i : Int) + 1)) rfl (by kernel_rfl) (by kernel_rfl) (by kernel_rfl) (fun _ _ _ h => h) (Or.inl ⟨by rfl, ?_⟩) (by assumption) ?_
  · (intro w hSw; (try dsimp only at hSw); go_simp)
  simp only [Act.put]
  refine wpAnyH_take (i := 12) (v := .slice (some a2) (n - (i + 1)) (cap - (i + 1))) rfl (by kernel_rfl) (by kernel_rfl) (by kernel_rfl) (fun _ _ _ h => h) (Or.inl ⟨by rfl, ?_⟩) (by assumption) ?_
  · (intro w hSw; (try dsimp only at hSw); go_simp)
  simp only [Act.put]
  refine wpAnyH_ready (rs := [2]) (by kernel_rfl) (by simp) ?_
  refine AllReadyH.cons rfl (fun K hK => ?_) AllReadyH.nil
  go_simp
  refine hK.out _ _ (by first | assumption | go_keep) (fun hHeld => ?_)
  clear hK K
  have hB2 : Below w.heap.size w (((w.alloc (.cells #[.int .i64 N, .slice (some ⟨b, off, none⟩) n cap] 26)).alloc (.cells #[.int .i64 0, .slice none 0 0] 26)).alloc (.cells #[] 40)).drew := ((((Below.refl _ _).alloc (Nat.le_refl _) _).alloc (by simp) _).alloc (by simp; omega) _).drew
  have hE := own_emptyP ((w.alloc (.cells #[.int .i64 N, .slice (some ⟨b, off, none⟩) n cap] 26)).alloc (.cells #[.int .i64 0, .slice none 0 0] 26)) (w.heap.size + 2) (by simp)
  have hE2 : (((w.alloc (.cells #[.int .i64 N, .slice (some ⟨b, off, none⟩) n cap] 26)).alloc (.cells #[.int .i64 0, .slice none 0 0] 26)).alloc (.cells #[] 40)).drew.ownsRow (w.heap.size + 2) 40 4 (.slice (some ⟨w.heap.size + 2, 0, none⟩) 0 0) 0 [] := by
    have h2 : (((w.alloc (.cells #[.int .i64 N, .slice (some ⟨b, off, none⟩) n cap] 26)).alloc (.cells #[.int .i64 0, .slice none 0 0] 26)).alloc (.cells #[] 40)).ownsRow (w.heap.size + 2) 40 4 (.slice (some ⟨w.heap.size + 2, 0, none⟩) 0 0) 0 [] := by simpa using hE
    exact h2
  clear hE
  refine wpAnyH_ready (rs := [7]) (by kernel_rfl) (by simp) ?_
  refine AllReadyH.cons rfl (fun K hK => ?_) AllReadyH.nil
  refine step_append_own _ (by rfl) _ _ _ (by rfl) (w.heap.size + 2) 40 i0 _ 4 32 Try.underlying24 hi0 hz0 hz1 hz2 rfl (by omega) (.slice (some ⟨w.heap.size + 2, 0, none⟩) 0 0) 0 ([]) (by simp [go_sem]) (hE2)
    ⟨b, off, none⟩ i (cap) (pcs (ps.take i)) (by simp [go_sem]) (by rw [pcs_len, List.length_take]; omega) (pat_take HA.out hbl hB2 (by omega)) (pcs_one _) (by simp only [maxLen]; omega) (by omega) (by simp) ?_
  intro v1 w1 hownw1 hgroww1 hnilw1
  have hHeld2 := hHeld
  refine hK.out _ _ (by rcases hHeld2 with ⟨q0, q1⟩; exact ⟨(hgroww1.cell_far _ (by simp; omega) (by simp [Value.ownBlock])).trans q0, (hgroww1.cell_far _ (by simp; omega) (by simp [Value.ownBlock])).trans q1⟩) (fun hHeld => ?_)
  clear hK K hHeld2
  have hB3 := hB2.grown hgroww1 (by simp; omega) (fun g hg => by simp [Value.ownBlock] at hg; omega)
  have hv1 : v1 ≠ .slice none 0 0 := fun e => by simp [e] at hnilw1
  have hz3 := hgroww1.size
  simp at hz3
  have hcells : ∀ j u, (pcs (ps.drop (i + 1)))[j]? = some u → w1.cell? (a2.add j) = some u := by
    intro j u hu
    by_cases e : cap = i + 1
    · rw [List.drop_eq_nil_of_le (by omega)] at hu; simp [pcs] at hu
    · rw [ha3 e]; exact pat_drop HA.out hbl hB3 j u hu
  refine wpAnyH_ready (rs := [13]) (by kernel_rfl) (by simp) ?_
  refine AllReadyH.cons rfl (fun K hK => ?_) AllReadyH.nil
  refine step_append_own _ (by rfl) _ _ _ (by rfl) (w.heap.size + 2) 40 i0 _ 4 32 Try.underlying24 hi0 hz0 hz1 hz2 rfl (by omega) (v1) (0 + i) ([] ++ pcs (ps.take i)) (by simp [go_sem]) (hownw1)
    a2 (n - (i + 1)) (cap - (i + 1)) (pcs (ps.drop (i + 1))) (by simp [go_sem]) (by rw [pcs_len, List.length_drop]; omega) (hcells) (pcs_one _) (by simp only [maxLen]; omega) (by omega) (by omega) ?_
  intro v2 w2 hownw2 hgroww2 hnilw2
  have hHeld2 := hHeld
  refine hK.out _ _ (by rcases hHeld2 with ⟨q0, q1⟩; exact ⟨(hgroww2.cell_far _ (by dsimp only; omega) (fun e => by have := (hownw1.lt _ e.symm).1; dsimp only at this; omega)).trans q0, (hgroww2.cell_far _ (by dsimp only; omega) (fun e => by have := (hownw1.lt _ e.symm).1; dsimp only at this; omega)).trans q1⟩) (fun hHeld => ?_)
  clear hK K hHeld2
  have hB4 := hB3.grown hgroww2 (by omega) (fun g hg => by have := (hownw1.lt _ hg).1; omega)
  have hv2 : v2 ≠ .slice none 0 0 := fun e => by simp [e, hv1] at hnilw2
  have hf1 : some (w.heap.size + 1) ≠ v1.ownBlock := fun e => by have := (hownw1.lt _ e.symm).1; omega
  have hf0 : some (w.heap.size + 1) ≠ (Value.slice (some ⟨w.heap.size + 2, 0, none⟩) 0 0).ownBlock := by simp [Value.ownBlock]
  have c0 : w2.cell? ⟨w.heap.size + 1, 0, none⟩ = some (.int .i64 0) := (hgroww2.cell_far _ (by dsimp only; omega) hf1).trans ((hgroww1.cell_far _ (by simp) hf0).trans (by go_simp))
  have fz0 : w2.frozen? ⟨w.heap.size + 1, 0, none⟩ = false := (hgroww2.frozen_far _ (by dsimp only; omega) hf1).trans ((hgroww1.frozen_far _ (by simp) hf0).trans (by go_simp))
  have c1 : w2.cell? ⟨w.heap.size + 1, 1, none⟩ = some (.slice none 0 0) := (hgroww2.cell_far _ (by dsimp only; omega) hf1).trans ((hgroww1.cell_far _ (by simp) hf0).trans (by go_simp))
  have fz1 : w2.frozen? ⟨w.heap.size + 1, 1, none⟩ = false := (hgroww2.frozen_far _ (by dsimp only; omega) hf1).trans ((hgroww1.frozen_far _ (by simp) hf0).trans (by go_simp))
  obtain ⟨g2, cp2, hv2e, hg2, hcp2⟩ : ∃ g cap, v2 = .slice (some ⟨g, 0, none⟩) (n - 1) cap ∧ w.heap.size + 2 ≤ g ∧ n - 1 ≤ cap := by
    rcases hownw2.2 with ⟨h, _⟩ | ⟨g, cap, cur, hv, hb, _, hcap, _⟩
    · exact absurd h hv2
    · exact ⟨g, cap, by rw [hv]; congr 1; omega, hb, by omega⟩
  subst hv2e
  have hlen : (ps.take i ++ ps.drop (i + 1)).length = n - 1 := by rw [List.length_append, List.length_take, List.length_drop]; omega
  have hown3 := Lib.hid (show w2.ownsRow (w.heap.size + 2) 40 4 (.slice (some ⟨g2, 0, none⟩) (n - 1) cp2) (n - 1) (pcs (ps.take i ++ ps.drop (i + 1))) by
    have e : 0 + i + (n - (i + 1)) = n - 1 := by omega
    rw [e] at hownw2
    have e2 : pcs (ps.take i ++ ps.drop (i + 1)) = [] ++ pcs (ps.take i) ++ pcs (ps.drop (i + 1)) := by simp [pcs, List.flatMap_append]
    rw [e2]; exact hownw2)
  have HB4 := Lib.hid hB4
  clear hownw2 hownw1 hcells hE2 hB2 hB3 hB4
  refine wpAnyH_ready (rs := [14]) (by kernel_rfl) (by simp) ?_
  refine AllReadyH.cons rfl (fun K hK => ?_) AllReadyH.nil
  go_simp
  refine hK.out _ _ (by first | assumption | go_keep) (fun hHeld => ?_)
  clear hK K
  refine wpAnyH_ready (rs := [15]) (by kernel_rfl) (by simp) ?_
  refine AllReadyH.cons rfl (fun K hK => ?_) AllReadyH.nil
  go_simp
  refine hK.out _ _ (by first | assumption | go_keep) (fun hHeld => ?_)
  clear hK K
  refine wpAnyH_done (by kernel_rfl) ?_ _
  go_wp2
  refine bodyPost_ret (v := nv N (some ⟨g2, 0, none⟩) (n - 1) cp2) (by simp [results, Try.results99, go_sem, c0, c1]) rfl ⟨g2, cp2, rfl, by omega, hcp2, ?_, ?_⟩
  · have h5 := ownsRow_setCell_below (ownsRow_setCell_below hown3.out (a := ⟨w.heap.size + 1, 0, none⟩) (by show w.heap.size + 1 < w.heap.size + 2; omega) (.int .i64 N)) (a := ⟨w.heap.size + 1, 1, none⟩) (by show w.heap.size + 1 < w.heap.size + 2; omega) (.slice (some ⟨g2, 0, none⟩) (n - 1) cp2)
    refine own_pat (B := w.heap.size + 2) (cap := cp2) ?_
    rw [hlen]
    exact h5
  · exact (HB4.out.setCell (p := ⟨w.heap.size + 1, 0, none⟩) (by show w.heap.size ≤ w.heap.size + 1; omega) _).setCell (p := ⟨w.heap.size + 1, 1, none⟩) (by show w.heap.size ≤ w.heap.size + 1; omega) _
theorem sw_all (N i cap : Nat) (A : Option Addr) (ps : List Pp) (w : World) (h : PAt w A ps) (hi : i < ps.length) (hc : ps.length ≤ cap) (hl : ps.length ≤ 10) :
    Calls Try.prog 99 #[nv N A ps.length cap, .int .i64 (i : Int)] w fun e w' => ∃ A2 c, e = .returned (nv N A2 (wo ps i).length c) ∧ PAt w' A2 (wo ps i) ∧ Below w.heap.size w w' := by
  obtain ⟨b, off, hA, _⟩ := h.at_ hi
  subst hA
  refine (swo_any N i b off ps.length cap ps w h rfl hi (by omega) hl).mono ?_
  rintro e w' ⟨g, c, rfl, _, _, hp, hb⟩
  exact ⟨_, c, by rw [wo_len ps i hi], hp, hb⟩
theorem sw_cap (N i cap : Nat) (A : Option Addr) (ps : List Pp) (w : World) (h : PAt w A ps) (hi : i < ps.length) (hc : ps.length ≤ cap) (hl : ps.length ≤ 10) :
    Calls Try.prog 99 #[nv N A ps.length cap, .int .i64 (i : Int)] w fun e w' => ∃ A2 c, e = .returned (nv N A2 (wo ps i).length c) ∧ PAt w' A2 (wo ps i) ∧ (wo ps i).length ≤ c ∧ Below w.heap.size w w' := by
  obtain ⟨b, off, hA, _⟩ := h.at_ hi
  subst hA
  refine (swo_any N i b off ps.length cap ps w h rfl hi (by omega) hl).mono ?_
  rintro e w' ⟨g, c, rfl, _, hcc, hp, hb⟩
  exact ⟨_, c, by rw [wo_len ps i hi], hp, by rw [wo_len ps i hi]; exact hcc, hb⟩
end Go.Proofs.Ytlkomipjamelkab.S2
