/- The model's l1Put: contracts. Conditions: each theorem's own premises. -/
import Derived.Test.YtlkomipjamelkabPutOne
import Derived.Laws.NewBlocks
namespace Go.Proofs.Ytlkomipjamelkab.S2
open Go.RowKit P2

theorem cell_take {w W : World} {b off k : Nat} {l : List Int} (hb : Below w.heap.size w W) (hc : Hid (∀ i, i < l.length → w.cell? ⟨b, off + i, none⟩ = some (iv (l.getD i 0)))) (hl : b < w.heap.size) (j : Nat) (hj : j < (l.take k).length) : W.cell? ((⟨b, off, none⟩ : Addr).add j) = some (iv ((l.take k).getD j 0)) := by
  have e : (⟨b, off, none⟩ : Addr).add j = ⟨b, off + j, none⟩ := by unfold Addr.add; split <;> simp_all
  have hj2 : j < k ∧ j < l.length := by simp at hj; omega
  rw [e, hb.cell (p := ⟨b, off + j, none⟩) hl, hc.out j hj2.2]
  simp [List.getD, hj2.1]
theorem cell_drop {w W : World} {b off o2 k : Nat} {l : List Int} (hb : Below w.heap.size w W) (hc : Hid (∀ i, i < l.length → w.cell? ⟨b, off + i, none⟩ = some (iv (l.getD i 0)))) (hl : b < w.heap.size) (ho : o2 = off + k ∨ l.length ≤ k) (j : Nat) (hj : j < (l.drop k).length) : W.cell? ((⟨b, o2, none⟩ : Addr).add j) = some (iv ((l.drop k).getD j 0)) := by
  have hj2 : k + j < l.length := by simp at hj; omega
  have ho2 : o2 = off + k := by rcases ho with h | h; exact h; omega
  subst ho2
  have e : (⟨b, off + k, none⟩ : Addr).add j = ⟨b, off + (k + j), none⟩ := by unfold Addr.add; split <;> simp_all [Nat.add_assoc]
  rw [e, hb.cell (p := ⟨b, off + (k + j), none⟩) hl, hc.out (k + j) hj2]
  simp [List.getD, List.getElem?_drop]
theorem own_empty1 (w : World) (P : Obj) : IOwn (((w.alloc P).alloc (.cells #[] 3)).drew) w.heap.size (.slice (some ⟨w.heap.size + 1, 0, none⟩) 0 0) [] := by
  have h := own_empty (w.alloc P) w.heap.size (by simp)
  rw [show (w.alloc P).heap.size = w.heap.size + 1 by simp] at h
  exact h
theorem cell_one (w : World) (x : Value) (t : TypeId) : (w.alloc (.cells #[x] t)).cell? ((⟨w.heap.size, 0, none⟩ : Addr).add 0) = some x := by
  show (w.alloc (.cells #[x] t)).cell? ⟨w.heap.size, 0, none⟩ = some x
  rw [World.cell?_alloc_new]; rfl
theorem cell_new1 (w : World) (P : Obj) (x : Value) (t : TypeId) : ((w.alloc P).alloc (.cells #[x] t)).drew.cell? ⟨w.heap.size + 1, 0, none⟩ = some x := by
  show ((w.alloc P).alloc (.cells #[x] t)).cell? ⟨w.heap.size + 1, 0, none⟩ = some x
  rw [World.cell?_alloc_at _ _ _ _ (by simp)]; rfl
theorem cell_new0 (w : World) (x : Value) (t : TypeId) (P : Obj) : ((w.alloc (.cells #[x] t)).alloc P).drew.cell? ⟨w.heap.size, 0, none⟩ = some x := by
  show ((w.alloc (.cells #[x] t)).alloc P).cell? ⟨w.heap.size, 0, none⟩ = some x
  rw [World.cell?_alloc_lt _ _ _ (by simp), World.cell?_alloc_new]; rfl

/-- It returns a slice that reads as the list with the number put in its place. -/
def PutPost (b : Nat) (l : List Int) (x : Int) (w : World) (e : Ending) (w' : World) : Prop :=
  ∃ r g o c, e = .returned (.slice (some ⟨g, o, none⟩) r.length c) ∧ r.length ≤ c ∧ c ≤ maxLen ∧ PutOk l x r ∧ g < w'.heap.size ∧ (∀ i, i < r.length → w'.cell? ⟨g, o + i, none⟩ = some (iv (r.getD i 0))) ∧ Below w.heap.size w w' ∧ (w.heap.size ≤ g ∧ o = 0 ∧ IOwn w' w.heap.size (.slice (some ⟨g, o, none⟩) r.length c) r ∨ x ∈ l ∧ g = b)
theorem put_end {b : Nat} {w w4 : World} {v : Value} {l : List Int} {x : Int} {k : Nat} (ho : IOwn w4 w.heap.size v ([] ++ l.take k ++ [x] ++ l.drop k)) (hv : v ≠ .slice none 0 0) (hp : PutOk l x (l.take k ++ [x] ++ l.drop k)) (hb : Below w.heap.size w w4) : PutPost b l x w (.returned v) w4 := by
  rw [List.nil_append] at ho
  obtain ⟨g, cap, rfl, hg⟩ := own_slice ho hv
  have hc : (l.take k ++ [x] ++ l.drop k).length ≤ cap ∧ cap ≤ maxLen := by
    rcases ho.2 with ⟨h, _⟩ | ⟨g', c', cur, h, _, _, hle, hm, _⟩
    · cases h
    · injection h with _ _ h3
      rw [h3]; exact ⟨hle, hm⟩
  refine ⟨_, g, 0, cap, rfl, hc.1, hc.2, hp, (World.ownsRow.lt ho g rfl).2, fun i hi => ?_, hb, .inl ⟨hg, rfl, ho⟩⟩
  rcases ho.iat with h | ⟨b, off, h, _, h2⟩
  · rw [h] at hi; simp at hi
  · simp only [Option.some.injEq, Addr.mk.injEq, and_true] at h
    obtain ⟨rfl, rfl⟩ := h
    exact h2 i hi

set_option maxHeartbeats 8000000 in
set_option maxRecDepth 100000 in
theorem put_any (b off c : Nat) (l : List Int) (x : Int) (w : World) (hbl : b < w.heap.size) (hcell : ∀ i, i < l.length → w.cell? ⟨b, off + i, none⟩ = some (iv (l.getD i 0))) (hlc : l.length ≤ c) (hcm : c ≤ maxLen) (hn : l.length ≤ 1000) (hs : l.Pairwise (· < ·)) :
    Calls Try.prog 154 #[.slice (some ⟨b, off, none⟩) l.length c, .int .i64 x] w (PutPost b l x w) := by
  have HC := Lib.hid hcell
  have HS := Lib.hid hs
  have HCM := Lib.hid hcm
  have hcm' : (c : Int) ≤ 9223372036854775807 := by unfold maxLen at hcm; omega
  obtain ⟨i0, hi, hz0, hz1, hz2⟩ := info_parts infoI
  clear hcell hs hcm
  go_enter Try.func154, Try.ntmps154
  go_wp2
  go_loop [5] (fun i => ∃ k : Nat, k ≤ l.length ∧ i = .int .i64 k ∧ Hid (∀ i, i < k → i < l.length → l.getD i 0 < x)) (fun i => l.length - (intOf i).toNat)
  case atStart => exact ⟨0, Nat.zero_le _, rfl, Lib.hid (fun i h => absurd h (by omega))⟩
  case round =>
    obtain ⟨k, hk, rfl, hlo⟩ := hrel
    have hk0 : (0 : Int) ≤ (k : Int) := by omega
    have hkc : (k : Int) ≤ (c : Int) := by omega
    have hkc' : k ≤ c := by omega
    by_cases hlt : k < l.length
    · have h0 := HC.out k hlt
      have hkl : (k : Int) < (l.length : Int) := by omega
      have HNE := Lib.hid (fun h1 h2 => put_new l x k hk hlo.out (fun _ => ⟨h1, h2⟩) HS.out)
      have HST := Lib.hid (show l.getD k 0 < x → ∀ i, i < k + 1 → i < l.length → l.getD i 0 < x from fun h i hi hl => by
        by_cases e : i = k
        · rw [e]; exact h
        · exact hlo.out i (by omega) hl)
      have HMEM := Lib.hid (getD_mem l k hlt)
      generalize l.getD k 0 = y at *
      by_cases hy : y < x
      · have hst := Lib.hid (HST.out hy)
        go_wp2
        go_round
        case rel => exact ⟨k + 1, by omega, by go_num, hst⟩
        case measure => simp [intOf]; omega
      · by_cases hyx : y = x
        · have hE : (y == x) = true := by simpa using hyx
          have hm := Lib.hid (show x ∈ l by rw [← hyx]; exact HMEM.out)
          clear hyx
          go_wp2
          go_ret
          exact ⟨l, b, off, c, rfl, hlc, HCM.out, put_same l x hm.out, hbl, HC.out, Below.refl _ _, .inr ⟨hm.out, rfl⟩⟩
        · have hE : (y == x) = false := by simpa using hyx
          have HP := Lib.hid (HNE.out hyx hy)
          have hck : ¬ c = k := by omega
          clear hyx
          go_wp2
          refine wp_region_held_drew (S := fun _ => True) (by kernel_rfl) trivial (fun hHeld => ?_)
          refine wpAnyH_take (i := 1) (v := .slice (some ⟨b, off, none⟩) l.length c) rfl (by kernel_rfl) (by kernel_rfl) (by kernel_rfl) (fun _ _ _ h => h) (Or.inl ⟨by rfl, ?_⟩) (by assumption) ?_
          · (intro w hSw; go_simp)
          simp only [Act.put, List.setIfInBounds_toArray]
          refine wpAnyH_take (i := 2) (v := .int .i64 (k : Int)) rfl (by kernel_rfl) (by kernel_rfl) (by kernel_rfl) (fun _ _ _ h => h) (Or.inl ⟨by rfl, ?_⟩) (by assumption) ?_
          · (intro w hSw; go_simp)
          simp only [Act.put]
          refine wpAnyH_take (i := 3) (v := .slice (some ⟨b, off, none⟩) k c) rfl (by kernel_rfl) (by kernel_rfl) (by kernel_rfl) (fun _ _ _ h => h) (Or.inl ⟨by rfl, ?_⟩) (by assumption) ?_
          · (intro w hSw; go_simp)
          simp only [Act.put]
          refine wpAnyH_take (i := 5) (v := .int .i64 x) rfl (by kernel_rfl) (by kernel_rfl) (by kernel_rfl) (fun _ _ _ h => h) (Or.inl ⟨by rfl, ?_⟩) (by assumption) ?_
          · (intro w hSw; go_simp)
          simp only [Act.put]
          refine wpAnyH_take (i := 8) (v := .slice (some ⟨b, off, none⟩) l.length c) rfl (by kernel_rfl) (by kernel_rfl) (by kernel_rfl) (fun _ _ _ h => h) (Or.inl ⟨by rfl, ?_⟩) (by assumption) ?_
          · (intro w hSw; go_simp)
          simp only [Act.put]
          refine wpAnyH_take (i := 9) (v := .int .i64 (k : Int)) rfl (by kernel_rfl) (by kernel_rfl) (by kernel_rfl) (fun _ _ _ h => h) (Or.inl ⟨by rfl, ?_⟩) (by assumption) ?_
          · (intro w hSw; go_simp)
          simp only [Act.put]
          refine wpAnyH_take (i := 10) (v := .slice (some ⟨b, off + k, none⟩) (l.length - k) (c - k)) rfl (by kernel_rfl) (by kernel_rfl) (by kernel_rfl) (fun _ _ _ h => h) (Or.inl ⟨by rfl, ?_⟩) (by assumption) ?_
          · (intro w hSw; go_simp)
          simp only [Act.put]
          refine wpAnyH_ready (rs := [0, 6]) (by kernel_rfl) (by simp) ?_
          refine AllReadyH.cons rfl (fun K hK => ?_) (AllReadyH.cons rfl (fun K hK => ?_) AllReadyH.nil)
          · go_simp
            refine hK.out _ _ trivial (fun hHeld => ?_)
            clear hK K
            refine wpAnyH_ready (rs := [4, 6]) (by kernel_rfl) (by simp) ?_
            refine AllReadyH.cons rfl (fun K hK => ?_) (AllReadyH.cons rfl (fun K hK => ?_) AllReadyH.nil)
            · have hBW := Lib.hid (((Below.refl w.heap.size w).alloc (Nat.le_refl _) (.cells #[] 3)).drew)
              refine step_append_row _ (by rfl) _ _ _ (by rfl) i0 Try.underlying27 hi hz0 hz1 hz2 w.heap.size (.slice (some ⟨w.heap.size, 0, none⟩) 0 0) ([]) (by simp [go_sem]) (own_empty w w.heap.size (Nat.le_refl _)) (by simp) (⟨b, off, none⟩) (k) (c) (l.take k) (by simp [go_sem]) (by simp; omega) (fun j hj => cell_take hBW.out HC hbl j hj) (by simp; omega) (hBW.out.size) ?_
              intro v1 w2 hO1 hg1 hn1
              refine hK.out _ _ trivial (fun hHeld => ?_)
              clear hK K
              simp only [Act.put]
              have hB2 := Lib.hid (hBW.out.grown hg1 hBW.out.size (fun q hq => by simp [Value.ownBlock] at hq; omega))
              refine wpAnyH_ready (rs := [6]) (by kernel_rfl) (by simp) ?_
              refine AllReadyH.cons rfl (fun K hK => ?_) AllReadyH.nil
              go_simp
              refine hK.out _ _ trivial (fun hHeld => ?_)
              clear hK K
              refine wpAnyH_ready (rs := [7]) (by kernel_rfl) (by simp) ?_
              refine AllReadyH.cons rfl (fun K hK => ?_) AllReadyH.nil
              refine step_append_row _ (by rfl) _ _ _ (by rfl) i0 Try.underlying27 hi hz0 hz1 hz2 w.heap.size (v1) ([] ++ l.take k) (by simp [go_sem]) (hO1.on ((Below.refl w2.heap.size w2).alloc (Nat.le_refl _) (.cells #[iv x] 3))) (hn1) (⟨w2.heap.size, 0, none⟩) (1) (1) ([x]) (by simp [go_sem]) (rfl) (fun j hj => by (have e : j = 0 := by simpa using hj); subst e; exact cell_one w2 (iv x) 3) (by simp; omega) (by have := hB2.out.size; simp; omega) ?_
              intro v2 w3 hO2 hg2 hn2
              refine hK.out _ _ trivial (fun hHeld => ?_)
              clear hK K
              simp only [Act.put]
              have hB3 := Lib.hid ((hB2.out.alloc hB2.out.size (.cells #[iv x] 3)).grown hg2 (by have := hB2.out.size; simp; omega) (fun q hq => (World.ownsRow.lt hO1 q hq).1))
              refine wpAnyH_ready (rs := [11]) (by kernel_rfl) (by simp) ?_
              refine AllReadyH.cons rfl (fun K hK => ?_) AllReadyH.nil
              refine step_append_row _ (by rfl) _ _ _ (by rfl) i0 Try.underlying27 hi hz0 hz1 hz2 w.heap.size (v2) ([] ++ l.take k ++ [x]) (by simp [go_sem]) (hO2) (hn2) (⟨b, off + k, none⟩) (l.length - k) (c - k) (l.drop k) (by simp [go_sem]) (by simp) (fun j hj => cell_drop hB3.out HC hbl (.inl rfl) j hj) (by simp; omega) (hB3.out.size) ?_
              intro v3 w4 hO3 hg3 hn3
              refine hK.out _ _ trivial (fun hHeld => ?_)
              clear hK K
              simp only [Act.put]
              have hB4 := Lib.hid (hB3.out.grown hg3 hB3.out.size (fun q hq => (World.ownsRow.lt hO2 q hq).1))
              refine wpAnyH_ready (rs := [12]) (by kernel_rfl) (by simp) ?_
              refine AllReadyH.cons rfl (fun K hK => ?_) AllReadyH.nil
              go_simp
              refine hK.out _ _ trivial (fun hHeld => ?_)
              clear hK K
              refine wpAnyH_done (by kernel_rfl) ?_ _
              go_wp2
              go_ret
              exact put_end hO3 hn3 HP.out hB4.out
            · go_simp
              refine hK.out _ _ trivial (fun hHeld => ?_)
              clear hK K
              refine wpAnyH_ready (rs := [4]) (by kernel_rfl) (by simp) ?_
              have hBW := Lib.hid ((((Below.refl w.heap.size w).alloc (Nat.le_refl _) (.cells #[] 3)).alloc (by simp) (.cells #[iv x] 3)).drew)
              refine AllReadyH.cons rfl (fun K hK => ?_) AllReadyH.nil
              refine step_append_row _ (by rfl) _ _ _ (by rfl) i0 Try.underlying27 hi hz0 hz1 hz2 w.heap.size (.slice (some ⟨w.heap.size, 0, none⟩) 0 0) ([]) (by simp [go_sem]) ((own_empty w w.heap.size (Nat.le_refl _)).on (((Below.refl _ _).alloc (Nat.le_refl _) (.cells #[iv x] 3)).drew)) (by simp) (⟨b, off, none⟩) (k) (c) (l.take k) (by simp [go_sem]) (by simp; omega) (fun j hj => cell_take hBW.out HC hbl j hj) (by simp; omega) (hBW.out.size) ?_
              intro v1 w2 hO1 hg1 hn1
              refine hK.out _ _ trivial (fun hHeld => ?_)
              clear hK K
              simp only [Act.put]
              have hB2 := Lib.hid (hBW.out.grown hg1 hBW.out.size (fun q hq => by simp [Value.ownBlock] at hq; omega))
              refine wpAnyH_ready (rs := [7]) (by kernel_rfl) (by simp) ?_
              refine AllReadyH.cons rfl (fun K hK => ?_) AllReadyH.nil
              refine step_append_row _ (by rfl) _ _ _ (by rfl) i0 Try.underlying27 hi hz0 hz1 hz2 w.heap.size (v1) ([] ++ l.take k) (by simp [go_sem]) (hO1) (hn1) (⟨w.heap.size + 1, 0, none⟩) (1) (1) ([x]) (by simp [go_sem]) (rfl) (fun j hj => by (have e : j = 0 := by simpa using hj); subst e; exact (hg1.cell_far ⟨w.heap.size + 1, 0, none⟩ (by simp) (by simp [Value.ownBlock])).trans (cell_new1 w (.cells #[] 3) (iv x) 3)) (by simp; omega) (by have := hB2.out.size; simp; omega) ?_
              intro v2 w3 hO2 hg2 hn2
              refine hK.out _ _ trivial (fun hHeld => ?_)
              clear hK K
              simp only [Act.put]
              have hB3 := Lib.hid (hB2.out.grown hg2 (by have := hB2.out.size; simp; omega) (fun q hq => (World.ownsRow.lt hO1 q hq).1))
              refine wpAnyH_ready (rs := [11]) (by kernel_rfl) (by simp) ?_
              refine AllReadyH.cons rfl (fun K hK => ?_) AllReadyH.nil
              refine step_append_row _ (by rfl) _ _ _ (by rfl) i0 Try.underlying27 hi hz0 hz1 hz2 w.heap.size (v2) ([] ++ l.take k ++ [x]) (by simp [go_sem]) (hO2) (hn2) (⟨b, off + k, none⟩) (l.length - k) (c - k) (l.drop k) (by simp [go_sem]) (by simp) (fun j hj => cell_drop hB3.out HC hbl (.inl rfl) j hj) (by simp; omega) (hB3.out.size) ?_
              intro v3 w4 hO3 hg3 hn3
              refine hK.out _ _ trivial (fun hHeld => ?_)
              clear hK K
              simp only [Act.put]
              have hB4 := Lib.hid (hB3.out.grown hg3 hB3.out.size (fun q hq => (World.ownsRow.lt hO2 q hq).1))
              refine wpAnyH_ready (rs := [12]) (by kernel_rfl) (by simp) ?_
              refine AllReadyH.cons rfl (fun K hK => ?_) AllReadyH.nil
              go_simp
              refine hK.out _ _ trivial (fun hHeld => ?_)
              clear hK K
              refine wpAnyH_done (by kernel_rfl) ?_ _
              go_wp2
              go_ret
              exact put_end hO3 hn3 HP.out hB4.out
          · go_simp
            refine hK.out _ _ trivial (fun hHeld => ?_)
            clear hK K
            refine wpAnyH_ready (rs := [0]) (by kernel_rfl) (by simp) ?_
            refine AllReadyH.cons rfl (fun K hK => ?_) AllReadyH.nil
            go_simp
            refine hK.out _ _ trivial (fun hHeld => ?_)
            clear hK K
            refine wpAnyH_ready (rs := [4]) (by kernel_rfl) (by simp) ?_
            have hBW := Lib.hid ((((Below.refl w.heap.size w).alloc (Nat.le_refl _) (.cells #[iv x] 3)).alloc (by simp) (.cells #[] 3)).drew)
            refine AllReadyH.cons rfl (fun K hK => ?_) AllReadyH.nil
            refine step_append_row _ (by rfl) _ _ _ (by rfl) i0 Try.underlying27 hi hz0 hz1 hz2 w.heap.size (.slice (some ⟨w.heap.size + 1, 0, none⟩) 0 0) ([]) (by simp [go_sem]) (own_empty1 w (.cells #[iv x] 3)) (by simp) (⟨b, off, none⟩) (k) (c) (l.take k) (by simp [go_sem]) (by simp; omega) (fun j hj => cell_take hBW.out HC hbl j hj) (by simp; omega) (hBW.out.size) ?_
            intro v1 w2 hO1 hg1 hn1
            refine hK.out _ _ trivial (fun hHeld => ?_)
            clear hK K
            simp only [Act.put]
            have hB2 := Lib.hid (hBW.out.grown hg1 hBW.out.size (fun q hq => by simp [Value.ownBlock] at hq; omega))
            refine wpAnyH_ready (rs := [7]) (by kernel_rfl) (by simp) ?_
            refine AllReadyH.cons rfl (fun K hK => ?_) AllReadyH.nil
            refine step_append_row _ (by rfl) _ _ _ (by rfl) i0 Try.underlying27 hi hz0 hz1 hz2 w.heap.size (v1) ([] ++ l.take k) (by simp [go_sem]) (hO1) (hn1) (⟨w.heap.size, 0, none⟩) (1) (1) ([x]) (by simp [go_sem]) (rfl) (fun j hj => by (have e : j = 0 := by simpa using hj); subst e; exact (hg1.cell_far ⟨w.heap.size, 0, none⟩ (by simp; omega) (by simp [Value.ownBlock])).trans (cell_new0 w (iv x) 3 (.cells #[] 3))) (by simp; omega) (by have := hB2.out.size; simp; omega) ?_
            intro v2 w3 hO2 hg2 hn2
            refine hK.out _ _ trivial (fun hHeld => ?_)
            clear hK K
            simp only [Act.put]
            have hB3 := Lib.hid (hB2.out.grown hg2 (by have := hB2.out.size; simp; omega) (fun q hq => (World.ownsRow.lt hO1 q hq).1))
            refine wpAnyH_ready (rs := [11]) (by kernel_rfl) (by simp) ?_
            refine AllReadyH.cons rfl (fun K hK => ?_) AllReadyH.nil
            refine step_append_row _ (by rfl) _ _ _ (by rfl) i0 Try.underlying27 hi hz0 hz1 hz2 w.heap.size (v2) ([] ++ l.take k ++ [x]) (by simp [go_sem]) (hO2) (hn2) (⟨b, off + k, none⟩) (l.length - k) (c - k) (l.drop k) (by simp [go_sem]) (by simp) (fun j hj => cell_drop hB3.out HC hbl (.inl rfl) j hj) (by simp; omega) (hB3.out.size) ?_
            intro v3 w4 hO3 hg3 hn3
            refine hK.out _ _ trivial (fun hHeld => ?_)
            clear hK K
            simp only [Act.put]
            have hB4 := Lib.hid (hB3.out.grown hg3 hB3.out.size (fun q hq => (World.ownsRow.lt hO2 q hq).1))
            refine wpAnyH_ready (rs := [12]) (by kernel_rfl) (by simp) ?_
            refine AllReadyH.cons rfl (fun K hK => ?_) AllReadyH.nil
            go_simp
            refine hK.out _ _ trivial (fun hHeld => ?_)
            clear hK K
            refine wpAnyH_done (by kernel_rfl) ?_ _
            go_wp2
            go_ret
            exact put_end hO3 hn3 HP.out hB4.out
    · have HP := Lib.hid (put_new l x k hk hlo.out (fun h => absurd h hlt) HS.out)
      by_cases hck : c = k
      · subst hck
        go_wp2
        refine wp_region_held_drew (S := fun _ => True) (by kernel_rfl) trivial (fun hHeld => ?_)
        refine wpAnyH_take (i := 1) (v := .slice (some ⟨b, off, none⟩) l.length c) rfl (by kernel_rfl) (by kernel_rfl) (by kernel_rfl) (fun _ _ _ h => h) (Or.inl ⟨by rfl, ?_⟩) (by assumption) ?_
        · (intro w hSw; go_simp)
        simp only [Act.put, List.setIfInBounds_toArray]
        refine wpAnyH_take (i := 2) (v := .int .i64 (c : Int)) rfl (by kernel_rfl) (by kernel_rfl) (by kernel_rfl) (fun _ _ _ h => h) (Or.inl ⟨by rfl, ?_⟩) (by assumption) ?_
        · (intro w hSw; go_simp)
        simp only [Act.put]
        refine wpAnyH_take (i := 3) (v := .slice (some ⟨b, off, none⟩) c c) rfl (by kernel_rfl) (by kernel_rfl) (by kernel_rfl) (fun _ _ _ h => h) (Or.inl ⟨by rfl, ?_⟩) (by assumption) ?_
        · (intro w hSw; go_simp)
        simp only [Act.put]
        refine wpAnyH_take (i := 5) (v := .int .i64 x) rfl (by kernel_rfl) (by kernel_rfl) (by kernel_rfl) (fun _ _ _ h => h) (Or.inl ⟨by rfl, ?_⟩) (by assumption) ?_
        · (intro w hSw; go_simp)
        simp only [Act.put]
        refine wpAnyH_take (i := 8) (v := .slice (some ⟨b, off, none⟩) l.length c) rfl (by kernel_rfl) (by kernel_rfl) (by kernel_rfl) (fun _ _ _ h => h) (Or.inl ⟨by rfl, ?_⟩) (by assumption) ?_
        · (intro w hSw; go_simp)
        simp only [Act.put]
        refine wpAnyH_take (i := 9) (v := .int .i64 (c : Int)) rfl (by kernel_rfl) (by kernel_rfl) (by kernel_rfl) (fun _ _ _ h => h) (Or.inl ⟨by rfl, ?_⟩) (by assumption) ?_
        · (intro w hSw; go_simp)
        simp only [Act.put]
        refine wpAnyH_take (i := 10) (v := .slice (some ⟨b, off, none⟩) (l.length - c) (c - c)) rfl (by kernel_rfl) (by kernel_rfl) (by kernel_rfl) (fun _ _ _ h => h) (Or.inl ⟨by rfl, ?_⟩) (by assumption) ?_
        · (intro w hSw; go_simp)
        simp only [Act.put]
        refine wpAnyH_ready (rs := [0, 6]) (by kernel_rfl) (by simp) ?_
        refine AllReadyH.cons rfl (fun K hK => ?_) (AllReadyH.cons rfl (fun K hK => ?_) AllReadyH.nil)
        · go_simp
          refine hK.out _ _ trivial (fun hHeld => ?_)
          clear hK K
          refine wpAnyH_ready (rs := [4, 6]) (by kernel_rfl) (by simp) ?_
          refine AllReadyH.cons rfl (fun K hK => ?_) (AllReadyH.cons rfl (fun K hK => ?_) AllReadyH.nil)
          · have hBW := Lib.hid (((Below.refl w.heap.size w).alloc (Nat.le_refl _) (.cells #[] 3)).drew)
            refine step_append_row _ (by rfl) _ _ _ (by rfl) i0 Try.underlying27 hi hz0 hz1 hz2 w.heap.size (.slice (some ⟨w.heap.size, 0, none⟩) 0 0) ([]) (by simp [go_sem]) (own_empty w w.heap.size (Nat.le_refl _)) (by simp) (⟨b, off, none⟩) (c) (c) (l.take c) (by simp [go_sem]) (by simp; omega) (fun j hj => cell_take hBW.out HC hbl j hj) (by simp; omega) (hBW.out.size) ?_
            intro v1 w2 hO1 hg1 hn1
            refine hK.out _ _ trivial (fun hHeld => ?_)
            clear hK K
            simp only [Act.put]
            have hB2 := Lib.hid (hBW.out.grown hg1 hBW.out.size (fun q hq => by simp [Value.ownBlock] at hq; omega))
            refine wpAnyH_ready (rs := [6]) (by kernel_rfl) (by simp) ?_
            refine AllReadyH.cons rfl (fun K hK => ?_) AllReadyH.nil
            go_simp
            refine hK.out _ _ trivial (fun hHeld => ?_)
            clear hK K
            refine wpAnyH_ready (rs := [7]) (by kernel_rfl) (by simp) ?_
            refine AllReadyH.cons rfl (fun K hK => ?_) AllReadyH.nil
            refine step_append_row _ (by rfl) _ _ _ (by rfl) i0 Try.underlying27 hi hz0 hz1 hz2 w.heap.size (v1) ([] ++ l.take c) (by simp [go_sem]) (hO1.on ((Below.refl w2.heap.size w2).alloc (Nat.le_refl _) (.cells #[iv x] 3))) (hn1) (⟨w2.heap.size, 0, none⟩) (1) (1) ([x]) (by simp [go_sem]) (rfl) (fun j hj => by (have e : j = 0 := by simpa using hj); subst e; exact cell_one w2 (iv x) 3) (by simp; omega) (by have := hB2.out.size; simp; omega) ?_
            intro v2 w3 hO2 hg2 hn2
            refine hK.out _ _ trivial (fun hHeld => ?_)
            clear hK K
            simp only [Act.put]
            have hB3 := Lib.hid ((hB2.out.alloc hB2.out.size (.cells #[iv x] 3)).grown hg2 (by have := hB2.out.size; simp; omega) (fun q hq => (World.ownsRow.lt hO1 q hq).1))
            refine wpAnyH_ready (rs := [11]) (by kernel_rfl) (by simp) ?_
            refine AllReadyH.cons rfl (fun K hK => ?_) AllReadyH.nil
            refine step_append_row _ (by rfl) _ _ _ (by rfl) i0 Try.underlying27 hi hz0 hz1 hz2 w.heap.size (v2) ([] ++ l.take c ++ [x]) (by simp [go_sem]) (hO2) (hn2) (⟨b, off, none⟩) (l.length - c) (c - c) (l.drop c) (by simp [go_sem]; omega) (by simp) (fun j hj => cell_drop hB3.out HC hbl (.inr (by omega)) j hj) (by simp; omega) (hB3.out.size) ?_
            intro v3 w4 hO3 hg3 hn3
            refine hK.out _ _ trivial (fun hHeld => ?_)
            clear hK K
            simp only [Act.put]
            have hB4 := Lib.hid (hB3.out.grown hg3 hB3.out.size (fun q hq => (World.ownsRow.lt hO2 q hq).1))
            refine wpAnyH_ready (rs := [12]) (by kernel_rfl) (by simp) ?_
            refine AllReadyH.cons rfl (fun K hK => ?_) AllReadyH.nil
            go_simp
            refine hK.out _ _ trivial (fun hHeld => ?_)
            clear hK K
            refine wpAnyH_done (by kernel_rfl) ?_ _
            go_wp2
            go_ret
            exact put_end hO3 hn3 HP.out hB4.out
          · go_simp
            refine hK.out _ _ trivial (fun hHeld => ?_)
            clear hK K
            refine wpAnyH_ready (rs := [4]) (by kernel_rfl) (by simp) ?_
            have hBW := Lib.hid ((((Below.refl w.heap.size w).alloc (Nat.le_refl _) (.cells #[] 3)).alloc (by simp) (.cells #[iv x] 3)).drew)
            refine AllReadyH.cons rfl (fun K hK => ?_) AllReadyH.nil
            refine step_append_row _ (by rfl) _ _ _ (by rfl) i0 Try.underlying27 hi hz0 hz1 hz2 w.heap.size (.slice (some ⟨w.heap.size, 0, none⟩) 0 0) ([]) (by simp [go_sem]) ((own_empty w w.heap.size (Nat.le_refl _)).on (((Below.refl _ _).alloc (Nat.le_refl _) (.cells #[iv x] 3)).drew)) (by simp) (⟨b, off, none⟩) (c) (c) (l.take c) (by simp [go_sem]) (by simp; omega) (fun j hj => cell_take hBW.out HC hbl j hj) (by simp; omega) (hBW.out.size) ?_
            intro v1 w2 hO1 hg1 hn1
            refine hK.out _ _ trivial (fun hHeld => ?_)
            clear hK K
            simp only [Act.put]
            have hB2 := Lib.hid (hBW.out.grown hg1 hBW.out.size (fun q hq => by simp [Value.ownBlock] at hq; omega))
            refine wpAnyH_ready (rs := [7]) (by kernel_rfl) (by simp) ?_
            refine AllReadyH.cons rfl (fun K hK => ?_) AllReadyH.nil
            refine step_append_row _ (by rfl) _ _ _ (by rfl) i0 Try.underlying27 hi hz0 hz1 hz2 w.heap.size (v1) ([] ++ l.take c) (by simp [go_sem]) (hO1) (hn1) (⟨w.heap.size + 1, 0, none⟩) (1) (1) ([x]) (by simp [go_sem]) (rfl) (fun j hj => by (have e : j = 0 := by simpa using hj); subst e; exact (hg1.cell_far ⟨w.heap.size + 1, 0, none⟩ (by simp) (by simp [Value.ownBlock])).trans (cell_new1 w (.cells #[] 3) (iv x) 3)) (by simp; omega) (by have := hB2.out.size; simp; omega) ?_
            intro v2 w3 hO2 hg2 hn2
            refine hK.out _ _ trivial (fun hHeld => ?_)
            clear hK K
            simp only [Act.put]
            have hB3 := Lib.hid (hB2.out.grown hg2 (by have := hB2.out.size; simp; omega) (fun q hq => (World.ownsRow.lt hO1 q hq).1))
            refine wpAnyH_ready (rs := [11]) (by kernel_rfl) (by simp) ?_
            refine AllReadyH.cons rfl (fun K hK => ?_) AllReadyH.nil
            refine step_append_row _ (by rfl) _ _ _ (by rfl) i0 Try.underlying27 hi hz0 hz1 hz2 w.heap.size (v2) ([] ++ l.take c ++ [x]) (by simp [go_sem]) (hO2) (hn2) (⟨b, off, none⟩) (l.length - c) (c - c) (l.drop c) (by simp [go_sem]; omega) (by simp) (fun j hj => cell_drop hB3.out HC hbl (.inr (by omega)) j hj) (by simp; omega) (hB3.out.size) ?_
            intro v3 w4 hO3 hg3 hn3
            refine hK.out _ _ trivial (fun hHeld => ?_)
            clear hK K
            simp only [Act.put]
            have hB4 := Lib.hid (hB3.out.grown hg3 hB3.out.size (fun q hq => (World.ownsRow.lt hO2 q hq).1))
            refine wpAnyH_ready (rs := [12]) (by kernel_rfl) (by simp) ?_
            refine AllReadyH.cons rfl (fun K hK => ?_) AllReadyH.nil
            go_simp
            refine hK.out _ _ trivial (fun hHeld => ?_)
            clear hK K
            refine wpAnyH_done (by kernel_rfl) ?_ _
            go_wp2
            go_ret
            exact put_end hO3 hn3 HP.out hB4.out
        · go_simp
          refine hK.out _ _ trivial (fun hHeld => ?_)
          clear hK K
          refine wpAnyH_ready (rs := [0]) (by kernel_rfl) (by simp) ?_
          refine AllReadyH.cons rfl (fun K hK => ?_) AllReadyH.nil
          go_simp
          refine hK.out _ _ trivial (fun hHeld => ?_)
          clear hK K
          refine wpAnyH_ready (rs := [4]) (by kernel_rfl) (by simp) ?_
          have hBW := Lib.hid ((((Below.refl w.heap.size w).alloc (Nat.le_refl _) (.cells #[iv x] 3)).alloc (by simp) (.cells #[] 3)).drew)
          refine AllReadyH.cons rfl (fun K hK => ?_) AllReadyH.nil
          refine step_append_row _ (by rfl) _ _ _ (by rfl) i0 Try.underlying27 hi hz0 hz1 hz2 w.heap.size (.slice (some ⟨w.heap.size + 1, 0, none⟩) 0 0) ([]) (by simp [go_sem]) (own_empty1 w (.cells #[iv x] 3)) (by simp) (⟨b, off, none⟩) (c) (c) (l.take c) (by simp [go_sem]) (by simp; omega) (fun j hj => cell_take hBW.out HC hbl j hj) (by simp; omega) (hBW.out.size) ?_
          intro v1 w2 hO1 hg1 hn1
          refine hK.out _ _ trivial (fun hHeld => ?_)
          clear hK K
          simp only [Act.put]
          have hB2 := Lib.hid (hBW.out.grown hg1 hBW.out.size (fun q hq => by simp [Value.ownBlock] at hq; omega))
          refine wpAnyH_ready (rs := [7]) (by kernel_rfl) (by simp) ?_
          refine AllReadyH.cons rfl (fun K hK => ?_) AllReadyH.nil
          refine step_append_row _ (by rfl) _ _ _ (by rfl) i0 Try.underlying27 hi hz0 hz1 hz2 w.heap.size (v1) ([] ++ l.take c) (by simp [go_sem]) (hO1) (hn1) (⟨w.heap.size, 0, none⟩) (1) (1) ([x]) (by simp [go_sem]) (rfl) (fun j hj => by (have e : j = 0 := by simpa using hj); subst e; exact (hg1.cell_far ⟨w.heap.size, 0, none⟩ (by simp; omega) (by simp [Value.ownBlock])).trans (cell_new0 w (iv x) 3 (.cells #[] 3))) (by simp; omega) (by have := hB2.out.size; simp; omega) ?_
          intro v2 w3 hO2 hg2 hn2
          refine hK.out _ _ trivial (fun hHeld => ?_)
          clear hK K
          simp only [Act.put]
          have hB3 := Lib.hid (hB2.out.grown hg2 (by have := hB2.out.size; simp; omega) (fun q hq => (World.ownsRow.lt hO1 q hq).1))
          refine wpAnyH_ready (rs := [11]) (by kernel_rfl) (by simp) ?_
          refine AllReadyH.cons rfl (fun K hK => ?_) AllReadyH.nil
          refine step_append_row _ (by rfl) _ _ _ (by rfl) i0 Try.underlying27 hi hz0 hz1 hz2 w.heap.size (v2) ([] ++ l.take c ++ [x]) (by simp [go_sem]) (hO2) (hn2) (⟨b, off, none⟩) (l.length - c) (c - c) (l.drop c) (by simp [go_sem]; omega) (by simp) (fun j hj => cell_drop hB3.out HC hbl (.inr (by omega)) j hj) (by simp; omega) (hB3.out.size) ?_
          intro v3 w4 hO3 hg3 hn3
          refine hK.out _ _ trivial (fun hHeld => ?_)
          clear hK K
          simp only [Act.put]
          have hB4 := Lib.hid (hB3.out.grown hg3 hB3.out.size (fun q hq => (World.ownsRow.lt hO2 q hq).1))
          refine wpAnyH_ready (rs := [12]) (by kernel_rfl) (by simp) ?_
          refine AllReadyH.cons rfl (fun K hK => ?_) AllReadyH.nil
          go_simp
          refine hK.out _ _ trivial (fun hHeld => ?_)
          clear hK K
          refine wpAnyH_done (by kernel_rfl) ?_ _
          go_wp2
          go_ret
          exact put_end hO3 hn3 HP.out hB4.out
      · go_wp2
        refine wp_region_held_drew (S := fun _ => True) (by kernel_rfl) trivial (fun hHeld => ?_)
        refine wpAnyH_take (i := 1) (v := .slice (some ⟨b, off, none⟩) l.length c) rfl (by kernel_rfl) (by kernel_rfl) (by kernel_rfl) (fun _ _ _ h => h) (Or.inl ⟨by rfl, ?_⟩) (by assumption) ?_
        · (intro w hSw; go_simp)
        simp only [Act.put, List.setIfInBounds_toArray]
        refine wpAnyH_take (i := 2) (v := .int .i64 (k : Int)) rfl (by kernel_rfl) (by kernel_rfl) (by kernel_rfl) (fun _ _ _ h => h) (Or.inl ⟨by rfl, ?_⟩) (by assumption) ?_
        · (intro w hSw; go_simp)
        simp only [Act.put]
        refine wpAnyH_take (i := 3) (v := .slice (some ⟨b, off, none⟩) k c) rfl (by kernel_rfl) (by kernel_rfl) (by kernel_rfl) (fun _ _ _ h => h) (Or.inl ⟨by rfl, ?_⟩) (by assumption) ?_
        · (intro w hSw; go_simp)
        simp only [Act.put]
        refine wpAnyH_take (i := 5) (v := .int .i64 x) rfl (by kernel_rfl) (by kernel_rfl) (by kernel_rfl) (fun _ _ _ h => h) (Or.inl ⟨by rfl, ?_⟩) (by assumption) ?_
        · (intro w hSw; go_simp)
        simp only [Act.put]
        refine wpAnyH_take (i := 8) (v := .slice (some ⟨b, off, none⟩) l.length c) rfl (by kernel_rfl) (by kernel_rfl) (by kernel_rfl) (fun _ _ _ h => h) (Or.inl ⟨by rfl, ?_⟩) (by assumption) ?_
        · (intro w hSw; go_simp)
        simp only [Act.put]
        refine wpAnyH_take (i := 9) (v := .int .i64 (k : Int)) rfl (by kernel_rfl) (by kernel_rfl) (by kernel_rfl) (fun _ _ _ h => h) (Or.inl ⟨by rfl, ?_⟩) (by assumption) ?_
        · (intro w hSw; go_simp)
        simp only [Act.put]
        refine wpAnyH_take (i := 10) (v := .slice (some ⟨b, off + k, none⟩) (l.length - k) (c - k)) rfl (by kernel_rfl) (by kernel_rfl) (by kernel_rfl) (fun _ _ _ h => h) (Or.inl ⟨by rfl, ?_⟩) (by assumption) ?_
        · (intro w hSw; go_simp)
        simp only [Act.put]
        refine wpAnyH_ready (rs := [0, 6]) (by kernel_rfl) (by simp) ?_
        refine AllReadyH.cons rfl (fun K hK => ?_) (AllReadyH.cons rfl (fun K hK => ?_) AllReadyH.nil)
        · go_simp
          refine hK.out _ _ trivial (fun hHeld => ?_)
          clear hK K
          refine wpAnyH_ready (rs := [4, 6]) (by kernel_rfl) (by simp) ?_
          refine AllReadyH.cons rfl (fun K hK => ?_) (AllReadyH.cons rfl (fun K hK => ?_) AllReadyH.nil)
          · have hBW := Lib.hid (((Below.refl w.heap.size w).alloc (Nat.le_refl _) (.cells #[] 3)).drew)
            refine step_append_row _ (by rfl) _ _ _ (by rfl) i0 Try.underlying27 hi hz0 hz1 hz2 w.heap.size (.slice (some ⟨w.heap.size, 0, none⟩) 0 0) ([]) (by simp [go_sem]) (own_empty w w.heap.size (Nat.le_refl _)) (by simp) (⟨b, off, none⟩) (k) (c) (l.take k) (by simp [go_sem]) (by simp; omega) (fun j hj => cell_take hBW.out HC hbl j hj) (by simp; omega) (hBW.out.size) ?_
            intro v1 w2 hO1 hg1 hn1
            refine hK.out _ _ trivial (fun hHeld => ?_)
            clear hK K
            simp only [Act.put]
            have hB2 := Lib.hid (hBW.out.grown hg1 hBW.out.size (fun q hq => by simp [Value.ownBlock] at hq; omega))
            refine wpAnyH_ready (rs := [6]) (by kernel_rfl) (by simp) ?_
            refine AllReadyH.cons rfl (fun K hK => ?_) AllReadyH.nil
            go_simp
            refine hK.out _ _ trivial (fun hHeld => ?_)
            clear hK K
            refine wpAnyH_ready (rs := [7]) (by kernel_rfl) (by simp) ?_
            refine AllReadyH.cons rfl (fun K hK => ?_) AllReadyH.nil
            refine step_append_row _ (by rfl) _ _ _ (by rfl) i0 Try.underlying27 hi hz0 hz1 hz2 w.heap.size (v1) ([] ++ l.take k) (by simp [go_sem]) (hO1.on ((Below.refl w2.heap.size w2).alloc (Nat.le_refl _) (.cells #[iv x] 3))) (hn1) (⟨w2.heap.size, 0, none⟩) (1) (1) ([x]) (by simp [go_sem]) (rfl) (fun j hj => by (have e : j = 0 := by simpa using hj); subst e; exact cell_one w2 (iv x) 3) (by simp; omega) (by have := hB2.out.size; simp; omega) ?_
            intro v2 w3 hO2 hg2 hn2
            refine hK.out _ _ trivial (fun hHeld => ?_)
            clear hK K
            simp only [Act.put]
            have hB3 := Lib.hid ((hB2.out.alloc hB2.out.size (.cells #[iv x] 3)).grown hg2 (by have := hB2.out.size; simp; omega) (fun q hq => (World.ownsRow.lt hO1 q hq).1))
            refine wpAnyH_ready (rs := [11]) (by kernel_rfl) (by simp) ?_
            refine AllReadyH.cons rfl (fun K hK => ?_) AllReadyH.nil
            refine step_append_row _ (by rfl) _ _ _ (by rfl) i0 Try.underlying27 hi hz0 hz1 hz2 w.heap.size (v2) ([] ++ l.take k ++ [x]) (by simp [go_sem]) (hO2) (hn2) (⟨b, off + k, none⟩) (l.length - k) (c - k) (l.drop k) (by simp [go_sem]) (by simp) (fun j hj => cell_drop hB3.out HC hbl (.inl rfl) j hj) (by simp; omega) (hB3.out.size) ?_
            intro v3 w4 hO3 hg3 hn3
            refine hK.out _ _ trivial (fun hHeld => ?_)
            clear hK K
            simp only [Act.put]
            have hB4 := Lib.hid (hB3.out.grown hg3 hB3.out.size (fun q hq => (World.ownsRow.lt hO2 q hq).1))
            refine wpAnyH_ready (rs := [12]) (by kernel_rfl) (by simp) ?_
            refine AllReadyH.cons rfl (fun K hK => ?_) AllReadyH.nil
            go_simp
            refine hK.out _ _ trivial (fun hHeld => ?_)
            clear hK K
            refine wpAnyH_done (by kernel_rfl) ?_ _
            go_wp2
            go_ret
            exact put_end hO3 hn3 HP.out hB4.out
          · go_simp
            refine hK.out _ _ trivial (fun hHeld => ?_)
            clear hK K
            refine wpAnyH_ready (rs := [4]) (by kernel_rfl) (by simp) ?_
            have hBW := Lib.hid ((((Below.refl w.heap.size w).alloc (Nat.le_refl _) (.cells #[] 3)).alloc (by simp) (.cells #[iv x] 3)).drew)
            refine AllReadyH.cons rfl (fun K hK => ?_) AllReadyH.nil
            refine step_append_row _ (by rfl) _ _ _ (by rfl) i0 Try.underlying27 hi hz0 hz1 hz2 w.heap.size (.slice (some ⟨w.heap.size, 0, none⟩) 0 0) ([]) (by simp [go_sem]) ((own_empty w w.heap.size (Nat.le_refl _)).on (((Below.refl _ _).alloc (Nat.le_refl _) (.cells #[iv x] 3)).drew)) (by simp) (⟨b, off, none⟩) (k) (c) (l.take k) (by simp [go_sem]) (by simp; omega) (fun j hj => cell_take hBW.out HC hbl j hj) (by simp; omega) (hBW.out.size) ?_
            intro v1 w2 hO1 hg1 hn1
            refine hK.out _ _ trivial (fun hHeld => ?_)
            clear hK K
            simp only [Act.put]
            have hB2 := Lib.hid (hBW.out.grown hg1 hBW.out.size (fun q hq => by simp [Value.ownBlock] at hq; omega))
            refine wpAnyH_ready (rs := [7]) (by kernel_rfl) (by simp) ?_
            refine AllReadyH.cons rfl (fun K hK => ?_) AllReadyH.nil
            refine step_append_row _ (by rfl) _ _ _ (by rfl) i0 Try.underlying27 hi hz0 hz1 hz2 w.heap.size (v1) ([] ++ l.take k) (by simp [go_sem]) (hO1) (hn1) (⟨w.heap.size + 1, 0, none⟩) (1) (1) ([x]) (by simp [go_sem]) (rfl) (fun j hj => by (have e : j = 0 := by simpa using hj); subst e; exact (hg1.cell_far ⟨w.heap.size + 1, 0, none⟩ (by simp) (by simp [Value.ownBlock])).trans (cell_new1 w (.cells #[] 3) (iv x) 3)) (by simp; omega) (by have := hB2.out.size; simp; omega) ?_
            intro v2 w3 hO2 hg2 hn2
            refine hK.out _ _ trivial (fun hHeld => ?_)
            clear hK K
            simp only [Act.put]
            have hB3 := Lib.hid (hB2.out.grown hg2 (by have := hB2.out.size; simp; omega) (fun q hq => (World.ownsRow.lt hO1 q hq).1))
            refine wpAnyH_ready (rs := [11]) (by kernel_rfl) (by simp) ?_
            refine AllReadyH.cons rfl (fun K hK => ?_) AllReadyH.nil
            refine step_append_row _ (by rfl) _ _ _ (by rfl) i0 Try.underlying27 hi hz0 hz1 hz2 w.heap.size (v2) ([] ++ l.take k ++ [x]) (by simp [go_sem]) (hO2) (hn2) (⟨b, off + k, none⟩) (l.length - k) (c - k) (l.drop k) (by simp [go_sem]) (by simp) (fun j hj => cell_drop hB3.out HC hbl (.inl rfl) j hj) (by simp; omega) (hB3.out.size) ?_
            intro v3 w4 hO3 hg3 hn3
            refine hK.out _ _ trivial (fun hHeld => ?_)
            clear hK K
            simp only [Act.put]
            have hB4 := Lib.hid (hB3.out.grown hg3 hB3.out.size (fun q hq => (World.ownsRow.lt hO2 q hq).1))
            refine wpAnyH_ready (rs := [12]) (by kernel_rfl) (by simp) ?_
            refine AllReadyH.cons rfl (fun K hK => ?_) AllReadyH.nil
            go_simp
            refine hK.out _ _ trivial (fun hHeld => ?_)
            clear hK K
            refine wpAnyH_done (by kernel_rfl) ?_ _
            go_wp2
            go_ret
            exact put_end hO3 hn3 HP.out hB4.out
        · go_simp
          refine hK.out _ _ trivial (fun hHeld => ?_)
          clear hK K
          refine wpAnyH_ready (rs := [0]) (by kernel_rfl) (by simp) ?_
          refine AllReadyH.cons rfl (fun K hK => ?_) AllReadyH.nil
          go_simp
          refine hK.out _ _ trivial (fun hHeld => ?_)
          clear hK K
          refine wpAnyH_ready (rs := [4]) (by kernel_rfl) (by simp) ?_
          have hBW := Lib.hid ((((Below.refl w.heap.size w).alloc (Nat.le_refl _) (.cells #[iv x] 3)).alloc (by simp) (.cells #[] 3)).drew)
          refine AllReadyH.cons rfl (fun K hK => ?_) AllReadyH.nil
          refine step_append_row _ (by rfl) _ _ _ (by rfl) i0 Try.underlying27 hi hz0 hz1 hz2 w.heap.size (.slice (some ⟨w.heap.size + 1, 0, none⟩) 0 0) ([]) (by simp [go_sem]) (own_empty1 w (.cells #[iv x] 3)) (by simp) (⟨b, off, none⟩) (k) (c) (l.take k) (by simp [go_sem]) (by simp; omega) (fun j hj => cell_take hBW.out HC hbl j hj) (by simp; omega) (hBW.out.size) ?_
          intro v1 w2 hO1 hg1 hn1
          refine hK.out _ _ trivial (fun hHeld => ?_)
          clear hK K
          simp only [Act.put]
          have hB2 := Lib.hid (hBW.out.grown hg1 hBW.out.size (fun q hq => by simp [Value.ownBlock] at hq; omega))
          refine wpAnyH_ready (rs := [7]) (by kernel_rfl) (by simp) ?_
          refine AllReadyH.cons rfl (fun K hK => ?_) AllReadyH.nil
          refine step_append_row _ (by rfl) _ _ _ (by rfl) i0 Try.underlying27 hi hz0 hz1 hz2 w.heap.size (v1) ([] ++ l.take k) (by simp [go_sem]) (hO1) (hn1) (⟨w.heap.size, 0, none⟩) (1) (1) ([x]) (by simp [go_sem]) (rfl) (fun j hj => by (have e : j = 0 := by simpa using hj); subst e; exact (hg1.cell_far ⟨w.heap.size, 0, none⟩ (by simp; omega) (by simp [Value.ownBlock])).trans (cell_new0 w (iv x) 3 (.cells #[] 3))) (by simp; omega) (by have := hB2.out.size; simp; omega) ?_
          intro v2 w3 hO2 hg2 hn2
          refine hK.out _ _ trivial (fun hHeld => ?_)
          clear hK K
          simp only [Act.put]
          have hB3 := Lib.hid (hB2.out.grown hg2 (by have := hB2.out.size; simp; omega) (fun q hq => (World.ownsRow.lt hO1 q hq).1))
          refine wpAnyH_ready (rs := [11]) (by kernel_rfl) (by simp) ?_
          refine AllReadyH.cons rfl (fun K hK => ?_) AllReadyH.nil
          refine step_append_row _ (by rfl) _ _ _ (by rfl) i0 Try.underlying27 hi hz0 hz1 hz2 w.heap.size (v2) ([] ++ l.take k ++ [x]) (by simp [go_sem]) (hO2) (hn2) (⟨b, off + k, none⟩) (l.length - k) (c - k) (l.drop k) (by simp [go_sem]) (by simp) (fun j hj => cell_drop hB3.out HC hbl (.inl rfl) j hj) (by simp; omega) (hB3.out.size) ?_
          intro v3 w4 hO3 hg3 hn3
          refine hK.out _ _ trivial (fun hHeld => ?_)
          clear hK K
          simp only [Act.put]
          have hB4 := Lib.hid (hB3.out.grown hg3 hB3.out.size (fun q hq => (World.ownsRow.lt hO2 q hq).1))
          refine wpAnyH_ready (rs := [12]) (by kernel_rfl) (by simp) ?_
          refine AllReadyH.cons rfl (fun K hK => ?_) AllReadyH.nil
          go_simp
          refine hK.out _ _ trivial (fun hHeld => ?_)
          clear hK K
          refine wpAnyH_done (by kernel_rfl) ?_ _
          go_wp2
          go_ret
          exact put_end hO3 hn3 HP.out hB4.out
end Go.Proofs.Ytlkomipjamelkab.S2
