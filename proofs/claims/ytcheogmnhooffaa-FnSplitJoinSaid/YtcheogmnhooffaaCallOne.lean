/- The splitter itself: a loop over the iterator that appends a copy of each piece: its contract. Conditions: each theorem's own premises. -/
import Derived.Test.YtcheogmnhooffaaIterOne
import Derived.Test.YtcheogmnhooffaaShelf
import Derived.Test.YtcheogmnhooffaaSplitOne
import Derived.RangeFuncWrites
import Derived.RangeFuncBox
import Derived.Deep.AppendLies
import Derived.Maps.AppendAt
namespace Go.Proofs.Ytcheogmnhooffaa.S1
open Go.RowKit Go.Shelf P1
attribute [local go_sem] Oper.semAt_some

theorem clone_any (s : ByteArray) (w : World) (hlim : s.size ≤ 1048576) :
    Calls Try.prog 28 #[.string s] w fun e w' => e = .returned (.string s) ∧ Below w.heap.size w w' := by
  go_enter Try.func28, Try.ntmps28
  go_wp2_with (go_at_call 40; refine (Try.stringslite_Clone s _ (by omega)).mono ?_; rintro e w1 ⟨rfl, hb⟩)
  go_ret
  exact ⟨rfl, hb⟩

theorem grown_of_below {A B : World} (h : Below A.heap.size A B) : A.grownBy B none := ⟨h.os, h.tape, h.output, h.size, fun k hk _ => h.block k hk⟩
theorem boxed_below {A B : World} {n k : Nat} {t : TypeId} {v : Value} (h : Boxed A k t v) (hb : Below n A B) (hk : k < n) : Boxed B k t v := (hb.block k hk).trans h
theorem own_later {A B : World} {base : Nat} {e : TypeId} {size : Nat} {v : Value} {n : Nat} {xs : List Value} (h : A.ownsRow base e size v n xs) (hb : Below A.heap.size A B) : B.ownsRow base e size v n xs :=
  h.kept (grown_of_below hb) (Classical.or_iff_not_imp_left.2 fun hn => hn)
theorem others_below {A B : World} (hb : Below A.heap.size A B) : KeepsOthers A B := KeepsOthers.of_grownBy (grown_of_below hb) (fun _ _ e => by cases e)
theorem own_empty (w : World) (base : Nat) (hb : base ≤ w.heap.size) : (w.alloc (.cells #[] 9)).ownsRow base 9 1 (.slice (some ⟨w.heap.size, 0, none⟩) 0 0) 0 [] :=
  ⟨rfl, .inr ⟨w.heap.size, 0, #[], rfl, hb, by simpa using (MapKept.heap_alloc w (.cells #[] 9)).1, Nat.le_refl _, Nat.zero_le _, rfl, rfl⟩⟩

theorem strs_pcs (ys : List Pc) : ys.map (fun x => Value.string x.1) = (pcs ys).map strV := by
  simp [pcs, strV]

/-- What holds between two rounds. -/
def Rd (q : Nat) (c : Value) (w : World) (pre : List Pc) (W : World) : Prop :=
  (∃ v, Boxed W (q + 1) 26 v ∧ W.ownsRow q 9 1 v pre.length (pre.map fun x => Value.string x.1) ∧ True) ∧ Boxed W (q + 1 + 1 + 1) 5 c ∧ Below q w W

/-- One round: the copy is made in w1, then appended. -/
theorem round_facts {w W w1 : World} {q B : Nat} {v c : Value} {pre : List Pc} (x : Pc) (hv : Boxed W (q + 1) 26 v) (hrow : W.ownsRow q 9 1 v pre.length (pre.map fun x => Value.string x.1)) (hx : Boxed W (q + 1 + 1 + 1) 5 c) (hB : Below q w W) (hpl : pre.length + 1 ≤ 4001) (hb1 : Below W.drew.heap.size W.drew w1) :
    ∃ g cap w2, (Builtin.append_ #[26, 26] 26 #[v, .slice (some ⟨w1.heap.size, 0, none⟩) 1 1]).run Try.prog (w1.alloc (.cells #[.string x.1] 9)) = .ok (.slice (some ⟨g, 0, none⟩) (pre.length + 1) cap) w2 ∧
      w1.cell? ⟨q + 1, 0, none⟩ = some v ∧ (w1.alloc (.cells #[.string x.1] 9)).cell? ⟨q + 1, 0, none⟩ = some v ∧ w2.cell? ⟨q + 1, 0, none⟩ = some v ∧ w2.frozen? ⟨q + 1, 0, none⟩ = false ∧
      KeepsFrom B W (w2.setCell ⟨q + 1, 0, none⟩ (.slice (some ⟨g, 0, none⟩) (pre.length + 1) cap)) ∧ Kb (q + 1 + 1 + 1) W (w2.setCell ⟨q + 1, 0, none⟩ (.slice (some ⟨g, 0, none⟩) (pre.length + 1) cap)) ∧ Rd q c w (pre ++ [x]) (w2.setCell ⟨q + 1, 0, none⟩ (.slice (some ⟨g, 0, none⟩) (pre.length + 1) cap)) := by
  obtain ⟨i0, hi, hz0, hz1, hz2⟩ := info_parts infoS
  have hv1 : Boxed w1 (q + 1) 26 v := boxed_below (A := W.drew) hv hb1 hv.lt
  have hrow1 : w1.ownsRow q 9 1 v pre.length (pre.map fun x => Value.string x.1) := own_later (A := W.drew) (World.ownsRow.drew hrow) hb1
  have hx1 : Boxed w1 (q + 1 + 1 + 1) 5 c := boxed_below (A := W.drew) hx hb1 hx.lt
  have hlt := hv1.lt
  obtain ⟨g, cap, w2, hrun, hown', hgrow, _, _⟩ := run_append_lies (P := Try.prog) (w1.alloc (.cells #[.string x.1] 9)) 26 26 q 9 i0 (.string ⟨#[]⟩) 1 16 Try.underlying26 hi hz0 hz1 hz2 rfl (by decide) v pre.length _ (hrow1.alloc _) ⟨w1.heap.size, 0, none⟩ 1 1 [.string x.1] rfl (cell_one_new _ _ _) (by simp [Value.oneCell']) (by decide) (by unfold maxLen; omega) (by omega) (by simp; omega) _ rfl
  obtain ⟨hv2, hv3, hr3, hk3, hb3⟩ := hv1.appended (by decide) hrow1 (by omega) (by omega) hown' hgrow
  have hx3 := ((hx1.alloc _).kept hgrow (hx1.not_row (by decide) hrow1)).other (B' := q + 1) (by omega) (.slice (some ⟨g, 0, none⟩) (pre.length + 1) cap)
  refine ⟨g, cap, w2, hrun, hv1.cell, (hv1.alloc _).cell, hv2.cell, hv2.frozen, ((KeepsOthers.drew W).trans (others_below hb1)).trans hk3 |>.from _, ?_, ⟨⟨_, hv3, ?_, trivial⟩, hx3, ?_⟩⟩
  · intro u hu
    rw [hx.cell] at hu
    cases hu
    exact hx3.cell
  · rw [List.length_append, List.map_append]
    exact hr3
  · have hq : q ≤ W.drew.heap.size := by have := hv.lt; show q ≤ W.heap.size; omega
    exact hB.drew.trans ((hb1.mono hq).trans hb3)

/-- The append at an operation, inside a fence. -/
theorem opIn_append {F : Fence} {n : Nat} {P : Program} {o : Oper} {a : Act} {w w' : World} {K : Act → World → Prop} {Q : Exit → Act → World → Prop} {s x : Operand} {t : TypeId} {v' : Value}
    (hop : o.op = Op.call { callee := Callee.builtin Builtin.append, args := #[s, x], argTypes := #[t, t] }) (hrun : (Builtin.append_ #[t, t] o.type #[a.eval s, a.eval x]).run P w = .ok v' w') (h : K (a.put o.dst v') w') : o.wpIn F n P a w K Q := by
  unfold Oper.wpIn
  refine ⟨?_, ?_⟩
  · simp [Oper.about, hop, resolve, Target.leads, Sem.run_pure]
  · rw [Oper.semAt_plain F _ _ (by rw [hop]; intro c hc'; cases hc')]
    simp [execOp, hop, resolve, invoke, builtin, hrun, Result.andThen]
    exact h

set_option maxRecDepth 100000 in
set_option maxHeartbeats 4000000 in
theorem split_in (s sep : ByteArray) (h1 : sep.size = 1) (hs : s.size ≤ 4000) (b : UInt8) (hb : sep[0]'(by omega) = b) (w : World) :
    CallsIn Fence.wide 5 Try.prog 10 #[.string s, .string sep] w fun e W' => ∃ v, e = .returned (.tuple #[v, .bool true]) ∧ (OwnStrs w.heap.size v (splitL b s.data.toList) W' ∧ Below w.heap.size w W') := by
  obtain ⟨i0, hi, hz0, hz1, hz2⟩ := info_parts infoS
  have hlen : (splitL b s.data.toList).length ≤ 4001 := by
    have := splitL_len b s.data.toList
    simp at this
    omega
  have h01 : (0 : Int) < (1 : Int) := by omega
  have h0s : 0 < sep.size := by omega
  refine callsIn_of_wp_marks Try.func10 rfl trivial ?_ rfl
  simp only [Try.ntmps10, List.size_toArray, List.length_cons, List.length_nil, Nat.reduceAdd, Nat.reduceSub, Array.replicate_succ, Array.replicate_zero, List.push_toArray, List.append_toArray, List.nil_append, List.cons_append]
  have hs' : decide ((4000 : Int) < (s.size : Int)) = false := by simp; omega
  gi_wp2_with (refine ⟨trivial, ?_⟩; gi_at_call 27; refine (between_in _ _ _ _).mono ?_; rintro e w' ⟨rfl, rfl⟩)
  have bP := ((Boxed.new (w.alloc (.cells #[] 9)) 26 (.slice (some ⟨w.heap.size, 0, none⟩) 0 0)).alloc (.cells #[.string s] 9)).alloc (.cells #[.int .u8 (b.toNat : Int)] 5)
  have bS := (Boxed.new ((w.alloc (.cells #[] 9)).alloc (.cells #[.slice (some ⟨w.heap.size, 0, none⟩) 0 0] 26)) 9 (.string s)).alloc (.cells #[.int .u8 (b.toNat : Int)] 5)
  have bX := Boxed.new (((w.alloc (.cells #[] 9)).alloc (.cells #[.slice (some ⟨w.heap.size, 0, none⟩) 0 0] 26)).alloc (.cells #[.string s] 9)) 5 (.int .u8 (b.toNat : Int))
  have hown := (((own_empty w w.heap.size (Nat.le_refl _)).alloc (.cells #[.slice (some ⟨w.heap.size, 0, none⟩) 0 0] 26)).alloc (.cells #[.string s] 9)).alloc (.cells #[.int .u8 (b.toNat : Int)] 5)
  have hB0 : Below w.heap.size w ((((w.alloc (.cells #[] 9)).alloc (.cells #[.slice (some ⟨w.heap.size, 0, none⟩) 0 0] 26)).alloc (.cells #[.string s] 9)).alloc (.cells #[.int .u8 (b.toNat : Int)] 5)) :=
    ((((Below.refl _ w).alloc (Nat.le_refl _) _).alloc (by simp) _).alloc (by simp; omega) _).alloc (by simp; omega) _
  obtain ⟨W0, hW0⟩ : ∃ W0, ((((w.alloc (.cells #[] 9)).alloc (.cells #[.slice (some ⟨w.heap.size, 0, none⟩) 0 0] 26)).alloc (.cells #[.string s] 9)).alloc (.cells #[.int .u8 (b.toNat : Int)] 5)) = W0 := ⟨_, rfl⟩
  have hsz : W0.heap.size = w.heap.size + 1 + 1 + 1 + 1 := by rw [← hW0]; simp
  rw [hW0] at bP bS bX hown hB0 ⊢
  simp only [World.size_alloc] at bP bS bX
  clear hW0
  obtain ⟨q, hq⟩ : ∃ q, w.heap.size = q := ⟨_, rfl⟩
  rw [hq] at bP bS bX hown hB0 hsz ⊢
  refine wpIn_rangeFunc_ownG rfl (by omega) (gf := 39) (lb := #[.pointer (some ⟨q + 1 + 1, 0, none⟩), .pointer (some ⟨q + 1 + 1 + 1, 0, none⟩)]) rfl trivial (enters_of Try.func39 (by kernel_rfl) rfl)
    (pieces_stops 4 (by omega) (q + 1 + 1) (q + 1 + 1 + 1) s b _ rfl (by omega) W0 (by omega) (by omega) bS.cell bX.cell) Kb.t (Kb.b (w := W0)) (Below.refl _ _) (fun _ => rfl)
    (Rd q (.int .u8 (b.toNat : Int)) w)
    (fun _ _ _ => False)
    (OwnFrom.and (Own.from (holdsRow_own q (q + 1) 26 9 1 (fun pre : List Pc => pre.length) (fun pre => pre.map fun x => Value.string x.1) (fun _ _ => True)) _) (OwnFrom.and (Own.from (boxed_own (q + 1 + 1 + 1) 5 (fun _ => .int .u8 (b.toNat : Int))) _) (ownFrom_below (by omega) (by omega))))
    (fun _ _ _ _ _ hs _ _ => hs)
    ⟨⟨_, bP, hown, trivial⟩, bX, hB0⟩
    (fun x => { tmps := #[.string s, .string sep, undef, undef, .slice none 0 0, .bool false, .pointer (some ⟨q + 1, 0, none⟩), .string x.1, .string s, .int .i64 s.size, .bool false, .bool false, .string sep, .int .i64 1, .bool false, .bool false, undef, .slice (some ⟨q, 0, none⟩) 0 0, .string s, .string sep, .int .u8 (b.toNat : Int), .func (.func 39) #[] #[.pointer (some ⟨q + 1 + 1, 0, none⟩), .pointer (some ⟨q + 1 + 1 + 1, 0, none⟩)], .string x.1, undef, undef, undef, undef, undef, undef], defers := [] }) ?assign ?body ?done ?stop
  case assign =>
    intro l x W K hK
    gi_wp2
    exact hK
  case body =>
    rintro l pre x W ⟨⟨v, hv, hrow, _⟩, hx, hB⟩ hlt
    have hmx : Try.prog.follows .mixedOrders = true := by kernel_rfl
    have hc := hv.cell
    have hqW : q ≤ W.heap.size := by have := hv.lt; omega
    have hxz : x.1.size ≤ 1048576 := x.2
    have hpl : pre.length + 1 ≤ 4001 := by omega
    gi_wp2
    refine wpIn_region_any hmx ?_
    change wpAnyIn _ _ _ _ _ _ _ _ _ (World.drew _)
    refine wpAnyIn_ready (rs := [0, 1]) (by kernel_rfl) (by simp) ?_
    refine AllReadyIn.cons rfl (fun K hK => ?_) (AllReadyIn.cons rfl (fun K hK => ?_) AllReadyIn.nil)
    · go_simp
      refine hK _ _ ?_
      clear hK K
      refine wpAnyIn_ready (rs := [1]) (by kernel_rfl) (by simp) ?_
      refine AllReadyIn.cons rfl (fun K hK => ?_) AllReadyIn.nil
      go_simp
      refine hK _ _ ?_
      clear hK K
      refine wpAnyIn_ready (rs := [2]) (by kernel_rfl) (by simp) ?_
      refine AllReadyIn.cons rfl (fun K hK => ?_) AllReadyIn.nil
      go_simp
      gi_wp2_with (refine ⟨trivial, ?_⟩; gi_at_call 28; refine (CallsIn.inRound l (callsIn_wide.2 (clone_any x.1 _ hxz))).mono ?_; rintro e w1 ⟨rfl, hb1⟩; obtain ⟨g, cap, w2, hrun, hc1, hc1', hc2, hf2, hR⟩ := round_facts (B := W0.heap.size) x hv hrow hx hB hpl hb1)
      refine wpAnyIn_ready (rs := [3]) (by kernel_rfl) (by simp) ?_
      refine AllReadyIn.cons rfl (fun K hK => ?_) AllReadyIn.nil
      go_simp
      refine hK _ _ ?_
      clear hK K
      refine wpAnyIn_ready (rs := [4]) (by kernel_rfl) (by simp) ?_
      refine BigFrame.allReadyIn_want rfl (by kernel_rfl) (fun K hK => ?_) AllReadyIn.nil
      refine opIn_append rfl hrun ?_
      refine hK _ _ ?_
      clear hK K
      refine wpAnyIn_ready (rs := [5]) (by kernel_rfl) (by simp) ?_
      refine AllReadyIn.cons rfl (fun K hK => ?_) AllReadyIn.nil
      go_simp
      refine hK _ _ ?_
      clear hK K
      refine wpAnyIn_done (by kernel_rfl) ?_ _
      exact hR
    · go_simp
      refine hK _ _ ?_
      clear hK K
      refine wpAnyIn_ready (rs := [0, 2]) (by kernel_rfl) (by simp) ?_
      refine AllReadyIn.cons rfl (fun K hK => ?_) (AllReadyIn.cons rfl (fun K hK => ?_) AllReadyIn.nil)
      · go_simp
        refine hK _ _ ?_
        clear hK K
        refine wpAnyIn_ready (rs := [2]) (by kernel_rfl) (by simp) ?_
        refine AllReadyIn.cons rfl (fun K hK => ?_) AllReadyIn.nil
        go_simp
        gi_wp2_with (refine ⟨trivial, ?_⟩; gi_at_call 28; refine (CallsIn.inRound l (callsIn_wide.2 (clone_any x.1 _ hxz))).mono ?_; rintro e w1 ⟨rfl, hb1⟩; obtain ⟨g, cap, w2, hrun, hc1, hc1', hc2, hf2, hR⟩ := round_facts (B := W0.heap.size) x hv hrow hx hB hpl hb1)
        refine wpAnyIn_ready (rs := [3]) (by kernel_rfl) (by simp) ?_
        refine AllReadyIn.cons rfl (fun K hK => ?_) AllReadyIn.nil
        go_simp
        refine hK _ _ ?_
        clear hK K
        refine wpAnyIn_ready (rs := [4]) (by kernel_rfl) (by simp) ?_
        refine BigFrame.allReadyIn_want rfl (by kernel_rfl) (fun K hK => ?_) AllReadyIn.nil
        refine opIn_append rfl hrun ?_
        refine hK _ _ ?_
        clear hK K
        refine wpAnyIn_ready (rs := [5]) (by kernel_rfl) (by simp) ?_
        refine AllReadyIn.cons rfl (fun K hK => ?_) AllReadyIn.nil
        go_simp
        refine hK _ _ ?_
        clear hK K
        refine wpAnyIn_done (by kernel_rfl) ?_ _
        exact hR
      · go_simp
        gi_wp2_with (refine ⟨trivial, ?_⟩; gi_at_call 28; refine (CallsIn.inRound l (callsIn_wide.2 (clone_any x.1 _ hxz))).mono ?_; rintro e w1 ⟨rfl, hb1⟩; obtain ⟨g, cap, w2, hrun, hc1, hc1', hc2, hf2, hR⟩ := round_facts (B := W0.heap.size) x hv hrow hx hB hpl hb1)
        refine wpAnyIn_ready (rs := [0, 3]) (by kernel_rfl) (by simp) ?_
        refine AllReadyIn.cons rfl (fun K hK => ?_) (AllReadyIn.cons rfl (fun K hK => ?_) AllReadyIn.nil)
        · go_simp
          refine hK _ _ ?_
          clear hK K
          refine wpAnyIn_ready (rs := [3]) (by kernel_rfl) (by simp) ?_
          refine AllReadyIn.cons rfl (fun K hK => ?_) AllReadyIn.nil
          go_simp
          refine hK _ _ ?_
          clear hK K
          refine wpAnyIn_ready (rs := [4]) (by kernel_rfl) (by simp) ?_
          refine BigFrame.allReadyIn_want rfl (by kernel_rfl) (fun K hK => ?_) AllReadyIn.nil
          refine opIn_append rfl hrun ?_
          refine hK _ _ ?_
          clear hK K
          refine wpAnyIn_ready (rs := [5]) (by kernel_rfl) (by simp) ?_
          refine AllReadyIn.cons rfl (fun K hK => ?_) AllReadyIn.nil
          go_simp
          refine hK _ _ ?_
          clear hK K
          refine wpAnyIn_done (by kernel_rfl) ?_ _
          exact hR
        · go_simp
          refine hK _ _ ?_
          clear hK K
          refine wpAnyIn_ready (rs := [0]) (by kernel_rfl) (by simp) ?_
          refine AllReadyIn.cons rfl (fun K hK => ?_) AllReadyIn.nil
          go_simp
          refine hK _ _ ?_
          clear hK K
          refine wpAnyIn_ready (rs := [4]) (by kernel_rfl) (by simp) ?_
          refine BigFrame.allReadyIn_want rfl (by kernel_rfl) (fun K hK => ?_) AllReadyIn.nil
          refine opIn_append rfl hrun ?_
          refine hK _ _ ?_
          clear hK K
          refine wpAnyIn_ready (rs := [5]) (by kernel_rfl) (by simp) ?_
          refine AllReadyIn.cons rfl (fun K hK => ?_) AllReadyIn.nil
          go_simp
          refine hK _ _ ?_
          clear hK K
          refine wpAnyIn_done (by kernel_rfl) ?_ _
          exact hR
  case done =>
    rintro D ys W hD hys ⟨⟨v, hv, hrow, _⟩, hx, hB⟩ hK
    have hc := hv.cell
    gi_wp2
    refine ⟨by simp, .inl ⟨_, _, rfl, run_takeDeferred hK, ?_⟩⟩
    refine ⟨_, results_tmp2 rfl _ _ _, v, rfl, ?_⟩
    rw [hq]
    refine ⟨?_, hB.trans (belowK_b (w := W0) (by omega) W D _ _ hD hK rfl rfl)⟩
    unfold OwnStrs
    rw [← hys, pcs_len, ← strs_pcs]
    exact ownsRow_putObj hrow _ hK rfl
  case stop =>
    rintro D c pre W _ _ h _
    exact h.elim
end Go.Proofs.Ytcheogmnhooffaa.S1
