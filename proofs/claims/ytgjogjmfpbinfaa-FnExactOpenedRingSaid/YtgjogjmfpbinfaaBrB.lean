/- The branch behind a pipe, as the program finds it: contracts. Conditions: each theorem's own premises. -/
import Derived.Test.YtgjogjmfpbinfaaBrT
import Derived.Laws.StructEq
import Derived.Laws.Rows
namespace Go.Proofs.Ytgjogjmfpbinfaa.S2
open Go.RowKit P2

theorem findSome_at {α β : Type} {f : α → Option β} : ∀ {l : List α} {k : Nat} {p : α} {y : β}, (∀ j a, j < k → l[j]? = some a → f a = none) → l[k]? = some p → f p = some y → l.findSome? f = some y
  | [], _, _, _, _, h, _ => by simp at h
  | a :: l, 0, p, y, _, h, hf => by
    have e : a = p := by simpa using h
    subst e
    simp [hf]
  | a :: l, k + 1, p, y, hn, h, hf => by
    have h0 := hn 0 a (by omega) (by simp)
    have ih := findSome_at (l := l) (k := k) (fun j b hj hb => hn (j + 1) b (by omega) (by simpa using hb)) (by simpa using h) hf
    simp [h0, ih]

section
variable {ops : Array Oper} {rest : List Oper} {o : Oper} {a : Act} {w : World} {Q : Exit → Act → World → Prop}
theorem pp_beq {p q : Pp} (h : p ≠ q) : ¬ (p.id = q.id ∧ p.fr = q.fr ∧ p.to = q.to ∧ p.sz = q.sz) := fun ⟨h1, h2, h3, h4⟩ => h (by cases p; cases q; simp_all)
theorem eql_pp (w : World) {p q : Pp} (h : p ≠ q) : (binOp .eql 75 (pv p) (pv q)).run Try.prog w = .ok (.bool false) w := by
  have hS : Try.prog.underlying 75 = some (.struct (Try.prog.fieldsOf 75)) := by kernel_rfl
  have hp : Try.prog.stoodInHeld 75 = false := by kernel_rfl
  obtain ⟨a, b, c, d⟩ := p
  obtain ⟨a2, b2, c2, d2⟩ := q
  have hn := pp_beq h
  unfold pv
  rw [run_eql_struct, show (10000 : Nat) = 9999 + 1 from rfl, run_equalIn_agg w 9999 75 _ _ hS hp]
  simp only [Program.fieldsOf, Try.underlying75, Op.eqFields]
  by_cases h1 : a = a2 <;> by_cases h2 : b = b2 <;> by_cases h3 : c = c2 <;> by_cases h4 : d = d2 <;> first | (exfalso; exact hn ⟨h1, h2, h3, h4⟩) | simp [go_sem, h1, h2, h3, h4]
theorem wpP_eql (hgd : o.guard = none) (x y : Operand) (ho : o.op = .binOp .eql 75 x y 75) (p q : Pp) (hx : a.eval x = pv p) (hy : a.eval y = pv q) (hne : p ≠ q)
    (h : wpList Try.prog ops Q rest (a.put o.dst (.bool false)) w) : wpList Try.prog ops Q (o :: rest) a w :=
  wpList_plain hgd fun _ hK => by
    have hz := eql_pp w hne
    have hg := run_eqGuard_agg (P := Try.prog) w .eql 75 x y #[.int .i64 p.id, .int .i64 p.fr, .int .i64 p.to, .int .i64 p.sz] #[.int .i64 q.id, .int .i64 q.fr, .int .i64 q.to, .int .i64 q.sz] (by kernel_rfl)
    unfold Oper.wp execOp
    simp [ho, hx, hy, Sem.run_bind, hz, hg, Result.andThen]
    exact hK _ _ h
end
abbrev bcs (x : Int) (q : Pp) (v : Value) : Array Value := #[.int .i64 x, .int .i64 q.id, .int .i64 q.fr, .int .i64 q.to, .int .i64 q.sz, v]
def WRow (w : World) (g : Nat) (cs : Array Value) : Prop := w.heap[g]? = some (.cells cs 144 (0, 0))
theorem infoB : (Try.prog.info? 144).map (·.size) = some 6 := by kernel_rfl
theorem grown_row6 {w : World} {g : Nat} (cs : Array Value) : w.grownBy (w.setRow g cs) (some g) :=
  ⟨rfl, rfl, rfl, by simp, fun k _ hne => setRow_other w g k cs (fun e => hne (by rw [e]))⟩
theorem bcs_one (x : Int) (q : Pp) (A : Option Addr) (l c : Nat) : (bcs x q (.slice A l c)).all (·.oneCell') = true := by simp [Value.oneCell']
theorem wpB_store {ops : Array Oper} {rest : List Oper} {o : Oper} {a : Act} {w : World} {Q : Exit → Act → World → Prop} (hgd : o.guard = none) (x y : Operand) (ho : o.op = .store 144 x y) (hd : o.dst = none) (g : Nat) (hx : a.eval x = .pointer (some ⟨g, 0, none⟩)) (z : Int) (q : Pp) (A : Option Addr) (l c : Nat) (hy : a.eval y = .agg (bcs z q (.slice A l c))) (z0 : Int) (q0 : Pp) (A0 : Option Addr) (l0 c0 : Nat) (he : WRow w g (bcs z0 q0 (.slice A0 l0 c0)))
    (h : ∀ w', WRow w' g (bcs z q (.slice A l c)) → w.grownBy w' (some g) → wpList Try.prog ops Q rest a w') : wpList Try.prog ops Q (o :: rest) a w :=
  wpList_store_row hgd 144 x y ho g _ hx hy 144 _ he infoB rfl (bcs_one z q A l c)
    (by rw [hd]; exact h _ (setRow_heap w g _ _ _ (0, 0) he) (grown_row6 _))
theorem WRow.cell {w : World} {g : Nat} {cs : Array Value} (h : WRow w g cs) (k : Nat) : w.cell? ⟨g, k, none⟩ = cs[k]? := cell_of_row w g k _ _ _ h
theorem WRow.lt {w : World} {g : Nat} {cs : Array Value} (h : WRow w g cs) : g < w.heap.size := (Array.getElem?_eq_some_iff.1 h).1
theorem WRow.kept {w w' : World} {g : Nat} {cs : Array Value} (h : WRow w g cs) (hb : w'.heap[g]? = w.heap[g]?) : WRow w' g cs := by
  unfold WRow; rw [hb]; exact h
/-- A pipe in memory. -/
def PC (w : World) (b o : Nat) (p : Pp) : Prop :=
  w.cell? ⟨b, o, none⟩ = some (.int .i64 p.id) ∧ w.cell? ⟨b, o + 1, none⟩ = some (.int .i64 p.fr) ∧ w.cell? ⟨b, o + 2, none⟩ = some (.int .i64 p.to) ∧ w.cell? ⟨b, o + 3, none⟩ = some (.int .i64 p.sz)
theorem PC.kept {w w' : World} {b o : Nat} {p : Pp} (h : PC w b o p) (hb : w'.heap[b]? = w.heap[b]?) : PC w' b o p := by
  have hc : ∀ k, w'.cell? ⟨b, k, none⟩ = w.cell? ⟨b, k, none⟩ := fun k => World.cell?_of_block hb
  obtain ⟨h0, h1, h2, h3⟩ := h
  exact ⟨(hc _).trans h0, (hc _).trans h1, (hc _).trans h2, (hc _).trans h3⟩
theorem findSome_none {α β : Type} {f : α → Option β} : ∀ {l : List α}, (∀ j a, j < l.length → l[j]? = some a → f a = none) → l.findSome? f = none
  | [], _ => rfl
  | a :: l, h => by
    have h0 := h 0 a (by simp) (by simp)
    have ih := findSome_none (l := l) (fun j b hj hb => h (j + 1) b (by simp; omega) (by simpa using hb))
    simp [h0, ih]

/-- What the search of a pipe's branch gives. -/
def BehIs (n : Nat) (ps : List Pp) (P : Nat → Prop) (p0 : Pp) (r : Option Int) (w : World) (e : Ending) (w' : World) : Prop :=
  ((∃ y A' c' d', r = some y ∧ e = .returned (.tuple #[bv y p0 A' (kidsL ps y p0).length c', .bool true]) ∧ BrOk n ps y p0 ∧ cntB n ps y p0 ≤ d' ∧ RepIn ps P d' w' A' y p0) ∨
   (r = none ∧ e = .returned (.tuple #[bv 0 ⟨0, 0, 0, 0⟩ none 0 0, .bool false]))) ∧ Below w.heap.size w w'

theorem beh_none {n : Nat} {ps : List Pp} {P : Nat → Prop} {p0 : Pp} {e : Ending} {w' : World} (h : (∃ y A' c' d', (none : Option Int) = some y ∧ e = .returned (.tuple #[bv y p0 A' (kidsL ps y p0).length c', .bool true]) ∧ BrOk n ps y p0 ∧ cntB n ps y p0 ≤ d' ∧ RepIn ps P d' w' A' y p0) ∨
   ((none : Option Int) = none ∧ e = .returned (.tuple #[bv 0 ⟨0, 0, 0, 0⟩ none 0 0, .bool false]))) : e = .returned (.tuple #[bv 0 ⟨0, 0, 0, 0⟩ none 0 0, .bool false]) := by
  rcases h with ⟨_, _, _, _, h, _⟩ | ⟨_, h⟩
  · cases h
  · exact h
theorem beh_some {n : Nat} {ps : List Pp} {P : Nat → Prop} {p0 : Pp} {y : Int} {e : Ending} {w' : World} (h : (∃ z A' c' d', some y = some z ∧ e = .returned (.tuple #[bv z p0 A' (kidsL ps z p0).length c', .bool true]) ∧ BrOk n ps z p0 ∧ cntB n ps z p0 ≤ d' ∧ RepIn ps P d' w' A' z p0) ∨
   (some y = none ∧ e = .returned (.tuple #[bv 0 ⟨0, 0, 0, 0⟩ none 0 0, .bool false]))) : ∃ A' c' d', e = .returned (.tuple #[bv y p0 A' (kidsL ps y p0).length c', .bool true]) ∧ BrOk n ps y p0 ∧ cntB n ps y p0 ≤ d' ∧ RepIn ps P d' w' A' y p0 := by
  rcases h with ⟨z, A', c', d', h, h2⟩ | ⟨h, _⟩
  · cases h; exact ⟨A', c', d', h2⟩
  · cases h

set_option maxHeartbeats 2000000 in
set_option maxRecDepth 100000 in
theorem bbeh_any {n : Nat} {ps : List Pp} (P : Nat → Prop) (B : Nat) (hPB : ∀ b, P b → b < B) (hg : P2.Good n ps) (ha : Acy ps) (p0 : Pp) : ∀ (d : Nat) (x : Int) (q : Pp) (A : Option Addr) (cap : Nat) (w : World), B ≤ w.heap.size → BrOk n ps x q → cntB n ps x q ≤ d → RepIn ps P d w A x q →
    Calls Try.prog 167 #[bv x q A (kidsL ps x q).length cap, pv p0] w (BehIs n ps P p0 (fnd ps p0 d x q) w) := by
  intro d
  induction d with
  | zero => intro x q A cap w _ _ _ h; exact h.elim
  | succ d ih =>
    intro x q A cap w hBw hbr hcnt h
    have hkl : (kidsL ps x q).length ≤ 10 := Nat.le_trans (List.length_filter_le _ _) hg.2.2.1
    by_cases hq : q = p0
    · subst hq
      have HF := Lib.hid (show fnd ps q (d + 1) x q = some x from by rw [fnd, if_pos rfl])
      rw [HF.out]
      obtain ⟨xid, xfr, xto, xsz⟩ := q
      obtain ⟨m, hm⟩ : ∃ m, (kidsL ps x ⟨xid, xfr, xto, xsz⟩).length = m := ⟨_, rfl⟩
      have HM := Lib.hid hm
      have HR := Lib.hid (fun w' (hb : Below w.heap.size w w') => h.below hb)
      have HBR := Lib.hid hbr
      have HCN := Lib.hid hcnt
      rw [hm]
      clear hm h hbr hcnt ih HF
      go_enter Try.func167, Try.ntmps167
      go_wp2
      have hB := ((((Below.refl w.heap.size w).alloc (Nat.le_refl _) (.cells #[.int .i64 x, .int .i64 xid, .int .i64 xfr, .int .i64 xto, .int .i64 xsz, .slice A m cap] 144)).alloc (by simp) (.cells #[.int .i64 xid, .int .i64 xfr, .int .i64 xto, .int .i64 xsz] 75)).alloc (by simp; omega) (.cells #[.int .i64 x, .int .i64 xid, .int .i64 xfr, .int .i64 xto, .int .i64 xsz, .slice A m cap] 144))
      refine bodyPost_ret (v := .tuple #[.agg #[.int .i64 x, .int .i64 xid, .int .i64 xfr, .int .i64 xto, .int .i64 xsz, .slice A m cap], .bool true]) (by simp [results, Try.results167, go_sem]) rfl ⟨.inl ⟨x, A, cap, d + 1, rfl, by rw [HM.out], HBR.out, HCN.out, HR.out _ hB⟩, hB⟩
    · have HF := Lib.hid (show fnd ps p0 (d + 1) x q = (kidsL ps x q).findSome? fun p => fnd ps p0 d (oth p x) p from by rw [fnd, if_neg hq])
      rw [HF.out]
      have HR := Lib.hid (fun w' (hb : Below w.heap.size w w') => h.below hb)
      have HK := Lib.hid (fun k p (hp : (kidsL ps x q)[k]? = some p) => (show BrOk n ps (oth p x) p ∧ cntB n ps (oth p x) p ≤ d from by
        have hmem := List.mem_of_getElem? hp
        have h1 := cnt_kid ha hbr hmem
        exact ⟨hbr.kid hg hmem, by omega⟩))
      have HIH := Lib.hid ih
      clear h hbr hcnt ih HF
      obtain ⟨Ks, hKs⟩ : ∃ Ks, kidsL ps x q = Ks := ⟨_, rfl⟩
      have HKs := Lib.hid hKs
      rw [hKs] at hkl HK ⊢
      clear hKs
      have hne : q ≠ p0 := hq
      have HNE := Lib.hid hne
      clear hq hne
      obtain ⟨W, hW⟩ : ∃ W, W = (((w.alloc (.cells #[.int .i64 x, .int .i64 q.id, .int .i64 q.fr, .int .i64 q.to, .int .i64 q.sz, .slice A Ks.length cap] 144)).alloc (.cells #[.int .i64 p0.id, .int .i64 p0.fr, .int .i64 p0.to, .int .i64 p0.sz] 75)).alloc (.cells #[.int .i64 0, .int .i64 0, .int .i64 0, .int .i64 0, .int .i64 0, .slice none 0 0] 144)) := ⟨_, rfl⟩
      have HW0 : Hid (Below w.heap.size w W) := Lib.hid (by rw [hW]; exact ((((Below.refl w.heap.size w).alloc (Nat.le_refl _) _).alloc (by simp) _).alloc (by simp; omega) _))
      have HWS : Hid (W.heap.size = w.heap.size + 1 + 1 + 1) := Lib.hid (by rw [hW]; simp [Nat.add_assoc])
      have HWP : Hid (PC W (w.heap.size + 1) 0 p0) := Lib.hid (by
        have h1 : PC ((w.alloc (.cells #[.int .i64 x, .int .i64 q.id, .int .i64 q.fr, .int .i64 q.to, .int .i64 q.sz, .slice A Ks.length cap] 144)).alloc (.cells #[.int .i64 p0.id, .int .i64 p0.fr, .int .i64 p0.to, .int .i64 p0.sz] 75)) (w.heap.size + 1) 0 p0 := by
          have e : w.heap.size + 1 = (w.alloc (.cells #[.int .i64 x, .int .i64 q.id, .int .i64 q.fr, .int .i64 q.to, .int .i64 q.sz, .slice A Ks.length cap] 144)).heap.size := by simp
          unfold PC
          rw [e]
          refine ⟨?_, ?_, ?_, ?_⟩ <;> rw [World.cell?_alloc_at _ _ _ _ rfl] <;> rfl
        rw [hW]
        exact h1.kept ((Below.refl _ _).alloc (Nat.le_refl _) _ |>.block _ (by simp)))
      have HWB : Hid (WRow W (w.heap.size + 1 + 1) (bcs 0 ⟨0, 0, 0, 0⟩ (.slice none 0 0))) := Lib.hid (by
        have e : w.heap.size + 1 + 1 = ((w.alloc (.cells #[.int .i64 x, .int .i64 q.id, .int .i64 q.fr, .int .i64 q.to, .int .i64 q.sz, .slice A Ks.length cap] 144)).alloc (.cells #[.int .i64 p0.id, .int .i64 p0.fr, .int .i64 p0.to, .int .i64 p0.sz] 75)).heap.size := by simp
        rw [hW]
        unfold WRow
        rw [e]
        exact heap_alloc_new _ _)
      go_enter Try.func167, Try.ntmps167
      go_wp2_with (first
        | (with_reducible refine wpP_eql rfl _ _ rfl q p0 rfl rfl HNE.out ?_))
      rw [← hW]
      clear hW
      go_loopw [18] (fun i wr => ∃ k : Nat, k ≤ Ks.length ∧ i = .int .i64 (k : Int) ∧ Hid (∀ j p, j < k → Ks[j]? = some p → fnd ps p0 d (oth p x) p = none) ∧ Hid (Below W.heap.size W wr)) (fun i _ => Ks.length - (intOf i).toNat)
      case atStart => exact ⟨0, Nat.zero_le _, rfl, Lib.hid (fun j p h => by omega), Lib.hid (Below.refl _ _)⟩
      case round =>
        obtain ⟨k, hk, rfl, hnone, hB⟩ := hrel
        have HB0 := Lib.hid (HW0.out.trans (hB.out.mono HW0.out.size))
        by_cases hlt : k < Ks.length
        · obtain ⟨p, hp⟩ : ∃ p, Ks[k]? = some p := ⟨_, List.getElem?_eq_getElem hlt⟩
          have hrep := HR.out wr HB0.out
          rcases hrep with h0 | ⟨b, hA, _, hbl, hkids⟩
          · rw [HKs.out] at h0; rw [h0] at hlt; simp at hlt
          · subst hA
            rw [HKs.out] at hkids
            obtain ⟨A', c', hbc, hrp⟩ := hkids k p hp
            obtain ⟨c0, c1, c2, c3, c4, c5⟩ := hbc
            have HRP := Lib.hid hrp
            obtain ⟨hbk, hck⟩ := HK.out k p hp
            have hk0 : (0 : Int) ≤ (k : Int) := by omega
            have hkn : (k : Int) < (Ks.length : Int) := by omega
            have hs0 := HWS.out
            have hs1 := hB.out.size
            have hl1 : w.heap.size + 1 < wr.heap.size := by omega
            have hl2 : w.heap.size + 1 + 1 < wr.heap.size := by omega
            have hl3 : w.heap.size + 1 + 1 < W.heap.size := by omega
            have hl4 : w.heap.size + 1 < W.heap.size := by omega
            have hBr : B ≤ wr.heap.size := by omega
            clear hs0 hs1
            have HC := Lib.hid (fun w' (hb : Below wr.heap.size wr w') => HIH.out (oth p x) p A' c' w' (Nat.le_trans hBr hb.size) hbk hck (HRP.out.below hb))
            obtain ⟨p1, p2, p3, p4⟩ := HWP.out.kept (hB.out.block _ hl4)
            have HP := Lib.hid hp
            clear hkids hrp hp hbk hck
            cases hv : fnd ps p0 d (oth p x) p with
            | none =>
              have HV := Lib.hid (show ∀ p', Ks[k]? = some p' → fnd ps p0 d (oth p' x) p' = none from fun p' h' => by rw [HP.out] at h'; cases h'; exact hv)
              rw [hv] at HC
              clear hv
              generalize oth p x = y at *
              generalize (kidsL ps y p).length = m at *
              go_wp2_with (first
                | (go_at_call 167; refine (HC.out _ ((Below.refl _ _).alloc (Nat.le_refl _) _)).mono ?_; rintro e w5 ⟨hor, hb5⟩; replace hor := beh_none hor; subst hor; have hb6 := Lib.hid (((Below.refl wr.heap.size wr).alloc (Nat.le_refl _) (.cells #[.int .i64 y, .int .i64 p.id, .int .i64 p.fr, .int .i64 p.to, .int .i64 p.sz, .slice A' m c'] 144)).trans (hb5.mono (by simp)))))
              go_roundw
              case rel =>
                refine ⟨k + 1, by omega, by go_num, Lib.hid (fun j p' hj hp' => ?_), Lib.hid ((hB.out.trans (hb6.out.mono hB.out.size)).alloc (by have := hB.out.size; have := hb6.out.size; omega) _)⟩
                by_cases hjk : j < k
                · exact hnone.out j p' hjk hp'
                · have e : j = k := by omega
                  subst e
                  exact HV.out p' hp'
              case measure => simp [intOf]; omega
            | some z =>
              have HV := Lib.hid (findSome_at (f := fun p => fnd ps p0 d (oth p x) p) (fun j a hj ha => hnone.out j a hj ha) HP.out hv)
              rw [hv] at HC
              clear hv
              generalize oth p x = y at *
              generalize (kidsL ps y p).length = m at *
              have hal := Lib.hid ((Below.refl wr.heap.size wr).alloc (Nat.le_refl _) (.cells #[.int .i64 y, .int .i64 p.id, .int .i64 p.fr, .int .i64 p.to, .int .i64 p.sz, .slice A' m c'] 144))
              go_wp2_with (first
                | (go_at_call 167; refine (HC.out _ ((Below.refl _ _).alloc (Nat.le_refl _) _)).mono ?_; rintro e w5 ⟨hor, hb5⟩; obtain ⟨A5, c5, d5, he5, hbr5, hcn5, hrp5⟩ := beh_some hor; subst he5; clear hor; have hb6 := Lib.hid (hal.out.trans (hb5.mono (by simp))); have HR5 := Lib.hid hrp5; have HBR5 := Lib.hid hbr5; have HCN5 := Lib.hid hcn5; clear hrp5 hbr5 hcn5 hb5; obtain ⟨m5, hm5⟩ : ∃ m5, (kidsL ps z p0).length = m5 := ⟨_, rfl⟩; have HM5 := Lib.hid hm5; rw [hm5]; clear hm5)
                | ((with_reducible refine wpB_store rfl _ _ rfl rfl (w.heap.size + 1 + 1) rfl z p0 A5 m5 c5 rfl 0 ⟨0, 0, 0, 0⟩ none 0 0 ((HWB.out.kept (hB.out.block _ hl3)).kept ((hb6.out.alloc hb6.out.size _).block _ hl2)) ?_); intro w7 he7 hg7; refine Hid.out ?_))
              have s0 : w7.cell? ⟨w.heap.size + 1 + 1, 0, none⟩ = some (.int .i64 z) := he7.cell 0
              have s1 : w7.cell? ⟨w.heap.size + 1 + 1, 1, none⟩ = some (.int .i64 p0.id) := he7.cell 1
              have s2 : w7.cell? ⟨w.heap.size + 1 + 1, 2, none⟩ = some (.int .i64 p0.fr) := he7.cell 2
              have s3 : w7.cell? ⟨w.heap.size + 1 + 1, 3, none⟩ = some (.int .i64 p0.to) := he7.cell 3
              have s4 : w7.cell? ⟨w.heap.size + 1 + 1, 4, none⟩ = some (.int .i64 p0.sz) := he7.cell 4
              have s5 : w7.cell? ⟨w.heap.size + 1 + 1, 5, none⟩ = some (.slice A5 m5 c5) := he7.cell 5
              have HB5 := Lib.hid ((HB0.out.trans (hb6.out.mono HB0.out.size)).alloc (HB0.out.trans (hb6.out.mono HB0.out.size)).size (.cells #[.int .i64 z, .int .i64 p0.id, .int .i64 p0.fr, .int .i64 p0.to, .int .i64 p0.sz, .slice A5 m5 c5] 144))
              have HB7 := Lib.hid (HB5.out.grown hg7 HB5.out.size (fun g hg => by simp at hg; omega))
              have hB5w : B ≤ w5.heap.size := by have := hb6.out.size; omega
              have HX5 := Lib.hid (((Below.refl B w5).alloc hB5w (.cells #[.int .i64 z, .int .i64 p0.id, .int .i64 p0.fr, .int .i64 p0.to, .int .i64 p0.sz, .slice A5 m5 c5] 144)).grown hg7 (by simp; omega) (fun g hg => by simp at hg; omega))
              have HR7 := Lib.hid (RepIn.kept (Q := P) (fun _ h _ => h) (fun b' hp' _ => HX5.out.block b' (hPB b' hp')) HX5.out.size _ _ _ _ HR5.out)
              clear hg7 he7
              refine Lib.hid ?_
              go_wp2
              exact bodyPost_ret (v := .tuple #[.agg #[.int .i64 z, .int .i64 p0.id, .int .i64 p0.fr, .int .i64 p0.to, .int .i64 p0.sz, .slice A5 m5 c5], .bool true]) (by simp [results, Try.results167, go_sem, s0, s1, s2, s3, s4, s5]) rfl ⟨.inl ⟨z, A5, c5, d5, HV.out, by rw [HM5.out], HBR5.out, HCN5.out, HR7.out⟩, HB7.out⟩
        · have hkk : k = Ks.length := by omega
          subst hkk
          have hs0 := HWS.out
          have hl3 : w.heap.size + 1 + 1 < W.heap.size := by omega
          clear hs0
          go_wp2_with (first
                | ((with_reducible refine wpB_store rfl _ _ rfl rfl (w.heap.size + 1 + 1) rfl 0 ⟨0, 0, 0, 0⟩ none 0 0 rfl 0 ⟨0, 0, 0, 0⟩ none 0 0 (HWB.out.kept (hB.out.block _ hl3)) ?_); intro w7 he7 hg7; refine Hid.out ?_))
          have s0 : w7.cell? ⟨w.heap.size + 1 + 1, 0, none⟩ = some (.int .i64 0) := he7.cell 0
          have s1 : w7.cell? ⟨w.heap.size + 1 + 1, 1, none⟩ = some (.int .i64 0) := he7.cell 1
          have s2 : w7.cell? ⟨w.heap.size + 1 + 1, 2, none⟩ = some (.int .i64 0) := he7.cell 2
          have s3 : w7.cell? ⟨w.heap.size + 1 + 1, 3, none⟩ = some (.int .i64 0) := he7.cell 3
          have s4 : w7.cell? ⟨w.heap.size + 1 + 1, 4, none⟩ = some (.int .i64 0) := he7.cell 4
          have s5 : w7.cell? ⟨w.heap.size + 1 + 1, 5, none⟩ = some (.slice none 0 0) := he7.cell 5
          have HB7 := Lib.hid (HB0.out.grown hg7 HB0.out.size (fun g hg => by simp at hg; omega))
          have HV := Lib.hid (findSome_none (f := fun p => fnd ps p0 d (oth p x) p) (l := Ks) (fun j a hj ha => hnone.out j a hj ha))
          clear hg7 he7
          refine Lib.hid ?_
          go_wp2
          exact bodyPost_ret (v := .tuple #[.agg #[.int .i64 0, .int .i64 0, .int .i64 0, .int .i64 0, .int .i64 0, .slice none 0 0], .bool false]) (by simp [results, Try.results167, go_sem, s0, s1, s2, s3, s4, s5]) rfl ⟨.inr ⟨HV.out, rfl⟩, HB7.out⟩
end Go.Proofs.Ytgjogjmfpbinfaa.S2
