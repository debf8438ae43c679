/- RaiseCurve, the program's and the model's: contracts. Conditions: each theorem's own premises. -/
import Derived.Test.YtpldbakllegheabCvMark
import Derived.Test.YtpldbakllegheabCvHead
import Derived.Test.YtpldbakllegheabCvGoodS
import Derived.Deep.AppendLies
import Derived.Deep.RegionLaw
import Derived.Deep.RegionHeld3
namespace Go.Proofs.Ytpldbakllegheab.S7
open Go.RowKit Go.Sort P7

section
variable {P : Program} (w : World)
theorem step_append_own {ops : Array Oper} {o : Oper} {a : Act} {K : Act → World → Prop} {Q : Exit → Act → World → Prop} {E : Prop} (hgd : o.guard = none) (s x : Operand) (t : TypeId)
    (ho : o.op = .call { callee := .builtin .append, args := #[s, x], argTypes := #[t, t] })
    (base : Nat) (e : TypeId) (i : TypeInfo) (z : Value) (size bytes : Nat) (ht : P.underlying t = some (.slice e)) (hi : P.info? e = some i) (hz : i.zero = some z)
    (hsize : i.size = size) (hby : i.bytes = bytes) (hzs : z.cells.size = size) (hsz : 0 < size)
    (v : Value) (n : Nat) (xs : List Value) (hs : a.eval s = v) (hown : w.ownsRow base e size v n xs)
    (ad : Addr) (m c : Nat) (news : List Value) (hx : a.eval x = .slice (some ad) m c) (hl : news.length = m * size) (hnews : ∀ j u, news[j]? = some u → w.cell? (ad.add j) = some u) (h1 : ∀ u ∈ news, u.oneCell' = true)
    (h63 : n + m ≤ maxLen) (hbytes : (n + m) * bytes ≤ 140737488355328) (hbase : base ≤ w.heap.size)
    (h : ∀ v' w', w'.ownsRow base e size v' (n + m) (xs ++ news) → w.grownBy w' v.ownBlock → (v' = .slice none 0 0 ↔ v = .slice none 0 0 ∧ m = 0) → K (a.put o.dst v') w') :
    if Region.wanted o (yielded ops a.tmps) = true then Oper.wp P o a w K Q else E := by
  have hw : Region.wanted o (yielded ops a.tmps) = true := by simp [Region.wanted, hgd]
  rw [if_pos hw]
  exact wp_append_own w s x t ho base e i z size bytes ht hi hz hsize hby hzs hsz v n xs hs hown ad m c news hx hl hnews h1 h63 hbytes hbase h
end

/-- A point raised. -/
def up (h : Int) (c : Cp) : Cp := ⟨c.fl, c.hd + h⟩
def raiseC (cs : List Cp) (h : Int) : List Cp := cs.map (up h)
theorem raiseC_len (cs : List Cp) (h : Int) : (raiseC cs h).length = cs.length := by simp [raiseC]
theorem ccs_app (a b : List Cp) : ccs (a ++ b) = ccs a ++ ccs b := by simp [ccs, List.flatMap_append]
theorem take_at (cs : List Cp) (k : Nat) (h : k < cs.length) : cs.take (k + 1) = cs.take k ++ [cAt cs k] := by
  rw [List.take_succ_eq_append_getElem h, ← cAt_eq cs k h]
theorem raise_take (cs : List Cp) (h : Int) (k : Nat) (hk : k < cs.length) : raiseC (cs.take (k + 1)) h = raiseC (cs.take k) h ++ [up h (cAt cs k)] := by
  unfold raiseC; rw [take_at cs k hk, List.map_append]; rfl
/-- The first k points raised. -/
def rs (cs : List Cp) (h : Int) (k : Nat) : List Cp := raiseC (cs.take k) h ++ cs.drop k
theorem rs_zero (cs : List Cp) (h : Int) : rs cs h 0 = cs := by simp [rs, raiseC]
theorem rs_full (cs : List Cp) (h : Int) (k : Nat) (hk : cs.length ≤ k) : rs cs h k = raiseC cs h := by
  unfold rs; rw [List.take_of_length_le hk, List.drop_of_length_le hk, List.append_nil]
theorem rs_split (cs : List Cp) (h : Int) (k : Nat) (hk : k < cs.length) : rs cs h k = raiseC (cs.take k) h ++ (cAt cs k :: cs.drop (k + 1)) := by
  unfold rs; rw [List.drop_eq_getElem_cons hk, cAt_eq cs k hk]
theorem rs_next (cs : List Cp) (h : Int) (k : Nat) (hk : k < cs.length) : rs cs h (k + 1) = raiseC (cs.take k) h ++ (up h (cAt cs k) :: cs.drop (k + 1)) := by
  unfold rs; rw [raise_take cs h k hk, List.append_assoc]; rfl
theorem rs_cell (cs : List Cp) (h : Int) (k : Nat) (hk : k < cs.length) : (ccs (rs cs h k))[k * 2 + 1]? = some (.int .i64 (cAt cs k).hd) := by
  have hl : (ccs (raiseC (cs.take k) h)).length = k * 2 := by rw [ccs_len, raiseC_len, List.length_take]; omega
  rw [rs_split cs h k hk, ccs_app, List.getElem?_append_right (by omega), hl, show k * 2 + 1 - k * 2 = 1 by omega]
  rfl
theorem rs_set (cs : List Cp) (h : Int) (k : Nat) (hk : k < cs.length) : (ccs (rs cs h k)).set (k * 2 + 1) (.int .i64 ((cAt cs k).hd + h)) = ccs (rs cs h (k + 1)) := by
  have hl : (ccs (raiseC (cs.take k) h)).length = k * 2 := by rw [ccs_len, raiseC_len, List.length_take]; omega
  rw [rs_split cs h k hk, rs_next cs h k hk, ccs_app, ccs_app, List.set_append_right _ _ (by omega), hl, show k * 2 + 1 - k * 2 = 1 by omega]
  rfl
/-- Points beside a bool, in a block of the call's own: as the program gives them; as the model does. -/
def GivesCI (w : World) (l : List Cp) (ok : Bool) (e : Ending) (w' : World) : Prop :=
  ∃ g cap, e = .returned (.tuple #[.slice (some ⟨g, 0, none⟩) l.length cap, .bool ok]) ∧ w.heap.size ≤ g ∧ w'.ownsRow w.heap.size 38 2 (.slice (some ⟨g, 0, none⟩) l.length cap) l.length (ccs l) ∧ Below w.heap.size w w'
theorem own_lowC {w : World} {B B' n : Nat} {v : Value} {xs : List Value} (h : w.ownsRow B 38 2 v n xs) (hB : B' ≤ B := by omega) : w.ownsRow B' 38 2 v n xs := by
  refine ⟨h.1, ?_⟩
  rcases h.2 with h2 | ⟨g, cap, cur, hv, hb, rest⟩
  · exact .inl h2
  · exact .inr ⟨g, cap, cur, hv, by omega, rest⟩
theorem GivesCI.none {w w1 : World} (hb : Below w.heap.size w w1) : GivesCI w [] false (.returned (.tuple #[.slice (some ⟨w1.heap.size, 0, none⟩) 0 0, .bool false])) (w1.alloc (.cells #[] 38)) :=
  ⟨w1.heap.size, 0, rfl, hb.size, own_emptyC w1 _ hb.size, hb.alloc hb.size _⟩
/-- Whether a curve can be raised. -/
noncomputable def rB (cs : List Cp) (h : Int) : Bool := gB cs && decide (-1000 ≤ h ∧ h ≤ 1000) && gB (raiseC cs h)
noncomputable def rL (cs : List Cp) (h : Int) : List Cp := if rB cs h = true then raiseC cs h else []
theorem rL_no {cs : List Cp} {h : Int} (hn : rB cs h = false) : rL cs h = [] := by unfold rL; rw [hn]; simp
theorem rL_yes {cs : List Cp} {h : Int} (hn : rB cs h = true) : rL cs h = raiseC cs h := by unfold rL; rw [if_pos hn]
theorem rL_len (cs : List Cp) (h : Int) : (rL cs h).length ≤ 6 := by
  cases hn : rB cs h with
  | false => rw [rL_no hn]; simp
  | true =>
    rw [rL_yes hn, raiseC_len]
    unfold rB at hn
    simp only [Bool.and_eq_true] at hn
    exact (gB_of hn.1.1).2.1
abbrev RPostI (cs : List Cp) (h : Int) (w : World) : Ending → World → Prop := GivesCI w (rL cs h) (rB cs h)
theorem rpost_no {cs : List Cp} {h : Int} {w w1 : World} (hn : rB cs h = false) (hb : Below w.heap.size w w1) : RPostI cs h w (.returned (.tuple #[.slice (some ⟨w1.heap.size, 0, none⟩) 0 0, .bool false])) (w1.alloc (.cells #[] 38)) := by
  unfold RPostI; rw [rL_no hn, hn]; exact GivesCI.none hb
theorem rpost_yes {cs : List Cp} {h : Int} {w w1 : World} {g cap n : Nat} (hn : rB cs h = true) (hl : cs.length = n) (hg : w.heap.size ≤ g) (ho : w1.ownsRow w.heap.size 38 2 (.slice (some ⟨g, 0, none⟩) n cap) n (ccs (raiseC cs h))) (hb : Below w.heap.size w w1) : RPostI cs h w (.returned (.tuple #[.slice (some ⟨g, 0, none⟩) n cap, .bool true])) w1 := by
  unfold RPostI
  rw [rL_yes hn, hn]
  have e : (raiseC cs h).length = n := (raiseC_len cs h).trans hl
  exact ⟨g, cap, by rw [e], hg, by rw [e]; exact ho, hb⟩

set_option maxHeartbeats 8000000 in
set_option maxRecDepth 100000 in
theorem raise_any (A : Option Addr) (cap : Nat) (cs : List Cp) (h : Int) (w : World) (hA : CAt w A cs) (hm : cs.length ≤ 1048576) :
    Calls Try.prog 29 #[.slice A cs.length cap, .int .i64 h] w (RPostI cs h w) := by
  have HA := Lib.hid hA
  obtain ⟨v, hv⟩ : ∃ v, gB cs = v := ⟨_, rfl⟩
  have HV := Lib.hid (valid_w hv A cap w hA hm)
  cases v with
  | false =>
    have hfin := Lib.hid (show rB cs h = false by unfold rB; rw [hv]; rfl)
    clear hv hA
    go_enter Try.func29, Try.ntmps29
    go_wp2_with (go_at_call 23; refine HV.out.mono ?_; rintro e w1 ⟨rfl, hb1⟩)
    go_ret2
    exact rpost_no hfin.out hb1
  | true =>
    by_cases hh : -1000 ≤ h ∧ h ≤ 1000
    · obtain ⟨hh0, hh9⟩ := hh
      have g := gB_of hv
      have hl0 := g.1
      have hl9 := g.2.1
      have HG := Lib.hid g
      obtain ⟨b, off, hA', hbl, k0, k1⟩ := hA.at_ (show 0 < cs.length by omega)
      subst hA'
      obtain ⟨v2, hv2⟩ : ∃ v, gB (raiseC cs h) = v := ⟨_, rfl⟩
      have HC := Lib.hid (fun w' (hb : Below w.heap.size w w') => cclone_some b off cap cs w' (hA.kept hb (Nat.le_refl _)) (by omega) (by omega))
      have HR := Lib.hid (show rB cs h = v2 by unfold rB; rw [hv, hv2]; simp; omega)
      have HV2 := Lib.hid (fun w' g' c' (ho : CAt w' (some ⟨g', 0, none⟩) (raiseC cs h)) => by
        have := valid_w hv2 (some ⟨g', 0, none⟩) c' w' ho (by rw [raiseC_len]; omega)
        rwa [raiseC_len] at this)
      clear hv hA k0 k1 g hv2
      go_enter Try.func29, Try.ntmps29
      go_wp2_with (first
        | (go_at_call 23; refine HV.out.mono ?_; rintro e w1 ⟨rfl, hb1⟩)
        | (go_at_call 60; refine (HC.out _ hb1).mono ?_; rintro e w2 ⟨g, cg, rfl, hg, ho, hb2⟩; have HO := Lib.hid ho; have hB2 := hb1.trans (hb2.mono hb1.size); have hgw : w.heap.size ≤ g := Nat.le_trans hb1.size hg; have hg2 := (ho.lt g rfl).2; clear ho))
      have hz1 := hb1.size
      go_loopw [24] (fun i wr => ∃ k : Nat, k ≤ cs.length ∧ i = .int .i64 k ∧ Hid (wr.ownsRow w1.heap.size 38 2 (.slice (some ⟨g, 0, none⟩) cs.length cg) cs.length (ccs (rs cs h k))) ∧ Below w.heap.size w wr) (fun i _ => cs.length - (intOf i).toNat)
      case atStart => exact ⟨0, Nat.zero_le _, rfl, Lib.hid (by rw [rs_zero]; exact HO.out), hB2⟩
      case round =>
        obtain ⟨k, hk, rfl, hown, hb⟩ := hrel
        by_cases hlt : k < cs.length
        · have hcell := (hown.out.cellAt (k * 2 + 1) (by omega)).trans (rs_cell cs h k hlt)
          have hset := Lib.hid (rs_set cs h k hlt)
          have hx := HG.out.at_ hlt
          have hfz := fun o => hown.out.frozenAt o
          have hst0 := Lib.hid ((hown.out.stored (k * 2 + 1) (.int .i64 ((cAt cs k).hd + h))).1)
          rw [hset.out] at hst0
          generalize (cAt cs k).hd = y at *
          obtain ⟨_, hy0, hy9⟩ := hx
          clear HO hset hB2
          go_wp2
          go_roundw
          case rel => exact ⟨k + 1, by omega, by go_num, hst0, hb.setCell (p := ⟨g, k * 2 + 1, none⟩) (by omega) _⟩
          case measure => simp [intOf]; omega
        · have e : k = cs.length := by omega
          subst e
          have ho := hown.out
          rw [rs_full cs h _ (Nat.le_refl _)] at ho
          have HO2 := Lib.hid ho
          have HVX := Lib.hid (HV2.out wr g cg (by have h1 := raiseC_len cs h; have h2 := ho; rw [← h1] at h2; exact own_cat h2))
          clear ho hown HO hB2
          have hz := hb.size
          go_wp2_with (go_at_call 23; refine HVX.out.mono ?_; rintro e w3 ⟨rfl, hb3⟩; refine Hid.out ?_)
          have hB3 := hb.trans (hb3.mono hz)
          cases v2 with
          | false =>
            refine Lib.hid ?_
            go_wp2
            go_ret2
            exact rpost_no HR.out hB3
          | true =>
            refine Lib.hid ?_
            go_wp2
            go_ret2
            exact rpost_yes HR.out rfl hgw (own_lowC (own_on HO2.out hb3) hz1) hB3
    · have hfin := Lib.hid (show rB cs h = false by unfold rB; rw [show decide (-1000 ≤ h ∧ h ≤ 1000) = false by simpa using hh]; simp)
      by_cases hh0 : h < -1000
      · clear hv hA hh
        go_enter Try.func29, Try.ntmps29
        go_wp2_with (go_at_call 23; refine HV.out.mono ?_; rintro e w1 ⟨rfl, hb1⟩)
        go_ret2
        exact rpost_no hfin.out hb1
      · have hh9 : 1000 < h := by omega
        clear hv hA hh
        go_enter Try.func29, Try.ntmps29
        go_wp2_with (go_at_call 23; refine HV.out.mono ?_; rintro e w1 ⟨rfl, hb1⟩)
        go_ret2
        exact rpost_no hfin.out hb1
end Go.Proofs.Ytpldbakllegheab.S7
