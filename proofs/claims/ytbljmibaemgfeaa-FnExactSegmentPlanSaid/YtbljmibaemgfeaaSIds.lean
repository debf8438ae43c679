/- The Ids of the pipes at places, for the model: contracts. Conditions: each theorem's own premises. -/
import Derived.Test.YtbljmibaemgfeaaSprTwo
import Derived.Test.YtbljmibaemgfeaaSegOne
import Derived.Deep.AppendLies
import Derived.OwnWalk
namespace Go.Proofs.Ytbljmibaemgfeaa.S2
open Go.RowKit Go.Sort P2 P4

section
variable {P : Program} (w : World)
theorem step_append_own {ops : Array Oper} {o : Oper} {a : Act} {K : Act → World → Prop} {Q : Exit → Act → World → Prop} {E : Prop} (hgd : o.guard = none) (s x : Operand) (t : TypeId)
    (ho : o.op = .call { callee := .builtin .append, args := #[s, x], argTypes := #[t, t] })
    (base : Nat) (e : TypeId) (i : TypeInfo) (z : Value) (size bytes : Nat) (ht : P.underlying t = some (.slice e)) (hi : P.info? e = some i) (hz : i.zero = some z)
    (hsize : i.size = size) (hby : i.bytes = bytes) (hzs : z.cells.size = size) (hsz : 0 < size)
    (v : Value) (n : Nat) (xs : List Value) (hs : a.eval s = v) (hown : w.ownsRow base e size v n xs)
    (ad : Addr) (m c : Nat) (news : List Value) (hx : a.eval x = .slice (some ad) m c) (hl : news.length = m * size) (hnews : ∀ j u, news[j]? = some u → w.cell? (ad.add j) = some u) (h1 : ∀ u ∈ news, u.oneCell' = true)
    (h63 : n + m ≤ maxLen) (hbytes : (n + m) * bytes ≤ 140737488355328) (hbase : base ≤ w.heap.size)
    (h : ∀ v' w', w'.ownsRow base e size v' (n + m) (xs ++ news) → w.grownBy w' v.ownBlock → (v' = .slice none 0 0 ↔ v = .slice none 0 0 ∧ m = 0) → K (a.put o.dst v') w') :
    if Region.wanted o (yielded ops a.tmps) = true then Oper.wp P o a w K Q else E := by
  have hw : Region.wanted o (yielded ops a.tmps) = true := by simp [Region.wanted, hgd]
  rw [if_pos hw]
  exact wp_append_own w s x t ho base e i z size bytes ht hi hz hsize hby hzs hsz v n xs hs hown ad m c news hx hl hnews h1 h63 hbytes hbase h
end
theorem run_loadE {o : Oper} {a : Act} {w : World} {x : Operand} (ho : o.op = .load 96 x) (g : Nat) (hx : a.eval x = .pointer (some ⟨g, 0, none⟩)) (s : Nat → Bool) (he : ERow w g s) : (execOp a.eval o).run Try.prog w = .ok (.value (ev s)) w := by
  have hl := run_loadVar_row (P := Try.prog) w g 96 96 (ecells s) (0, 0) _ he Try.underlying96 rfl (infoE' s)
  unfold execOp
  simp only [ho, hx, Instr.loadAt, Instr.sureAddr, Sem.run_bind, Sem.run_pure, Result.andThen_ok, hl]
/-- The Ids at the first k of the places. -/
def idsAt (ps : List Pp) (is : List Int) (k : Nat) : List Int := (is.take k).map fun y => (pAt ps y.toNat).id
theorem idsAt_succ (ps : List Pp) (is : List Int) (k : Nat) (h : k < is.length) : idsAt ps is (k + 1) = idsAt ps is k ++ [(pAt ps (is.getD k 0).toNat).id] := by
  unfold idsAt
  rw [take_getD is k h, List.map_append]; rfl
theorem idsAt_all (ps : List Pp) (is : List Int) (k : Nat) (h : is.length ≤ k) : idsAt ps is k = is.map fun y => (pAt ps y.toNat).id := by unfold idsAt; rw [List.take_of_length_le h]
theorem idsAt_len (ps : List Pp) (is : List Int) (k : Nat) : (idsAt ps is k).length ≤ k := by unfold idsAt; rw [List.length_map]; exact List.length_take_le _ _

set_option maxHeartbeats 4000000 in
set_option maxRecDepth 100000 in
theorem sids_any (N : Int) (A : Option Addr) (cap : Nat) (ps : List Pp) (g1 o1 c1 : Nat) (is : List Int) (w : World) (h : PAt w A ps) (h1 : LAt w g1 o1 c1 is) (hr : ∀ y, y ∈ is → 0 ≤ y ∧ y < ps.length) (hl : is.length ≤ 1000) :
    Calls Try.prog 124 #[nv N A ps.length cap, .slice (some ⟨g1, o1, none⟩) is.length c1] w (GivesN w (is.map fun y => (pAt ps y.toNat).id)) := by
  have HA := Lib.hid h
  have HL := Lib.hid h1
  have HR := Lib.hid hr
  obtain ⟨i0, hi0, hz0, hz1, hz2⟩ := info_parts infoI
  clear h h1 hr
  go_enter Try.func124, Try.ntmps124
  go_wp2_with fail
  have HB0 := Lib.hid (show Below (w.heap.size + 1) (w.alloc (.cells #[.int .i64 N, .slice A ps.length cap] 32)) ((w.alloc (.cells #[.int .i64 N, .slice A ps.length cap] 32)).alloc (.cells #[] 3)) from (Below.refl _ _).alloc (by simp) _)
  have HO0 := Lib.hid (own_empty (w.alloc (.cells #[.int .i64 N, .slice A ps.length cap] 32)) (w.heap.size + 1) (by simp))
  rw [show (w.alloc (.cells #[.int .i64 N, .slice A ps.length cap] 32)).heap.size = w.heap.size + 1 by simp] at HO0
  go_loopw [5, 6] (fun v i wr => ∃ k : Nat, k ≤ is.length ∧ i = .int .i64 (k : Int) ∧ Hid (IOwn wr (w.heap.size + 1) v (idsAt ps is k)) ∧ Hid (v ≠ .slice none 0 0) ∧ Hid (Below (w.heap.size + 1) (w.alloc (.cells #[.int .i64 N, .slice A ps.length cap] 32)) wr)) (fun _ i _ => is.length - (intOf i).toNat)
  case atStart => exact ⟨0, Nat.zero_le _, rfl, HO0, Lib.hid (by simp), HB0⟩
  case round =>
    clear HB0 HO0
    obtain ⟨k, hk, rfl, hown, hvn, hb⟩ := hrel
    obtain ⟨gv, cv, rfl, hgv⟩ := own_slice hown.out hvn.out
    by_cases hlt : k < is.length
    · have hm := HR.out _ (getD_mem is k hlt)
      obtain ⟨y, hy⟩ : ∃ y : Nat, is.getD k 0 = (y : Int) := ⟨(is.getD k 0).toNat, by omega⟩
      have HS := Lib.hid (idsAt_succ ps is k hlt)
      rw [hy] at hm HS
      have hyl : y < ps.length := by omega
      obtain ⟨b, off, hA, hbl, q0', q1', q2', q3'⟩ := HA.out.at_ hyl
      subst hA
      have q0 := ((below_box hb.out).cell (p := ⟨b, off + y * 4, none⟩) hbl).trans q0'
      have hg1l := HL.out.1
      have hcy := (HL.out.kept (show Below w.heap.size w wr from below_box hb.out)).2.2.2 k hlt
      rw [hy] at hcy
      obtain ⟨b0, b1⟩ := box2 hb.out
      have hk0 : (0 : Int) ≤ (k : Int) := by omega
      have hkn : (k : Int) < (is.length : Int) := by omega
      have hy0 : (0 : Int) ≤ (y : Int) := by omega
      have hyn : (y : Int) < (ps.length : Int) := by omega
      have hil := idsAt_len ps is k
      have hzr : w.heap.size + 1 ≤ wr.heap.size := by have := box_lt hb.out; omega
      simp only [Int.toNat_natCast] at HS
      clear q0' q1' q2' q3' hy
      generalize (pAt ps y).id = id at *
      have ho := hown.out
      unfold IOwn at ho
      go_wp2_with fail
      refine wp_region_held_drew (S := fun w' => w'.cell? ⟨w.heap.size, 1, none⟩ = some (.slice (some ⟨b, off, none⟩) ps.length cap) ∧ w'.cell? ⟨g1, o1 + k, none⟩ = some (iv (y : Int)) ∧ w'.cell? ⟨b, off + y * 4, none⟩ = some (.int .i64 id)) (by kernel_rfl) (by go_keep) (fun hHeld => ?_)
      refine wpAnyH_take (i := 0) (v := .slice (some ⟨gv, 0, none⟩) (idsAt ps is k).length cv) rfl (by kernel_rfl) (by kernel_rfl) (by kernel_rfl) (fun _ _ _ h => h) (Or.inl ⟨by rfl, ?_⟩) (by assumption) ?_
      · (intro w hSw; (try dsimp only at hSw); go_simp)
      simp only [Act.put, List.setIfInBounds_toArray]
      refine wpAnyH_take (i := 1) (v := .pointer (some ⟨w.heap.size, 1, none⟩)) rfl (by kernel_rfl) (by kernel_rfl) (by kernel_rfl) (fun _ _ _ h => h) (Or.inl ⟨by rfl, ?_⟩) (by assumption) ?_
      · (intro w hSw; (try dsimp only at hSw); go_simp)
      simp only [Act.put]
      refine wpAnyH_take (i := 2) (v := .slice (some ⟨b, off, none⟩) ps.length cap) rfl (by kernel_rfl) (by kernel_rfl) (by kernel_rfl) (fun _ _ _ h => h) (Or.inl ⟨by rfl, ?_⟩) (by assumption) ?_
      · (intro w hSw; (try dsimp only at hSw); go_simp)
      simp only [Act.put]
      refine wpAnyH_take (i := 3) (v := .slice (some ⟨g1, o1, none⟩) is.length c1) rfl (by kernel_rfl) (by kernel_rfl) (by kernel_rfl) (fun _ _ _ h => h) (Or.inl ⟨by rfl, ?_⟩) (by assumption) ?_
      · (intro w hSw; (try dsimp only at hSw); go_simp)
      simp only [Act.put]
      refine wpAnyH_take (i := 4) (v := .int .i64 (k : Int)) rfl (by kernel_rfl) (by kernel_rfl) (by kernel_rfl) (fun _ _ _ h => h) (Or.inl ⟨by rfl, ?_⟩) (by assumption) ?_
      · (intro w hSw; (try dsimp only at hSw); go_simp)
      simp only [Act.put]
      refine wpAnyH_take (i := 5) (v := .pointer (some ⟨g1, o1 + k, none⟩)) rfl (by kernel_rfl) (by kernel_rfl) (by kernel_rfl) (fun _ _ _ h => h) (Or.inl ⟨by rfl, ?_⟩) (by assumption) ?_
      · (intro w hSw; (try dsimp only at hSw); go_simp)
      simp only [Act.put]
      refine wpAnyH_take (i := 6) (v := .int .i64 (y : Int)) rfl (by kernel_rfl) (by kernel_rfl) (by kernel_rfl) (fun _ _ _ h => h) (Or.inl ⟨by rfl, ?_⟩) (by assumption) ?_
      · (intro w hSw; (try dsimp only at hSw); go_simp)
      simp only [Act.put]
      refine wpAnyH_take (i := 7) (v := .pointer (some ⟨b, off + y * 4, none⟩)) rfl (by kernel_rfl) (by kernel_rfl) (by kernel_rfl) (fun _ _ _ h => h) (Or.inl ⟨by rfl, ?_⟩) (by assumption) ?_
      · (intro w hSw; (try dsimp only at hSw); go_simp)
      simp only [Act.put]
      refine wpAnyH_take (i := 8) (v := .pointer (some ⟨b, off + y * 4, none⟩)) rfl (by kernel_rfl) (by kernel_rfl) (by kernel_rfl) (fun _ _ _ h => h) (Or.inl ⟨by rfl, ?_⟩) (by assumption) ?_
      · (intro w hSw; (try dsimp only at hSw); go_simp)
      simp only [Act.put]
      refine wpAnyH_take (i := 9) (v := .int .i64 id) rfl (by kernel_rfl) (by kernel_rfl) (by kernel_rfl) (fun _ _ _ h => h) (Or.inl ⟨by rfl, ?_⟩) (by assumption) ?_
      · (intro w hSw; (try dsimp only at hSw); go_simp)
      simp only [Act.put]
      refine wpAnyH_ready (rs := [10]) (by kernel_rfl) (by simp) ?_
      refine AllReadyH.cons rfl (fun K hK => ?_) AllReadyH.nil
      go_simp
      refine hK.out _ _ (by first | assumption | go_keep) (fun hHeld => ?_)
      clear hK K
      refine wpAnyH_ready (rs := [11]) (by kernel_rfl) (by simp) ?_
      refine AllReadyH.cons rfl (fun K hK => ?_) AllReadyH.nil
      refine step_append_own _ (by rfl) _ _ _ (by rfl) (w.heap.size + 1) 3 i0 (.int .i64 0) 1 8 Try.underlying26 hi0 hz0 hz1 hz2 rfl (by decide) (.slice (some ⟨gv, 0, none⟩) (idsAt ps is k).length cv) (idsAt ps is k).length ((idsAt ps is k).map iv) (by simp [go_sem]) ((show wr.drew.ownsRow _ _ _ _ _ _ from ho).alloc _) ⟨wr.heap.size, 0, none⟩ 1 1 [iv id] (by simp [go_sem]) rfl (cell_one_new wr.drew _ _) (by intro u hu; simp at hu; subst hu; rfl) (by unfold maxLen; omega) (by omega) (by simp; omega) ?_
      intro v' w3 hown' hgrow hnil
      have hB3 : Below (w.heap.size + 1) (wr.drew.alloc (.cells #[iv id] 3)) w3 := (Below.refl _ _).grown hgrow (by simp; omega) (fun g hg => by simp [Value.ownBlock] at hg; omega)
      refine hK.out _ _ (by rcases hHeld with ⟨q0, q1, q2⟩; exact ⟨(hB3.cell (p := ⟨w.heap.size, 1, none⟩) (by dsimp only; omega)).trans q0, (hB3.cell (p := ⟨g1, o1 + k, none⟩) (by dsimp only; omega)).trans q1, (hB3.cell (p := ⟨b, off + y * 4, none⟩) (by dsimp only; omega)).trans q2⟩) (fun hHeld => ?_)
      clear hK K
      have hown3 := Lib.hid (IOwn.push hown')
      rw [← HS.out] at hown3
      have hB4 := Lib.hid (((hb.out.drew).alloc (by simp; omega) (.cells #[iv id] 3)).trans hB3)
      have hvn3 := Lib.hid (show v' ≠ .slice none 0 0 from fun e => by simp [e] at hnil)
      clear hown' hgrow hnil hB3 ho
      refine wpAnyH_ready (rs := [12]) (by kernel_rfl) (by simp) ?_
      refine AllReadyH.cons rfl (fun K hK => ?_) AllReadyH.nil
      go_simp
      refine hK.out _ _ (by first | assumption | go_keep) (fun hHeld => ?_)
      clear hK K
      refine wpAnyH_done (by kernel_rfl) ?_ _
      go_wp2_with fail
      go_roundw
      case rel => exact ⟨k + 1, by omega, by go_num, hown3, hvn3, hB4⟩
      case measure => simp [intOf]; omega
    · have hfin := idsAt_all ps is k (by omega)
      have hown2 := hown.out
      have hll : (idsAt ps is k).length = (is.map fun y => (pAt ps y.toNat).id).length := by rw [hfin]
      have HLL := Lib.hid hll
      have HF := Lib.hid hfin
      clear hfin hll
      go_wp2_with fail
      go_ret
      rw [HF.out] at hown2
      exact ⟨gv, cv, by rw [HF.out]; rfl, by omega, own_lower hown2, below_box hb.out⟩
end Go.Proofs.Ytbljmibaemgfeaa.S2
