/- The elements that are connected with some, as the program finds them: contracts. Conditions: each theorem's own premises. -/
import Derived.Test.YtbljmibaemgfeaaSetTwo
import Derived.Test.YtbljmibaemgfeaaIdxOne
import Derived.Deep.LoopGhost
import Derived.Deep.AppendLies
namespace Go.Proofs.Ytbljmibaemgfeaa.S2
open Go.RowKit Go.Sort P2 P4

section
variable {ops : Array Oper} {rest : List Oper} {o : Oper} {a : Act} {w : World} {Q : Exit → Act → World → Prop}
theorem wpE_eql (hgd : o.guard = none) (x y : Operand) (ho : o.op = .binOp .eql 96 x y 96) (s t : Nat → Bool) (hx : a.eval x = ev s) (hy : a.eval y = ev t)
    (h : wpList Try.prog ops Q rest (a.put o.dst (.bool (eq19 s t))) w) : wpList Try.prog ops Q (o :: rest) a w :=
  wpList_plain hgd fun _ hK => by
    have hz := eqSet s t w
    have hg := run_eqGuard_agg (P := Try.prog) w .eql 96 x y (ecells s) (ecells t) (by kernel_rfl)
    unfold Oper.wp execOp
    simp [ho, hx, hy, Sem.run_bind, hz, hg, Result.andThen]
    exact hK _ _ h
end
theorem met_at {P : Program} {f : FuncId} {args : Array Value} {w : World} {d : Nat} {os : Array Obj} {v : Value}
    (h : ∀ w', Below w.heap.size w w' → Calls P f args w' fun e w'' => e = .returned v ∧ Below w'.heap.size w' w'') : Calls P f args (grow (redrawn w d) os) fun e w'' => e = .returned v ∧ ∃ p : Regrown, w'' = grow (redrawn w p.d) p.os := by
  have hb := below_regrown w d os
  refine (h _ hb).mono fun e w'' ⟨he, hb2⟩ => ⟨he, regrown_of_below (hb.trans (hb2.mono hb.size))⟩
/-- What stays while the search goes on: the network's box, the result's cell, the set. -/
structure CE (w wr : World) (n : Int) (A : Option Addr) (len cap : Nat) (s : Nat → Bool) : Prop where
  b : Below w.heap.size w wr
  b0 : wr.cell? ⟨w.heap.size, 0, none⟩ = some (.int .i64 n)
  b1 : wr.cell? ⟨w.heap.size, 1, none⟩ = some (.slice A len cap)
  e6 : ERow wr (w.heap.size + 2) es0
  e7 : ERow wr (w.heap.size + 3) s
theorem CE.sz {w wr : World} {n : Int} {A : Option Addr} {len cap : Nat} {s : Nat → Bool} (h : CE w wr n A len cap s) : w.heap.size + 4 ≤ wr.heap.size := by have := h.e7.lt; omega
theorem CE.kept {w wr w' : World} {n : Int} {A : Option Addr} {len cap : Nat} {s : Nat → Bool} (h : CE w wr n A len cap s) (hb : Below wr.heap.size wr w') : CE w w' n A len cap s := by
  have hz := h.sz
  exact ⟨h.b.trans (hb.mono (by omega)), (hb.cell (p := ⟨w.heap.size, 0, none⟩) (by show w.heap.size < wr.heap.size; omega)).trans h.b0, (hb.cell (p := ⟨w.heap.size, 1, none⟩) (by show w.heap.size < wr.heap.size; omega)).trans h.b1, h.e6.kept hb (by omega), h.e7.kept hb (by omega)⟩
theorem cell_far {w : World} {b o c i : Nat} {v : Value} (h : b ≠ c) : (w.setCell ⟨c, i, none⟩ v).cell? ⟨b, o, none⟩ = w.cell? ⟨b, o, none⟩ :=
  World.cell?_of_block (Below.heap_setCell w ⟨c, i, none⟩ v b h)
theorem CE.set {w wr : World} {n : Int} {A : Option Addr} {len cap : Nat} {s : Nat → Bool} (h : CE w wr n A len cap s) (e : Nat) (b : Bool) (he : e < 19) : CE w (wr.setCell ⟨w.heap.size + 3, e, none⟩ (.bool b)) n A len cap (upd s e b) :=
  ⟨h.b.setCell (p := ⟨w.heap.size + 3, e, none⟩) (by show w.heap.size ≤ w.heap.size + 3; omega) _, (cell_far (by omega)).trans h.b0, (cell_far (by omega)).trans h.b1, h.e6.far (by omega), h.e7.set e b he⟩
def RdAt (ps : List Pp) (vs : List Vv) (S s0 s : Nat → Bool) (k J : Nat) : Prop := (J = 0 → Rd ps vs S s0 s k false) ∧ (J = 1 → Rd ps vs S s0 s k true) ∧ (J = 2 → Rd ps vs S s0 s (k + 1) false)
theorem rdAt0 {ps : List Pp} {vs : List Vv} {S s0 s : Nat → Bool} {k : Nat} (h : Rd ps vs S s0 s k false) : RdAt ps vs S s0 s k 0 := ⟨fun _ => h, fun h => by omega, fun h => by omega⟩
theorem rdAt1 {ps : List Pp} {vs : List Vv} {S s0 s : Nat → Bool} {k : Nat} (h : Rd ps vs S s0 s k true) : RdAt ps vs S s0 s k 1 := ⟨fun h => by omega, fun _ => h, fun h => by omega⟩
theorem rdAt2 {ps : List Pp} {vs : List Vv} {S s0 s : Nat → Bool} {k : Nat} (h : Rd ps vs S s0 s (k + 1) false) : RdAt ps vs S s0 s k 2 := ⟨fun h => by omega, fun h => by omega, fun _ => h⟩
theorem ends_nat {n : Int} {ps : List Pp} (hg : P2.Good n ps) {k : Nat} (hk : k < ps.length) : ∃ u v : Nat, (pAt ps k).fr = (u : Int) ∧ (pAt ps k).to = (v : Int) ∧ 1 ≤ u ∧ u ≤ 8 ∧ 1 ≤ v ∧ v ≤ 8 ∧ (u : Int) ≤ n ∧ (v : Int) ≤ n := by
  obtain ⟨h, _⟩ := hg.2.2.2 k hk _ (pAt_get ps k hk)
  obtain ⟨_, _, h1, h2, h3, h4, _⟩ := h
  have := hg.2.1
  exact ⟨(pAt ps k).fr.toNat, (pAt ps k).to.toNat, by omega, by omega, by omega, by omega, by omega, by omega, by omega, by omega⟩

set_option maxHeartbeats 8000000 in
set_option maxRecDepth 100000 in
theorem conel_any (n : Int) (A : Option Addr) (cap : Nat) (ps : List Pp) (AV : Option Addr) (capv : Nat) (vs : List Vv) (S : Nat → Bool) (w : World) (h : PAt w A ps) (hv : VAt w AV vs) (hg : P2.Good n ps) (hvl : vs.length ≤ 10) :
    Calls Try.prog 138 #[nv n A ps.length cap, .slice AV vs.length capv, ev S] w fun e w' => e = .returned (ev (coB ps vs S)) ∧ Below w.heap.size w w' := by
  have HA := Lib.hid h
  have HV := Lib.hid hv
  have HG := Lib.hid hg
  have hl10 := hg.2.2.1
  clear h hv hg
  go_enter Try.func138, Try.ntmps138
  go_wp2_with (((with_reducible refine wpE_alloc rfl rfl ?_); intro w1 he1 hb1 hz1; refine Hid.out ?_))
  have b0 : w1.cell? ⟨w.heap.size, 0, none⟩ = some (.int .i64 n) := (hb1.cell (p := ⟨w.heap.size, 0, none⟩) (by simp; omega)).trans (by go_simp)
  have b1 : w1.cell? ⟨w.heap.size, 1, none⟩ = some (.slice A ps.length cap) := (hb1.cell (p := ⟨w.heap.size, 1, none⟩) (by simp; omega)).trans (by go_simp)
  have E5 := Lib.hid (show ERow w1 (w.heap.size + 1) S from by
    have h1 := ERow.new (w.alloc (.cells #[.int .i64 n, .slice A ps.length cap] 32)) S
    have h2 := h1.kept hb1 (by simp)
    simpa using h2)
  have E6 := Lib.hid (show ERow w1 (w.heap.size + 2) es0 from by simpa using he1)
  have HB1 := Lib.hid (show Below w.heap.size w w1 from (((Below.refl w.heap.size w).alloc (Nat.le_refl _) (.cells #[.int .i64 n, .slice A ps.length cap] 32)).alloc (by simp) (.cells (ecells S) 96)).trans (hb1.mono (by simp; omega)))
  have hz : w1.heap.size = w.heap.size + 3 := by simpa using hz1
  have HZ := Lib.hid hz
  clear he1 hb1 hz1 hz
  refine Lib.hid ?_
  go_wp2_with (first
    | (with_reducible refine wpE_load rfl _ rfl (w.heap.size + 1) rfl S E5.out ?_)
    | ((with_reducible refine wpE_alloc rfl rfl ?_); intro w2 he2 hb2 hz2; refine Hid.out ?_))
  have E62 := Lib.hid (E6.out.kept hb2 (by have := HZ.out; omega))
  have c0 := (hb2.cell (p := ⟨w.heap.size, 0, none⟩) (by have := HZ.out; show w.heap.size < w1.heap.size; omega)).trans b0
  have c1 := (hb2.cell (p := ⟨w.heap.size, 1, none⟩) (by have := HZ.out; show w.heap.size < w1.heap.size; omega)).trans b1
  have HB2 := Lib.hid (HB1.out.trans (hb2.mono (by have := HZ.out; omega)))
  have E7 := Lib.hid he2
  clear he2 hb2 hz2 b0 b1 E5 E6 HB1
  refine Lib.hid ?_
  go_wp2_with ((with_reducible refine wpE_store rfl _ _ rfl rfl w1.heap.size rfl S rfl es0 E7.out ?_); intro w3 he3 hg3 hz3; refine Hid.out ?_)
  have HCE := Lib.hid (show CE w w3 n A ps.length cap S from
    ⟨HB2.out.grown hg3 (by have := HB2.out.size; omega) (fun g hg => by have := HZ.out; simp at hg; omega), (hg3.cell_far _ (by have := HB2.out.size; have := E7.out.lt; have := HZ.out; dsimp only; omega) (by have := HZ.out; simp; omega)).trans c0, (hg3.cell_far _ (by have := HB2.out.size; have := E7.out.lt; have := HZ.out; dsimp only; omega) (by have := HZ.out; simp; omega)).trans c1, E62.out.grown hg3 (by have := HZ.out; omega), by have h1 := he3; rw [HZ.out] at h1; exact h1⟩)
  have hzz : w1.heap.size = w.heap.size + 3 := HZ.out
  clear he3 hg3 hz3 E62 c0 c1 HB2 E7
  rw [hzz]
  clear hzz HZ
  refine Lib.hid ?_
  go_wp2_with fail
  go_loopg [8] 20 (fun K _ wr => ∃ s, Hid (CE w wr n A ps.length cap s) ∧ Hid ((∀ e, S e = true → s e = true) ∧ (∀ e, s e = true → Co ps vs S e)) ∧ Hid (20 - num s ≤ K))
  case atStart => exact ⟨S, HCE, Lib.hid ⟨fun _ h => h, fun _ h => .base h⟩, Lib.hid (by omega)⟩
  case round =>
    clear HCE
    obtain ⟨s, hce, hs, hK⟩ := hrel
    obtain ⟨M, hMe⟩ : ∃ M, M = gk := ⟨_, rfl⟩
    have HMG := Lib.hid hMe
    have hK2 := Lib.hid (show 20 - num s ≤ M by rw [hMe]; exact hK.out)
    clear hMe hK
    have E7 := Lib.hid hce.out.e7
    go_wp2_with (first
      | (with_reducible refine wpE_load rfl _ rfl (w.heap.size + 3) rfl s E7.out ?_)
      | ((with_reducible refine wpE_alloc rfl rfl ?_); intro w4 he4 hb4 hz4; have E8 := Lib.hid he4; have HC4 := Lib.hid (hce.out.kept hb4); clear he4 hb4 hz4)
      | ((with_reducible refine wpE_store rfl _ _ rfl rfl wr.heap.size rfl s rfl es0 E8.out ?_); intro w5 he5 hg5 hz5; refine Hid.out ?_))
    obtain ⟨g8, hg8⟩ : ∃ g8, g8 = wr.heap.size := ⟨_, rfl⟩
    have hg8z : w.heap.size + 4 ≤ g8 := by have := hce.out.sz; omega
    have h48 := E8.out.lt
    have HC5 := Lib.hid (show CE w w5 n A ps.length cap s from
      ⟨HC4.out.b.grown hg5 (by have := HC4.out.sz; omega) (fun g hg => by simp at hg; omega), (hg5.cell_far _ (by have := HC4.out.sz; dsimp only; omega) (by simp; omega)).trans HC4.out.b0, (hg5.cell_far _ (by have := HC4.out.sz; dsimp only; omega) (by simp; omega)).trans HC4.out.b1, HC4.out.e6.grown hg5 (by omega), HC4.out.e7.grown hg5 (by omega)⟩)
    have HE8 := Lib.hid (show ERow w5 g8 s from by rw [hg8]; exact he5)
    have c1 := HC5.out.b1
    rw [← hg8]
    clear he5 hg5 hz5 E8 HC4 E7 hce h48 hg8
    refine Lib.hid ?_
    go_wp2_with fail
    go_loopw [18] (fun i wr => ∃ (s1 : Nat → Bool) (k : Nat), k ≤ ps.length ∧ i = .int .i64 (k : Int) ∧ Hid (CE w wr n A ps.length cap s1) ∧ Hid (ERow wr g8 s) ∧ Hid (Rd ps vs S s s1 k false)) (fun i _ => ps.length - (intOf i).toNat)
    case atStart => exact ⟨s, 0, Nat.zero_le _, rfl, HC5, HE8, Lib.hid (Rd.start hs.out.1 hs.out.2)⟩
    case round =>
      clear HC5 HE8 c1
      obtain ⟨s1, k, hk, rfl, hce, he8, hrd⟩ := hrel
      by_cases hlt : k < ps.length
      · obtain ⟨b, off, hA, hbl, h0, h1, h2, h3⟩ := (HA.out.kept hce.out.b (Nat.le_refl _)).at_ hlt
        subst hA
        have hk0 : (0 : Int) ≤ (k : Int) := by omega
        have hkn : (k : Int) < (ps.length : Int) := by omega
        obtain ⟨u, v, hu, hv, hu1, hu8, hv1, hv8, _, _⟩ := ends_nat HG.out hlt
        have HU := Lib.hid hu
        have HW := Lib.hid hv
        rw [hu] at h1
        rw [hv] at h2
        clear hu hv
        obtain ⟨id, hid⟩ : ∃ id, id = (pAt ps k).id := ⟨_, rfl⟩
        rw [← hid] at h0
        have HID := Lib.hid hid
        clear hid
        generalize (pAt ps k).sz = sz at h3
        have i0 : ∀ w, (Instr.index 175 (.agg #[.int .i64 (u : Int), .int .i64 (v : Int)]) (.int .i64 0)).run Try.prog w = .ok (.int .i64 (u : Int)) w := fun _ => by kernel_rfl
        have i1 : ∀ w, (Instr.index 175 (.agg #[.int .i64 (u : Int), .int .i64 (v : Int)]) (.int .i64 1)).run Try.prog w = .ok (.int .i64 (v : Int)) w := fun _ => by kernel_rfl
        have hb6 : Below wr.heap.size wr (wr.alloc (.cells #[.int .i64 id, .int .i64 (u : Int), .int .i64 (v : Int), .int .i64 sz] 72)) := (Below.refl _ _).alloc (Nat.le_refl _) _
        have HC6 := Lib.hid (hce.out.kept hb6)
        have HE6 := Lib.hid (he8.out.kept hb6 he8.out.lt)
        have HP6 := Lib.hid ((show (wr.alloc (.cells #[.int .i64 id, .int .i64 (u : Int), .int .i64 (v : Int), .int .i64 sz] 72)).cell? ⟨wr.heap.size, 0, none⟩ = some (.int .i64 id) by go_simp))
        obtain ⟨G, hG⟩ : ∃ G, G = wr.heap.size := ⟨_, rfl⟩
        have hGz : w.heap.size + 4 ≤ G := by have := hce.out.sz; omega
        have hHG := Lib.hid hG
        have HP7 := Lib.hid (show (wr.alloc (.cells #[.int .i64 id, .int .i64 (u : Int), .int .i64 (v : Int), .int .i64 sz] 72)).cell? ⟨G, 0, none⟩ = some (.int .i64 id) by rw [hG]; exact HP6.out)
        clear hG hb6 HP6
        go_wp2_with fail
        rw [← hHG.out]
        go_loopw [28] (fun j wr => ∃ (s2 : Nat → Bool) (J : Nat), J ≤ 2 ∧ j = .int .i64 (J : Int) ∧ Hid (CE w wr n (some ⟨b, off, none⟩) ps.length cap s2) ∧ Hid (ERow wr g8 s) ∧ Hid (wr.cell? ⟨G, 0, none⟩ = some (.int .i64 id)) ∧ Hid (RdAt ps vs S s s2 k J)) (fun j _ => 2 - (intOf j).toNat)
        case atStart => exact ⟨s1, 0, by omega, rfl, HC6, HE6, HP7, Lib.hid (rdAt0 hrd.out)⟩
        case round =>
          clear HC6 HE6 HP7 hHG hce he8 hrd h0 h1 h2 h3
          obtain ⟨s2, J, hJ, rfl, hce, he8, hp, hrd⟩ := hrel
          have hz := hce.out.sz
          have hGl := block_lt_of_cell hp.out
          match J, hJ with
          | 0, _ =>
            have hr := hrd.out.1 rfl
            have hx : u < 9 := by omega
            have hne9 : 9 + k ≠ u := by omega
            have hne9' : u ≠ 9 + k := by omega
            have hk9 : k < 10 := by omega
            have hx0 : (0 : Int) ≤ (u : Int) := by omega
            have hx9 : (u : Int) < 9 := by omega
            have hk10 : (k : Int) < 10 := by omega
            have h3l := hce.out.e7.lt
            have ca := hce.out.e7.cell (9 + k) (by omega)
            have cb := hce.out.e7.cell u (by omega)
            have cid := hp.out
            obtain ⟨pa, hpa⟩ : ∃ pa, s2 (9 + k) = pa := ⟨_, rfl⟩
            obtain ⟨pb, hpb⟩ : ∃ pb, s2 u = pb := ⟨_, rfl⟩
            obtain ⟨hh, hhh⟩ : ∃ hh, hasV vs id (u : Int) = hh := ⟨_, rfl⟩
            rw [hpa] at ca
            rw [hpb] at cb
            have H1 := Lib.hid (fun wx (hbx : Below wr.heap.size wr wx) => by have := hasv_any AV capv vs id (u : Int) wx (HV.out.kept (hce.out.b.trans (hbx.mono (by omega))) (Nat.le_refl _)) (by omega); rwa [hhh] at this)
            have HHH := Lib.hid hhh
            have HPA := Lib.hid hpa
            have HPB := Lib.hid hpb
            clear hpa hpb hhh
            by_cases hne : pa = pb
            · subst hne
              have hE : (pa != pa) = false := by simp
              have HN := Lib.hid (rdAt1 (Rd.skip1 hr HU.out (.inl (by rw [HPA.out, HPB.out]))))
              clear hr
              go_wp2_with fail
              have hGq := @cell_g
              have H1w := Lib.hid (H1.out)
              refine region_below (by kernel_rfl) (by kernel_rfl) ?_
              repeat (first | go_big_quiet_step ((go_at_call 127; exact met_at H1.out)))
              refine wpQuiet_nil ?_
              intro w1 hb1
              clear hGq
              go_wp2_with fail
              go_roundw
              case rel => exact ⟨s2, 1, by omega, by go_num, Lib.hid (hce.out.kept hb1), Lib.hid (he8.out.kept hb1 he8.out.lt), Lib.hid ((hb1.cell (p := ⟨G, 0, none⟩) hGl).trans hp.out), HN⟩
              case measure => simp [intOf]
            · have hpp : (pa = true ∧ pb = false) ∨ (pa = false ∧ pb = true) := by cases pa <;> cases pb <;> simp_all
              rcases hpp with ⟨rfl, rfl⟩ | ⟨rfl, rfl⟩
              all_goals
               cases hh with
               | true =>
                 have HN := Lib.hid (rdAt1 (Rd.skip1 hr HU.out (.inr (by rw [← HID.out]; exact HHH.out))))
                 clear hr hne
                 go_wp2_with fail
                 have hGq := @cell_g
                 have H1w := Lib.hid (H1.out)
                 refine region_below (by kernel_rfl) (by kernel_rfl) ?_
                 repeat (first | go_big_quiet_step ((go_at_call 127; exact met_at H1.out)))
                 refine wpQuiet_nil ?_
                 intro w1 hb1
                 clear hGq
                 go_wp2_with fail
                 go_roundw
                 case rel => exact ⟨s2, 1, by omega, by go_num, Lib.hid (hce.out.kept hb1), Lib.hid (he8.out.kept hb1 he8.out.lt), Lib.hid ((hb1.cell (p := ⟨G, 0, none⟩) hGl).trans hp.out), HN⟩
                 case measure => simp [intOf]
               | false =>
                 have HN := Lib.hid (rdAt1 (Rd.both hr hlt hk9 hx (.inl HU.out) (by rw [HPA.out, HPB.out]; exact hne) (by rw [← HID.out]; exact HHH.out) k true).1)
                 clear hr hne
                 go_wp2_with fail
                 have hGq := @cell_g
                 have H1w := Lib.hid (H1.out)
                 refine region_below (by kernel_rfl) (by kernel_rfl) ?_
                 repeat (first | go_big_quiet_step ((go_at_call 127; exact met_at H1.out)))
                 refine wpQuiet_nil ?_
                 intro w1 hb1
                 clear hGq
                 have hce1 := Lib.hid (hce.out.kept hb1)
                 have he81 := Lib.hid (he8.out.kept hb1 he8.out.lt)
                 have hp1 := Lib.hid ((hb1.cell (p := ⟨G, 0, none⟩) hGl).trans hp.out)
                 have da := hce1.out.e7.cell (9 + k) (by omega)
                 have db := hce1.out.e7.cell u (by omega)
                 have dfz := fun e => hce1.out.e7.frozen e
                 go_wp2_with fail
                 go_roundw
                 case rel => exact ⟨_, 1, by omega, by go_num, Lib.hid ((hce1.out.set (9 + k) true (by omega)).set u true (by omega)), Lib.hid ((he81.out.far (by omega)).far (by omega)), Lib.hid ((cell_far (by omega)).trans ((cell_far (by omega)).trans hp1.out)), HN⟩
                 case measure => simp [intOf]
          | 1, _ =>
            have hr := hrd.out.2.1 rfl
            have hx : v < 9 := by omega
            have hne9 : 9 + k ≠ v := by omega
            have hne9' : v ≠ 9 + k := by omega
            have hk9 : k < 10 := by omega
            have hx0 : (0 : Int) ≤ (v : Int) := by omega
            have hx9 : (v : Int) < 9 := by omega
            have hk10 : (k : Int) < 10 := by omega
            have h3l := hce.out.e7.lt
            have ca := hce.out.e7.cell (9 + k) (by omega)
            have cb := hce.out.e7.cell v (by omega)
            have cid := hp.out
            obtain ⟨pa, hpa⟩ : ∃ pa, s2 (9 + k) = pa := ⟨_, rfl⟩
            obtain ⟨pb, hpb⟩ : ∃ pb, s2 v = pb := ⟨_, rfl⟩
            obtain ⟨hh, hhh⟩ : ∃ hh, hasV vs id (v : Int) = hh := ⟨_, rfl⟩
            rw [hpa] at ca
            rw [hpb] at cb
            have H1 := Lib.hid (fun wx (hbx : Below wr.heap.size wr wx) => by have := hasv_any AV capv vs id (v : Int) wx (HV.out.kept (hce.out.b.trans (hbx.mono (by omega))) (Nat.le_refl _)) (by omega); rwa [hhh] at this)
            have HHH := Lib.hid hhh
            have HPA := Lib.hid hpa
            have HPB := Lib.hid hpb
            clear hpa hpb hhh
            by_cases hne : pa = pb
            · subst hne
              have hE : (pa != pa) = false := by simp
              have HN := Lib.hid (rdAt2 (Rd.skip2 hr HW.out (.inl (by rw [HPA.out, HPB.out]))))
              clear hr
              go_wp2_with fail
              have hGq := @cell_g
              have H1w := Lib.hid (H1.out)
              refine region_below (by kernel_rfl) (by kernel_rfl) ?_
              repeat (first | go_big_quiet_step ((go_at_call 127; exact met_at H1.out)))
              refine wpQuiet_nil ?_
              intro w1 hb1
              clear hGq
              go_wp2_with fail
              go_roundw
              case rel => exact ⟨s2, 2, by omega, by go_num, Lib.hid (hce.out.kept hb1), Lib.hid (he8.out.kept hb1 he8.out.lt), Lib.hid ((hb1.cell (p := ⟨G, 0, none⟩) hGl).trans hp.out), HN⟩
              case measure => simp [intOf]
            · have hpp : (pa = true ∧ pb = false) ∨ (pa = false ∧ pb = true) := by cases pa <;> cases pb <;> simp_all
              rcases hpp with ⟨rfl, rfl⟩ | ⟨rfl, rfl⟩
              all_goals
               cases hh with
               | true =>
                 have HN := Lib.hid (rdAt2 (Rd.skip2 hr HW.out (.inr (by rw [← HID.out]; exact HHH.out))))
                 clear hr hne
                 go_wp2_with fail
                 have hGq := @cell_g
                 have H1w := Lib.hid (H1.out)
                 refine region_below (by kernel_rfl) (by kernel_rfl) ?_
                 repeat (first | go_big_quiet_step ((go_at_call 127; exact met_at H1.out)))
                 refine wpQuiet_nil ?_
                 intro w1 hb1
                 clear hGq
                 go_wp2_with fail
                 go_roundw
                 case rel => exact ⟨s2, 2, by omega, by go_num, Lib.hid (hce.out.kept hb1), Lib.hid (he8.out.kept hb1 he8.out.lt), Lib.hid ((hb1.cell (p := ⟨G, 0, none⟩) hGl).trans hp.out), HN⟩
                 case measure => simp [intOf]
               | false =>
                 have HN := Lib.hid (rdAt2 (Rd.both hr hlt hk9 hx (.inr HW.out) (by rw [HPA.out, HPB.out]; exact hne) (by rw [← HID.out]; exact HHH.out) (k + 1) false).1)
                 clear hr hne
                 go_wp2_with fail
                 have hGq := @cell_g
                 have H1w := Lib.hid (H1.out)
                 refine region_below (by kernel_rfl) (by kernel_rfl) ?_
                 repeat (first | go_big_quiet_step ((go_at_call 127; exact met_at H1.out)))
                 refine wpQuiet_nil ?_
                 intro w1 hb1
                 clear hGq
                 have hce1 := Lib.hid (hce.out.kept hb1)
                 have he81 := Lib.hid (he8.out.kept hb1 he8.out.lt)
                 have hp1 := Lib.hid ((hb1.cell (p := ⟨G, 0, none⟩) hGl).trans hp.out)
                 have da := hce1.out.e7.cell (9 + k) (by omega)
                 have db := hce1.out.e7.cell v (by omega)
                 have dfz := fun e => hce1.out.e7.frozen e
                 go_wp2_with fail
                 go_roundw
                 case rel => exact ⟨_, 2, by omega, by go_num, Lib.hid ((hce1.out.set (9 + k) true (by omega)).set v true (by omega)), Lib.hid ((he81.out.far (by omega)).far (by omega)), Lib.hid ((cell_far (by omega)).trans ((cell_far (by omega)).trans hp1.out)), HN⟩
                 case measure => simp [intOf]
          | 2, _ =>
            have HN := Lib.hid (hrd.out.2.2 rfl)
            go_wp2_with fail
            go_roundw
            case rel => exact ⟨s2, k + 1, by omega, by go_num, hce, he8, HN⟩
            case measure => simp [intOf]; omega
      · have hkk : k = ps.length := by omega
        subst hkk
        have E7 := Lib.hid hce.out.e7
        have E8 := Lib.hid he8.out
        cases heq : eq19 s1 s with
        | true =>
          have HF := Lib.hid (funext (Rd.done hrd.out heq))
          have HEQ := Lib.hid heq
          clear heq hrd
          have E6 := Lib.hid hce.out.e6
          go_wp2_with (first
            | (with_reducible refine wpE_load rfl _ rfl (w.heap.size + 3) rfl s1 E7.out ?_)
            | (with_reducible refine wpE_load rfl _ rfl g8 rfl s E8.out ?_)
            | ((with_reducible refine wpE_eql rfl _ _ rfl s1 s rfl rfl ?_); rw [HEQ.out])
            | ((with_reducible refine wpE_store rfl _ _ rfl rfl (w.heap.size + 2) rfl s1 rfl es0 E6.out ?_); intro w6 he6 hg6 hz6))
          have HB6 := Lib.hid (hce.out.b.grown hg6 (by have := hce.out.sz; omega) (fun g hg => by simp at hg; omega))
          refine bodyPost_ret (v := ev s1) (results_cell_row (fn := Try.f138) rfl _ _ (w.heap.size + 2) 96 (ecells s1) (0, 0) _ rfl he6 Try.underlying96 rfl (infoE' s1)) rfl ⟨?_, HB6.out⟩
          rw [HF.out]
        | false =>
          have HLT := Lib.hid (Rd.again hrd.out heq)
          have HSS := Lib.hid (show (∀ e, S e = true → s1 e = true) ∧ (∀ e, s1 e = true → Co ps vs S e) from ⟨fun e he => hrd.out.sub e (hrd.out.sub0 e he), hrd.out.con⟩)
          have HEQ := Lib.hid heq
          clear heq hrd
          have hnl := num_le s1
          go_wp2_with (first
            | (with_reducible refine wpE_load rfl _ rfl (w.heap.size + 3) rfl s1 E7.out ?_)
            | (with_reducible refine wpE_load rfl _ rfl g8 rfl s E8.out ?_)
            | ((with_reducible refine wpE_eql rfl _ _ rfl s1 s rfl rfl ?_); rw [HEQ.out]))
          go_roundg (20 - num s1)
          case measure => have h8 := hK2.out; have h7 := HLT.out; rw [HMG.out] at h8; omega
          case rel => exact ⟨s1, hce, HSS, Lib.hid (Nat.le_refl _)⟩
end Go.Proofs.Ytbljmibaemgfeaa.S2
