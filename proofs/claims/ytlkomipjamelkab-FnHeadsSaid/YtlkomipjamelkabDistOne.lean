/- The distances to a node: what the program's distancesTo returns: contracts. Conditions: each theorem's own premises. -/
import Derived.Test.YtlkomipjamelkabRepOne
import Derived.Test.YtlkomipjamelkabQueOne
import Derived.Test.YtlkomipjamelkabGraphOne
import Derived.Test.YtlkomipjamelkabAtOne
import Derived.Deep.LoopGhost
namespace Go.Proofs.Ytlkomipjamelkab.S2
open Go.RowKit P2

def qI (Q : List Nat) : List Int := Q.map fun n : Nat => (n : Int)
theorem qI_snoc (Q : List Nat) (u : Nat) : qI (Q ++ [u]) = qI Q ++ [(u : Int)] := by simp [qI]
theorem cell_head (w : World) (a : Addr) (u x : Value) (t : TypeId) : ((w.setCell a u).alloc (.cells #[x] t)).cell? ⟨w.heap.size, 0, none⟩ = some x := by
  rw [World.cell?_alloc_at _ _ _ _ (by simp)]
  rfl
/-- The distances lie in block g. -/
def DRow (w : World) (g : Nat) (D : List Int) : Prop := w.heap[g]? = some (.cells (D.map iv).toArray 3 (0, 0))
theorem DRow.lt {w : World} {g : Nat} {D : List Int} (h : DRow w g D) : g < w.heap.size := (Array.getElem?_eq_some_iff.1 h).1
theorem DRow.cell {w : World} {g : Nat} {D : List Int} (h : DRow w g D) {v : Nat} (hv : v < D.length) : w.cell? ⟨g, v, none⟩ = some (iv (dA D v)) := by
  rw [cell_of_row w g v _ 3 (0, 0) h]
  simp [dA, List.getD, hv]
theorem DRow.frozen {w : World} {g : Nat} {D : List Int} (h : DRow w g D) (o : Nat) : w.frozen? ⟨g, o, none⟩ = false := by
  unfold DRow at h
  simp [World.frozen?, h]
theorem DRow.set {w : World} {g : Nat} {D : List Int} (h : DRow w g D) (v : Nat) (x : Int) : DRow (w.setCell ⟨g, v, none⟩ (iv x)) g (D.set v x) := by
  unfold DRow at h ⊢
  simp [World.setCell, Array.getElem?_modify, h, List.map_set]
theorem DRow.kept {w w' : World} {g : Nat} {D : List Int} (h : DRow w g D) (hb : w'.heap[g]? = w.heap[g]?) : DRow w' g D := hb.trans h
theorem DRow.iat {w : World} {g : Nat} {D : List Int} (h : DRow w g D) : IAt w (some ⟨g, 0, none⟩) D :=
  .inr ⟨g, 0, rfl, h.lt, fun i hi => by rw [Nat.zero_add]; exact h.cell hi⟩

theorem other_any (p : Pp) (x : Int) (w : World) :
    Calls Try.prog 81 #[pv p, .int .i64 x] w fun e w' => e = .returned (iv (oth p x)) ∧ Below w.heap.size w w' := by
  obtain ⟨id, fr, tt, sz⟩ := p
  by_cases h : fr = x
  · have e : oth ⟨id, fr, tt, sz⟩ x = tt := by unfold oth; rw [if_pos h]
    have hE : (fr == x) = true := by simpa using h
    rw [e]
    clear h e
    go_enter Try.func81, Try.ntmps81
    go_wp2
    go_ret
    exact ⟨rfl, (Below.refl _ _).alloc (Nat.le_refl _) _⟩
  · have e : oth ⟨id, fr, tt, sz⟩ x = fr := by unfold oth; rw [if_neg h]
    have hE : (fr == x) = false := by simpa using h
    rw [e]
    clear h e
    go_enter Try.func81, Try.ntmps81
    go_wp2
    go_ret
    exact ⟨rfl, (Below.refl _ _).alloc (Nat.le_refl _) _⟩

/-- All distances, from node 0 on. -/
noncomputable def distL (n : Nat) (ps : List Pp) (t : Int) : List Int := (List.range (n + 1)).map fun v : Nat => if v = 0 then -1 else dist ps t (v : Int)

theorem told_dist {N : Nat} {ps : List Pp} {t : Nat} {D : List Int} (b : Bf N ps t D []) (hg : P2.Good N ps) (ht : t ≤ N) : D = distL N ps t := by
  have h1 := b.told hg ht
  apply List.ext_getElem
  · rw [b.len]; simp [distL]
  · intro v hv hv2
    have hvN : v ≤ N := by rw [b.len] at hv; omega
    have e : D[v] = dA D v := by simp [dA, List.getD, hv]
    rw [e]
    simp only [distL, List.getElem_map, List.getElem_range]
    by_cases h0 : v = 0
    · rw [if_pos h0, h0]; exact b.zero
    · rw [if_neg h0]; exact h1 v hvN
theorem other_v {p : Pp} {x : Int} {u : Int} (hu : oth p x = u) (w : World) :
    Calls Try.prog 81 #[pv p, .int .i64 x] w fun e w' => e = .returned (iv u) ∧ Below w.heap.size w w' := by
  rw [← hu]; exact other_any p x w
theorem row_mem {ps : List Pp} {h j : Nat} (hj : j < (rowOf ps h).length) : pAt (rowOf ps h) j ∈ ps ∧ ((pAt (rowOf ps h) j).fr = (h : Int) ∨ (pAt (rowOf ps h) j).to = (h : Int)) := by
  have hm : pAt (rowOf ps h) j ∈ rowOf ps h := by
    have e : pAt (rowOf ps h) j = (rowOf ps h)[j] := by simp [pAt, List.getD, hj]
    rw [e]; exact List.getElem_mem hj
  obtain ⟨h1, h2⟩ := List.mem_filter.1 (show pAt (rowOf ps h) j ∈ ps.filter (touchB h) from hm)
  exact ⟨h1, by simpa [touchB] using h2⟩
theorem row_has {n : Int} {ps : List Pp} (hg : P2.Good n ps) {h : Nat} (u : Nat) (ha : Adj ps h u) : ∃ i, i < (rowOf ps h).length ∧ oth (pAt (rowOf ps h) i) h = u := by
  obtain ⟨p, hp, hj⟩ := ha
  obtain ⟨ho, ht⟩ := jn_oth (good_pp hg hp) hj
  have hm : p ∈ rowOf ps h := List.mem_filter.2 ⟨hp, by simpa [touchB] using ht⟩
  obtain ⟨i, hi⟩ := List.getElem?_of_mem hm
  have hlt : i < (rowOf ps h).length := (List.getElem?_eq_some_iff.1 hi).1
  refine ⟨i, hlt, ?_⟩
  have e : pAt (rowOf ps h) i = p := by simp [pAt, List.getD, hi]
  rw [e]; exact ho

set_option maxHeartbeats 8000000 in
set_option maxRecDepth 100000 in
theorem dist_any (N t : Nat) (A : Option Addr) (cap : Nat) (ps : List Pp) (w : World) (h : PAt w A ps) (hg : P2.Good N ps) (ht1 : 1 ≤ t) (ht2 : t ≤ N) :
    Calls Try.prog 105 #[nv N A ps.length cap, .int .i64 (t : Int)] w fun e w' => (∃ g D, e = .returned (.slice (some ⟨g, 0, none⟩) (N + 1) (N + 1)) ∧ w.heap.size ≤ g ∧ DRow w' g D ∧ D = distL N ps t) ∧ Below w.heap.size w w' := by
  have HB := Lib.hid (fun w' (hb : Below w.heap.size w w') => bynode_any N A cap ps w' (h.kept hb (Nat.le_refl _)) hg)
  have HG := Lib.hid hg
  have hN : N ≤ 8 := by have := hg.2.1; omega
  have hl10 := hg.2.2.1
  have hN0 : (0 : Int) ≤ (N : Int) := by omega
  have hN8 : (N : Int) ≤ 8 := by omega
  have ht0 : (0 : Int) ≤ (t : Int) := by omega
  have htN : (t : Int) < (N : Int) + 1 := by omega
  have HR := Lib.hid (fun (b off c : Nat) (w : World) (hb : b < w.heap.size) (hx : w.cell? ⟨b, off, none⟩ = some (iv (-1))) => repeat_any (-1) b off c (N + 1) w hb hx (by omega) (by omega))
  obtain ⟨i0, hi, hz0, hz1, hz2⟩ := info_parts infoI
  clear h hg
  go_enter Try.func105, Try.ntmps105
  go_wp2_with (first
    | (go_at_call 126; refine (HB.out _ ((Below.refl _ _).alloc (Nat.le_refl _) _)).mono ?_; rintro e wB ⟨⟨G, rfl, hbn⟩, hbB⟩; refine Hid.out ?_)
    | fail)
  have hB1 : Below (w.heap.size + 1) (w.alloc (.cells #[.int .i64 N, .slice A ps.length cap] 26)) wB := by simpa using hbB
  obtain ⟨b0, b1⟩ := box2 hB1
  have hzB := box_lt hB1
  have HBN := Lib.hid hbn
  have hGB := hbn.lt
  clear hbB hbn
  refine Lib.hid ?_
  have hcast : ((N + 1 : Nat) : Int) = (N : Int) + 1 := by omega
  have HR2 := Lib.hid (fun (w : World) (h1 : wB.heap.size < w.heap.size) (h2 : w.cell? ⟨wB.heap.size, 0, none⟩ = some (iv (-1))) => HR.out wB.heap.size 0 1 w h1 h2)
  simp only [hcast] at HR2
  go_wp2_with (first
    | (go_at_call 152; refine (HR2.out _ (by simp) (by simp)).mono ?_; rintro e w2 ⟨⟨gD, rfl, hgD, hD⟩, hb2⟩; refine Hid.out ?_)
    | fail)
  have hgD1 : wB.heap.size + 1 ≤ gD := by simp at hgD; omega
  have hD2 : DRow w2 gD (List.replicate (N + 1) (-1)) := by unfold DRow; rw [hD, List.map_replicate]
  have hbw2 : Below wB.heap.size wB w2 := ((Below.refl _ _).alloc (Nat.le_refl _) _).trans (hb2.mono (by simp))
  have hz2' := hb2.size
  simp at hz2'
  have ct := hD2.cell (v := t) (by simp; omega)
  have ft := hD2.frozen t
  have hDt := Lib.hid (hD2.set t 0)
  have hgl2 := hD2.lt
  clear b0 b1 hgD hD hb2 HR HR2 hcast hD2
  refine Lib.hid ?_
  go_wp2
  have hD3 := Lib.hid (hDt.out.kept (Below.heap_alloc (w2.setCell ⟨gD, t, none⟩ (iv 0)) (.cells #[iv t] 3) gD (by simpa using hgl2)))
  have hQ3 : QOwn ((w2.setCell ⟨gD, t, none⟩ (iv 0)).alloc (.cells #[iv t] 3)) (gD + 1) (.slice (some ⟨w2.heap.size, 0, none⟩) 1 1) (qI [t]) := by
    have := QOwn.start (w2.setCell ⟨gD, t, none⟩ (iv 0)) (gD + 1) (t : Int) (by simp; omega)
    simpa [qI] using this
  have HQ3 := Lib.hid hQ3
  have hb3 : Below wB.heap.size wB ((w2.setCell ⟨gD, t, none⟩ (iv 0)).alloc (.cells #[iv t] 3)) := (hbw2.setCell (by show wB.heap.size ≤ gD; omega) _).alloc (by simp; omega) _
  have HF3 := Lib.hid (Bf.start N ps t ht1 ht2)
  have HBD3 := Lib.hid (Bd.start N t ht2)
  clear ct ft hDt hbw2 hQ3
  go_loopg [7] (2 * (N + 1) + 1) (fun k v wr => ∃ (D : List Int) (Q : List Nat), Hid (Bf N ps t D Q) ∧ Hid (DRow wr gD D) ∧ Hid (QOwn wr (gD + 1) v (qI Q)) ∧ Below wB.heap.size wB wr ∧ Hid (Bd N D) ∧ Hid (2 * und D + Q.length ≤ k))
  case atStart => exact ⟨_, _, HF3, hD3, HQ3, hb3, HBD3, Lib.hid (by have := HF3.out.cnt; simp at this ⊢; omega)⟩
  case round =>
    obtain ⟨D, Q, hbf, hd, hq, hb, hbd, hm⟩ := hrel
    match Q, hbf, hq, hm with
    | [], hbf, hq, hm =>
      obtain ⟨g, off, capq, cur, rfl, _⟩ := hq.out
      have hfin := told_dist hbf.out HG.out ht2
      have HFIN := Lib.hid hfin
      clear hfin
      go_wp2
      go_ret
      exact ⟨⟨_, D, rfl, by omega, hd.out, HFIN.out⟩, below_box (hB1.trans (hb.mono (by omega)))⟩
    | h :: r, hbf, hq, hm =>
      obtain ⟨g, off, capq, rfl, hlc, hcm, hgl, hcq, hq2⟩ := QOwn.head (q := qI r) (x := (h : Int)) hq.out
      have HQ2 := Lib.hid hq2
      obtain ⟨AR, capR, hcR, hpR, hloR⟩ := (HBN.out).at_ (i := h) (by have := (hbf.out.inq h (by simp)).1; omega)
      have hcR' := (hb.cell (p := ⟨G, h, none⟩) hGB).trans hcR
      have hhN := (hbf.out.inq h (by simp)).1
      have hh0 : (0 : Int) ≤ (h : Int) := by omega
      have hhN' : (h : Int) < (N : Int) + 1 := by omega
      clear hcR hq2
      obtain ⟨M, hMe⟩ : ∃ M, M = gk := ⟨_, rfl⟩
      have hM := Lib.hid (show 2 * und D + r.length < M by have := hm.out; simp at this; omega)
      have HMG := Lib.hid hMe
      clear hMe
      have hBi := Lib.hid (Bf.pop hbf.out (rowOf ps h))
      have HROW := Lib.hid (fun (u : Nat) (ha : Adj ps h u) => row_has HG.out u ha)
      have HMEM := Lib.hid (fun (j : Nat) (hj : j < (rowOf ps h).length) => row_mem (ps := ps) (h := h) hj)
      have HPR := Lib.hid hpR
      have hRl := rowOf_len ps h
      clear hbf hm hq hpR hloR
      by_cases hc1 : capq = 1
      · subst hc1
        have HR0 := Lib.hid (show (qI r).length = 0 by omega)
        go_wp2
        obtain ⟨V2, hV2⟩ : ∃ V2, V2 = Value.slice (some ⟨g, off, none⟩) 0 0 := ⟨_, rfl⟩
        rw [← hV2]
        have HV := Lib.hid (show QOwn wr (gD + 1) V2 (qI r) by
          rw [hV2]
          have h2 := HQ2.out
          simp only [if_true] at h2
          rw [HR0.out] at h2
          exact h2)
        clear hV2 HQ2
        generalize rowOf ps h = R at *
        go_loopg [7, 37] R.length (fun k v i wr => ∃ (j : Nat) (D : List Int) (Q : List Nat), j ≤ R.length ∧ i = .int .i64 (j : Int) ∧ Hid (Bi N ps t D Q h R j) ∧ Hid (DRow wr gD D) ∧ Hid (QOwn wr (gD + 1) v (qI Q)) ∧ Below wB.heap.size wB wr ∧ Hid (Bd N D) ∧ Hid (2 * und D + Q.length < M) ∧ k = R.length - j)
        case atStart => exact ⟨0, D, r, Nat.zero_le _, rfl, hBi, hd, HV, hb, hbd, hM, rfl⟩
        case round =>
          clear hBi hd HV hb hbd hM
          obtain ⟨j, D, Q, hj, rfl, hbi, hd, hq, hb, hbd, hM, rfl⟩ := hrel
          by_cases hlt : j < R.length
          · obtain ⟨b, o, hA, hbl, h0, h1, h2, h3⟩ := (HPR.out.kept hb (Nat.le_refl _)).at_ hlt
            subst hA
            obtain ⟨hpm, hpt⟩ := HMEM.out j hlt
            have hok := good_pp HG.out hpm
            have hoi := oth_in (x := (h : Int)) hok
            have hadj := (Adj.symm ⟨_, hpm, oth_jn hpt⟩ : Adj ps (oth (pAt R j) h) h)
            obtain ⟨u, hu⟩ : ∃ u : Nat, oth (pAt R j) h = (u : Int) := ⟨(oth (pAt R j) h).toNat, by omega⟩
            rw [hu] at hoi hadj
            have HU := Lib.hid hu
            have HO := Lib.hid (fun w => other_v hu w)
            have HADJ := Lib.hid hadj
            clear hpm hpt hok hadj hu
            have hu1 : 1 ≤ u := by omega
            have huN : u ≤ N := by omega
            have hu0 : (0 : Int) ≤ (u : Int) := by omega
            have huN' : (u : Int) < (N : Int) + 1 := by omega
            have hDl := hbi.out.len
            have hzw := hb.size
            have hgDw := hd.out.lt
            have hhd := hbi.out.hd
            clear hoi
            have HBI := Lib.hid (show ∀ (h1 : dA D u ≠ -1), Bi N ps t D Q h R (j + 1) from fun h1 => hbi.out.old HU.out huN h1)
            have HBN' := Lib.hid (show ∀ (h1 : dA D u = -1), Bi N ps t (D.set u (dA D h + 1)) (Q ++ [u]) h R (j + 1) from fun h1 => hbi.out.new HU.out hu1 huN h1 HADJ.out)
            generalize pAt R j = p at *
            by_cases hne : dA D u = -1
            · have hB2 := Lib.hid (HBN'.out hne)
              have hhx : dA D h + 1 ≠ -1 := by
                rcases hbi.out.sound h hhd.1 with e | ⟨k, e, _⟩
                · exact absurd e hhd.2
                · omega
              have hbd2 := Lib.hid (Bd.set hbd.out (by omega) hne hhd.1 hhx)
              have hund := und_set D u (dA D h + 1) (by omega) hne hhx
              have hM2 := Lib.hid (show 2 * und (D.set u (dA D h + 1)) + (Q ++ [u]).length < M by have := hM.out; simp; omega)
              have hbh := hbd.out h hhd.1
              have hlo : -1 ≤ dA D h := by
                rcases hbi.out.sound h hhd.1 with e | ⟨k, e, _⟩ <;> omega
              have hQl : (qI Q).length + 1 ≤ 1048576 := by have := hbi.out.cnt; simp [qI]; omega
              have hx1 : dA D h ≤ 8 := by omega
              go_wp2_with (first
                | (go_at_call 81; refine (HO.out _).mono ?_; rintro e w3 ⟨rfl, hb4⟩; have hz4 := hb4.size; simp at hz4; have hd4 := Lib.hid ((hd.out.kept (Below.heap_alloc wr _ gD hgDw)).kept (hb4.block gD (by simp; omega))); have cu := (hd4.out.cell (v := u) (by omega)); have ch := hd4.out.cell (v := h) (by omega); have fu := hd4.out.frozen u; rw [hne] at cu; have hq4 := Lib.hid ((hq.out.alloc (.cells #[.int .i64 p.id, .int .i64 p.fr, .int .i64 p.to, .int .i64 p.sz] 40)).below hb4); have hB4 := Lib.hid (((hb.alloc hzw (.cells #[.int .i64 p.id, .int .i64 p.fr, .int .i64 p.to, .int .i64 p.sz] 40)).trans (hb4.mono (by simp; omega)))))
                | (at_builtin; go_must (refine wpList_append_q _ rfl (.tmp 57) (.tmp 59) 27 rfl i0 Try.underlying27 hi hz0 hz1 hz2 (gD + 1) u7 (qI Q) rfl ((hq4.out.kept (Below.heap_setCell _ ⟨gD, u, none⟩ (iv (dA D h + 1)) _ (by have := hq4.out.lt; show qblk _ ≠ gD; omega))).alloc _) ⟨w3.heap.size, 0, none⟩ 1 (u : Int) rfl (cell_head _ _ _ _ _) hQl (by simp; omega) ?_); intro v5 w5 hq5 hg5 hat5))
              have hblk := hq4.out.lt
              have hd5 := Lib.hid (((hd4.out.set u (dA D h + 1)).kept (Below.heap_alloc _ (.cells #[iv u] 3) gD (by simp; omega))).kept (hg5.block gD (by simp; omega) (by simp; omega)))
              have hB5 := Lib.hid ((((hB4.out.setCell (p := ⟨gD, u, none⟩) (by show wB.heap.size ≤ gD; omega) (iv (dA D h + 1))).alloc (by simp; omega) (.cells #[iv u] 3))).grown hg5 (by simp; omega) (fun k hk => by simp at hk; omega))
              have hq6 := Lib.hid (show QOwn w5 (gD + 1) v5 (qI (Q ++ [u])) by rw [qI_snoc]; exact hq5)
              go_wp2
              go_roundg (R.length - (j + 1))
              case measure => omega
              case rel => exact ⟨j + 1, _, _, by omega, by go_num, hB2, hd5, hq6, hB5.out, hbd2, hM2, rfl⟩
            · have hB2 := Lib.hid (HBI.out hne)
              have hnb : (dA D u == -1) = false := by simpa using hne
              go_wp2_with (first
                | (go_at_call 81; refine (HO.out _).mono ?_; rintro e w3 ⟨rfl, hb4⟩; have hz4 := hb4.size; simp at hz4; have hd4 := Lib.hid ((hd.out.kept (Below.heap_alloc wr _ gD hgDw)).kept (hb4.block gD (by simp; omega))); have cu := (hd4.out.cell (v := u) (by omega)); have hq4 := Lib.hid ((hq.out.alloc (.cells #[.int .i64 p.id, .int .i64 p.fr, .int .i64 p.to, .int .i64 p.sz] 40)).below hb4); have hB4 := Lib.hid (((hb.alloc hzw (.cells #[.int .i64 p.id, .int .i64 p.fr, .int .i64 p.to, .int .i64 p.sz] 40)).trans (hb4.mono (by simp; omega))))))
              go_roundg (R.length - (j + 1))
              case measure => omega
              case rel => exact ⟨j + 1, _, _, by omega, by go_num, hB2, hd4, hq4, hB4.out, hbd, hM, rfl⟩
          · have hfin := Lib.hid (hbi.out.finish (by omega) HROW.out)
            go_wp2
            go_roundg (2 * und D + Q.length)
            case measure => have h9 := hM.out; rw [HMG.out] at h9; exact h9
            case rel => exact ⟨D, Q, hfin, hd, hq, hb, hbd, Lib.hid (Nat.le_refl _)⟩
      · go_wp2
        obtain ⟨V2, hV2⟩ : ∃ V2, V2 = Value.slice (some ⟨g, off + 1, none⟩) (qI r).length (capq - 1) := ⟨_, rfl⟩
        rw [← hV2]
        have HV := Lib.hid (show QOwn wr (gD + 1) V2 (qI r) by rw [hV2]; simpa [hc1] using HQ2.out)
        clear hV2 HQ2
        generalize rowOf ps h = R at *
        go_loopg [7, 37] R.length (fun k v i wr => ∃ (j : Nat) (D : List Int) (Q : List Nat), j ≤ R.length ∧ i = .int .i64 (j : Int) ∧ Hid (Bi N ps t D Q h R j) ∧ Hid (DRow wr gD D) ∧ Hid (QOwn wr (gD + 1) v (qI Q)) ∧ Below wB.heap.size wB wr ∧ Hid (Bd N D) ∧ Hid (2 * und D + Q.length < M) ∧ k = R.length - j)
        case atStart => exact ⟨0, D, r, Nat.zero_le _, rfl, hBi, hd, HV, hb, hbd, hM, rfl⟩
        case round =>
          clear hBi hd HV hb hbd hM
          obtain ⟨j, D, Q, hj, rfl, hbi, hd, hq, hb, hbd, hM, rfl⟩ := hrel
          by_cases hlt : j < R.length
          · obtain ⟨b, o, hA, hbl, h0, h1, h2, h3⟩ := (HPR.out.kept hb (Nat.le_refl _)).at_ hlt
            subst hA
            obtain ⟨hpm, hpt⟩ := HMEM.out j hlt
            have hok := good_pp HG.out hpm
            have hoi := oth_in (x := (h : Int)) hok
            have hadj := (Adj.symm ⟨_, hpm, oth_jn hpt⟩ : Adj ps (oth (pAt R j) h) h)
            obtain ⟨u, hu⟩ : ∃ u : Nat, oth (pAt R j) h = (u : Int) := ⟨(oth (pAt R j) h).toNat, by omega⟩
            rw [hu] at hoi hadj
            have HU := Lib.hid hu
            have HO := Lib.hid (fun w => other_v hu w)
            have HADJ := Lib.hid hadj
            clear hpm hpt hok hadj hu
            have hu1 : 1 ≤ u := by omega
            have huN : u ≤ N := by omega
            have hu0 : (0 : Int) ≤ (u : Int) := by omega
            have huN' : (u : Int) < (N : Int) + 1 := by omega
            have hDl := hbi.out.len
            have hzw := hb.size
            have hgDw := hd.out.lt
            have hhd := hbi.out.hd
            clear hoi
            have HBI := Lib.hid (show ∀ (h1 : dA D u ≠ -1), Bi N ps t D Q h R (j + 1) from fun h1 => hbi.out.old HU.out huN h1)
            have HBN' := Lib.hid (show ∀ (h1 : dA D u = -1), Bi N ps t (D.set u (dA D h + 1)) (Q ++ [u]) h R (j + 1) from fun h1 => hbi.out.new HU.out hu1 huN h1 HADJ.out)
            generalize pAt R j = p at *
            by_cases hne : dA D u = -1
            · have hB2 := Lib.hid (HBN'.out hne)
              have hhx : dA D h + 1 ≠ -1 := by
                rcases hbi.out.sound h hhd.1 with e | ⟨k, e, _⟩
                · exact absurd e hhd.2
                · omega
              have hbd2 := Lib.hid (Bd.set hbd.out (by omega) hne hhd.1 hhx)
              have hund := und_set D u (dA D h + 1) (by omega) hne hhx
              have hM2 := Lib.hid (show 2 * und (D.set u (dA D h + 1)) + (Q ++ [u]).length < M by have := hM.out; simp; omega)
              have hbh := hbd.out h hhd.1
              have hlo : -1 ≤ dA D h := by
                rcases hbi.out.sound h hhd.1 with e | ⟨k, e, _⟩ <;> omega
              have hQl : (qI Q).length + 1 ≤ 1048576 := by have := hbi.out.cnt; simp [qI]; omega
              have hx1 : dA D h ≤ 8 := by omega
              go_wp2_with (first
                | (go_at_call 81; refine (HO.out _).mono ?_; rintro e w3 ⟨rfl, hb4⟩; have hz4 := hb4.size; simp at hz4; have hd4 := Lib.hid ((hd.out.kept (Below.heap_alloc wr _ gD hgDw)).kept (hb4.block gD (by simp; omega))); have cu := (hd4.out.cell (v := u) (by omega)); have ch := hd4.out.cell (v := h) (by omega); have fu := hd4.out.frozen u; rw [hne] at cu; have hq4 := Lib.hid ((hq.out.alloc (.cells #[.int .i64 p.id, .int .i64 p.fr, .int .i64 p.to, .int .i64 p.sz] 40)).below hb4); have hB4 := Lib.hid (((hb.alloc hzw (.cells #[.int .i64 p.id, .int .i64 p.fr, .int .i64 p.to, .int .i64 p.sz] 40)).trans (hb4.mono (by simp; omega)))))
                | (at_builtin; go_must (refine wpList_append_q _ rfl (.tmp 57) (.tmp 59) 27 rfl i0 Try.underlying27 hi hz0 hz1 hz2 (gD + 1) u7 (qI Q) rfl ((hq4.out.kept (Below.heap_setCell _ ⟨gD, u, none⟩ (iv (dA D h + 1)) _ (by have := hq4.out.lt; show qblk _ ≠ gD; omega))).alloc _) ⟨w3.heap.size, 0, none⟩ 1 (u : Int) rfl (cell_head _ _ _ _ _) hQl (by simp; omega) ?_); intro v5 w5 hq5 hg5 hat5))
              have hblk := hq4.out.lt
              have hd5 := Lib.hid (((hd4.out.set u (dA D h + 1)).kept (Below.heap_alloc _ (.cells #[iv u] 3) gD (by simp; omega))).kept (hg5.block gD (by simp; omega) (by simp; omega)))
              have hB5 := Lib.hid ((((hB4.out.setCell (p := ⟨gD, u, none⟩) (by show wB.heap.size ≤ gD; omega) (iv (dA D h + 1))).alloc (by simp; omega) (.cells #[iv u] 3))).grown hg5 (by simp; omega) (fun k hk => by simp at hk; omega))
              have hq6 := Lib.hid (show QOwn w5 (gD + 1) v5 (qI (Q ++ [u])) by rw [qI_snoc]; exact hq5)
              go_wp2
              go_roundg (R.length - (j + 1))
              case measure => omega
              case rel => exact ⟨j + 1, _, _, by omega, by go_num, hB2, hd5, hq6, hB5.out, hbd2, hM2, rfl⟩
            · have hB2 := Lib.hid (HBI.out hne)
              have hnb : (dA D u == -1) = false := by simpa using hne
              go_wp2_with (first
                | (go_at_call 81; refine (HO.out _).mono ?_; rintro e w3 ⟨rfl, hb4⟩; have hz4 := hb4.size; simp at hz4; have hd4 := Lib.hid ((hd.out.kept (Below.heap_alloc wr _ gD hgDw)).kept (hb4.block gD (by simp; omega))); have cu := (hd4.out.cell (v := u) (by omega)); have hq4 := Lib.hid ((hq.out.alloc (.cells #[.int .i64 p.id, .int .i64 p.fr, .int .i64 p.to, .int .i64 p.sz] 40)).below hb4); have hB4 := Lib.hid (((hb.alloc hzw (.cells #[.int .i64 p.id, .int .i64 p.fr, .int .i64 p.to, .int .i64 p.sz] 40)).trans (hb4.mono (by simp; omega))))))
              go_roundg (R.length - (j + 1))
              case measure => omega
              case rel => exact ⟨j + 1, _, _, by omega, by go_num, hB2, hd4, hq4, hB4.out, hbd, hM, rfl⟩
          · have hfin := Lib.hid (hbi.out.finish (by omega) HROW.out)
            go_wp2
            go_roundg (2 * und D + Q.length)
            case measure => have h9 := hM.out; rw [HMG.out] at h9; exact h9
            case rel => exact ⟨D, Q, hfin, hd, hq, hb, hbd, Lib.hid (Nat.le_refl _)⟩
end Go.Proofs.Ytlkomipjamelkab.S2
