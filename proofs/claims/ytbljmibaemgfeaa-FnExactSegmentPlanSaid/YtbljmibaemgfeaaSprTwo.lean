/- What the model's search of elements gathers: contracts. Conditions: each theorem's own premises. -/
import Derived.Test.YtbljmibaemgfeaaSprOne
import Derived.Test.YtbljmibaemgfeaaPutTwo
import Derived.Test.YtbljmibaemgfeaaValTwo
import Derived.Test.YtbljmibaemgfeaaBoxOne
import Derived.Test.YtbljmibaemgfeaaConEl
import Derived.Deep.LoopGhost
namespace Go.Proofs.Ytbljmibaemgfeaa.S2
open Go.RowKit P2 P4

theorem any_yes {vs : List Vv} {q : Vv → Bool} {m : Nat} (hm : m < vs.length) (h : q (vAt vs m) = true) : vs.any q = true := List.any_eq_true.2 ⟨_, List.mem_of_getElem? (vAt_get vs m hm), h⟩
theorem any_no {vs : List Vv} {q : Vv → Bool} (h : ∀ m, m < vs.length → q (vAt vs m) = false) : vs.any q = false := by
  cases e : vs.any q with
  | false => rfl
  | true =>
    obtain ⟨v, hv, hq⟩ := List.any_eq_true.1 e
    obtain ⟨m, hm⟩ := List.getElem?_of_mem hv
    have hl : m < vs.length := (List.getElem?_eq_some_iff.1 hm).1
    rw [vAt_get vs m hl] at hm
    injection hm with hm
    rw [← hm, h m hl] at hq; cases hq
set_option maxHeartbeats 4000000 in
theorem blocked_any (AV : Option Addr) (capv : Nat) (vs : List Vv) (p n : Int) (shut : Bool) (w : World) (h : VAt w AV vs) (hm : vs.length ≤ 1048576) :
    Calls Try.prog 166 #[.slice AV vs.length capv, .int .i64 p, .int .i64 n, .bool shut] w fun e w' => e = .returned (.bool (hasV (bar vs shut) p n)) ∧ w' = w := by
  rw [hasV_bar]
  have HA := Lib.hid h
  clear h
  go_enter Try.func166, Try.ntmps166
  go_wp2
  go_loop [9] (fun i => ∃ k : Nat, k ≤ vs.length ∧ i = .int .i64 (k : Int) ∧ Hid (∀ m, m < k → hitV shut p n (vAt vs m) = false)) (fun i => vs.length - (intOf i).toNat)
  case atStart => exact ⟨0, Nat.zero_le _, rfl, Lib.hid (fun m hm => absurd hm (by omega))⟩
  case round =>
    obtain ⟨k, hk, rfl, hno⟩ := hrel
    by_cases hlt : k < vs.length
    · obtain ⟨b, off, hA, hbl, h0, h1, h2, h3⟩ := HA.out.at_ hlt
      subst hA
      have hk0 : (0 : Int) ≤ (k : Int) := by omega
      have hkn : (k : Int) < (vs.length : Int) := by omega
      have HY := Lib.hid (fun (hq : hitV shut p n (vAt vs k) = true) => any_yes hlt hq)
      have HN := Lib.hid (fun (hq : hitV shut p n (vAt vs k) = false) => (show ∀ m, m < k + 1 → hitV shut p n (vAt vs m) = false from fun m hm => by
        by_cases e : m = k
        · rw [e]; exact hq
        · exact hno.out m (by omega)))
      clear hno
      generalize vAt vs k = v at *
      obtain ⟨id, pp, nd, sh⟩ := v
      dsimp only at h0 h1 h2 h3
      by_cases e1 : pp = p
      · by_cases e2 : nd = n
        · have E1 : (pp == p) = true := by simpa using e1
          have E2 : (nd == n) = true := by simpa using e2
          cases shut with
          | false =>
            have HR := Lib.hid (HY.out (by simp [hitV, e1, e2]))
            clear HY HN e1 e2
            go_wp2
            go_ret
            exact ⟨by rw [HR.out]; rfl, rfl⟩
          | true =>
            cases sh with
            | true =>
              have HR := Lib.hid (HY.out (by simp [hitV, e1, e2]))
              clear HY HN e1 e2
              go_wp2
              go_ret
              exact ⟨by rw [HR.out]; rfl, rfl⟩
            | false =>
              have HR := Lib.hid (HN.out (by simp [hitV]))
              clear HY HN e1 e2
              go_wp2
              go_round
              case rel => exact ⟨k + 1, by omega, by go_num, HR⟩
              case measure => simp [intOf]; omega
        · have E1 : (pp == p) = true := by simpa using e1
          have E2 : (nd == n) = false := by simpa using e2
          have HR := Lib.hid (HN.out (by simp [hitV, e2]))
          clear HY HN e1 e2
          go_wp2
          go_round
          case rel => exact ⟨k + 1, by omega, by go_num, HR⟩
          case measure => simp [intOf]; omega
      · have E1 : (pp == p) = false := by simpa using e1
        have HR := Lib.hid (HN.out (by simp [hitV, e1]))
        clear HY HN e1
        go_wp2
        go_round
        case rel => exact ⟨k + 1, by omega, by go_num, HR⟩
        case measure => simp [intOf]; omega
    · have HR := Lib.hid (show vs.any (hitV shut p n) = false from any_no (fun m hm => hno.out m (by omega)))
      go_wp2
      go_ret
      exact ⟨by rw [HR.out]; rfl, rfl⟩

/-- The list lies in a slice there. -/
def LAt (w : World) (g o c : Nat) (r : List Int) : Prop := g < w.heap.size ∧ r.length ≤ c ∧ c ≤ maxLen ∧ ∀ i, i < r.length → w.cell? ⟨g, o + i, none⟩ = some (iv (r.getD i 0))
theorem LAt.kept {w w' : World} {g o c : Nat} {r : List Int} (h : LAt w g o c r) (hb : Below w.heap.size w w') : LAt w' g o c r :=
  ⟨Nat.lt_of_lt_of_le h.1 hb.size, h.2.1, h.2.2.1, fun i hi => (hb.cell (p := ⟨g, o + i, none⟩) h.1).trans (h.2.2.2 i hi)⟩
theorem LAt.iat {w : World} {g o c : Nat} {r : List Int} (h : LAt w g o c r) : IAt w (some ⟨g, o, none⟩) r := .inr ⟨g, o, rfl, h.1, h.2.2.2⟩
theorem put4_any {g o c : Nat} {r : List Int} {x : Int} {w : World} (h : LAt w g o c r) (hn : r.length ≤ 1000) (hs : r.Pairwise (· < ·)) :
    Calls Try.prog 167 #[.slice (some ⟨g, o, none⟩) r.length c, .int .i64 x] w fun e w' =>
      ∃ r2 g2 o2 c2, e = .returned (.slice (some ⟨g2, o2, none⟩) r2.length c2) ∧ Hid (PutOk r x r2) ∧ Hid (LAt w' g2 o2 c2 r2) ∧ Below w.heap.size w w' := by
  refine (put_any g o c r x w h.1 h.2.2.2 h.2.1 h.2.2.1 hn hs).mono ?_
  rintro e w' ⟨r2, g2, o2, c2, rfl, hc, hcm, hp, hg2, hcell, hb, _⟩
  exact ⟨r2, g2, o2, c2, rfl, Lib.hid hp, Lib.hid ⟨hg2, hc, hcm, hcell⟩, hb⟩

/-- What the model gives: two slices of numbers, wherever they lie. -/
def GivesL2 (w : World) (l1 l2 : List Int) (e : Ending) (w' : World) : Prop :=
  ∃ g1 o1 c1 g2 o2 c2, e = .returned (.tuple #[.slice (some ⟨g1, o1, none⟩) l1.length c1, .slice (some ⟨g2, o2, none⟩) l2.length c2]) ∧ LAt w' g1 o1 c1 l1 ∧ LAt w' g2 o2 c2 l2 ∧ Below w.heap.size w w'
/-- What a round has. -/
def Mo (s0 s : Nat → Bool) (mb : Bool) : Prop := (mb = true → num s0 < num s) ∧ (mb = false → s = s0)

set_option maxHeartbeats 16000000 in
set_option maxRecDepth 100000 in
theorem spread_any (N : Nat) (A : Option Addr) (cap : Nat) (ps : List Pp) (AV : Option Addr) (capv : Nat) (vs : List Vv) (shut : Bool) (g1 o1 c1 g2 o2 c2 : Nat) (ns is : List Int) (w : World) (h : PAt w A ps) (hv : VAt w AV vs) (hg : P2.Good N ps) (hvl : vs.length ≤ 10) (h1 : LAt w g1 o1 c1 ns) (h2 : LAt w g2 o2 c2 is) (hls : Ls N ps.length ns is) :
    Calls Try.prog 123 #[nv N A ps.length cap, .slice AV vs.length capv, .bool shut, .slice (some ⟨g1, o1, none⟩) ns.length c1, .slice (some ⟨g2, o2, none⟩) is.length c2] w (GivesL2 w (nodesL N (coB ps (bar vs shut) (sOf ns is)) true) (idxL ps.length (coB ps (bar vs shut) (sOf ns is)) true)) := by
  have HA := Lib.hid h
  have HV := Lib.hid hv
  have HG := Lib.hid hg
  have hN8 : N ≤ 8 := by have := hg.2.1; omega
  have hl10 := hg.2.2.1
  obtain ⟨S, hS⟩ : ∃ S, S = sOf ns is := ⟨_, rfl⟩
  rw [← hS]
  have HS := Lib.hid hS
  have HL0 := Lib.hid hls
  have hb0 : Below (w.heap.size + 1) (w.alloc (.cells #[.int .i64 (N : Int), .slice A ps.length cap] 32)) (w.alloc (.cells #[.int .i64 (N : Int), .slice A ps.length cap] 32)) := Below.refl _ _
  have HB0 := Lib.hid hb0
  have H10 := Lib.hid (h1.kept ((Below.refl w.heap.size w).alloc (Nat.le_refl _) (.cells #[.int .i64 (N : Int), .slice A ps.length cap] 32)))
  have H20 := Lib.hid (h2.kept ((Below.refl w.heap.size w).alloc (Nat.le_refl _) (.cells #[.int .i64 (N : Int), .slice A ps.length cap] 32)))
  clear h hv hg hS h1 h2 hls hb0
  go_enter Try.func123, Try.ntmps123
  go_wp2_with fail
  go_loopg [3, 4, 12] 21 (fun K v3 v4 m wr => ∃ (ns is : List Int) (g1 o1 c1 g2 o2 c2 : Nat) (mb : Bool), v3 = .slice (some ⟨g1, o1, none⟩) ns.length c1 ∧ v4 = .slice (some ⟨g2, o2, none⟩) is.length c2 ∧ m = .bool mb ∧ Hid (Ls N ps.length ns is) ∧ Hid (LAt wr g1 o1 c1 ns) ∧ Hid (LAt wr g2 o2 c2 is) ∧ Hid (Below (w.heap.size + 1) (w.alloc (.cells #[.int .i64 (N : Int), .slice A ps.length cap] 32)) wr) ∧ Hid ((∀ e, S e = true → sOf ns is e = true) ∧ (∀ e, sOf ns is e = true → Co ps (bar vs shut) S e)) ∧ Hid (mb = true → 20 - num (sOf ns is) < K) ∧ Hid (mb = false → ∀ e, sOf ns is e = coB ps (bar vs shut) S e))
  case atStart => exact ⟨ns, is, g1, o1, c1, g2, o2, c2, true, rfl, rfl, rfl, HL0, H10, H20, HB0, Lib.hid (by rw [← HS.out]; exact ⟨fun _ h => h, fun _ h => .base h⟩), Lib.hid (fun _ => by omega), Lib.hid (fun h => by cases h)⟩
  case round =>
    clear HL0 H10 H20 HB0 HS
    obtain ⟨ns, is, g1, o1, c1, g2, o2, c2, mb, rfl, rfl, rfl, hls, h1, h2, hb, hcc, hK, hfin⟩ := hrel
    cases mb with
    | false =>
      obtain ⟨t1, t2⟩ := hls.out.told hN8 (hfin.out rfl)
      have k1 := Lib.hid t1
      have k2 := Lib.hid t2
      have L1 := h1.out
      have L2 := h2.out
      clear t1 t2 hK hfin
      go_wp2_with fail
      go_ret2
      exact ⟨g1, o1, c1, g2, o2, c2, by rw [← k1.out, ← k2.out]; rfl, by rw [← k1.out]; exact L1, by rw [← k2.out]; exact L2, below_box hb.out⟩
    | true =>
      obtain ⟨M, hMe⟩ : ∃ M, M = gk := ⟨_, rfl⟩
      have HMG := Lib.hid hMe
      obtain ⟨s0, hs0⟩ : ∃ s0, s0 = sOf ns is := ⟨_, rfl⟩
      have hK3 := Lib.hid (show 20 - num s0 < M by rw [hMe, hs0]; exact hK.out rfl)
      have hR0 := Lib.hid (show Rd ps (bar vs shut) S s0 (sOf ns is) 0 false by rw [hs0]; exact Rd.start hcc.out.1 hcc.out.2)
      have hM0 := Lib.hid (show Mo s0 (sOf ns is) false from ⟨(fun h => by cases h), fun _ => hs0.symm⟩)
      have HS0 := Lib.hid hs0
      clear hMe hK hs0 hfin hcc
      go_wp2_with fail
      go_loopw [3, 4, 12, 13] (fun v3 v4 m i wr => ∃ (ns is : List Int) (g1 o1 c1 g2 o2 c2 k : Nat) (mb : Bool), v3 = .slice (some ⟨g1, o1, none⟩) ns.length c1 ∧ v4 = .slice (some ⟨g2, o2, none⟩) is.length c2 ∧ m = .bool mb ∧ i = .int .i64 (k : Int) ∧ k ≤ ps.length ∧ Hid (Ls N ps.length ns is) ∧ Hid (LAt wr g1 o1 c1 ns) ∧ Hid (LAt wr g2 o2 c2 is) ∧ Hid (Below (w.heap.size + 1) (w.alloc (.cells #[.int .i64 (N : Int), .slice A ps.length cap] 32)) wr) ∧ Hid (Rd ps (bar vs shut) S s0 (sOf ns is) k false) ∧ Hid (Mo s0 (sOf ns is) mb)) (fun _ _ _ i _ => ps.length - (intOf i).toNat)
      case atStart => exact ⟨ns, is, g1, o1, c1, g2, o2, c2, 0, false, rfl, rfl, rfl, rfl, Nat.zero_le _, hls, h1, h2, hb, hR0, hM0⟩
      case round =>
        clear hls h1 h2 hb hR0 hM0 HS0
        obtain ⟨ns, is, g1, o1, c1, g2, o2, c2, k, mb, rfl, rfl, rfl, rfl, hk, hls, h1, h2, hb, hrd, hmo⟩ := hrel
        by_cases hlt : k < ps.length
        · obtain ⟨b, off, hA, hbl, q0, q1, q2, q3⟩ := (HA.out.kept (below_box hb.out) (Nat.le_refl _)).at_ hlt
          subst hA
          obtain ⟨b0, b1⟩ := box2 hb.out
          have hzw := box_lt hb.out
          have hk0 : (0 : Int) ≤ (k : Int) := by omega
          have hkn : (k : Int) < (ps.length : Int) := by omega
          obtain ⟨u, v, hu, hv, hu1, hu8, hv1, hv8, huN, hvN⟩ := ends_nat HG.out hlt
          have HU := Lib.hid hu
          have HW := Lib.hid hv
          rw [hu] at q1
          rw [hv] at q2
          clear hu hv
          obtain ⟨id, hid⟩ : ∃ id, id = (pAt ps k).id := ⟨_, rfl⟩
          rw [← hid] at q0
          have HID := Lib.hid hid
          clear hid
          generalize (pAt ps k).sz = sz at q3
          obtain ⟨wq, hwq⟩ : ∃ wq : World, wq = wr := ⟨_, rfl⟩
          obtain ⟨G, hG⟩ : ∃ G, G = wr.heap.size := ⟨_, rfl⟩
          have hGw : w.heap.size < G := by omega
          have hb6 : Below wr.heap.size wr (wr.alloc (.cells #[.int .i64 id, .int .i64 (u : Int), .int .i64 (v : Int), .int .i64 sz] 72)) := (Below.refl _ _).alloc (Nat.le_refl _) _
          have J1 := Lib.hid (h1.out.kept hb6)
          have J2 := Lib.hid (h2.out.kept hb6)
          have JB := Lib.hid (hb.out.trans (hb6.mono (by omega)))
          have JP := Lib.hid (show (wr.alloc (.cells #[.int .i64 id, .int .i64 (u : Int), .int .i64 (v : Int), .int .i64 sz] 72)).cell? ⟨G, 0, none⟩ = some (.int .i64 id) ∧ (wr.alloc (.cells #[.int .i64 id, .int .i64 (u : Int), .int .i64 (v : Int), .int .i64 sz] 72)).cell? ⟨G, 1, none⟩ = some (.int .i64 (u : Int)) ∧ (wr.alloc (.cells #[.int .i64 id, .int .i64 (u : Int), .int .i64 (v : Int), .int .i64 sz] 72)).cell? ⟨G, 2, none⟩ = some (.int .i64 (v : Int)) by rw [hG]; exact ⟨by go_simp, by go_simp, by go_simp⟩)
          have HGE := Lib.hid hG
          clear hb6 hG hwq
          go_wp2_with fail
          rw [← HGE.out]
          go_loopw [3, 4, 12, 15] (fun v3 v4 m j wr => ∃ (ns is : List Int) (g1 o1 c1 g2 o2 c2 J : Nat) (mb : Bool), v3 = .slice (some ⟨g1, o1, none⟩) ns.length c1 ∧ v4 = .slice (some ⟨g2, o2, none⟩) is.length c2 ∧ m = .bool mb ∧ j = .int .i64 (J : Int) ∧ J ≤ 2 ∧ Hid (Ls N ps.length ns is) ∧ Hid (LAt wr g1 o1 c1 ns) ∧ Hid (LAt wr g2 o2 c2 is) ∧ Hid (Below (w.heap.size + 1) (w.alloc (.cells #[.int .i64 (N : Int), .slice (some ⟨b, off, none⟩) ps.length cap] 32)) wr) ∧ Hid (wr.cell? ⟨G, 0, none⟩ = some (.int .i64 id) ∧ wr.cell? ⟨G, 1, none⟩ = some (.int .i64 (u : Int)) ∧ wr.cell? ⟨G, 2, none⟩ = some (.int .i64 (v : Int))) ∧ Hid (RdAt ps (bar vs shut) S s0 (sOf ns is) k J) ∧ Hid (Mo s0 (sOf ns is) mb)) (fun _ _ _ j _ => 2 - (intOf j).toNat)
          case atStart => exact ⟨ns, is, g1, o1, c1, g2, o2, c2, 0, mb, rfl, rfl, rfl, rfl, by omega, hls, J1, J2, JB, JP, Lib.hid (rdAt0 hrd.out), hmo⟩
          case round =>
            clear J1 J2 JB JP HGE hls h1 h2 hb hrd hmo q0 q1 q2 q3 b0 b1
            obtain ⟨ns, is, g1, o1, c1, g2, o2, c2, J, mb, rfl, rfl, rfl, rfl, hJ, hls, h1, h2, hb, hp, hrd, hmo⟩ := hrel
            have hGl := block_lt_of_cell hp.out.1
            have hzr : w.heap.size + 1 ≤ wr.heap.size := by have := box_lt hb.out; omega
            match J, hJ with
            | 0, _ =>
              have hr := hrd.out.1 rfl
              have hx : u < 9 := by omega
              have hk9 : k < 10 := by omega
              obtain ⟨p0, p1, p2⟩ := hp.out
              have hb8 : Below wr.heap.size wr (wr.alloc (.cells #[.int .i64 (u : Int), .int .i64 (v : Int)] 3)) := (Below.refl _ _).alloc (Nat.le_refl _) _
              have HB8 := Lib.hid hb8
              obtain ⟨hh, hhh⟩ : ∃ hh, hasV (bar vs shut) id (u : Int) = hh := ⟨_, rfl⟩
              have H1 := Lib.hid (by have := blocked_any AV capv vs id (u : Int) shut _ (HV.out.kept ((below_box hb.out).trans (hb8.mono (by omega))) (Nat.le_refl _)) (by omega); rwa [hhh] at this)
              have HHH := Lib.hid hhh
              obtain ⟨pa, hpa⟩ : ∃ pa, hasB ns (u : Int) = pa := ⟨_, rfl⟩
              obtain ⟨pb, hpb⟩ : ∃ pb, hasB is (k : Int) = pb := ⟨_, rfl⟩
              have hlen := hls.out.len
              have L1 := Lib.hid (h1.out.kept hb8)
              have L2 := Lib.hid (h2.out.kept hb8)
              have HN1 := Lib.hid (by have := has_any (some ⟨g1, o1, none⟩) c1 ns (u : Int) _ L1.out.iat (by omega); rwa [hpa] at this)
              have HN2 := Lib.hid (by have := has_any (some ⟨g2, o2, none⟩) c2 is (k : Int) _ L2.out.iat (by omega); rwa [hpb] at this)
              have HPA := Lib.hid (show sOf ns is u = pa by rw [sOf_node _ _ _ hx]; exact hpa)
              have HPB := Lib.hid (show sOf ns is (9 + k) = pb by rw [sOf_pipe]; exact hpb)
              have hP8 := Lib.hid (show (wr.alloc (.cells #[.int .i64 (u : Int), .int .i64 (v : Int)] 3)).cell? ⟨G, 0, none⟩ = some (.int .i64 id) ∧ (wr.alloc (.cells #[.int .i64 (u : Int), .int .i64 (v : Int)] 3)).cell? ⟨G, 1, none⟩ = some (.int .i64 (u : Int)) ∧ (wr.alloc (.cells #[.int .i64 (u : Int), .int .i64 (v : Int)] 3)).cell? ⟨G, 2, none⟩ = some (.int .i64 (v : Int)) from ⟨(hb8.cell (p := ⟨G, 0, none⟩) hGl).trans p0, (hb8.cell (p := ⟨G, 1, none⟩) hGl).trans p1, (hb8.cell (p := ⟨G, 2, none⟩) hGl).trans p2⟩)
              have BB8 := Lib.hid (hb.out.trans (hb8.mono (by omega)))
              clear hhh hpa hpb hb8
              cases hh with
              | true =>
                have HN := Lib.hid (rdAt1 (Rd.skip1 hr HU.out (.inr (by rw [← HID.out]; exact HHH.out))))
                clear hr
                go_wp2_with (go_at_call 166; refine H1.out.mono ?_; rintro e w' ⟨rfl, hw⟩; replace hw := hw.symm; subst hw)
                go_roundw
                case rel => exact ⟨ns, is, g1, o1, c1, g2, o2, c2, 1, mb, rfl, rfl, rfl, by go_num, by omega, hls, L1, L2, BB8, hP8, HN, hmo⟩
                case measure => simp [intOf]
              | false =>
                by_cases hne : pa = pb
                · subst hne
                  have HN := Lib.hid (rdAt1 (Rd.skip1 hr HU.out (.inl (by rw [HPA.out, HPB.out]))))
                  clear hr
                  go_wp2_with (first
                    | (go_at_call 166; refine H1.out.mono ?_; rintro e w' ⟨rfl, hw⟩; replace hw := hw.symm; subst hw)
                    | (go_at_call_of 96 (Value.int IntKind.i64 (u : Int)); (with_reducible refine HN1.out.mono ?_); rintro e w' ⟨rfl, hw⟩; replace hw := hw.symm; subst hw)
                    | (go_at_call_of 96 (Value.int IntKind.i64 (k : Int)); (with_reducible refine HN2.out.mono ?_); rintro e w' ⟨rfl, hw⟩; replace hw := hw.symm; subst hw))
                  go_roundw
                  case rel => exact ⟨ns, is, g1, o1, c1, g2, o2, c2, 1, mb, rfl, rfl, rfl, by go_num, by omega, hls, L1, L2, BB8, hP8, HN, hmo⟩
                  case measure => simp [intOf]
                · have HNE := Lib.hid (show sOf ns is (9 + k) ≠ sOf ns is u by rw [HPA.out, HPB.out]; exact fun h => hne h.symm)
                  have HR := Lib.hid (Rd.both hr hlt hk9 hx (.inl HU.out) HNE.out (by rw [← HID.out]; exact HHH.out) k true)
                  have hE : (pa == pb) = false := by simpa using hne
                  clear hr hne
                  have HSN := Lib.hid hls.out.sn
                  have HSI := Lib.hid hls.out.si
                  have hz8 : (wr.alloc (.cells #[.int .i64 (u : Int), .int .i64 (v : Int)] 3)).heap.size = wr.heap.size + 1 := by simp
                  have HZ8 := Lib.hid hz8
                  clear hz8
                  go_wp2_with (first
                    | (go_at_call 166; refine H1.out.mono ?_; rintro e w' ⟨rfl, hw⟩; replace hw := hw.symm; subst hw)
                    | (go_at_call_of 96 (Value.int IntKind.i64 (u : Int)); (with_reducible refine HN1.out.mono ?_); rintro e w' ⟨rfl, hw⟩; replace hw := hw.symm; subst hw)
                    | (go_at_call_of 96 (Value.int IntKind.i64 (k : Int)); (with_reducible refine HN2.out.mono ?_); rintro e w' ⟨rfl, hw⟩; replace hw := hw.symm; subst hw)
                    | (go_at_call_of 167 (Value.int IntKind.i64 (u : Int)); refine (put4_any L1.out (by omega) HSN.out).mono ?_; rintro e w4 ⟨r1, g4, o4, c4, rfl, hp1, hla1, hb4⟩; have M2 := Lib.hid (L2.out.kept hb4); have hz4 : wr.heap.size + 1 ≤ w4.heap.size := (by have := hb4.size; have := HZ8.out; omega); have BB4 := Lib.hid (BB8.out.trans (hb4.mono (by have := HZ8.out; omega))); have hP4 := Lib.hid (show w4.cell? ⟨G, 0, none⟩ = some (.int .i64 id) ∧ w4.cell? ⟨G, 1, none⟩ = some (.int .i64 (u : Int)) ∧ w4.cell? ⟨G, 2, none⟩ = some (.int .i64 (v : Int)) from ⟨(hb4.cell (p := ⟨G, 0, none⟩) (by have := HZ8.out; dsimp only; omega)).trans hP8.out.1, (hb4.cell (p := ⟨G, 1, none⟩) (by have := HZ8.out; dsimp only; omega)).trans hP8.out.2.1, (hb4.cell (p := ⟨G, 2, none⟩) (by have := HZ8.out; dsimp only; omega)).trans hP8.out.2.2⟩); clear hb4)
                    | (go_at_call_of 167 (Value.int IntKind.i64 (k : Int)); refine (put4_any M2.out (by omega) HSI.out).mono ?_; rintro e w5 ⟨r2, g5, o5, c5, rfl, hp2, hla2, hb5⟩))
                  have hla15 := Lib.hid (hla1.out.kept hb5)
                  have BB5 := Lib.hid (BB4.out.trans (hb5.mono (by omega)))
                  have hP5 := Lib.hid (show w5.cell? ⟨G, 0, none⟩ = some (.int .i64 id) ∧ w5.cell? ⟨G, 1, none⟩ = some (.int .i64 (u : Int)) ∧ w5.cell? ⟨G, 2, none⟩ = some (.int .i64 (v : Int)) from ⟨(hb5.cell (p := ⟨G, 0, none⟩) (by dsimp only; omega)).trans hP4.out.1, (hb5.cell (p := ⟨G, 1, none⟩) (by dsimp only; omega)).trans hP4.out.2.1, (hb5.cell (p := ⟨G, 2, none⟩) (by dsimp only; omega)).trans hP4.out.2.2⟩)
                  have HSO := Lib.hid (sOf_put (ns := ns) (is := is) hx hp1.out hp2.out)
                  have HR2 := HR.out
                  rw [← HSO.out] at HR2
                  have HRR := Lib.hid (rdAt1 HR2.1)
                  have HMM := Lib.hid (show Mo s0 (sOf r1 r2) true from ⟨fun _ => by
                    have h3 := HR2.2
                    cases mb with
                    | true => exact Nat.lt_trans (hmo.out.1 rfl) h3
                    | false => have := hmo.out.2 rfl; rw [this] at h3; exact h3, (fun h => by cases h)⟩)
                  have HLS := Lib.hid (hls.out.put hp1.out hp2.out ⟨by omega, by omega⟩ hlt)
                  clear HR2 HR HSO
                  go_roundw
                  case rel => exact ⟨r1, r2, g4, o4, c4, g5, o5, c5, 1, true, rfl, rfl, rfl, by go_num, by omega, HLS, hla15, hla2, BB5, hP5, HRR, HMM⟩
                  case measure => simp [intOf]
            | 1, _ =>
              have hr := hrd.out.2.1 rfl
              have hx : v < 9 := by omega
              have hk9 : k < 10 := by omega
              obtain ⟨p0, p1, p2⟩ := hp.out
              have hb8 : Below wr.heap.size wr (wr.alloc (.cells #[.int .i64 (u : Int), .int .i64 (v : Int)] 3)) := (Below.refl _ _).alloc (Nat.le_refl _) _
              have HB8 := Lib.hid hb8
              obtain ⟨hh, hhh⟩ : ∃ hh, hasV (bar vs shut) id (v : Int) = hh := ⟨_, rfl⟩
              have H1 := Lib.hid (by have := blocked_any AV capv vs id (v : Int) shut _ (HV.out.kept ((below_box hb.out).trans (hb8.mono (by omega))) (Nat.le_refl _)) (by omega); rwa [hhh] at this)
              have HHH := Lib.hid hhh
              obtain ⟨pa, hpa⟩ : ∃ pa, hasB ns (v : Int) = pa := ⟨_, rfl⟩
              obtain ⟨pb, hpb⟩ : ∃ pb, hasB is (k : Int) = pb := ⟨_, rfl⟩
              have hlen := hls.out.len
              have L1 := Lib.hid (h1.out.kept hb8)
              have L2 := Lib.hid (h2.out.kept hb8)
              have HN1 := Lib.hid (by have := has_any (some ⟨g1, o1, none⟩) c1 ns (v : Int) _ L1.out.iat (by omega); rwa [hpa] at this)
              have HN2 := Lib.hid (by have := has_any (some ⟨g2, o2, none⟩) c2 is (k : Int) _ L2.out.iat (by omega); rwa [hpb] at this)
              have HPA := Lib.hid (show sOf ns is v = pa by rw [sOf_node _ _ _ hx]; exact hpa)
              have HPB := Lib.hid (show sOf ns is (9 + k) = pb by rw [sOf_pipe]; exact hpb)
              have hP8 := Lib.hid (show (wr.alloc (.cells #[.int .i64 (u : Int), .int .i64 (v : Int)] 3)).cell? ⟨G, 0, none⟩ = some (.int .i64 id) ∧ (wr.alloc (.cells #[.int .i64 (u : Int), .int .i64 (v : Int)] 3)).cell? ⟨G, 1, none⟩ = some (.int .i64 (u : Int)) ∧ (wr.alloc (.cells #[.int .i64 (u : Int), .int .i64 (v : Int)] 3)).cell? ⟨G, 2, none⟩ = some (.int .i64 (v : Int)) from ⟨(hb8.cell (p := ⟨G, 0, none⟩) hGl).trans p0, (hb8.cell (p := ⟨G, 1, none⟩) hGl).trans p1, (hb8.cell (p := ⟨G, 2, none⟩) hGl).trans p2⟩)
              have BB8 := Lib.hid (hb.out.trans (hb8.mono (by omega)))
              clear hhh hpa hpb hb8
              cases hh with
              | true =>
                have HN := Lib.hid (rdAt2 (Rd.skip2 hr HW.out (.inr (by rw [← HID.out]; exact HHH.out))))
                clear hr
                go_wp2_with (go_at_call 166; refine H1.out.mono ?_; rintro e w' ⟨rfl, hw⟩; replace hw := hw.symm; subst hw)
                go_roundw
                case rel => exact ⟨ns, is, g1, o1, c1, g2, o2, c2, 2, mb, rfl, rfl, rfl, by go_num, by omega, hls, L1, L2, BB8, hP8, HN, hmo⟩
                case measure => simp [intOf]
              | false =>
                by_cases hne : pa = pb
                · subst hne
                  have HN := Lib.hid (rdAt2 (Rd.skip2 hr HW.out (.inl (by rw [HPA.out, HPB.out]))))
                  clear hr
                  go_wp2_with (first
                    | (go_at_call 166; refine H1.out.mono ?_; rintro e w' ⟨rfl, hw⟩; replace hw := hw.symm; subst hw)
                    | (go_at_call_of 96 (Value.int IntKind.i64 (v : Int)); (with_reducible refine HN1.out.mono ?_); rintro e w' ⟨rfl, hw⟩; replace hw := hw.symm; subst hw)
                    | (go_at_call_of 96 (Value.int IntKind.i64 (k : Int)); (with_reducible refine HN2.out.mono ?_); rintro e w' ⟨rfl, hw⟩; replace hw := hw.symm; subst hw))
                  go_roundw
                  case rel => exact ⟨ns, is, g1, o1, c1, g2, o2, c2, 2, mb, rfl, rfl, rfl, by go_num, by omega, hls, L1, L2, BB8, hP8, HN, hmo⟩
                  case measure => simp [intOf]
                · have HNE := Lib.hid (show sOf ns is (9 + k) ≠ sOf ns is v by rw [HPA.out, HPB.out]; exact fun h => hne h.symm)
                  have HR := Lib.hid (Rd.both hr hlt hk9 hx (.inr HW.out) HNE.out (by rw [← HID.out]; exact HHH.out) (k + 1) false)
                  have hE : (pa == pb) = false := by simpa using hne
                  clear hr hne
                  have HSN := Lib.hid hls.out.sn
                  have HSI := Lib.hid hls.out.si
                  have hz8 : (wr.alloc (.cells #[.int .i64 (u : Int), .int .i64 (v : Int)] 3)).heap.size = wr.heap.size + 1 := by simp
                  have HZ8 := Lib.hid hz8
                  clear hz8
                  go_wp2_with (first
                    | (go_at_call 166; refine H1.out.mono ?_; rintro e w' ⟨rfl, hw⟩; replace hw := hw.symm; subst hw)
                    | (go_at_call_of 96 (Value.int IntKind.i64 (v : Int)); (with_reducible refine HN1.out.mono ?_); rintro e w' ⟨rfl, hw⟩; replace hw := hw.symm; subst hw)
                    | (go_at_call_of 96 (Value.int IntKind.i64 (k : Int)); (with_reducible refine HN2.out.mono ?_); rintro e w' ⟨rfl, hw⟩; replace hw := hw.symm; subst hw)
                    | (go_at_call_of 167 (Value.int IntKind.i64 (v : Int)); refine (put4_any L1.out (by omega) HSN.out).mono ?_; rintro e w4 ⟨r1, g4, o4, c4, rfl, hp1, hla1, hb4⟩; have M2 := Lib.hid (L2.out.kept hb4); have hz4 : wr.heap.size + 1 ≤ w4.heap.size := (by have := hb4.size; have := HZ8.out; omega); have BB4 := Lib.hid (BB8.out.trans (hb4.mono (by have := HZ8.out; omega))); have hP4 := Lib.hid (show w4.cell? ⟨G, 0, none⟩ = some (.int .i64 id) ∧ w4.cell? ⟨G, 1, none⟩ = some (.int .i64 (u : Int)) ∧ w4.cell? ⟨G, 2, none⟩ = some (.int .i64 (v : Int)) from ⟨(hb4.cell (p := ⟨G, 0, none⟩) (by have := HZ8.out; dsimp only; omega)).trans hP8.out.1, (hb4.cell (p := ⟨G, 1, none⟩) (by have := HZ8.out; dsimp only; omega)).trans hP8.out.2.1, (hb4.cell (p := ⟨G, 2, none⟩) (by have := HZ8.out; dsimp only; omega)).trans hP8.out.2.2⟩); clear hb4)
                    | (go_at_call_of 167 (Value.int IntKind.i64 (k : Int)); refine (put4_any M2.out (by omega) HSI.out).mono ?_; rintro e w5 ⟨r2, g5, o5, c5, rfl, hp2, hla2, hb5⟩))
                  have hla15 := Lib.hid (hla1.out.kept hb5)
                  have BB5 := Lib.hid (BB4.out.trans (hb5.mono (by omega)))
                  have hP5 := Lib.hid (show w5.cell? ⟨G, 0, none⟩ = some (.int .i64 id) ∧ w5.cell? ⟨G, 1, none⟩ = some (.int .i64 (u : Int)) ∧ w5.cell? ⟨G, 2, none⟩ = some (.int .i64 (v : Int)) from ⟨(hb5.cell (p := ⟨G, 0, none⟩) (by dsimp only; omega)).trans hP4.out.1, (hb5.cell (p := ⟨G, 1, none⟩) (by dsimp only; omega)).trans hP4.out.2.1, (hb5.cell (p := ⟨G, 2, none⟩) (by dsimp only; omega)).trans hP4.out.2.2⟩)
                  have HSO := Lib.hid (sOf_put (ns := ns) (is := is) hx hp1.out hp2.out)
                  have HR2 := HR.out
                  rw [← HSO.out] at HR2
                  have HRR := Lib.hid (rdAt2 HR2.1)
                  have HMM := Lib.hid (show Mo s0 (sOf r1 r2) true from ⟨fun _ => by
                    have h3 := HR2.2
                    cases mb with
                    | true => exact Nat.lt_trans (hmo.out.1 rfl) h3
                    | false => have := hmo.out.2 rfl; rw [this] at h3; exact h3, (fun h => by cases h)⟩)
                  have HLS := Lib.hid (hls.out.put hp1.out hp2.out ⟨by omega, by omega⟩ hlt)
                  clear HR2 HR HSO
                  go_roundw
                  case rel => exact ⟨r1, r2, g4, o4, c4, g5, o5, c5, 2, true, rfl, rfl, rfl, by go_num, by omega, HLS, hla15, hla2, BB5, hP5, HRR, HMM⟩
                  case measure => simp [intOf]
            | 2, _ =>
              have HN := Lib.hid (hrd.out.2.2 rfl)
              go_wp2_with fail
              go_roundw
              case rel => exact ⟨ns, is, g1, o1, c1, g2, o2, c2, k + 1, mb, rfl, rfl, rfl, by go_num, by omega, hls, h1, h2, hb, HN, hmo⟩
              case measure => simp [intOf]; omega
        · have hkk : k = ps.length := by omega
          subst hkk
          obtain ⟨b0, b1⟩ := box2 hb.out
          have hnl := num_le (sOf ns is)
          have hnl0 := num_le s0
          cases mb with
          | true =>
            have HLT := Lib.hid (hmo.out.1 rfl)
            have HCC := Lib.hid (show (∀ e, S e = true → sOf ns is e = true) ∧ (∀ e, sOf ns is e = true → Co ps (bar vs shut) S e) from ⟨fun e he => hrd.out.sub e (hrd.out.sub0 e he), hrd.out.con⟩)
            go_wp2_with fail
            go_roundg (M - 1)
            case measure => have h8 := hK3.out; have h7 := HMG.out; omega
            case rel => exact ⟨ns, is, g1, o1, c1, g2, o2, c2, true, rfl, rfl, rfl, hls, h1, h2, hb, HCC, Lib.hid (fun _ => by have h8 := hK3.out; have h9 := HLT.out; omega), Lib.hid (fun h => by cases h)⟩
          | false =>
            have HEQ := Lib.hid (hmo.out.2 rfl)
            have HFI := Lib.hid (Rd.done hrd.out ((eq19_iff _ _).2 (fun e _ => by rw [HEQ.out])))
            have HCC := Lib.hid (show (∀ e, S e = true → sOf ns is e = true) ∧ (∀ e, sOf ns is e = true → Co ps (bar vs shut) S e) from ⟨fun e he => hrd.out.sub e (hrd.out.sub0 e he), hrd.out.con⟩)
            go_wp2_with fail
            go_roundg (M - 1)
            case measure => have h8 := hK3.out; have h7 := HMG.out; omega
            case rel => exact ⟨ns, is, g1, o1, c1, g2, o2, c2, false, rfl, rfl, rfl, hls, h1, h2, hb, HCC, Lib.hid (fun h => by cases h), Lib.hid (fun _ => HFI.out)⟩
end Go.Proofs.Ytbljmibaemgfeaa.S2
