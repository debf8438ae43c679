/- What the model gathers from a node: contracts. Conditions: each theorem's own premises. -/
import Derived.Test.YtlkomipjamelkabPutTwo
import Derived.Test.YtlkomipjamelkabReachOne
namespace Go.Proofs.Ytlkomipjamelkab.S2
open Go.RowKit P2

/-- The list lies in a slice there. -/
def LAt (w : World) (g o c : Nat) (r : List Int) : Prop := g < w.heap.size ∧ r.length ≤ c ∧ c ≤ maxLen ∧ ∀ i, i < r.length → w.cell? ⟨g, o + i, none⟩ = some (iv (r.getD i 0))
theorem LAt.kept {w w' : World} {g o c : Nat} {r : List Int} (h : LAt w g o c r) (hb : Below w.heap.size w w') : LAt w' g o c r :=
  ⟨Nat.lt_of_lt_of_le h.1 hb.size, h.2.1, h.2.2.1, fun i hi => (hb.cell (p := ⟨g, o + i, none⟩) h.1).trans (h.2.2.2 i hi)⟩
theorem LAt.iat {w : World} {g o c : Nat} {r : List Int} (h : LAt w g o c r) : IAt w (some ⟨g, o, none⟩) r := .inr ⟨g, o, rfl, h.1, h.2.2.2⟩

theorem put_len {l r : List Int} {x : Int} (h : PutOk l x r) (hl : l.length ≤ 8) : r.length ≤ 9 := by
  by_cases hm : x ∈ l
  · rw [h.2.2.2 hm]; omega
  · rw [h.2.2.1 hm]; omega
/-- l1Put, where the list lies. -/
theorem put_at {g o c : Nat} {r : List Int} {x : Int} {w : World} (h : LAt w g o c r) (hn : r.length ≤ 1000) (hs : r.Pairwise (· < ·)) (_hr : 0 < r.length) (B : Nat) (hB : B ≤ w.heap.size) (hgB : B ≤ g) :
    Calls Try.prog 154 #[.slice (some ⟨g, o, none⟩) r.length c, .int .i64 x] w fun e w' =>
      ∃ r2 g2 o2 c2, e = .returned (.slice (some ⟨g2, o2, none⟩) r2.length c2) ∧ Hid (PutOk r x r2) ∧ Hid (LAt w' g2 o2 c2 r2) ∧ B ≤ g2 ∧ Below w.heap.size w w' ∧ Hid (0 < r2.length) := by
  refine (put_any g o c r x w h.1 h.2.2.2 h.2.1 h.2.2.1 hn hs).mono ?_
  rintro e w' ⟨r2, g2, o2, c2, rfl, hc, hcm, hp, hg2, hcell, hb, hor⟩
  refine ⟨r2, g2, o2, c2, rfl, hp, ⟨hg2, hc, hcm, hcell⟩, ?_, hb, ?_⟩
  · rcases hor with ⟨h1, _⟩ | ⟨_, h2⟩
    · omega
    · omega
  · match r2, hp with
    | [], hp =>
      have := (hp.2.1 x).2 (.inr rfl)
      simp at this
    | _ :: _, _ => show 0 < _; simp

set_option maxHeartbeats 8000000 in
set_option maxRecDepth 100000 in
theorem sreach_any (N t : Nat) (A : Option Addr) (cap : Nat) (ps : List Pp) (w : World) (h : PAt w A ps) (hg : P2.Good N ps) (ht1 : 1 ≤ t) (ht2 : t ≤ N) :
    Calls Try.prog 123 #[nv N A ps.length cap, .int .i64 (t : Int)] w fun e w' => ∃ g o c, e = .returned (.slice (some ⟨g, o, none⟩) (conL N ps t).length c) ∧ w.heap.size ≤ g ∧ LAt w' g o c (conL N ps t) ∧ Below w.heap.size w w' := by
  have HA := Lib.hid h
  have HG := Lib.hid hg
  have hN : N ≤ 8 := by have := hg.2.1; omega
  have hl10 := hg.2.2.1
  have HST := Lib.hid (Ga.start N ps t (by omega) (by omega))
  clear h hg
  go_enter Try.func123, Try.ntmps123
  go_wp2
  have hB0 : Below (w.heap.size + 1) (w.alloc (.cells #[.int .i64 N, .slice A ps.length cap] 26)) ((w.alloc (.cells #[.int .i64 N, .slice A ps.length cap] 26)).alloc (.cells #[iv t] 3)) := (Below.refl _ _).alloc (by simp) _
  have hL0 : LAt ((w.alloc (.cells #[.int .i64 N, .slice A ps.length cap] 26)).alloc (.cells #[iv t] 3)) (w.heap.size + 1) 0 1 [(t : Int)] :=
    ⟨by simp, by simp, by simp [maxLen], fun i hi => by
      have e : i = 0 := by simpa using hi
      subst e
      rw [World.cell?_alloc_at _ _ _ _ (by simp)]
      rfl⟩
  go_loopg [5, 6] (N + 2) (fun K v m wr => ∃ (r : List Int) (g o c : Nat) (mb : Bool), v = .slice (some ⟨g, o, none⟩) r.length c ∧ m = .bool mb ∧ Hid (Ga N ps t r) ∧ Hid (LAt wr g o c r) ∧ w.heap.size + 1 ≤ g ∧ Below (w.heap.size + 1) (w.alloc (.cells #[.int .i64 N, .slice A ps.length cap] 26)) wr ∧ Hid (mb = true → N + 2 - r.length ≤ K) ∧ Hid (mb = false → Cl ps r ps.length))
  case atStart => exact ⟨[(t : Int)], _, 0, 1, true, rfl, rfl, HST, Lib.hid hL0, Nat.le_refl _, hB0, Lib.hid (fun _ => by omega), Lib.hid (fun h => by cases h)⟩
  case round =>
    clear hL0 hB0 HST
    obtain ⟨r, g, o, c, mb, rfl, rfl, hga, hla, hgw, hb, hK, hcl⟩ := hrel
    cases mb with
    | false =>
      have hfin := Lib.hid (hga.out.all (hcl.out rfl))
      have hla2 := hla.out
      have hlen : r.length = (conL N ps t).length := by rw [← hfin.out]
      have HL := Lib.hid hlen
      clear hlen
      go_wp2
      go_ret
      rw [hfin.out] at hla2
      exact ⟨g, o, c, by rw [HL.out]; rfl, by omega, hla2, below_box hb⟩
    | true =>
      obtain ⟨M, hMe⟩ : ∃ M, M = gk := ⟨_, rfl⟩
      have hK2 := Lib.hid (show N + 2 - r.length ≤ M by rw [hMe]; exact hK.out rfl)
      have HMG := Lib.hid hMe
      obtain ⟨n0, hn0⟩ : ∃ n0, n0 = r.length := ⟨_, rfl⟩
      have hK3 := Lib.hid (show N + 2 - n0 ≤ M by rw [hn0]; exact hK2.out)
      have HN0 := Lib.hid (show n0 ≤ N by rw [hn0]; exact hga.out.len)
      have HN1 := Lib.hid (show n0 = r.length from hn0)
      clear hMe hK hcl hK2 hn0
      go_wp2
      go_loopw [5, 6, 7] (fun v m i wr => ∃ (r : List Int) (g o c k : Nat) (mb : Bool), v = .slice (some ⟨g, o, none⟩) r.length c ∧ m = .bool mb ∧ i = .int .i64 (k : Int) ∧ k ≤ ps.length ∧ Hid (Ga N ps t r) ∧ Hid (LAt wr g o c r) ∧ w.heap.size + 1 ≤ g ∧ Below (w.heap.size + 1) (w.alloc (.cells #[.int .i64 N, .slice A ps.length cap] 26)) wr ∧ Hid (mb = true → n0 < r.length) ∧ Hid (mb = false → n0 = r.length ∧ Cl ps r k)) (fun _ _ i _ => ps.length - (intOf i).toNat)
      case atStart => exact ⟨r, g, o, c, 0, false, rfl, rfl, rfl, Nat.zero_le _, hga, hla, hgw, hb, Lib.hid (fun h => by cases h), Lib.hid (fun _ => ⟨HN1.out, fun j hj => absurd hj (by omega)⟩)⟩
      case round =>
        clear hga hla hgw hb HN1
        obtain ⟨r, g, o, c, k, mb, rfl, rfl, rfl, hk, hga, hla, hgw, hb, ht, hf⟩ := hrel
        by_cases hlt : k < ps.length
        · obtain ⟨b, off, hA, hbl, h0, h1, h2, h3⟩ := HA.out.at_ hlt
          subst hA
          obtain ⟨b0, b1⟩ := box2 hb
          have hzw := box_lt hb
          have hbc : ∀ o, wr.cell? ⟨b, o, none⟩ = w.cell? ⟨b, o, none⟩ := fun o => (below_box hb).cell (p := ⟨b, o, none⟩) hbl
          have p1 := (hbc _).trans h1
          have p2 := (hbc _).trans h2
          have hk0i : (0 : Int) ≤ (k : Int) := by omega
          have hk1i : (k : Int) < (ps.length : Int) := by omega
          have hmem : pAt ps k ∈ ps := by
            have e : pAt ps k = ps[k] := by simp [pAt, List.getD, hlt]
            rw [e]; exact List.getElem_mem hlt
          have HOK := Lib.hid (good_pp HG.out hmem)
          have HMEM := Lib.hid hmem
          have HCL := Lib.hid (show hasB r (pAt ps k).fr = hasB r (pAt ps k).to → Cl ps r k → Cl ps r (k + 1) from fun h1 h2 j hj hj2 => by
            by_cases e : j = k
            · rw [e]; exact h1
            · exact h2 j (by omega) hj2)
          have HH := Lib.hid (fun (x : Int) (n : Nat) => has_any (some ⟨g, o, none⟩) c r x (wr.drewN n) hla.out.iat (by have := hga.out.len; omega))
          have hrl := hga.out.len
          have HR0 := Lib.hid (show 0 < r.length from List.length_pos_iff.2 (fun e => by have := hga.out.has; rw [e] at this; simp at this))
          have HMO := Lib.hid (fun (r1 r2 : List Int) h1 h2 h3 => hga.out.more (p := pAt ps k) (r1 := r1) (r2 := r2) HMEM.out HOK.out h1 h2 h3)
          clear hmem hbc h0 h1 h2 h3
          generalize pAt ps k = p at *
          obtain ⟨va, hva⟩ : ∃ va, hasB r p.fr = va := ⟨_, rfl⟩
          obtain ⟨vb, hvb⟩ : ∃ vb, hasB r p.to = vb := ⟨_, rfl⟩
          have HA1 := Lib.hid (fun n => by have := HH.out p.fr n; rwa [hva] at this)
          have HB1 := Lib.hid (fun n => by have := HH.out p.to n; rwa [hvb] at this)
          have HV := Lib.hid (And.intro hva hvb)
          clear hva hvb HH
          by_cases hvv : va = vb
          · subst hvv
            have HC2 := Lib.hid (HCL.out (by rw [HV.out.1, HV.out.2]))
            go_wp2
            go_quiet ((first | (go_at_call_of 128 (Value.int IntKind.i64 p.fr); exact Calls.quiet_of_same (HA1.out _)) | (go_at_call_of 128 (Value.int IntKind.i64 p.to); exact Calls.quiet_of_same (HB1.out _))))
            go_wp2
            go_roundw
            case rel => exact ⟨r, g, o, c, k + 1, mb, rfl, rfl, by go_num, by omega, hga, Lib.hid (hla.out.kept (below_drewN (Below.refl _ _) nq)), hgw, below_drewN hb nq, ht, Lib.hid (fun h => ⟨(hf.out h).1, HC2.out (hf.out h).2⟩)⟩
            case measure => simp [intOf]; omega
          · have hE : (va == vb) = false := by simpa using hvv
            have HNE := Lib.hid (show hasB r p.fr ≠ hasB r p.to by rw [HV.out.1, HV.out.2]; exact hvv)
            have HLT := Lib.hid (show n0 ≤ r.length by cases mb; exact Nat.le_of_eq (hf.out rfl).1; exact Nat.le_of_lt (ht.out rfl))
            clear hvv
            go_wp2
            go_quiet ((first | (go_at_call_of 128 (Value.int IntKind.i64 p.fr); exact Calls.quiet_of_same (HA1.out _)) | (go_at_call_of 128 (Value.int IntKind.i64 p.to); exact Calls.quiet_of_same (HB1.out _))))
            go_wp2
            have hlq := Lib.hid (show LAt (wr.drewN nq) g o c r from hla.out)
            have hsorted := Lib.hid hga.out.sorted
            have hbwr : b < wr.heap.size := by have := below_box hb; have := this.size; omega
            have hzw2 : w.heap.size + 1 ≤ wr.heap.size := by omega
            go_region_held3 (fun w' => w'.cell? ⟨w.heap.size, 0, none⟩ = some (.int .i64 N) ∧ w'.cell? ⟨w.heap.size, 1, none⟩ = some (.slice (some ⟨b, off, none⟩) ps.length cap) ∧ w'.cell? ⟨b, off + k * 4 + 1, none⟩ = some (.int .i64 p.fr) ∧ w'.cell? ⟨b, off + k * 4 + 2, none⟩ = some (.int .i64 p.to))
              (first
                | go_keep
                | (go_split_ands
                   exact ⟨(hbx.cell (p := ⟨w.heap.size, 0, none⟩) hzx).trans (by assumption), (hbx.cell (p := ⟨w.heap.size, 1, none⟩) hzx).trans (by assumption), (hbx.cell (p := ⟨b, off + k * 4 + 1, none⟩) hbx2).trans (by assumption), (hbx.cell (p := ⟨b, off + k * 4 + 2, none⟩) hbx2).trans (by assumption)⟩)
                | (go_split_ands
                   exact ⟨(hby.cell (p := ⟨w.heap.size, 0, none⟩) hzy).trans (by assumption), (hby.cell (p := ⟨w.heap.size, 1, none⟩) hzy).trans (by assumption), (hby.cell (p := ⟨b, off + k * 4 + 1, none⟩) hby2).trans (by assumption), (hby.cell (p := ⟨b, off + k * 4 + 2, none⟩) hby2).trans (by assumption)⟩))
              (first
                | (go_at_call_of 154 (Value.int IntKind.i64 p.fr); refine (put_at (w := (wr.drewN nq).drew) (show LAt (wr.drewN nq).drew g o c r from hlq.out) (by omega) hsorted.out HR0.out (w.heap.size + 1) hzw2 hgw).mono ?_; rintro e w4 ⟨r1, g1, o1, c1, rfl, hp1, hla1, hgw1, hbx, hpos1⟩; have hzx : w.heap.size < wr.heap.size := hzw; have hbx2 : b < wr.heap.size := hbwr; have hz4 : wr.heap.size ≤ w4.heap.size := hbx.size; have hs1 := Lib.hid (hp1.out.1 hsorted.out); have hl1 : r1.length ≤ 9 := put_len hp1.out (by omega))
                | (go_at_call_of 154 (Value.int IntKind.i64 p.to); refine (put_at (w := w4) hla1.out (by omega) hs1.out hpos1.out (w.heap.size + 1) (by omega) hgw1).mono ?_; rintro e w5 ⟨r2, g2, o2, c2, rfl, hp2, hla2, hgw2, hby, hpos2⟩; have hzy : w.heap.size < w4.heap.size := (by omega); have hby2 : b < w4.heap.size := (by omega)))
            go_wp2
            have hgm := HMO.out r1 r2 hp1.out hp2.out HNE.out
            have hB5 := (below_drewN hb nq).drew.trans ((hbx.trans (hby.mono hbx.size)).mono hzw2)
            go_roundw
            case rel => exact ⟨r2, g2, o2, c2, k + 1, true, rfl, rfl, by go_num, by omega, Lib.hid hgm.1, hla2, hgw2, hB5, Lib.hid (fun _ => Nat.lt_of_le_of_lt HLT.out hgm.2), Lib.hid (fun h => by cases h)⟩
            case measure => simp [intOf]; omega
        · have hkk : k = ps.length := by omega
          have hfk := Lib.hid (show mb = false → Cl ps r ps.length from fun h => by have := (hf.out h).2; rwa [hkk] at this)
          have hgl := hga.out.len
          obtain ⟨b0, b1⟩ := box2 hb
          clear hkk
          go_wp2
          cases mb with
          | true =>
            have h9 := ht.out rfl
            go_roundg (N + 2 - r.length)
            case measure => have h8 := hK3.out; rw [HMG.out] at h8; omega
            case rel => exact ⟨r, g, o, c, true, rfl, rfl, hga, hla, hgw, hb, Lib.hid (fun _ => Nat.le_refl _), Lib.hid (fun h => by cases h)⟩
          | false =>
            go_roundg 0
            case measure => have h8 := hK3.out; have h7 := HN0.out; rw [HMG.out] at h8; omega
            case rel => exact ⟨r, g, o, c, false, rfl, rfl, hga, hla, hgw, hb, Lib.hid (fun h => by cases h), hfk⟩
end Go.Proofs.Ytlkomipjamelkab.S2
