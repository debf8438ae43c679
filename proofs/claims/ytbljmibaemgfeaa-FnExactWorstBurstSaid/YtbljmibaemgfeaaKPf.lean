/- WorstBurst of the program and of the model: contracts. Conditions: each theorem's own premises. -/
import Derived.Test.YtbljmibaemgfeaaKPe
import Derived.Deep.DeepCutAuto
namespace Go.Proofs.Ytbljmibaemgfeaa.S2
open Go.RowKit Go.Sort P2 P4
set_option linter.unusedVariables false

/-- The worst of the first k pipes: its id, its harm, whether there is one. -/
def wTo (ps : List Pp) (o : Nat → Bool) (hh : Nat → Int) : Nat → Int × Int × Bool
  | 0 => (0, 0, false)
  | k + 1 => if (o k && (!(wTo ps o hh k).2.2 || decide ((wTo ps o hh k).2.1 < hh k))) = true then ((pAt ps k).id, hh k, true) else wTo ps o hh k
theorem wTo_succ (ps : List Pp) (o : Nat → Bool) (hh : Nat → Int) (k : Nat) : wTo ps o hh (k + 1) = if (o k && (!(wTo ps o hh k).2.2 || decide ((wTo ps o hh k).2.1 < hh k))) = true then ((pAt ps k).id, hh k, true) else wTo ps o hh k := rfl
theorem wTo_none (ps : List Pp) (o : Nat → Bool) (hh : Nat → Int) (ho : ∀ k, o k = false) : ∀ k, wTo ps o hh k = (0, 0, false)
  | 0 => rfl
  | k + 1 => by rw [wTo_succ, ho k]; simp [wTo_none ps o hh ho k]
theorem wTo_inv (ps : List Pp) (o : Nat → Bool) (hh : Nat → Int) (hpos : ∀ k, o k = true → 0 ≤ hh k) : ∀ k, ((wTo ps o hh k).2.2 = true → 0 ≤ (wTo ps o hh k).2.1) ∧ ((wTo ps o hh k).2.2 = false → wTo ps o hh k = (0, 0, false))
  | 0 => ⟨fun h => absurd h (by simp [wTo]), fun _ => rfl⟩
  | k + 1 => by
    have ih := wTo_inv ps o hh hpos k
    rw [wTo_succ]
    split
    · rename_i h
      have hok : o k = true := by cases e : o k <;> simp_all
      exact ⟨fun _ => hpos k hok, fun h2 => absurd h2 (by simp)⟩
    · exact ih
/-- What the model keeps. -/
def moV (s : Int × Int × Bool) : Int := if s.2.2 then s.2.1 else -1

set_option maxHeartbeats 4000000 in
set_option maxRecDepth 100000 in
theorem worst_any (n : Int) (A : Option Addr) (cap : Nat) (ps : List Pp) (AV : Option Addr) (capv : Nat) (vs : List Vv) (X : Int) (AU : Option Addr) (cq : Nat) (cu : List Int) (w : World) (h : PAt w A ps) (hm : ps.length ≤ 1048576) (P : Nat → List Int) (hh : Nat → Int) (o : Nat → Bool)
    (hG : ∀ k, k < ps.length → ∀ w', Below w.heap.size w w' → Calls Try.prog 34 #[nv n A ps.length cap, .slice AV vs.length capv, .int .i64 X, .int .i64 (pAt ps k).id, .slice AU cu.length cq] w' (GivesIH w' (P k) (hh k) (o k))) :
    Calls Try.prog 40 #[nv n A ps.length cap, .slice AV vs.length capv, .int .i64 X, .slice AU cu.length cq] w fun e w' => e = .returned (.tuple #[.int .i64 (wTo ps o hh ps.length).1, .int .i64 (wTo ps o hh ps.length).2.1, .bool (wTo ps o hh ps.length).2.2]) ∧ Below w.heap.size w w' := by
  have HA := Lib.hid h
  have HG := Lib.hid hG
  obtain ⟨W1, hW1⟩ : ∃ W1, W1 = w.alloc (.cells #[.int .i64 n, .slice A ps.length cap] 32) := ⟨_, rfl⟩
  have p0 : W1.cell? ⟨w.heap.size, 0, none⟩ = some (.int .i64 n) := by rw [hW1]; go_simp
  have p1 : W1.cell? ⟨w.heap.size, 1, none⟩ = some (.slice A ps.length cap) := by rw [hW1]; go_simp
  have HBW := Lib.hid (show Below w.heap.size w W1 from by rw [hW1]; exact (Below.refl _ _).alloc (Nat.le_refl _) _)
  have hl1 : w.heap.size < W1.heap.size := by rw [hW1]; simp
  have HW1 := Lib.hid hW1
  clear h hG hW1
  go_enter Try.func40, Try.ntmps40
  go_upto_region 1 with (fail)
  rw [← HW1.out]
  clear HW1
  go_wp2_with fail
  go_loopw [11, 12, 13, 22] (fun a b f i wr => ∃ k : Nat, k ≤ ps.length ∧ i = .int .i64 (k : Int) ∧ a = .int .i64 (wTo ps o hh k).1 ∧ b = .int .i64 (wTo ps o hh k).2.1 ∧ f = .bool (wTo ps o hh k).2.2 ∧ Hid (Below W1.heap.size W1 wr)) (fun _ _ _ i _ => ps.length - (intOf i).toNat)
  case atStart => exact ⟨0, Nat.zero_le _, rfl, rfl, rfl, rfl, Lib.hid (Below.refl _ _)⟩
  case round =>
    obtain ⟨k, hk, rfl, rfl, rfl, rfl, hb⟩ := hrel
    have hz := hb.out.size
    have HBr := Lib.hid (HBW.out.trans (hb.out.mono HBW.out.size))
    have b0 := (hb.out.cell (p := ⟨w.heap.size, 0, none⟩) hl1).trans p0
    have b1 := (hb.out.cell (p := ⟨w.heap.size, 1, none⟩) hl1).trans p1
    by_cases hlt : k < ps.length
    · obtain ⟨b, off, hA, hbl, h0, h1, h2, h3⟩ := (HA.out.kept HBr.out (Nat.le_refl _)).at_ hlt
      subst hA
      have hk0 : (0 : Int) ≤ (k : Int) := by omega
      have hkn : (k : Int) < (ps.length : Int) := by omega
      have HGk := Lib.hid (HG.out k hlt)
      have hwr : w.heap.size < wr.heap.size := by omega
      have HST := Lib.hid (wTo_succ ps o hh k)
      generalize wTo ps o hh k = s at *
      generalize pAt ps k = p at *
      generalize o k = ok at *
      generalize hh k = y at *
      obtain ⟨s1, s2, s3⟩ := s
      dsimp only at HST ⊢
      go_wp2_with (go_at_call 34; refine (HGk.out _ (HBr.out.alloc HBr.out.size _)).mono ?_; rintro e w2 ⟨g2, c2, rfl, hg2, hO2, hb2⟩; have HX2 := Lib.hid hb2; clear hO2 hb2 hg2; refine Hid.out ?_)
      have q0 := (HX2.out.cell (p := ⟨wr.heap.size, 0, none⟩) (by simp)).trans (show _ = some (.int .i64 p.id) from by go_simp)
      have HT2 := Lib.hid (hb.out.trans ((((Below.refl wr.heap.size wr).alloc (Nat.le_refl _) _).trans (HX2.out.mono (by simp))).mono hz))
      clear b0 b1
      cases ok with
      | false =>
        have HN := Lib.hid (show wTo ps o hh (k + 1) = (s1, s2, s3) from by rw [HST.out, if_neg (by simp)])
        clear HST
        refine Lib.hid ?_
        go_wp2_with fail
        go_roundw
        case rel => exact ⟨k + 1, by omega, by go_num, by rw [HN.out], by rw [HN.out], by rw [HN.out], HT2⟩
        case measure => simp [intOf]; omega
      | true =>
        cases s3 with
        | false =>
          have HN := Lib.hid (show wTo ps o hh (k + 1) = (p.id, y, true) from by rw [HST.out, if_pos (by simp)])
          clear HST
          refine Lib.hid ?_
          go_wp2_with fail
          go_roundw
          case rel => exact ⟨k + 1, by omega, by go_num, by rw [HN.out], by rw [HN.out], by rw [HN.out], HT2⟩
          case measure => simp [intOf]; omega
        | true =>
          by_cases hgt : s2 < y
          · have HN := Lib.hid (show wTo ps o hh (k + 1) = (p.id, y, true) from by rw [HST.out, if_pos (by simpa using hgt)])
            clear HST
            refine Lib.hid ?_
            go_wp2_with fail
            go_roundw
            case rel => exact ⟨k + 1, by omega, by go_num, by rw [HN.out], by rw [HN.out], by rw [HN.out], HT2⟩
            case measure => simp [intOf]; omega
          · have HN := Lib.hid (show wTo ps o hh (k + 1) = (s1, s2, true) from by rw [HST.out, if_neg (by simpa using hgt)])
            clear HST
            refine Lib.hid ?_
            go_wp2_with fail
            go_roundw
            case rel => exact ⟨k + 1, by omega, by go_num, by rw [HN.out], by rw [HN.out], by rw [HN.out], HT2⟩
            case measure => simp [intOf]; omega
    · have e : k = ps.length := by omega
      subst e
      go_wp2_with fail
      go_ret3
      exact ⟨rfl, HBr.out⟩

set_option maxHeartbeats 2000000 in
set_option maxRecDepth 100000 in
theorem sworst_no1 (n : Int) (A : Option Addr) (cap : Nat) (ps : List Pp) (AV : Option Addr) (capv : Nat) (vs : List Vv) (X : Int) (AU : Option Addr) (cq : Nat) (cu : List Int) (w : World) (h : PAt w A ps) (hm : ps.length ≤ maxLen) (hv : VAt w AV vs) (hmv : vs.length ≤ maxLen) (hb : goodV n ps vs = false) :
    Calls Try.prog 39 #[nv n A ps.length cap, .slice AV vs.length capv, .int .i64 X, .slice AU cu.length cq] w fun e w' => e = .returned (.tuple #[.int .i64 0, .int .i64 0, .bool false]) ∧ Below w.heap.size w w' := by
  have H := Lib.hid (fun w' (hb' : Below w.heap.size w w') => sgoodv_v hb A cap AV capv w' (h.kept hb' (Nat.le_refl _)) hm (hv.kept hb' (Nat.le_refl _)) hmv)
  have HB0 := Lib.hid (show Below w.heap.size w (w.alloc (.cells #[.int .i64 n, .slice A ps.length cap] 32)) from (Below.refl _ _).alloc (Nat.le_refl _) _)
  clear h hm hv hmv hb
  go_enter Try.func39, Try.ntmps39
  go_wp2_with (first
    | (go_at_call 101; refine (H.out _ HB0.out).mono ?_; rintro e w1 ⟨rfl, hb1⟩; have HB1 := Lib.hid (HB0.out.trans (hb1.mono (by simp))); have hb1' : Below (w.heap.size + 1) (w.alloc (.cells #[.int .i64 n, .slice A ps.length cap] 32)) w1 := (by simpa using hb1); have HX1 := Lib.hid hb1'; obtain ⟨b0, b1⟩ := box2 hb1'; clear hb1 hb1'))
  go_ret3
  exact ⟨rfl, HB1.out⟩

set_option maxHeartbeats 2000000 in
set_option maxRecDepth 100000 in
theorem sworst_no2 (n : Int) (A : Option Addr) (cap : Nat) (ps : List Pp) (AV : Option Addr) (capv : Nat) (vs : List Vv) (X : Int) (AU : Option Addr) (cq : Nat) (cu : List Int) (w : World) (h : PAt w A ps) (hm : ps.length ≤ maxLen) (hv : VAt w AV vs) (hmv : vs.length ≤ maxLen) (hb : goodV n ps vs = true) (hx : nodeB n ps X = false) :
    Calls Try.prog 39 #[nv n A ps.length cap, .slice AV vs.length capv, .int .i64 X, .slice AU cu.length cq] w fun e w' => e = .returned (.tuple #[.int .i64 0, .int .i64 0, .bool false]) ∧ Below w.heap.size w w' := by
  have H := Lib.hid (fun w' (hb' : Below w.heap.size w w') => sgoodv_v hb A cap AV capv w' (h.kept hb' (Nat.le_refl _)) hm (hv.kept hb' (Nat.le_refl _)) hmv)
  have HN := Lib.hid (fun w' (hb' : Below w.heap.size w w') => snode_v hx A cap w' (h.kept hb' (Nat.le_refl _)) hm)
  have HB0 := Lib.hid (show Below w.heap.size w (w.alloc (.cells #[.int .i64 n, .slice A ps.length cap] 32)) from (Below.refl _ _).alloc (Nat.le_refl _) _)
  clear h hm hv hmv hb hx
  go_enter Try.func39, Try.ntmps39
  go_wp2_with (first
    | (go_at_call 101; refine (H.out _ HB0.out).mono ?_; rintro e w1 ⟨rfl, hb1⟩; have HB1 := Lib.hid (HB0.out.trans (hb1.mono (by simp))); have hb1' : Below (w.heap.size + 1) (w.alloc (.cells #[.int .i64 n, .slice A ps.length cap] 32)) w1 := (by simpa using hb1); have HX1 := Lib.hid hb1'; obtain ⟨b0, b1⟩ := box2 hb1'; clear hb1 hb1')
    | (go_at_call 102; refine (HN.out _ HB1.out).mono ?_; rintro e w2 ⟨rfl, hb2⟩; have HB2 := Lib.hid (HB1.out.trans (hb2.mono HB1.out.size)); have hx2 := on_call HX1.out hb2; have HX2 := Lib.hid hx2; clear b0 b1; obtain ⟨b0, b1⟩ := box2 hx2; clear hb2 hx2))
  go_ret3
  exact ⟨rfl, HB2.out⟩

set_option maxHeartbeats 2000000 in
set_option maxRecDepth 100000 in
theorem sworst_no3 (n : Int) (A : Option Addr) (cap : Nat) (ps : List Pp) (AV : Option Addr) (capv : Nat) (vs : List Vv) (X : Int) (AU : Option Addr) (cq : Nat) (cu : List Int) (w : World) (h : PAt w A ps) (hm : ps.length ≤ maxLen) (hv : VAt w AV vs) (hmv : vs.length ≤ maxLen) (hb : goodV n ps vs = true) (hx : nodeB n ps X = true) (hu : IAt w AU cu) (hul : cu.length ≤ 1048576) (hq : custB n cu = false) :
    Calls Try.prog 39 #[nv n A ps.length cap, .slice AV vs.length capv, .int .i64 X, .slice AU cu.length cq] w fun e w' => e = .returned (.tuple #[.int .i64 0, .int .i64 0, .bool false]) ∧ Below w.heap.size w w' := by
  have H := Lib.hid (fun w' (hb' : Below w.heap.size w w') => sgoodv_v hb A cap AV capv w' (h.kept hb' (Nat.le_refl _)) hm (hv.kept hb' (Nat.le_refl _)) hmv)
  have HN := Lib.hid (fun w' (hb' : Below w.heap.size w w') => snode_v hx A cap w' (h.kept hb' (Nat.le_refl _)) hm)
  have HC := Lib.hid (fun w' (hb : Below w.heap.size w w') => scust_v hq A ps.length cap AU cq w' (hu.kept hb (Nat.le_refl _)) hul)
  have HB0 := Lib.hid (show Below w.heap.size w (w.alloc (.cells #[.int .i64 n, .slice A ps.length cap] 32)) from (Below.refl _ _).alloc (Nat.le_refl _) _)
  clear h hm hv hmv hb hx hu hul hq
  go_enter Try.func39, Try.ntmps39
  go_wp2_with (first
    | (go_at_call 101; refine (H.out _ HB0.out).mono ?_; rintro e w1 ⟨rfl, hb1⟩; have HB1 := Lib.hid (HB0.out.trans (hb1.mono (by simp))); have hb1' : Below (w.heap.size + 1) (w.alloc (.cells #[.int .i64 n, .slice A ps.length cap] 32)) w1 := (by simpa using hb1); have HX1 := Lib.hid hb1'; obtain ⟨b0, b1⟩ := box2 hb1'; clear hb1 hb1')
    | (go_at_call 102; refine (HN.out _ HB1.out).mono ?_; rintro e w2 ⟨rfl, hb2⟩; have HB2 := Lib.hid (HB1.out.trans (hb2.mono HB1.out.size)); have hx2 := on_call HX1.out hb2; have HX2 := Lib.hid hx2; clear b0 b1; obtain ⟨b0, b1⟩ := box2 hx2; clear hb2 hx2)
    | (go_at_call 91; refine (HC.out _ HB2.out).mono ?_; rintro e w3 ⟨rfl, hb3⟩; have HB3 := Lib.hid (HB2.out.trans (hb3.mono HB2.out.size)); have hx3 := on_call HX2.out hb3; have HX3 := Lib.hid hx3; clear b0 b1; obtain ⟨b0, b1⟩ := box2 hx3; clear hb3 hx3))
  go_ret3
  exact ⟨rfl, HB3.out⟩

set_option maxHeartbeats 8000000 in
set_option maxRecDepth 100000 in
theorem sworst_yes (N X : Nat) (A : Option Addr) (cap : Nat) (ps : List Pp) (AV : Option Addr) (capv : Nat) (vs : List Vv) (AU : Option Addr) (cq : Nat) (cu : List Int) (w : World) (h : PAt w A ps) (hm : ps.length ≤ maxLen) (hv : VAt w AV vs) (hmv : vs.length ≤ maxLen) (hb : goodV N ps vs = true) (hx : nodeB N ps X = true) (hu : IAt w AU cu) (hul : cu.length ≤ 1048576) (hq : custB N cu = true) (P : Nat → List Int) (hh : Nat → Int) (o : Nat → Bool) (hpos : ∀ k, o k = true → 0 ≤ hh k)
    (hG : ∀ k, k < ps.length → ∀ w', Below w.heap.size w w' → Calls Try.prog 86 #[nv N A ps.length cap, .slice AV vs.length capv, .int .i64 (X : Int), .int .i64 (pAt ps k).id, .slice AU cu.length cq] w' (GivesB w' (P k) (resV (o k) (hh k)))) :
    Calls Try.prog 39 #[nv N A ps.length cap, .slice AV vs.length capv, .int .i64 (X : Int), .slice AU cu.length cq] w fun e w' => e = .returned (.tuple #[.int .i64 (wTo ps o hh ps.length).1, .int .i64 (wTo ps o hh ps.length).2.1, .bool (wTo ps o hh ps.length).2.2]) ∧ Below w.heap.size w w' := by
  have hml : ps.length ≤ 10 := (goodV_of hb).1.2.2.1
  have H := Lib.hid (fun w' (hb' : Below w.heap.size w w') => sgoodv_v hb A cap AV capv w' (h.kept hb' (Nat.le_refl _)) hm (hv.kept hb' (Nat.le_refl _)) hmv)
  have HN := Lib.hid (fun w' (hb' : Below w.heap.size w w') => snode_v hx A cap w' (h.kept hb' (Nat.le_refl _)) hm)
  have HC := Lib.hid (fun w' (hb : Below w.heap.size w w') => scust_v hq A ps.length cap AU cq w' (hu.kept hb (Nat.le_refl _)) hul)
  have HA := Lib.hid h
  have HG := Lib.hid hG
  have HINV := Lib.hid (wTo_inv ps o hh hpos)
  have HPOS := Lib.hid hpos
  have HB0 := Lib.hid (show Below w.heap.size w (w.alloc (.cells #[.int .i64 (N : Int), .slice A ps.length cap] 32)) from (Below.refl _ _).alloc (Nat.le_refl _) _)
  clear h hm hv hmv hb hx hu hul hq hG hpos
  go_enter Try.func39, Try.ntmps39
  go_wp2_with (first
    | (go_at_call 101; refine (H.out _ HB0.out).mono ?_; rintro e w1 ⟨rfl, hb1⟩; have HB1 := Lib.hid (HB0.out.trans (hb1.mono (by simp))); have hb1' : Below (w.heap.size + 1) (w.alloc (.cells #[.int .i64 (N : Int), .slice A ps.length cap] 32)) w1 := (by simpa using hb1); have HX1 := Lib.hid hb1'; obtain ⟨b0, b1⟩ := box2 hb1'; clear hb1 hb1')
    | (go_at_call 102; refine (HN.out _ HB1.out).mono ?_; rintro e w2 ⟨rfl, hb2⟩; have HB2 := Lib.hid (HB1.out.trans (hb2.mono HB1.out.size)); have hx2 := on_call HX1.out hb2; have HX2 := Lib.hid hx2; clear b0 b1; obtain ⟨b0, b1⟩ := box2 hx2; clear hb2 hx2)
    | (go_at_call 91; refine (HC.out _ HB2.out).mono ?_; rintro e w3 ⟨rfl, hb3⟩; have HB3 := Lib.hid (HB2.out.trans (hb3.mono HB2.out.size)); have hx3 := on_call HX2.out hb3; have HX3 := Lib.hid hx3; clear b0 b1; obtain ⟨b0, b1⟩ := box2 hx3; clear hb3 hx3; refine Hid.out ?_))
  have hl3 : w.heap.size < w3.heap.size := box_lt HX3.out
  have p0 := b0
  have p1 := b1
  clear b0 b1
  refine Lib.hid ?_
  go_wp2_with fail
  go_loopw [11, 12, 13] (fun a b i wr => ∃ k : Nat, k ≤ ps.length ∧ i = .int .i64 (k : Int) ∧ a = .int .i64 (wTo ps o hh k).1 ∧ b = .int .i64 (moV (wTo ps o hh k)) ∧ Hid (Below w3.heap.size w3 wr)) (fun _ _ i _ => ps.length - (intOf i).toNat)
  case atStart => exact ⟨0, Nat.zero_le _, rfl, rfl, rfl, Lib.hid (Below.refl _ _)⟩
  case round =>
    obtain ⟨k, hk, rfl, rfl, rfl, hb⟩ := hrel
    have hz := hb.out.size
    have HBr := Lib.hid (HB3.out.trans (hb.out.mono HB3.out.size))
    have b0 := (hb.out.cell (p := ⟨w.heap.size, 0, none⟩) hl3).trans p0
    have b1 := (hb.out.cell (p := ⟨w.heap.size, 1, none⟩) hl3).trans p1
    by_cases hlt : k < ps.length
    · obtain ⟨b, off, hA, hbl, h0, h1, h2, h3⟩ := (HA.out.kept HBr.out (Nat.le_refl _)).at_ hlt
      subst hA
      have hk0 : (0 : Int) ≤ (k : Int) := by omega
      have hkn : (k : Int) < (ps.length : Int) := by omega
      have HGk := Lib.hid (HG.out k hlt)
      have HST := Lib.hid (wTo_succ ps o hh k)
      have HIk := Lib.hid (HINV.out k)
      have HPk := Lib.hid (HPOS.out k)
      generalize wTo ps o hh k = s at *
      have HID : Hid (∀ x : Int, (pAt ps k).id = x → x = x) := Lib.hid (fun _ _ => rfl)
      clear HID h1 h2 h3
      generalize pAt ps k = p at *
      generalize o k = ok at *
      generalize hh k = y at *
      obtain ⟨x, hx⟩ : ∃ x, x = p.id := ⟨_, rfl⟩
      rw [← hx] at h0 HGk HST
      clear hx
      have HDR0 := Lib.hid (Below.refl wr.heap.size wr)
      obtain ⟨mv, hmv⟩ : ∃ mv, mv = moV s := ⟨_, rfl⟩
      obtain ⟨rv, hrv⟩ : ∃ rv, rv = resV ok y := ⟨_, rfl⟩
      rw [← hmv]
      rw [← hrv] at HGk
      have HNEW : Hid (mv < rv → wTo ps o hh (k + 1) = (x, y, true) ∧ moV (x, y, true) = rv) := Lib.hid (by
        intro hlt2
        obtain ⟨s1, s2, s3⟩ := s
        have hI := HIk.out
        have hP := HPk.out
        rw [HST.out]
        cases ok with
        | false =>
          exfalso
          cases s3 with
          | false => simp [moV, resV] at hmv hrv; omega
          | true => simp [moV, resV] at hmv hrv hI; omega
        | true =>
          simp only [resV, if_true] at hrv
          subst hrv
          refine ⟨?_, by simp [moV]⟩
          rw [if_pos]
          cases s3 with
          | false => simp
          | true => simp [moV] at hmv; subst hmv; simpa using hlt2)
      have HOLD : Hid (¬ mv < rv → wTo ps o hh (k + 1) = s) := Lib.hid (by
        intro hlt2
        obtain ⟨s1, s2, s3⟩ := s
        have hP := HPk.out
        rw [HST.out, if_neg]
        cases ok with
        | false => simp
        | true =>
          have hP2 := hP rfl
          simp only [resV, if_true] at hrv
          subst hrv
          cases s3 with
          | false => simp [moV] at hmv; omega
          | true => simp [moV] at hmv; subst hmv; simpa using hlt2)
      have HM := Lib.hid hmv
      clear HST HIk HPk hmv hrv
      go_upto_region 7 with (fail)
      refine wp_region_held_drew (S := fun w' => w'.cell? ⟨w.heap.size, 0, none⟩ = some (.int .i64 (N : Int)) ∧ w'.cell? ⟨w.heap.size, 1, none⟩ = some (.slice (some ⟨b, off, none⟩) ps.length cap) ∧ w'.cell? ⟨b, off + k * 4, none⟩ = some (.int .i64 x)) (by kernel_rfl) (by exact ⟨b0, b1, h0⟩) (fun hHeld => ?_)
      refine wpAnyH_take (i := 0) (v := .agg #[.int .i64 (N : Int), .slice (some ⟨b, off, none⟩) ps.length cap]) rfl (by kernel_rfl) (by kernel_rfl) (by kernel_rfl) (fun _ _ _ h => h) (Or.inl ⟨by rfl, ?_⟩) (by assumption) ?_
      · (intro w hSw; (try dsimp only at hSw); go_simp)
      simp only [Act.put, List.setIfInBounds_toArray]
      refine wpAnyH_take (i := 1) (v := .slice AV vs.length capv) rfl (by kernel_rfl) (by kernel_rfl) (by kernel_rfl) (fun _ _ _ h => h) (Or.inl ⟨by rfl, ?_⟩) (by assumption) ?_
      · (intro w hSw; (try dsimp only at hSw); go_simp)
      simp only [Act.put]
      refine wpAnyH_take (i := 2) (v := .int .i64 (X : Int)) rfl (by kernel_rfl) (by kernel_rfl) (by kernel_rfl) (fun _ _ _ h => h) (Or.inl ⟨by rfl, ?_⟩) (by assumption) ?_
      · (intro w hSw; (try dsimp only at hSw); go_simp)
      simp only [Act.put]
      refine wpAnyH_take (i := 3) (v := .pointer (some ⟨w.heap.size, 1, none⟩)) rfl (by kernel_rfl) (by kernel_rfl) (by kernel_rfl) (fun _ _ _ h => h) (Or.inl ⟨by rfl, ?_⟩) (by assumption) ?_
      · (intro w hSw; (try dsimp only at hSw); go_simp)
      simp only [Act.put]
      refine wpAnyH_take (i := 4) (v := .slice (some ⟨b, off, none⟩) ps.length cap) rfl (by kernel_rfl) (by kernel_rfl) (by kernel_rfl) (fun _ _ _ h => h) (Or.inl ⟨by rfl, ?_⟩) (by assumption) ?_
      · (intro w hSw; (try dsimp only at hSw); go_simp)
      simp only [Act.put]
      refine wpAnyH_take (i := 5) (v := .int .i64 (k : Int)) rfl (by kernel_rfl) (by kernel_rfl) (by kernel_rfl) (fun _ _ _ h => h) (Or.inl ⟨by rfl, ?_⟩) (by assumption) ?_
      · (intro w hSw; (try dsimp only at hSw); go_simp)
      simp only [Act.put]
      refine wpAnyH_take (i := 6) (v := .pointer (some ⟨b, off + k * 4, none⟩)) rfl (by kernel_rfl) (by kernel_rfl) (by kernel_rfl) (fun _ _ _ h => h) (Or.inl ⟨by rfl, ?_⟩) (by assumption) ?_
      · (intro w hSw; (try dsimp only at hSw); go_simp)
      simp only [Act.put]
      refine wpAnyH_take (i := 7) (v := .pointer (some ⟨b, off + k * 4, none⟩)) rfl (by kernel_rfl) (by kernel_rfl) (by kernel_rfl) (fun _ _ _ h => h) (Or.inl ⟨by rfl, ?_⟩) (by assumption) ?_
      · (intro w hSw; (try dsimp only at hSw); go_simp)
      simp only [Act.put]
      refine wpAnyH_take (i := 8) (v := .int .i64 x) rfl (by kernel_rfl) (by kernel_rfl) (by kernel_rfl) (fun _ _ _ h => h) (Or.inl ⟨by rfl, ?_⟩) (by assumption) ?_
      · (intro w hSw; (try dsimp only at hSw); go_simp)
      simp only [Act.put]
      refine wpAnyH_take (i := 9) (v := .slice AU cu.length cq) rfl (by kernel_rfl) (by kernel_rfl) (by kernel_rfl) (fun _ _ _ h => h) (Or.inl ⟨by rfl, ?_⟩) (by assumption) ?_
      · (intro w hSw; (try dsimp only at hSw); go_simp)
      simp only [Act.put]
      have HBD := Lib.hid HBr.out.drew
      have HD0 := Lib.hid HDR0.out.drew
      refine wpAnyH_ready (rs := [10]) (by kernel_rfl) (by simp) ?_
      refine AllReadyH.cons rfl (fun K hK => ?_) AllReadyH.nil
      go_simp
      go_at_call 86
      refine (HGk.out _ HBD.out).mono ?_
      rintro e w4 ⟨g4, c4, rfl, hg4, hO4, hb4, hl4⟩
      have HB4 := Lib.hid (HBD.out.trans (hb4.mono HBD.out.size))
      have HD4 := Lib.hid (HD0.out.trans (hb4.mono HD0.out.size))
      refine hK.out _ _ (by rcases hHeld with ⟨q0, q1, q2⟩; exact ⟨(hb4.cell (p := ⟨w.heap.size, 0, none⟩) (by show w.heap.size < wr.heap.size; omega)).trans q0, (hb4.cell (p := ⟨w.heap.size, 1, none⟩) (by show w.heap.size < wr.heap.size; omega)).trans q1, (hb4.cell (p := ⟨b, off + k * 4, none⟩) (by show b < wr.heap.size; omega)).trans q2⟩) (fun hHeld => ?_)
      clear hK K hO4 hg4 hl4
      clear hb4
      refine wpAnyH_take (i := 11) (v := .tuple #[.slice (some ⟨g4, 0, none⟩) (P k).length c4, .int .i64 rv]) rfl (by kernel_rfl) (by kernel_rfl) (by kernel_rfl) (fun _ _ _ h => h) (Or.inl ⟨by rfl, ?_⟩) (by assumption) ?_
      · (intro w hSw; (try dsimp only at hSw); go_simp)
      simp only [Act.put, List.setIfInBounds_toArray]
      refine wpAnyH_take (i := 12) (v := .slice (some ⟨g4, 0, none⟩) (P k).length c4) rfl (by kernel_rfl) (by kernel_rfl) (by kernel_rfl) (fun _ _ _ h => h) (Or.inl ⟨by rfl, ?_⟩) (by assumption) ?_
      · (intro w hSw; (try dsimp only at hSw); go_simp)
      simp only [Act.put]
      refine wpAnyH_take (i := 13) (v := .int .i64 rv) rfl (by kernel_rfl) (by kernel_rfl) (by kernel_rfl) (fun _ _ _ h => h) (Or.inl ⟨by rfl, ?_⟩) (by assumption) ?_
      · (intro w hSw; (try dsimp only at hSw); go_simp)
      simp only [Act.put]
      refine wpAnyH_ready (rs := [14]) (by kernel_rfl) (by simp) ?_
      refine AllReadyH.cons rfl (fun K hK => ?_) AllReadyH.nil
      go_simp
      refine hK.out _ _ (by first | assumption | go_keep) (fun hHeld => ?_)
      clear hK K
      refine wpAnyH_ready (rs := [15]) (by kernel_rfl) (by simp) ?_
      refine AllReadyH.cons rfl (fun K hK => ?_) AllReadyH.nil
      go_simp
      refine hK.out _ _ (by first | assumption | go_keep) (fun hHeld => ?_)
      clear hK K
      obtain ⟨d0, d1, d2⟩ := hHeld
      refine wpAnyH_done (by kernel_rfl) ?_ _
      have HT4 := Lib.hid (hb.out.trans ((show Below wr.heap.size wr w4 from HD4.out).mono hz))
      by_cases hgt : mv < rv
      · have HN1 := Lib.hid (HNEW.out hgt).1
        have HN2 := Lib.hid (HNEW.out hgt).2
        clear HNEW HOLD
        go_wp2_with fail
        go_roundw
        case rel => exact ⟨k + 1, by omega, by go_num, by rw [HN1.out], by rw [HN1.out, HN2.out], HT4⟩
        case measure => simp [intOf]; omega
      · have HN1 := Lib.hid (HOLD.out hgt)
        clear HNEW HOLD
        go_wp2_with fail
        go_roundw
        case rel => exact ⟨k + 1, by omega, by go_num, by rw [HN1.out], by rw [HN1.out, HM.out], HT4⟩
        case measure => simp [intOf]; omega
    · have e : k = ps.length := by omega
      subst e
      have HI := Lib.hid (HINV.out ps.length)
      obtain ⟨f, hf⟩ : ∃ f, (wTo ps o hh ps.length).2.2 = f := ⟨_, rfl⟩
      cases f with
      | false =>
        have E0 := Lib.hid (HI.out.2 hf)
        have hm1 : moV (wTo ps o hh ps.length) = -1 := by rw [E0.out]; rfl
        rw [hm1]
        clear HI hm1 hf
        go_wp2_with fail
        go_ret3
        exact ⟨by rw [E0.out]; rfl, HBr.out⟩
      | true =>
        have hI := HI.out.1 hf
        have hm1 : moV (wTo ps o hh ps.length) = (wTo ps o hh ps.length).2.1 := by unfold moV; rw [hf]; rfl
        rw [hm1]
        have HF := Lib.hid hf
        have hI2 : ¬ (wTo ps o hh ps.length).2.1 < 0 := by omega
        clear HI hm1 hf
        go_wp2_with fail
        go_ret3
        exact ⟨by rw [HF.out]; rfl, HBr.out⟩
end Go.Proofs.Ytbljmibaemgfeaa.S2
