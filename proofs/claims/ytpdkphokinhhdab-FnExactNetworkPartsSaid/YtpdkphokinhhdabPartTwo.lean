/- NetworkParts of the program and of the model: contracts. Conditions: each theorem's own premises. -/
import Derived.Test.YtpdkphokinhhdabPartOne
namespace Go.Proofs.Ytpdkphokinhhdab.S2
open Go.RowKit Go.Sort P2

theorem infoSI : (Try.prog.info? 29).map (fun i => (i.zero, i.size, i.bytes)) = some (some (.slice none 0 0), 1, 24) := by kernel_rfl
/-- Slices of slices beside a bool. -/
def GivesP (w : World) (ls : List (List Int)) (ok : Bool) (e : Ending) (w' : World) : Prop :=
  ∃ b cap q, e = .returned (.tuple #[.slice (some ⟨b, 0, none⟩) ls.length cap, .bool ok]) ∧ w.heap.size ≤ b ∧ SOwn w' w.heap.size b cap q ls ∧ Below w.heap.size w w'
def GivesQ (w : World) (ls : List (List Int)) (ok : Bool) (e : Ending) (w' : World) : Prop :=
  ∃ b cap, e = .returned (.tuple #[.slice (some ⟨b, 0, none⟩) ls.length cap, .bool ok]) ∧ w.heap.size ≤ b ∧ SAt w' (some ⟨b, 0, none⟩) ls ∧ Below w.heap.size w w' ∧ b < w'.heap.size
theorem own_slice2 {w : World} {B : Nat} {v : Value} {n : Nat} {xs : List Value} (h : w.ownsRow B 29 1 v n xs) (hne : v ≠ .slice none 0 0) : ∃ g cap, v = .slice (some ⟨g, 0, none⟩) n cap ∧ B ≤ g := by
  rcases h.2 with ⟨hv, _⟩ | ⟨g, cap, cur, hv, hb, _⟩
  · exact absurd hv hne
  · exact ⟨g, cap, hv, hb⟩
theorem row_cell {w : World} {B b cap n : Nat} {x : Nat → Value} (h : w.ownsRow B 29 1 (.slice (some ⟨b, 0, none⟩) n cap) n ((List.range n).map x)) {i : Nat} (hi : i < n) : w.cell? ⟨b, i, none⟩ = some (x i) := by
  rw [h.cellAt i (by omega)]
  simp [hi]
theorem PInv.sown {S : Nat} {v : Value} {ls : List (List Int)} {w : World} (h : PInv (RI S) S v ls w) : ∃ b cap q, v = .slice (some ⟨b, 0, none⟩) ls.length cap ∧ S ≤ b ∧ SOwn w S b cap q ls := by
  obtain ⟨x, ho, hv, hr, hd⟩ := h
  obtain ⟨b, cap, rfl, hb⟩ := own_slice2 ho hv
  have hx : ∀ i, i < ls.length → ∃ g c, x i = .slice (some ⟨g, 0, none⟩) (rw_ ls i).length c ∧ IOwn w S (x i) (rw_ ls i) ∧ g ≠ b := fun i hi => by
    obtain ⟨g, e, _, hne, g', c, e', hI⟩ := hr i hi
    refine ⟨g', c, e', hI, fun h => hne ?_⟩
    rw [e'] at e
    have : g' = g := by simpa [Value.ownBlock] using e
    rw [← this, h]; rfl
  refine ⟨b, cap, fun i => match x i with | .slice (some a) _ c => (a.block, c) | _ => (0, 0), rfl, hb, ⟨(World.ownsRow.lt ho b rfl).2, hb, fun i hi => ?_⟩, fun i hi => ?_, fun i j hij hj => ?_, fun i hi => ?_⟩
  · obtain ⟨g, c, e, _, _⟩ := hx i hi
    rw [row_cell ho hi, e]
  · obtain ⟨g, c, e, hI, _⟩ := hx i hi
    rw [e] at hI ⊢
    exact hI
  · obtain ⟨g, c, e, _, _⟩ := hx i (by omega)
    obtain ⟨g2, c2, e2, _, _⟩ := hx j hj
    have := hd i j hij hj
    rw [e, e2] at this
    rw [e, e2]
    simpa [Value.ownBlock] using this
  · obtain ⟨g, c, e, _, hne⟩ := hx i hi
    rw [e]
    exact hne
theorem PInv.sat {S : Nat} {v : Value} {ls : List (List Int)} {w : World} (h : PInv RS S v ls w) : ∃ b cap, v = .slice (some ⟨b, 0, none⟩) ls.length cap ∧ S ≤ b ∧ SAt w (some ⟨b, 0, none⟩) ls ∧ b < w.heap.size := by
  obtain ⟨x, ho, hv, hr, hd⟩ := h
  obtain ⟨b, cap, rfl, hb⟩ := own_slice2 ho hv
  have hbl := (World.ownsRow.lt ho b rfl).2
  refine ⟨b, cap, rfl, hb, .inr ⟨b, 0, rfl, hbl, fun i hi => ?_⟩, hbl⟩
  obtain ⟨g, e, _, _, g', o, c, e', hI⟩ := hr i hi
  exact ⟨_, c, by rw [Nat.zero_add, row_cell ho hi, e'], hI.iat⟩
theorem SOwn.lower {w : World} {B b cap : Nat} {q : Nat → Nat × Nat} {ls : List (List Int)} (h : SOwn w (B + 1) b cap q ls) : SOwn w B b cap q ls :=
  ⟨⟨h.row.1, by have := h.row.2.1; omega, h.row.2.2⟩, fun i hi => own_lower (h.own i hi), h.dis, h.out⟩
theorem con_pos {N t : Nat} {ps : List Pp} (h1 : 1 ≤ t) (h2 : t ≤ N) : 0 < (conL N ps (t : Int)).length :=
  List.length_pos_of_mem ((con_mem N ps (t : Int) (t : Int)).2 ⟨by omega, by omega, ⟨0, rfl⟩⟩)

set_option maxHeartbeats 8000000 in
set_option maxRecDepth 100000 in
theorem parts_yes (N : Nat) (A : Option Addr) (cap : Nat) (ps : List Pp) (w : World) (h : PAt w A ps) (hg : P2.Good N ps) :
    Calls Try.prog 19 #[nv N A ps.length cap] w (GivesP w (partL N ps N) true) := by
  have hl10 := hg.2.2.1
  have hN : N ≤ 8 := by have := hg.2.1; omega
  have hm : ps.length ≤ maxLen := by unfold maxLen; omega
  have HV := Lib.hid (fun w' (hb : Below w.heap.size w w') => valid_v (good_mk hg) A cap w' (h.kept hb (Nat.le_refl _)) hm)
  have HC := Lib.hid (fun (t : Nat) (h1 : 1 ≤ t) (h2 : t ≤ N) w' (hb : Below w.heap.size w w') => con_any N t A cap ps w' (h.kept hb (Nat.le_refl _)) hg h1 h2)
  obtain ⟨i0, hi, hz0, hz1, hz2⟩ := info_parts infoSI
  obtain ⟨S, hS⟩ : ∃ S, S = w.heap.size + 1 := ⟨_, rfl⟩
  have HSS := Lib.hid hS
  clear h hg hm hS
  go_enter Try.func19, Try.ntmps19
  go_wp2_with (go_at_call 50; refine (HV.out _ ((Below.refl _ _).alloc (Nat.le_refl _) _)).mono ?_; rintro e w1 ⟨rfl, hb1⟩; refine Hid.out ?_)
  have hB1 : Below (w.heap.size + 1) (w.alloc (.cells #[.int .i64 (N : Int), .slice A ps.length cap] 26)) w1 := by simpa using hb1
  have hz1' := box_lt hB1
  obtain ⟨b0, b1⟩ := box2 hB1
  have HB1 := Lib.hid hB1
  clear hb1 hB1
  refine Lib.hid ?_
  go_wp2
  go_loopw [4, 5, 6] (fun v i _ wr => ∃ k : Nat, k ≤ N ∧ i = .int .i64 ((k + 1 : Nat) : Int) ∧ Hid (PInv (RI (w.heap.size + 1)) (w.heap.size + 1) v (partL N ps k) wr) ∧ Hid (∀ b, v.ownBlock = some b → b < wr.heap.size) ∧ Below (w.heap.size + 1) (w.alloc (.cells #[.int .i64 (N : Int), .slice A ps.length cap] 26)) wr) (fun _ i _ _ => N + 1 - (intOf i).toNat)
  case atStart => exact ⟨0, Nat.zero_le _, rfl, Lib.hid (PInv.start _ _ w1 (by omega)), Lib.hid (fun b e => by simp [Value.ownBlock] at e; simp; omega), HB1.out.alloc (by omega) _⟩
  case round =>
    obtain ⟨k, hk, rfl, hp, hvb, hb⟩ := hrel
    obtain ⟨c0, c1⟩ := box2 hb
    by_cases hlt : k < N
    · have hkN : ((k + 1 : Nat) : Int) ≤ (N : Int) := by omega
      have HCk := Lib.hid (HC.out (k + 1) (by omega) (by omega) wr (below_box hb))
      have hpos := con_pos (N := N) (t := k + 1) (ps := ps) (by omega) (by omega)
      have hwl := box_lt hb
      have HY := Lib.hid (fun h => partL_yes (N := N) (ps := ps) (k := k) h)
      have HNO := Lib.hid (fun h => partL_no (N := N) (ps := ps) (k := k) h)
      have hle := conL_le N ps ((k + 1 : Nat) : Int)
      have hplen := partL_len N ps k
      generalize conL N ps ((k + 1 : Nat) : Int) = L at *
      go_wp2_with (go_at_call 55; refine (HCk.out).mono ?_; rintro e w2 ⟨g, c, rfl, hg, ho, hb2⟩; refine Hid.out ?_)
      have hc0 : w2.cell? ⟨g, 0, none⟩ = some (iv (L.getD 0 0)) := by
        obtain ⟨b', off', hA', _, hcc⟩ := ho.iat.at_ (i := 0) (by omega)
        injection hA' with hA'
        injection hA' with e1 e2 _
        subst e1; subst e2
        simpa using hcc
      have hgl : g < w2.heap.size := (World.ownsRow.lt ho g rfl).2
      have hz2' := hb2.size
      have hB2 := on_call hb hb2
      by_cases hh : L.getD 0 0 = ((k + 1 : Nat) : Int)
      · have hE : (L.getD 0 0 == ((k + 1 : Nat) : Int)) = true := beq_iff_eq.2 hh
        have hs := Lib.hid (HY.out hh)
        obtain ⟨x, ho1, hv1, hr1, hd1⟩ := hp.out
        have HPr := Lib.hid (show (∀ i, i < (partL N ps k).length → ∃ g, (x i).ownBlock = some g ∧ g < wr.heap.size ∧ _ ≠ some g ∧ (RI (w.heap.size + 1)) wr (x i) (rw_ (partL N ps k) i)) ∧ (∀ i j, i < j → j < (partL N ps k).length → (x i).ownBlock ≠ (x j).ownBlock) ∧ _ ≠ Value.slice none 0 0 from ⟨hr1, hd1, hv1⟩)
        have HO1 := Lib.hid ho1
        have ho2 := own_on ho1 hb2
        have HRY := Lib.hid (show (RI (w.heap.size + 1)) w2 (.slice (some ⟨g, 0, none⟩) L.length c) L from ⟨g, c, rfl, own_lower ho (by have := box_lt hb; omega)⟩)
        have HB2 := Lib.hid hB2
        have HBB := Lib.hid hb2
        have HCC := Lib.hid hc0
        clear hh hp ho1 hv1 hr1 hd1 ho hB2 hb2 HY HNO
        generalize L.getD 0 0 = y0 at *
        refine Lib.hid ?_
        go_wp2_with (at_builtin; go_must (refine wpList_append_lies _ rfl _ _ 40 rfl (w.heap.size + 1) 29 i0 (.slice none 0 0) 1 24 Try.underlying40 hi hz0 hz1 hz2 rfl (by decide) _ _ _ rfl (ho2.alloc _) ⟨w2.heap.size, 0, none⟩ 1 1 [.slice (some ⟨g, 0, none⟩) L.length c] rfl rfl (cell_one_new _ _ _) (by intro u hu; simp at hu; subst hu; rfl) (by omega) (by unfold maxLen; omega) (by omega) (by simp; omega) (w2.heap.size + 1) (by simp) ?_); intro gg cap' w3 hown' hgrow hat hlt1)
        have hP3 := Lib.hid (PInv.push (heldI (w.heap.size + 1)) (l := L) (g := g) ⟨x, HO1.out, HPr.out.2.2, HPr.out.1, HPr.out.2.1, hown'⟩ HBB.out rfl hgl hg HRY.out hvb.out hgrow (by simp) (by
          rcases hat with hat | hat
          · exact .inl (Eq.symm hat)
          · exact .inr ⟨gg, rfl, by omega⟩))
        rw [← hs.out] at hP3
        have hB3 := HB2.out.trans ((((Below.refl (w.heap.size + 1) w2).alloc (by omega) _)).grown hgrow (by simp; omega) (fun g hg' => (ho2.lt g hg').1))
        clear hown' hgrow hat ho2
        go_wp2
        go_roundw
        case rel => exact ⟨k + 1, by omega, by go_num, hP3, Lib.hid (fun b e => by simp [Value.ownBlock] at e; omega), hB3⟩
        case measure => simp [intOf]; omega
      · have hE : (L.getD 0 0 == ((k + 1 : Nat) : Int)) = false := beq_eq_false_iff_ne.2 hh
        have hs := Lib.hid (HNO.out hh)
        rw [← hs.out] at hp
        have hp2 := Lib.hid (hp.out.on (heldI (w.heap.size + 1)) hb2)
        have hvb2 := Lib.hid (fun b e => Nat.lt_of_lt_of_le (hvb.out b e) hz2')
        clear hh hp ho
        generalize L.getD 0 0 = y0 at *
        refine Lib.hid ?_
        go_wp2_with fail
        go_roundw
        case rel => exact ⟨k + 1, by omega, by go_num, hp2, hvb2, hB2⟩
        case measure => simp [intOf]; omega
    · have hkN : k = N := by omega
      subst hkN
      obtain ⟨b, cp, q, rfl, hbS, hown⟩ := hp.out.sown
      have hkN : ¬ (((k + 1 : Nat) : Int) ≤ (k : Int)) := by omega
      clear hp
      go_wp2
      go_ret2
      exact ⟨b, cp, q, rfl, by omega, hown.lower, below_box hb⟩
theorem sgood_v2 {n : Int} {ps : List Pp} {v : Bool} (hv : goodB n ps = v) (A : Option Addr) (cap : Nat) (w : World) (h : PAt w A ps) (hm : ps.length ≤ maxLen) :
    Calls Try.prog 52 #[nv n A ps.length cap] w fun e w' => e = .returned (.bool v) ∧ Below w.heap.size w w' := by
  rw [← hv]; exact sgood_any n A cap ps w h hm
theorem parts_no (n : Int) (A : Option Addr) (cap : Nat) (ps : List Pp) (w : World) (h : PAt w A ps) (hm : ps.length ≤ maxLen) (hv : goodB n ps = false) :
    Calls Try.prog 19 #[nv n A ps.length cap] w (GivesP w [] false) := by
  have HV := Lib.hid (fun w' (hb : Below w.heap.size w w') => valid_v hv A cap w' (h.kept hb (Nat.le_refl _)) hm)
  clear h hv
  go_enter Try.func19, Try.ntmps19
  go_wp2_with (go_at_call 50; refine (HV.out _ ((Below.refl _ _).alloc (Nat.le_refl _) _)).mono ?_; rintro e w1 ⟨rfl, hb1⟩)
  go_ret2
  have hb := below_alloc_call hb1
  have hz := hb.size
  exact ⟨_, _, fun _ => (0, 0), rfl, hz, ⟨⟨by simp, hz, fun i hi => absurd hi (by simp)⟩, fun i hi => absurd hi (by simp), fun i j _ hj => absurd hj (by simp), fun i hi => absurd hi (by simp)⟩, hb.alloc hz _⟩
theorem sparts_no (n : Int) (A : Option Addr) (cap : Nat) (ps : List Pp) (w : World) (h : PAt w A ps) (hm : ps.length ≤ maxLen) (hv : goodB n ps = false) :
    Calls Try.prog 20 #[nv n A ps.length cap] w (GivesQ w [] false) := by
  have HV := Lib.hid (fun w' (hb : Below w.heap.size w w') => sgood_v2 hv A cap w' (h.kept hb (Nat.le_refl _)) hm)
  clear h hv
  go_enter Try.func20, Try.ntmps20
  go_wp2_with (go_at_call 52; refine (HV.out _ (((Below.refl _ _).alloc (Nat.le_refl _) _).alloc (by simp) _)).mono ?_; rintro e w1 ⟨rfl, hb1⟩)
  go_ret2
  have hb : Below w.heap.size w w1 := (((Below.refl w.heap.size w).alloc (Nat.le_refl _) _).alloc (by simp) _).trans (hb1.mono (by simp; omega))
  have hz := hb1.size
  simp at hz
  exact ⟨_, _, rfl, by omega, .inl rfl, hb, by omega⟩

set_option maxHeartbeats 8000000 in
set_option maxRecDepth 100000 in
theorem sparts_yes (N : Nat) (A : Option Addr) (cap : Nat) (ps : List Pp) (w : World) (h : PAt w A ps) (hg : P2.Good N ps) :
    Calls Try.prog 20 #[nv N A ps.length cap] w (GivesQ w (partL N ps N) true) := by
  have hl10 := hg.2.2.1
  have hN : N ≤ 8 := by have := hg.2.1; omega
  have hm : ps.length ≤ maxLen := by unfold maxLen; omega
  have HV := Lib.hid (fun w' (hb : Below w.heap.size w w') => sgood_v2 (good_mk hg) A cap w' (h.kept hb (Nat.le_refl _)) hm)
  have HC := Lib.hid (fun (t : Nat) (h1 : 1 ≤ t) (h2 : t ≤ N) w' (hb : Below w.heap.size w w') => sreach_any N t A cap ps w' (h.kept hb (Nat.le_refl _)) hg h1 h2)
  obtain ⟨i0, hi, hz0, hz1, hz2⟩ := info_parts infoSI
  obtain ⟨S, hS⟩ : ∃ S, S = w.heap.size + 1 := ⟨_, rfl⟩
  have HSS := Lib.hid hS
  clear h hg hm hS
  go_enter Try.func20, Try.ntmps20
  go_wp2_with (go_at_call 52; refine (HV.out _ (((Below.refl _ _).alloc (Nat.le_refl _) _).alloc (by simp) _)).mono ?_; rintro e w1 ⟨rfl, hb1⟩; refine Hid.out ?_)
  have hB1 : Below (w.heap.size + 1) (w.alloc (.cells #[.int .i64 (N : Int), .slice A ps.length cap] 26)) w1 := ((Below.refl _ _).alloc (by simp) _).trans (hb1.mono (by simp))
  have hP1 := (PInv.start RS (w.heap.size + 1) (w.alloc (.cells #[.int .i64 (N : Int), .slice A ps.length cap] 26)) (by simp)).on heldS hb1
  rw [show (w.alloc (.cells #[.int .i64 (N : Int), .slice A ps.length cap] 26)).heap.size = w.heap.size + 1 by simp] at hP1
  have hV1 : ∀ b, (Value.slice (some ⟨w.heap.size + 1, 0, none⟩) 0 0).ownBlock = some b → b < w1.heap.size := fun b e => by
    have := hb1.size
    simp at this
    simp [Value.ownBlock] at e
    omega
  obtain ⟨b0, b1⟩ := box2 hB1
  have HP1 := Lib.hid hP1
  have HB1 := Lib.hid hB1
  have HV1 := Lib.hid hV1
  clear hb1 hB1 hP1 hV1
  refine Lib.hid ?_
  go_wp2
  go_loopw [4, 5, 6] (fun v i _ wr => ∃ k : Nat, k ≤ N ∧ i = .int .i64 ((k + 1 : Nat) : Int) ∧ Hid (PInv RS (w.heap.size + 1) v (partL N ps k) wr) ∧ Hid (∀ b, v.ownBlock = some b → b < wr.heap.size) ∧ Below (w.heap.size + 1) (w.alloc (.cells #[.int .i64 (N : Int), .slice A ps.length cap] 26)) wr) (fun _ i _ _ => N + 1 - (intOf i).toNat)
  case atStart => exact ⟨0, Nat.zero_le _, rfl, HP1, HV1, HB1.out⟩
  case round =>
    obtain ⟨k, hk, rfl, hp, hvb, hb⟩ := hrel
    obtain ⟨c0, c1⟩ := box2 hb
    by_cases hlt : k < N
    · have hkN : ((k + 1 : Nat) : Int) ≤ (N : Int) := by omega
      have HCk := Lib.hid (HC.out (k + 1) (by omega) (by omega) wr (below_box hb))
      have hpos := con_pos (N := N) (t := k + 1) (ps := ps) (by omega) (by omega)
      have hwl := box_lt hb
      have HY := Lib.hid (fun h => partL_yes (N := N) (ps := ps) (k := k) h)
      have HNO := Lib.hid (fun h => partL_no (N := N) (ps := ps) (k := k) h)
      have hle := conL_le N ps ((k + 1 : Nat) : Int)
      have hplen := partL_len N ps k
      generalize conL N ps ((k + 1 : Nat) : Int) = L at *
      go_wp2_with (go_at_call 47; refine (HCk.out).mono ?_; rintro e w2 ⟨g, o, c, rfl, hg, hla, hb2⟩; refine Hid.out ?_)
      have hc0 : w2.cell? ⟨g, o, none⟩ = some (iv (L.getD 0 0)) := by simpa using hla.2.2.2 0 (by omega)
      have hgl : g < w2.heap.size := hla.1
      have hcl : L.length ≤ c := hla.2.1
      have hz2' := hb2.size
      have hB2 := on_call hb hb2
      by_cases hh : L.getD 0 0 = ((k + 1 : Nat) : Int)
      · have hE : (L.getD 0 0 == ((k + 1 : Nat) : Int)) = true := beq_iff_eq.2 hh
        have hs := Lib.hid (HY.out hh)
        obtain ⟨x, ho1, hv1, hr1, hd1⟩ := hp.out
        have HPr := Lib.hid (show (∀ i, i < (partL N ps k).length → ∃ g, (x i).ownBlock = some g ∧ g < wr.heap.size ∧ _ ≠ some g ∧ RS wr (x i) (rw_ (partL N ps k) i)) ∧ (∀ i j, i < j → j < (partL N ps k).length → (x i).ownBlock ≠ (x j).ownBlock) ∧ _ ≠ Value.slice none 0 0 from ⟨hr1, hd1, hv1⟩)
        have HO1 := Lib.hid ho1
        have ho2 := own_on ho1 hb2
        have HRY := Lib.hid (show RS w2 (.slice (some ⟨g, o, none⟩) L.length c) L from ⟨g, o, c, rfl, hla⟩)
        have HB2 := Lib.hid hB2
        have HBB := Lib.hid hb2
        have HCC := Lib.hid hc0
        clear hh hp ho1 hv1 hr1 hd1 hla hB2 hb2 HY HNO
        generalize L.getD 0 0 = y0 at *
        refine Lib.hid ?_
        go_wp2_with (at_builtin; go_must (refine wpList_append_lies _ rfl _ _ 40 rfl (w.heap.size + 1) 29 i0 (.slice none 0 0) 1 24 Try.underlying40 hi hz0 hz1 hz2 rfl (by decide) _ _ _ rfl (ho2.alloc _) ⟨w2.heap.size, 0, none⟩ 1 1 [.slice (some ⟨g, o, none⟩) L.length c] rfl rfl (cell_one_new _ _ _) (by intro u hu; simp at hu; subst hu; rfl) (by omega) (by unfold maxLen; omega) (by omega) (by simp; omega) (w2.heap.size + 1) (by simp) ?_); intro gg cap' w3 hown' hgrow hat hlt1)
        have hP3 := Lib.hid (PInv.push heldS (l := L) (g := g) ⟨x, HO1.out, HPr.out.2.2, HPr.out.1, HPr.out.2.1, hown'⟩ HBB.out rfl hgl hg HRY.out hvb.out hgrow (by simp) (by
          rcases hat with hat | hat
          · exact .inl (Eq.symm hat)
          · exact .inr ⟨gg, rfl, by omega⟩))
        rw [← hs.out] at hP3
        have hB3 := HB2.out.trans ((((Below.refl (w.heap.size + 1) w2).alloc (by omega) _)).grown hgrow (by simp; omega) (fun g hg' => (ho2.lt g hg').1))
        clear hown' hgrow hat ho2
        go_wp2
        go_roundw
        case rel => exact ⟨k + 1, by omega, by go_num, hP3, Lib.hid (fun b e => by simp [Value.ownBlock] at e; omega), hB3⟩
        case measure => simp [intOf]; omega
      · have hE : (L.getD 0 0 == ((k + 1 : Nat) : Int)) = false := beq_eq_false_iff_ne.2 hh
        have hs := Lib.hid (HNO.out hh)
        rw [← hs.out] at hp
        have hp2 := Lib.hid (hp.out.on heldS hb2)
        have hvb2 := Lib.hid (fun b e => Nat.lt_of_lt_of_le (hvb.out b e) hz2')
        clear hh hp hla
        generalize L.getD 0 0 = y0 at *
        refine Lib.hid ?_
        go_wp2_with fail
        go_roundw
        case rel => exact ⟨k + 1, by omega, by go_num, hp2, hvb2, hB2⟩
        case measure => simp [intOf]; omega
    · have hkN : k = N := by omega
      subst hkN
      obtain ⟨b, cp, rfl, hbS, hsat, hbl⟩ := hp.out.sat
      have hkN : ¬ (((k + 1 : Nat) : Int) ≤ (k : Int)) := by omega
      clear hp
      go_wp2
      go_ret2
      exact ⟨b, cp, rfl, by omega, hsat, below_box hb, hbl⟩
/-- Both answers are one. -/
theorem parts_both (n : Int) (ps : List Pp) (hm : ps.length ≤ maxLen) : ∃ L ok, L.length ≤ 1000 ∧ (∀ i, i < L.length → (rw_ L i).length ≤ 100) ∧
    (∀ (A : Option Addr) (cap : Nat) (w : World), PAt w A ps → Calls Try.prog 20 #[nv n A ps.length cap] w (GivesQ w L ok)) ∧
    (∀ (A : Option Addr) (cap : Nat) (w : World), PAt w A ps → Calls Try.prog 19 #[nv n A ps.length cap] w (GivesP w L ok)) := by
  cases hv : goodB n ps
  · exact ⟨[], false, by simp, fun i hi => absurd hi (by simp), fun A cap w h => sparts_no n A cap ps w h hm hv, fun A cap w h => parts_no n A cap ps w h hm hv⟩
  · have hg := good_of hv
    obtain ⟨N, rfl⟩ : ∃ N : Nat, n = (N : Int) := ⟨n.toNat, by have := hg.1; omega⟩
    have hN : N ≤ 8 := by have := hg.2.1; omega
    have hl := partL_len N ps N
    exact ⟨partL N ps N, true, by omega, fun i hi => by have := partL_row N ps N _ (rw_mem hi); omega, fun A cap w h => sparts_yes N A cap ps w h hg, fun A cap w h => parts_yes N A cap ps w h hg⟩
end Go.Proofs.Ytpdkphokinhhdab.S2
