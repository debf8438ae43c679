/- What the verifier's model returns for the number of a text (l1Read, ParseInt) and for the text of a number (FormatInt). Conditions: each theorem's own premises. -/
import Derived.Test.YtpdkphokinhhdaaDoorSpecOne
namespace Go.Proofs.YtpdkphokinhhdaaDoor.S1
open Go.RowKit Go.Lib P1

def readV (l : List UInt8) : Value := .tuple #[.int .i64 ((parseL l).getD 0), .bool (parseL l).isSome]
theorem readV_none {l : List UInt8} (h : parseL l = none) : readV l = .tuple #[.int .i64 0, .bool false] := by unfold readV; rw [h]; rfl
theorem readV_some {l : List UInt8} {n : Int} (h : parseL l = some n) : readV l = .tuple #[.int .i64 n, .bool true] := by unfold readV; rw [h]; rfl

theorem val_step (T : ByteArray) (k : Nat) (h : k < T.size) (h48 : 48 ≤ T[k].toNat) : ((val (T.data.toList.take (k + 1)) : Nat) : Int) = 10 * (val (T.data.toList.take k) : Int) + ((T[k].toNat : Int) - 48) := by
  rw [take_snoc T k h, val_snoc]; omega
theorem val_bound (T : ByteArray) (k : Nat) (h6 : T.size ≤ 6) (hd : ∀ c ∈ T.data.toList.take k, 48 ≤ c.toNat ∧ c.toNat ≤ 57) : (val (T.data.toList.take k) : Int) ≤ 999999 := by
  have := val_le_six (T.data.toList.take k) (by have := List.length_take_le k T.data.toList; have e : T.data.toList.length = T.size := by simp; 
                                                rw [List.length_take]; omega) fun c hc => (hd c hc).2
  omega
theorem dig_step (T : ByteArray) (k : Nat) (h : k < T.size) (h48 : 48 ≤ T[k].toNat) (h57 : T[k].toNat ≤ 57) (hd : ∀ c ∈ T.data.toList.take k, 48 ≤ c.toNat ∧ c.toNat ≤ 57) : ∀ c ∈ T.data.toList.take (k + 1), 48 ≤ c.toNat ∧ c.toNat ≤ 57 := by
  rw [take_snoc T k h]
  intro c hc
  rcases List.mem_append.1 hc with hc | hc
  · exact hd c hc
  · obtain rfl := List.mem_singleton.1 hc; exact ⟨h48, h57⟩
theorem mem_at (T : ByteArray) (k : Nat) (h : k < T.size) : T[k] ∈ T.data.toList := by
  have : T[k] = T.data.toList[k]'(by simpa using h) := rfl
  rw [this]; exact List.getElem_mem _

/-- What the digits' reader knows of the text and its tail. -/
structure Tl (s T : ByteArray) : Prop where
  tail : T.data.toList = tailOf s.data.toList
  six : T.size ≤ 6
  one : 1 ≤ T.size

theorem Tl.bad {s T : ByteArray} (h : Tl s T) {k : Nat} (hk : k < T.size) (hb : T[k].toNat < 48 ∨ 57 < T[k].toNat) : readV s.data.toList = .tuple #[.int .i64 0, .bool false] :=
  readV_none (parseL_bad (c := T[k]) (by rw [← h.tail]; exact mem_at T k hk) hb)
theorem Tl.read {s T : ByteArray} (h : Tl s T) (hd : ∀ c ∈ T.data.toList.take T.size, 48 ≤ c.toNat ∧ c.toNat ≤ 57) :
    parseL s.data.toList = (if itoa (readN s.data.toList) = s.data.toList then some (readN s.data.toList) else none) ∧ -999999 ≤ readN s.data.toList ∧ readN s.data.toList ≤ 999999 ∧
    readN s.data.toList = if T.size < s.size then -(val (T.data.toList.take T.size) : Int) else val (T.data.toList.take T.size) := by
  have e : T.data.toList.take T.size = tailOf s.data.toList := by rw [← h.tail]; exact List.take_of_length_le (by simp)
  have e1 : (tailOf s.data.toList).length = T.size := by rw [← h.tail]; simp
  have e2 : s.data.toList.length = s.size := by simp
  rw [e] at hd
  have hb := readN_bounds (l := s.data.toList) (by rw [e1]; exact h.six) fun c hc => (hd c hc).2
  refine ⟨parseL_read (by rw [e1]; exact h.six) fun c hc => (hd c hc).2, hb.1, hb.2, ?_⟩
  unfold readN
  rw [e1, e2, e]

theorem tail_minus (s : ByteArray) (h1 : 1 < s.size) (hc : s[0].toNat = 45) : (s.extract 1 s.size).data.toList = tailOf s.data.toList := by
  rw [Lib.extract_to_end]
  have hl : s.data.toList.length = s.size := by simp
  match e : s.data.toList, hl with
  | [], hl => simp at hl; omega
  | c :: r, hl =>
    have h0 : s[0] = c := by
      have : s[0] = s.data.toList[0]'(by simp; omega) := rfl
      rw [this]; simp [e]
    unfold tailOf
    rw [if_pos]
    · rfl
    · refine ⟨by rw [hl]; exact h1, ?_⟩
      rw [h0] at hc
      have : c = 45 := UInt8.toNat_inj.1 hc
      rw [this]; rfl
theorem tail_plain (s : ByteArray) (h : s.size ≤ 1 ∨ ∃ h0 : 0 < s.size, s[0].toNat ≠ 45) : s.data.toList = tailOf s.data.toList := by
  have hl : s.data.toList.length = s.size := by simp
  unfold tailOf
  rw [if_neg]
  rintro ⟨a, b⟩
  rcases h with h | ⟨h0, h⟩
  · omega
  · match e : s.data.toList, hl with
    | [], hl => simp at hl; omega
    | c :: r, hl =>
      have h0' : s[0] = c := by
        have : s[0] = s.data.toList[0]'(by simpa using h0) := rfl
        rw [this]; simp [e]
      rw [e] at b
      injection b with b
      rw [h0', b] at h
      exact h rfl
theorem parse_long (s T : ByteArray) (ht : T.data.toList = tailOf s.data.toList) (h : T.size < 1 ∨ 6 < T.size) : readV s.data.toList = .tuple #[.int .i64 0, .bool false] := by
  refine readV_none (parseL_long ?_)
  rw [← ht]; simpa using h

set_option maxHeartbeats 1000000 in
theorem read_minus (s : ByteArray) (w : World) (hs : s.size ≤ maxLen) (h1 : 1 < s.size) (hc : s[0].toNat = 45) :
    Calls Tryd.prog 47 #[.string s] w fun e w' => e = .returned (readV s.data.toList) ∧ ∃ d, w' = w.drewN d := by
  unfold maxLen at hs
  have hsz : (s.extract 1 s.size).size = s.size - 1 := by simp [ByteArray.size_extract]
  have ht := tail_minus s h1 hc
  have hcc : ((s[0].toNat : Int) == 45) = true := by simp [hc]
  by_cases h6 : s.size - 1 ≤ 6
  · have HT : Tl s (s.extract 1 s.size) := ⟨ht, by omega, by omega⟩
    clear ht hc
    go_enter Tryd.func47, Tryd.ntmps47
    go_wp2_with fail
    refine (in_yes _ _ _ _ (by omega) (by omega)).mono ?_
    rintro e w' ⟨rfl, rfl⟩
    go_wp2_with fail
    generalize s.extract 1 s.size = T at *
    go_loop [5, 6] (fun n i => ∃ k : Nat, k ≤ T.size ∧ i = .int .i64 k ∧ n = .int .i64 (val (T.data.toList.take k) : Int) ∧ Hid (∀ c ∈ T.data.toList.take k, 48 ≤ c.toNat ∧ c.toNat ≤ 57)) (fun _ i => T.size - (intOf i).toNat)
    case atStart => exact ⟨0, Nat.zero_le _, rfl, rfl, Lib.hid (by simp)⟩
    case round =>
      obtain ⟨k, hk, rfl, rfl, hd⟩ := hrel
      by_cases hlt : k < T.size
      · by_cases hlo : T[k].toNat < 48
        · have hfin := Lib.hid (HT.bad hlt (.inl hlo))
          go_wp2
          go_ret2
          exact ⟨congrArg Ending.returned hfin.out.symm, 0, rfl⟩
        · by_cases hhi : 57 < T[k].toNat
          · have hfin := Lib.hid (HT.bad hlt (.inr hhi))
            go_wp2
            go_ret2
            exact ⟨congrArg Ending.returned hfin.out.symm, 0, rfl⟩
          · have hv := val_bound T k HT.six hd.out
            have HS := Lib.hid (val_step T k hlt (by omega))
            have HD := Lib.hid (dig_step T k hlt (by omega) (by omega) hd.out)
            go_wp2
            go_round
            case rel => exact ⟨k + 1, by omega, by go_num, by rw [HS.out], HD⟩
            case measure => simp [intOf]; omega
      · obtain rfl : T.size = k := by omega
        obtain ⟨hp, b0, b1, hr⟩ := HT.read hd.out
        rw [if_pos (by omega)] at hr
        have hv := val_bound T T.size HT.six hd.out
        generalize val (T.data.toList.take T.size) = v at *
        rw [hr] at hp
        clear hr hd hlt b0 b1
        by_cases he : itoa (-(v : Int)) = s.data.toList
        · have hfin := Lib.hid (readV_some (hp.trans (if_pos he)))
          have hE : (itoa (-(v : Int)) == s.toList) = true := by rw [Lib.toList_data]; exact beq_iff_eq.2 he
          clear hp he
          go_wp2_with (go_at_call 57; refine (num_any (-(v : Int)) _ (by omega) (by omega)).mono ?_; rintro e w' ⟨rfl, d, rfl⟩)
          go_ret2
          exact ⟨congrArg Ending.returned hfin.out.symm, d, rfl⟩
        · have hfin := Lib.hid (readV_none (hp.trans (if_neg he)))
          have hE : (itoa (-(v : Int)) == s.toList) = false := by rw [Lib.toList_data]; exact beq_eq_false_iff_ne.2 he
          clear hp he
          go_wp2_with (go_at_call 57; refine (num_any (-(v : Int)) _ (by omega) (by omega)).mono ?_; rintro e w' ⟨rfl, d, rfl⟩)
          go_ret2
          exact ⟨congrArg Ending.returned hfin.out.symm, d, rfl⟩
  · have hfin := Lib.hid (parse_long s _ ht (.inr (by omega)))
    clear ht hc
    go_enter Tryd.func47, Tryd.ntmps47
    go_wp2_with fail
    refine (in_high _ _ _ _ (by omega) (by omega)).mono ?_
    rintro e w' ⟨rfl, rfl⟩
    go_wp2_with fail
    go_ret2
    exact ⟨congrArg Ending.returned hfin.out.symm, 0, rfl⟩

set_option maxHeartbeats 1000000 in
theorem read_plain (s : ByteArray) (w : World) (hs : s.size ≤ maxLen) (h1 : 1 < s.size) (hc : s[0].toNat ≠ 45) :
    Calls Tryd.prog 47 #[.string s] w fun e w' => e = .returned (readV s.data.toList) ∧ ∃ d, w' = w.drewN d := by
  unfold maxLen at hs
  have ht := tail_plain s (.inr ⟨by omega, hc⟩)
  have hcc : ((s[0].toNat : Int) == 45) = false := by rw [beq_eq_false_iff_ne]; omega
  by_cases h6 : s.size ≤ 6
  · have HT : Tl s s := ⟨ht, by omega, by omega⟩
    clear ht hc
    go_enter Tryd.func47, Tryd.ntmps47
    go_wp2_with fail
    refine (in_yes _ _ _ _ (by omega) (by omega)).mono ?_
    rintro e w' ⟨rfl, rfl⟩
    go_wp2_with fail
    go_loop [5, 6] (fun n i => ∃ k : Nat, k ≤ s.size ∧ i = .int .i64 k ∧ n = .int .i64 (val (s.data.toList.take k) : Int) ∧ Hid (∀ c ∈ s.data.toList.take k, 48 ≤ c.toNat ∧ c.toNat ≤ 57)) (fun _ i => s.size - (intOf i).toNat)
    case atStart => exact ⟨0, Nat.zero_le _, rfl, rfl, Lib.hid (by simp)⟩
    case round =>
      obtain ⟨k, hk, rfl, rfl, hd⟩ := hrel
      by_cases hlt : k < s.size
      · by_cases hlo : s[k].toNat < 48
        · have hfin := Lib.hid (HT.bad hlt (.inl hlo))
          go_wp2
          go_ret2
          exact ⟨congrArg Ending.returned hfin.out.symm, 0, rfl⟩
        · by_cases hhi : 57 < s[k].toNat
          · have hfin := Lib.hid (HT.bad hlt (.inr hhi))
            go_wp2
            go_ret2
            exact ⟨congrArg Ending.returned hfin.out.symm, 0, rfl⟩
          · have hv := val_bound s k HT.six hd.out
            have HS := Lib.hid (val_step s k hlt (by omega))
            have HD := Lib.hid (dig_step s k hlt (by omega) (by omega) hd.out)
            go_wp2
            go_round
            case rel => exact ⟨k + 1, by omega, by go_num, by rw [HS.out], HD⟩
            case measure => simp [intOf]; omega
      · obtain rfl : s.size = k := by omega
        obtain ⟨hp, b0, b1, hr⟩ := HT.read hd.out
        rw [if_neg (by omega)] at hr
        have hv := val_bound s s.size HT.six hd.out
        generalize val (s.data.toList.take s.size) = v at *
        rw [hr] at hp
        clear hr hd hlt b0 b1
        by_cases he : itoa ((v : Int)) = s.data.toList
        · have hfin := Lib.hid (readV_some (hp.trans (if_pos he)))
          have hE : (itoa ((v : Int)) == s.toList) = true := by rw [Lib.toList_data]; exact beq_iff_eq.2 he
          clear hp he
          go_wp2_with (go_at_call 57; refine (num_any ((v : Int)) _ (by omega) (by omega)).mono ?_; rintro e w' ⟨rfl, d, rfl⟩)
          go_ret2
          exact ⟨congrArg Ending.returned hfin.out.symm, d, rfl⟩
        · have hfin := Lib.hid (readV_none (hp.trans (if_neg he)))
          have hE : (itoa ((v : Int)) == s.toList) = false := by rw [Lib.toList_data]; exact beq_eq_false_iff_ne.2 he
          clear hp he
          go_wp2_with (go_at_call 57; refine (num_any ((v : Int)) _ (by omega) (by omega)).mono ?_; rintro e w' ⟨rfl, d, rfl⟩)
          go_ret2
          exact ⟨congrArg Ending.returned hfin.out.symm, d, rfl⟩
  · have hfin := Lib.hid (parse_long s _ ht (.inr (by omega)))
    clear ht hc
    go_enter Tryd.func47, Tryd.ntmps47
    go_wp2_with fail
    refine (in_high _ _ _ _ (by omega) (by omega)).mono ?_
    rintro e w' ⟨rfl, rfl⟩
    go_wp2_with fail
    go_ret2
    exact ⟨congrArg Ending.returned hfin.out.symm, 0, rfl⟩

set_option maxHeartbeats 1000000 in
theorem read_short (s : ByteArray) (w : World) (h1 : s.size ≤ 1) :
    Calls Tryd.prog 47 #[.string s] w fun e w' => e = .returned (readV s.data.toList) ∧ ∃ d, w' = w.drewN d := by
  have ht := tail_plain s (.inl h1)
  by_cases h6 : 1 ≤ s.size
  · have HT : Tl s s := ⟨ht, by omega, by omega⟩
    clear ht
    go_enter Tryd.func47, Tryd.ntmps47
    go_wp2_with fail
    refine (in_yes _ _ _ _ (by omega) (by omega)).mono ?_
    rintro e w' ⟨rfl, rfl⟩
    go_wp2_with fail
    go_loop [5, 6] (fun n i => ∃ k : Nat, k ≤ s.size ∧ i = .int .i64 k ∧ n = .int .i64 (val (s.data.toList.take k) : Int) ∧ Hid (∀ c ∈ s.data.toList.take k, 48 ≤ c.toNat ∧ c.toNat ≤ 57)) (fun _ i => s.size - (intOf i).toNat)
    case atStart => exact ⟨0, Nat.zero_le _, rfl, rfl, Lib.hid (by simp)⟩
    case round =>
      obtain ⟨k, hk, rfl, rfl, hd⟩ := hrel
      by_cases hlt : k < s.size
      · by_cases hlo : s[k].toNat < 48
        · have hfin := Lib.hid (HT.bad hlt (.inl hlo))
          go_wp2
          go_ret2
          exact ⟨congrArg Ending.returned hfin.out.symm, 0, rfl⟩
        · by_cases hhi : 57 < s[k].toNat
          · have hfin := Lib.hid (HT.bad hlt (.inr hhi))
            go_wp2
            go_ret2
            exact ⟨congrArg Ending.returned hfin.out.symm, 0, rfl⟩
          · have hv := val_bound s k HT.six hd.out
            have HS := Lib.hid (val_step s k hlt (by omega))
            have HD := Lib.hid (dig_step s k hlt (by omega) (by omega) hd.out)
            go_wp2
            go_round
            case rel => exact ⟨k + 1, by omega, by go_num, by rw [HS.out], HD⟩
            case measure => simp [intOf]; omega
      · obtain rfl : s.size = k := by omega
        obtain ⟨hp, b0, b1, hr⟩ := HT.read hd.out
        rw [if_neg (by omega)] at hr
        have hv := val_bound s s.size HT.six hd.out
        generalize val (s.data.toList.take s.size) = v at *
        rw [hr] at hp
        clear hr hd hlt b0 b1
        by_cases he : itoa ((v : Int)) = s.data.toList
        · have hfin := Lib.hid (readV_some (hp.trans (if_pos he)))
          have hE : (itoa ((v : Int)) == s.toList) = true := by rw [Lib.toList_data]; exact beq_iff_eq.2 he
          clear hp he
          go_wp2_with (go_at_call 57; refine (num_any ((v : Int)) _ (by omega) (by omega)).mono ?_; rintro e w' ⟨rfl, d, rfl⟩)
          go_ret2
          exact ⟨congrArg Ending.returned hfin.out.symm, d, rfl⟩
        · have hfin := Lib.hid (readV_none (hp.trans (if_neg he)))
          have hE : (itoa ((v : Int)) == s.toList) = false := by rw [Lib.toList_data]; exact beq_eq_false_iff_ne.2 he
          clear hp he
          go_wp2_with (go_at_call 57; refine (num_any ((v : Int)) _ (by omega) (by omega)).mono ?_; rintro e w' ⟨rfl, d, rfl⟩)
          go_ret2
          exact ⟨congrArg Ending.returned hfin.out.symm, d, rfl⟩
  · have hfin := Lib.hid (parse_long s _ ht (.inl (by omega)))
    clear ht
    go_enter Tryd.func47, Tryd.ntmps47
    go_wp2_with fail
    refine (in_low _ _ _ _ (by omega)).mono ?_
    rintro e w' ⟨rfl, rfl⟩
    go_wp2_with fail
    go_ret2
    exact ⟨congrArg Ending.returned hfin.out.symm, 0, rfl⟩

/-- l1Read: the number of a text, if it has one. -/
theorem read_any (s : ByteArray) (w : World) (hs : s.size ≤ maxLen) :
    Calls Tryd.prog 47 #[.string s] w fun e w' => e = .returned (readV s.data.toList) ∧ ∃ d, w' = w.drewN d := by
  by_cases h1 : 1 < s.size
  · by_cases hc : s[0].toNat = 45
    · exact read_minus s w hs h1 hc
    · exact read_plain s w hs h1 hc
  · exact read_short s w (by omega)

end Go.Proofs.YtpdkphokinhhdaaDoor.S1
