/- What the program's JoinStrings returns: a contract. Conditions: each theorem's own premises. -/
import Derived.Test.YtcheogmnhooffaaJoinOne
namespace Go.Proofs.Ytcheogmnhooffaa.S1
open Go.RowKit P1

/-- A builder of the call's own that holds these bytes. -/
def Bld (B : Nat) (o : ByteArray) (w : World) : Prop := Lib.IsBuilder 55 5 B B (Lib.byteCells o.data.toList) w
theorem cells_add (o s : ByteArray) : Lib.byteCells o.data.toList ++ Lib.strCells s = Lib.byteCells (o ++ s).data.toList := by
  rw [Lib.strCells_eq]
  simp [Lib.byteCells, ByteArray.data_append]
theorem bld_len (o : ByteArray) : (Lib.byteCells o.data.toList).length = o.size := by simp [Lib.byteCells]
theorem bwrite (B : Nat) (o s : ByteArray) (w : World) (h : Bld B o w) (hlen : o.size + s.size ≤ 2000000) (hB : B ≤ w.heap.size) :
    Calls Try.prog 31 #[.pointer (some ⟨B, 0, none⟩), .string s] w fun e w' => e = .returned (.tuple #[.int .i64 s.size, .nilIface]) ∧ Bld B (o ++ s) w' ∧ Below B w w' :=
  (write_any B B _ s w h (by rw [bld_len]; omega) hB).mono fun e w' ⟨he, hI, hb⟩ => ⟨he, by unfold Bld; rw [← cells_add]; exact hI, hb⟩
theorem blen (B : Nat) (o : ByteArray) (w : World) (h : Bld B o w) :
    Calls Try.prog 32 #[.pointer (some ⟨B, 0, none⟩)] w fun e w' => e = .returned (.int .i64 o.size) ∧ w' = w :=
  (Try.Builder_Len B B _ w h).mono fun e w' ⟨he, hw⟩ => ⟨by rw [he, bld_len], hw⟩
theorem bstring (B : Nat) (o : ByteArray) (w : World) (h : Bld B o w) (hB : B ≤ w.heap.size) :
    Calls Try.prog 34 #[.pointer (some ⟨B, 0, none⟩)] w fun e w' => e = .returned (.string o) ∧ Below B w w' :=
  (Try.Builder_String_any B B _ w h hB).mono fun e w' ⟨he, hb⟩ => ⟨by rw [he], hb⟩
theorem bfresh (w : World) : Bld w.heap.size ⟨#[]⟩ (w.alloc (.cells #[.pointer none, .slice none 0 0] 55)) := Lib.fresh_isBuilder _ _ w

set_option maxHeartbeats 4000000 in
set_option maxRecDepth 100000 in
/-- JoinStrings of the program, at some parts and a separator of one byte. -/
theorem join_some (b0 off cap : Nat) (ss : List ByteArray) (b : UInt8) (w : World) (h : At w b0 off ss) (hn : ss.length ≤ 1048576) (h1 : 1 ≤ ss.length) (hz : ∀ j, j < ss.length → (ss.getD j ByteArray.empty).size ≤ 1048576) :
    Calls Try.prog 12 #[.slice (some ⟨b0, off, none⟩) ss.length cap, .string ⟨#[b]⟩] w fun e w' => e = .returned (jnV b ss) ∧ Below w.heap.size w w' := by
  have hb0 := h.1
  have HC := Lib.hid h.2
  have HZ := Lib.hid hz
  clear h hz
  have hn0 : ((ss.length : Int) == 0) = false := by rw [beq_eq_false_iff_ne]; omega
  have hs1 : (ByteArray.mk #[b]).size = 1 := rfl
  go_enter Try.func12, Try.ntmps12
  go_wp2
  go_loopw [19] (fun i wr => ∃ (k : Nat), k ≤ ss.length ∧ i = .int .i64 k ∧ Hid (Jn b (lists ss) k) ∧ Bld w.heap.size (joinB b ss k) wr ∧ Below w.heap.size w wr) (fun i _ => ss.length - (intOf i).toNat)
  case atStart => exact ⟨0, Nat.zero_le _, rfl, Lib.hid (Jn.start _ _), by rw [joinB_zero]; exact bfresh w, (Below.refl _ _).alloc (Nat.le_refl _) _⟩
  case round =>
    obtain ⟨k, hk, rfl, hj, hI, hB⟩ := hrel
    by_cases hlt : k < ss.length
    · have hc : wr.cell? ⟨b0, off + k, none⟩ = some (.string (ss.getD k ByteArray.empty)) := (hB.cell (p := ⟨b0, off + k, none⟩) hb0).trans (HC.out k hlt)
      have hs := HZ.out k hlt
      have H1 := Lib.hid (fun w => contains_byte (ss.getD k ByteArray.empty) b w)
      have hbad := Lib.hid (jnV_bad (b := b) hlt)
      have hstep := Lib.hid (jn_step (b := b) hj.out hlt)
      have ho := jn_le hj.out
      have hlong := Lib.hid (jnV_long (b := b) (ss := ss) (k := k + 1))
      have HI := Lib.hid hI
      have hBs := hB.size
      clear hI
      by_cases hz0 : k = 0
      · have hz' : ¬ (0 : Int) < (k : Int) := by omega
        have HN := Lib.hid (joinB_zero_next b ss k (by omega) hz0)
        have HS := Lib.hid (joinB_zero_size b ss k (by omega) hz0)
        clear hz0
        generalize ss.getD k ByteArray.empty = s at *
        generalize joinB b ss k = o at *
        generalize hJ : joinB b ss (k + 1) = n at HN HS hstep hlong
        have HJ := Lib.hid hJ
        clear hJ
        by_cases hle : o.size + s.size ≤ 4000
        · by_cases hst : stB s.data.toList b = true
          · have hfin := Lib.hid (hbad.out hst)
            rw [hst] at H1
            clear hst
            go_wp2_with (first | (go_at_call 32; refine (blen _ _ _ HI.out).mono ?_; rintro e w' ⟨rfl, rfl⟩) | (go_at_call 33; refine (H1.out _).mono ?_; rintro e w' ⟨rfl, rfl⟩))
            go_ret2
            exact ⟨congrArg Ending.returned hfin.out.symm, hB⟩
          · rw [Bool.not_eq_true] at hst
            have hnext := Lib.hid (hstep.out hst (by rw [HS.out]; exact hle))
            rw [hst] at H1
            clear hst
            go_wp2_with (first | (go_at_call 32; refine (blen _ _ _ HI.out).mono ?_; rintro e w' ⟨rfl, rfl⟩) | (go_at_call 33; refine (H1.out _).mono ?_; rintro e w' ⟨rfl, rfl⟩) | (go_at_call 31; refine (bwrite _ _ _ _ HI.out (by omega) hBs).mono ?_; rintro e w1 ⟨rfl, hI1, hb1⟩; have HI1 := Lib.hid hI1; clear hI1))
            go_roundw
            case rel => exact ⟨k + 1, by omega, by go_num, hnext, by rw [HJ.out, HN.out]; exact HI1.out, hB.trans hb1⟩
            case measure => simp [intOf]; omega
        · have hfin := Lib.hid (hlong.out (by rw [HS.out]; omega))
          go_wp2_with (go_at_call 32; refine (blen _ _ _ HI.out).mono ?_; rintro e w' ⟨rfl, rfl⟩)
          go_ret2
          exact ⟨congrArg Ending.returned hfin.out.symm, hB⟩
      · have hz' : (0 : Int) < (k : Int) := by omega
        have HN := Lib.hid (joinB_next b ss k hlt (by omega))
        have HS := Lib.hid (joinB_next_size b ss k hlt (by omega))
        have hos : (o' : ByteArray) → o'.size ≤ 4000 → (o' ++ ⟨#[b]⟩ : ByteArray).size = o'.size + 1 := fun o' _ => by rw [ByteArray.size_append]; rfl
        have HOS := Lib.hid hos
        clear hz0 hos
        generalize ss.getD k ByteArray.empty = s at *
        generalize joinB b ss k = o at *
        generalize hJ : joinB b ss (k + 1) = n at HN HS hstep hlong
        have HJ := Lib.hid hJ
        clear hJ
        obtain ⟨o2, ho2⟩ : ∃ o2 : ByteArray, o2 = o ++ ⟨#[b]⟩ := ⟨_, rfl⟩
        have ho2s : o2.size = o.size + 1 := by rw [ho2]; exact HOS.out o ho
        rw [← ho2] at HN
        have HO2 := Lib.hid ho2
        have HO2S := Lib.hid ho2s
        have ho2l : o2.size ≤ 4001 := by omega
        clear ho2 ho2s
        by_cases hle : o2.size + s.size ≤ 4000
        · by_cases hst : stB s.data.toList b = true
          · have hfin := Lib.hid (hbad.out hst)
            rw [hst] at H1
            clear hst
            go_wp2_with (go_at_call 31; refine (bwrite _ _ _ _ HI.out (by rw [hs1]; omega) hBs).mono ?_; rintro e w1 ⟨rfl, hI1, hb1⟩; refine Hid.out ?_)
            refine Lib.hid ?_
            rw [← HO2.out] at hI1
            have HI1 := Lib.hid hI1
            clear hI1
            go_wp2_with (first | (go_at_call 32; refine (blen _ _ _ HI1.out).mono ?_; rintro e w' ⟨rfl, rfl⟩) | (go_at_call 33; refine (H1.out _).mono ?_; rintro e w' ⟨rfl, rfl⟩))
            go_ret2
            exact ⟨congrArg Ending.returned hfin.out.symm, hB.trans hb1⟩
          · rw [Bool.not_eq_true] at hst
            have hnext := Lib.hid (hstep.out hst (by rw [HS.out]; have := HO2S.out; omega))
            rw [hst] at H1
            clear hst
            go_wp2_with (go_at_call 31; refine (bwrite _ _ _ _ HI.out (by rw [hs1]; omega) hBs).mono ?_; rintro e w1 ⟨rfl, hI1, hb1⟩; refine Hid.out ?_)
            refine Lib.hid ?_
            rw [← HO2.out] at hI1
            have HI1 := Lib.hid hI1
            have hBs1 : w.heap.size ≤ w1.heap.size := (hB.trans hb1).size
            clear hI1
            go_wp2_with (first | (go_at_call 32; refine (blen _ _ _ HI1.out).mono ?_; rintro e w' ⟨rfl, rfl⟩) | (go_at_call 33; refine (H1.out _).mono ?_; rintro e w' ⟨rfl, rfl⟩) | (go_at_call 31; refine (bwrite _ _ _ _ HI1.out (by omega) hBs1).mono ?_; rintro e w2 ⟨rfl, hI2, hb2⟩; have HI2 := Lib.hid hI2; clear hI2))
            go_roundw
            case rel => exact ⟨k + 1, by omega, by go_num, hnext, by rw [HJ.out, HN.out]; exact HI2.out, (hB.trans hb1).trans hb2⟩
            case measure => simp [intOf]; omega
        · have hfin := Lib.hid (hlong.out (by rw [HS.out]; have := HO2S.out; omega))
          go_wp2_with (go_at_call 31; refine (bwrite _ _ _ _ HI.out (by rw [hs1]; omega) hBs).mono ?_; rintro e w1 ⟨rfl, hI1, hb1⟩; refine Hid.out ?_)
          refine Lib.hid ?_
          rw [← HO2.out] at hI1
          have HI1 := Lib.hid hI1
          clear hI1
          go_wp2_with (go_at_call 32; refine (blen _ _ _ HI1.out).mono ?_; rintro e w' ⟨rfl, rfl⟩)
          go_ret2
          exact ⟨congrArg Ending.returned hfin.out.symm, hB.trans hb1⟩
    · have hfin := Lib.hid (jnV_done hj.out (by omega))
      have HI := Lib.hid hI
      have hBs := hB.size
      clear hI
      go_wp2_with (go_at_call 34; refine (bstring _ _ _ HI.out hBs).mono ?_; rintro e w1 ⟨rfl, hb1⟩)
      go_ret2
      exact ⟨congrArg Ending.returned hfin.out.symm, hB.trans hb1⟩

/-- JoinStrings of the program, where there are no parts or the separator is not one byte. -/
theorem join_none (v : Option Addr) (cap : Nat) (sep : ByteArray) (w : World) :
    Calls Try.prog 12 #[.slice v 0 cap, .string sep] w fun e w' => e = .returned (.tuple #[.string ⟨#[]⟩, .bool false]) ∧ w' = w := by
  go_enter Try.func12, Try.ntmps12
  go_wp2
  go_ret2
  exact ⟨rfl, rfl⟩
theorem join_sep (v : Option Addr) (n cap : Nat) (sep : ByteArray) (w : World) (hn : 1 ≤ n) (h : sep.size ≠ 1) :
    Calls Try.prog 12 #[.slice v n cap, .string sep] w fun e w' => e = .returned (.tuple #[.string ⟨#[]⟩, .bool false]) ∧ w' = w := by
  have h' : (((sep.size : Nat) : Int) != 1) = true := by rw [bne_iff_ne]; omega
  have hn0 : ((n : Int) == 0) = false := by rw [beq_eq_false_iff_ne]; omega
  clear h
  go_enter Try.func12, Try.ntmps12
  go_wp2
  go_ret2
  exact ⟨rfl, rfl⟩
end Go.Proofs.Ytcheogmnhooffaa.S1
