/- Whether a profile, a base and an hour are valid: what the program and the model return: contracts. Conditions: each theorem's own premises. -/
import Derived.Test.YtkgkeohnnpkahaaPfKit
namespace Go.Proofs.Ytkgkeohnnpkahaa.S6
open Go.RowKit P6

def GoodPost (l : List Int) (w : World) (e : Ending) (w' : World) : Prop := e = .returned (.bool (gdB l)) ∧ Below w.heap.size w w'
theorem good_post {l : List Int} {w w' : World} {v : Bool} (h : gdB l = v) (hb : Below w.heap.size w w') : GoodPost l w (.returned (.bool v)) w' := ⟨by rw [h], hb⟩

set_option maxHeartbeats 1000000 in
theorem valid_any (A : Option Addr) (cap : Nat) (l : List Int) (w : World) (h : IAt w A l) (_hm : l.length ≤ 1048576) :
    Calls Try.prog 21 #[dv A l.length cap] w (GoodPost l w) := by
  have HA := Lib.hid h
  clear h
  by_cases hl : l.length = 24
  · rw [hl]
    go_enter Try.func21, Try.ntmps21
    go_wp2
    go_loopw [3, 13] (fun s i wr => ∃ k : Nat, k ≤ 24 ∧ s = .int .i64 (sm l k) ∧ i = .int .i64 k ∧ Hid (In l k) ∧ Below (w.heap.size + 1) (w.alloc (.cells #[.slice A 24 cap] 26)) wr) (fun _ i _ => 24 - (intOf i).toNat)
    case atStart => exact ⟨0, Nat.zero_le _, rfl, rfl, Lib.hid (In.zero _), Below.refl _ _⟩
    case round =>
      obtain ⟨k, hk, rfl, rfl, hin, hb⟩ := hrel
      have hsm := sm_bound hin.out
      by_cases hlt : k < 24
      · obtain ⟨b, off, hA, hbl, h0⟩ := HA.out.at_ (show k < l.length by omega)
        subst hA
        obtain ⟨hc, hf⟩ := bcell (W := w.alloc (.cells #[.slice (some ⟨b, off, none⟩) 24 cap] 26)) (by simpa using hb)
        have hbad := Lib.hid (fun h => gd_bad (l := l) (k := k) (by omega) h)
        have hnext := Lib.hid (fun h0 h1 => hin.out.next (k := k) h0 h1)
        have hadd := Lib.hid (show sm l k + at0 l k = sm l (k + 1) from rfl)
        have hat : l.getD k 0 = at0 l k := rfl
        rw [hat] at h0
        generalize at0 l k = x at *
        generalize hS : sm l k = S at *
        clear hS
        by_cases hx : 0 ≤ x ∧ x ≤ 1000
        · obtain ⟨hx0, hx9⟩ := hx
          go_wp2
          go_roundw
          case rel => exact ⟨k + 1, by omega, by rw [← hadd.out], by go_num, Lib.hid (hnext.out hx0 hx9), hb⟩
          case measure => simp [intOf]; omega
        · have hfin := Lib.hid (hbad.out (by omega))
          by_cases hx0 : x < 0
          · clear hx
            go_wp2
            go_ret
            exact good_post hfin.out (below_box hb)
          · have hx9 : 1000 < x := by omega
            clear hx
            go_wp2
            go_ret
            exact good_post hfin.out (below_box hb)
      · have e : k = 24 := by omega
        subst e
        have hfin := Lib.hid (gd_end hl hin.out)
        generalize sm l 24 = S at *
        go_wp2
        go_ret
        exact good_post hfin.out (below_box hb)
  · have hfin := Lib.hid (gd_len hl)
    have hl2 : ¬ ((l.length : Int) = 24) := by omega
    go_enter Try.func21, Try.ntmps21
    go_wp2
    go_ret
    exact good_post hfin.out ((Below.refl _ _).alloc (Nat.le_refl _) _)

set_option maxHeartbeats 1000000 in
theorem sgood_n (A : Option Addr) (cap n : Nat) (l : List Int) (w : World) (h : IAt w A l) (hn : l.length = n) (hm : n ≤ 1048576) :
    Calls Try.prog 57 #[dv A n cap] w (GoodPost l w) := by
  have HA := Lib.hid h
  have HN := Lib.hid hn
  clear h hn
  go_enter Try.func57, Try.ntmps57
  go_wp2
  go_loopw [3, 4] (fun s i wr => ∃ k : Nat, k ≤ n ∧ s = .int .i64 (sm l k) ∧ i = .int .i64 k ∧ Hid (In l k) ∧ Below (w.heap.size + 1) (w.alloc (.cells #[.slice A n cap] 26)) wr) (fun _ i _ => n - (intOf i).toNat)
  case atStart => exact ⟨0, Nat.zero_le _, rfl, rfl, Lib.hid (In.zero _), Below.refl _ _⟩
  case round =>
    obtain ⟨k, hk, rfl, rfl, hin, hb⟩ := hrel
    have hsm := sm_bound hin.out
    have hbx := box1 hb
    by_cases hlt : k < n
    · obtain ⟨b, off, hA, hbl, h0⟩ := HA.out.at_ (show k < l.length by rw [HN.out]; exact hlt)
      subst hA
      obtain ⟨hc, hf⟩ := bcell (W := w.alloc (.cells #[.slice (some ⟨b, off, none⟩) n cap] 26)) (by simpa using hb)
      have hbad := Lib.hid (fun h => gd_bad (l := l) (k := k) (by rw [HN.out]; exact hlt) h)
      have hnext := Lib.hid (fun h0 h1 => hin.out.next (k := k) h0 h1)
      have hadd := Lib.hid (show sm l k + at0 l k = sm l (k + 1) from rfl)
      have hat : l.getD k 0 = at0 l k := rfl
      rw [hat] at h0
      generalize at0 l k = x at *
      generalize hS : sm l k = S at *
      clear hS
      by_cases hx : 0 ≤ x ∧ x ≤ 1000
      · have H1 := Lib.hid (fun w => in_eq x 0 1000 true (by simpa using hx) w)
        go_wp2_with (go_at_call 65; refine (H1.out _).mono ?_; rintro e w' ⟨rfl, hw⟩; replace hw := hw.symm; subst hw)
        go_roundw
        case rel => exact ⟨k + 1, by omega, by rw [← hadd.out], by go_num, Lib.hid (hnext.out (by omega) (by omega)), hb⟩
        case measure => simp [intOf]; omega
      · have H1 := Lib.hid (fun w => in_eq x 0 1000 false (by simpa using hx) w)
        go_wp2_with (go_at_call 65; refine (H1.out _).mono ?_; rintro e w' ⟨rfl, hw⟩; replace hw := hw.symm; subst hw)
        go_ret
        exact good_post (hbad.out (by omega)) (below_box hb)
    · have e : k = n := by omega
      subst e
      by_cases hl : k = 24
      · subst hl
        have hfin := Lib.hid (gd_end HN.out hin.out)
        generalize sm l 24 = S at *
        go_wp2
        all_goals
          go_ret
          exact good_post hfin.out (below_box hb)
      · have hfin := Lib.hid (gd_len (l := l) (by rw [HN.out]; exact hl))
        generalize sm l k = S at *
        go_wp2
        go_ret
        exact good_post hfin.out (below_box hb)
theorem sgood_any (A : Option Addr) (cap : Nat) (l : List Int) (w : World) (h : IAt w A l) (hm : l.length ≤ 1048576) :
    Calls Try.prog 57 #[dv A l.length cap] w (GoodPost l w) := sgood_n A cap _ l w h rfl hm

theorem svalid_any (A : Option Addr) (cap : Nat) (l : List Int) (w : World) (h : IAt w A l) (hm : l.length ≤ 1048576) :
    Calls Try.prog 45 #[dv A l.length cap] w (GoodPost l w) := by
  have H := Lib.hid (fun w' (hb : Below w.heap.size w w') => sgood_any A cap l w' (h.kept hb (Nat.le_refl _)) hm)
  clear h
  generalize gdB l = v at *
  go_enter Try.func45, Try.ntmps45
  go_wp2_with (go_at_call 57; refine (H.out _ ((Below.refl _ _).alloc (Nat.le_refl _) _)).mono ?_; rintro e w' ⟨rfl, hb⟩)
  go_ret
  exact ⟨rfl, ((Below.refl _ _).alloc (Nat.le_refl _) _).trans (hb.mono (by simp))⟩

theorem valid_v {l : List Int} {v : Bool} (hv : gdB l = v) (A : Option Addr) (cap : Nat) (w : World) (h : IAt w A l) (hm : l.length ≤ 1048576) :
    Calls Try.prog 21 #[dv A l.length cap] w fun e w' => e = .returned (.bool v) ∧ Below w.heap.size w w' := by
  rw [← hv]; exact valid_any A cap l w h hm
theorem sgood_v {l : List Int} {v : Bool} (hv : gdB l = v) (A : Option Addr) (cap : Nat) (w : World) (h : IAt w A l) (hm : l.length ≤ 1048576) :
    Calls Try.prog 57 #[dv A l.length cap] w fun e w' => e = .returned (.bool v) ∧ Below w.heap.size w w' := by
  rw [← hv]; exact sgood_any A cap l w h hm

def baB (b : Int) : Bool := decide (0 ≤ b ∧ b ≤ 100000)
def hoB (x : Int) : Bool := decide (0 ≤ x ∧ x ≤ 23)
theorem sbase_any (b : Int) (w : World) : Calls Try.prog 75 #[.int .i64 b] w fun e w' => e = .returned (.bool (baB b)) ∧ w' = w := by
  have H1 := Lib.hid (fun w => in_any b 0 100000 w)
  unfold baB
  generalize decide (0 ≤ b ∧ b ≤ 100000) = v at *
  go_enter Try.func75, Try.ntmps75
  go_wp2_with (go_at_call 65; refine (H1.out _).mono ?_; rintro e w' ⟨rfl, hw⟩; replace hw := hw.symm; subst hw)
  go_ret
  exact ⟨rfl, rfl⟩
theorem shour_any (b : Int) (w : World) : Calls Try.prog 58 #[.int .i64 b] w fun e w' => e = .returned (.bool (hoB b)) ∧ w' = w := by
  have H1 := Lib.hid (fun w => in_any b 0 23 w)
  unfold hoB
  generalize decide (0 ≤ b ∧ b ≤ 23) = v at *
  go_enter Try.func58, Try.ntmps58
  go_wp2_with (go_at_call 65; refine (H1.out _).mono ?_; rintro e w' ⟨rfl, hw⟩; replace hw := hw.symm; subst hw)
  go_ret
  exact ⟨rfl, rfl⟩
theorem base_any (b : Int) (w : World) : Calls Try.prog 73 #[.int .i64 b] w fun e w' => e = .returned (.bool (baB b)) ∧ w' = w := by
  by_cases h1 : 0 ≤ b
  · have e : baB b = decide (b ≤ 100000) := by simp [baB, h1]
    rw [e]
    go_enter Try.func73, Try.ntmps73
    go_wp2
    go_ret
    exact ⟨rfl, rfl⟩
  · have e : baB b = false := by simp [baB, h1]
    rw [e]
    go_enter Try.func73, Try.ntmps73
    go_wp2
    go_ret
    exact ⟨rfl, rfl⟩
theorem hour_any (b : Int) (w : World) : Calls Try.prog 56 #[.int .i64 b] w fun e w' => e = .returned (.bool (hoB b)) ∧ w' = w := by
  by_cases h1 : 0 ≤ b
  · by_cases h2 : b ≤ 23
    · have e : hoB b = true := by simp [hoB, h1, h2]
      rw [e]
      go_enter Try.func56, Try.ntmps56
      go_wp2
      go_ret
      exact ⟨by congr 2; simp; omega, rfl⟩
    · have e : hoB b = false := by simp [hoB, h2]
      rw [e]
      go_enter Try.func56, Try.ntmps56
      go_wp2
      go_ret
      exact ⟨by congr 2; simp; omega, rfl⟩
  · have e : hoB b = false := by simp [hoB, h1]
    rw [e]
    go_enter Try.func56, Try.ntmps56
    go_wp2
    go_ret
    exact ⟨rfl, rfl⟩
end Go.Proofs.Ytkgkeohnnpkahaa.S6
