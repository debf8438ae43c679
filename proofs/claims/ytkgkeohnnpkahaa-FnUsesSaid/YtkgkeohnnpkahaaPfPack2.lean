/- What the functions of the law FnUses give, valid or not, in one word each; the law's sum of numbers. Conditions: each theorem's own premises. -/
import Derived.Test.YtkgkeohnnpkahaaPfMath2
import Derived.Test.YtkgkeohnnpkahaaPfPack
import Derived.Test.YtkgkeohnnpkahaaPfMix
namespace Go.Proofs.Ytkgkeohnnpkahaa.S6
open Go.RowKit P6

theorem vol_pack (l : List Int) (b x y : Int) (hm : l.length ≤ 1048576) : ∃ (f s : Int) (ok : Bool),
    Hid (∀ A c w, IAt w A l → Calls Try.prog 32 #[dv A l.length c, .int .i64 b, .int .i64 x, .int .i64 y] w (Gives3 f s ok w)) ∧
    Hid (∀ A c w, IAt w A l → Calls Try.prog 33 #[dv A l.length c, .int .i64 b, .int .i64 x, .int .i64 y] w (Gives3 f s ok w)) ∧
    Hid (ok = true → ∃ B X Y : Nat, b = (B : Int) ∧ x = (X : Int) ∧ y = (Y : Int) ∧ B ≤ 100000 ∧ X < 24 ∧ Y ≤ 24 ∧ Gd l ∧ f = lowN (volN l B X Y) 100 ∧ s = lowD (volN l B X Y) 100) := by
  cases hn : gdB l && baB b && hoB x && hsB y with
  | false => exact ⟨0, 0, false, Lib.hid fun A c w h => vol_no A c l b x y w h hm hn, Lib.hid fun A c w h => svol_no A c l b x y w h hm hn, Lib.hid fun h => by cases h⟩
  | true =>
    simp only [Bool.and_eq_true] at hn
    obtain ⟨⟨⟨hg, hb⟩, hx⟩, hy⟩ := hn
    have hb' : 0 ≤ b ∧ b ≤ 100000 := by simpa [baB] using hb
    have hx' : 0 ≤ x ∧ x ≤ 23 := by simpa [hoB] using hx
    have hy' : 0 ≤ y ∧ y ≤ 24 := by simpa [hsB] using hy
    obtain ⟨B, rfl⟩ := nat_of hb'.1
    obtain ⟨X, rfl⟩ := nat_of hx'.1
    obtain ⟨Y, rfl⟩ := nat_of hy'.1
    exact ⟨_, _, true, Lib.hid fun A c w h => vol_yes A c l B X Y w h (gd_of hg) (by omega) (by omega) (by omega), Lib.hid fun A c w h => svol_yes A c l B X Y w h (gd_of hg) (by omega) (by omega) (by omega), Lib.hid fun _ => ⟨B, X, Y, rfl, rfl, rfl, by omega, by omega, by omega, gd_of hg, rfl, rfl⟩⟩
theorem sto_pack (l : List Int) (b : Int) (hm : l.length ≤ 1048576) : ∃ (f s : Int) (ok : Bool),
    Hid (∀ A c w, IAt w A l → Calls Try.prog 35 #[dv A l.length c, .int .i64 b] w (Gives3 f s ok w)) ∧
    Hid (∀ A c w, IAt w A l → Calls Try.prog 36 #[dv A l.length c, .int .i64 b] w (Gives3 f s ok w)) ∧ Hid (ok = true → ¬ f < 0 ∧ ∃ B : Nat, b = (B : Int) ∧ B ≤ 100000) := by
  cases hn : gdB l && baB b with
  | false => exact ⟨0, 0, false, Lib.hid fun A c w h => sto_no A c l b w h hm hn, Lib.hid fun A c w h => ssto_no A c l b w h hm hn, Lib.hid fun h => by cases h⟩
  | true =>
    simp only [Bool.and_eq_true] at hn
    obtain ⟨hg, hb⟩ := hn
    have hb' : 0 ≤ b ∧ b ≤ 100000 := by simpa [baB] using hb
    obtain ⟨B, rfl⟩ := nat_of hb'.1
    exact ⟨_, _, true, Lib.hid fun A c w h => sto_yes A c l B w h (gd_of hg) (by omega), Lib.hid fun A c w h => ssto_yes A c l B w h (gd_of hg) (by omega), Lib.hid fun _ => ⟨by have := (low_le (stoN l B) 100).1; omega, B, rfl, by omega⟩⟩
theorem sto_flat_any (A : Option Addr) (c : Nat) (B : Nat) (hB : B ≤ 100000) (w : World) (h : IAt w A flatL) : Calls Try.prog 35 #[dv A flatL.length c, .int .i64 (B : Int)] w (Gives3 0 (lowD 0 100) true w) := by
  have := sto_yes A c flatL B w h flat_gd hB
  rwa [show stoN flatL B = 0 from sto_flat B, low_zero] at this
theorem use_pack (l : List Int) (b x : Int) (hm : l.length ≤ 1048576) : ∃ (f s : Int) (ok : Bool),
    Hid (∀ A c w, IAt w A l → Calls Try.prog 42 #[dv A l.length c, .int .i64 b, .int .i64 x] w (Gives3 f s ok w)) ∧
    Hid (∀ A c w, IAt w A l → Calls Try.prog 43 #[dv A l.length c, .int .i64 b, .int .i64 x] w (Gives3 f s ok w)) := by
  cases hn : gdB l && baB b && hoB x with
  | false => exact ⟨0, 0, false, Lib.hid fun A c w h => use_no A c l b x w h hm hn, Lib.hid fun A c w h => suse_no A c l b x w h hm hn⟩
  | true =>
    simp only [Bool.and_eq_true] at hn
    obtain ⟨⟨hg, hb⟩, hx⟩ := hn
    have hb' : 0 ≤ b ∧ b ≤ 100000 := by simpa [baB] using hb
    have hx' : 0 ≤ x ∧ x ≤ 23 := by simpa [hoB] using hx
    obtain ⟨B, rfl⟩ := nat_of hb'.1
    obtain ⟨X, rfl⟩ := nat_of hx'.1
    exact ⟨_, _, true, Lib.hid fun A c w h => use_yes A c l B X w h (gd_of hg) (by omega) (by omega), Lib.hid fun A c w h => suse_yes A c l B X w h (gd_of hg) (by omega) (by omega)⟩
def GivesM (w : World) (l : List Int) (ok : Bool) (e : Ending) (w' : World) : Prop :=
  ∃ A cap, e = .returned (.tuple #[.slice A l.length cap, .bool ok]) ∧ IAt w' A l ∧ Below w.heap.size w w'
theorem m_of {w w' : World} {l : List Int} {ok : Bool} {e : Ending} (h : GivesA w l ok e w') : GivesM w l ok e w' := by
  obtain ⟨g, o, cap, he, _, ha, hb, _⟩ := h
  exact ⟨some ⟨g, o, none⟩, cap, he, ha, hb⟩
theorem mix_pack (l l2 : List Int) (s : Int) (hm : l.length ≤ 1048576) (hm2 : l2.length ≤ 1048576) : ∃ (L : List Int) (ok : Bool),
    Hid (∀ A c A2 c2 w, IAt w A l → IAt w A2 l2 → Calls Try.prog 38 #[dv A l.length c, dv A2 l2.length c2, .int .i64 s] w (GivesM w L ok)) ∧
    Hid (∀ A c A2 c2 w, IAt w A l → IAt w A2 l2 → Calls Try.prog 39 #[dv A l.length c, dv A2 l2.length c2, .int .i64 s] w (GivesM w L ok)) ∧ L.length ≤ 24 ∧
    Hid (ok = true → L.length = 24 ∧ (∀ i, i < 24 → 0 ≤ at0 L i ∧ at0 L i ≤ 200000) ∧ sm L 24 = 240000) := by
  cases hn : gdB l && gdB l2 && scB s with
  | false => exact ⟨[], false, Lib.hid fun A c A2 c2 w h h2 => (mix_no A c l A2 c2 l2 s w h hm h2 hm2 hn).mono fun _ _ h => m_of h.any, Lib.hid fun A c A2 c2 w h h2 => (smix_no A c l A2 c2 l2 s w h hm h2 hm2 hn).mono fun _ _ h => m_of h, by simp, Lib.hid fun h => by cases h⟩
  | true =>
    simp only [Bool.and_eq_true] at hn
    obtain ⟨⟨hg, hg2⟩, hs⟩ := hn
    have hs' : 0 ≤ s ∧ s ≤ 100 := by simpa [scB] using hs
    refine ⟨mxL l l2 s 24, true, Lib.hid fun A c A2 c2 w h h2 => (mix_yes A c l A2 c2 l2 s w h (gd_of hg) h2 (gd_of hg2) hs'.1 hs'.2).mono fun _ _ h => m_of h.any, Lib.hid fun A c A2 c2 w h h2 => (smix_yes A c l A2 c2 l2 s w h (gd_of hg) h2 (gd_of hg2) hs'.1 hs'.2).mono fun _ _ h => m_of h, by rw [mxL_len]; omega, Lib.hid fun _ => ⟨mxL_len _ _ _ _, fun i hi => ?_, mx_sum (gd_of hg) (gd_of hg2) s⟩⟩
    rw [mxL_at l l2 s 24 i hi]
    have a1 := (gd_of hg).2.1 i hi
    have a2 := (gd_of hg2).2.1 i hi
    have m1 := mix_bd a1.1 a1.2 hs'.1 hs'.2
    have m2 := mix_bd a2.1 a2.2 (show 0 ≤ 100 - s by omega) (by omega)
    omega
set_option maxHeartbeats 1000000 in
theorem rsum_any (A : Option Addr) (cap n : Nat) (l : List Int) (w : World) (h : IAt w A l) (hl : l.length = n) (hn : n = 24) (hb : ∀ i, i < 24 → 0 ≤ at0 l i ∧ at0 l i ≤ 200000) :
    Calls Try.prog 40 #[.slice A n cap] w fun e w' => e = .returned (.int .i64 (sm l 24)) ∧ Below w.heap.size w w' := by
  subst hn
  have HA := Lib.hid h
  have HL := Lib.hid hl
  have HB := Lib.hid hb
  have HS := Lib.hid (show ∀ k, k ≤ 24 → 0 ≤ sm l k ∧ sm l k ≤ 200000 * (k : Int) by
    intro k
    induction k with
    | zero => intro _; simp [sm]
    | succ k ih => intro hk; have h1 := ih (by omega); have h2 := hb k (by omega); simp only [sm]; omega)
  clear h hl hb
  go_enter Try.func40, Try.ntmps40
  go_wp2
  go_loopw [3, 4] (fun s i wr => ∃ k : Nat, k ≤ 24 ∧ s = .int .i64 (sm l k) ∧ i = .int .i64 k ∧ Below w.heap.size w wr) (fun _ i _ => 24 - (intOf i).toNat)
  case atStart => exact ⟨0, by omega, rfl, rfl, Below.refl _ _⟩
  case round =>
    obtain ⟨k, hk, rfl, rfl, hb⟩ := hrel
    have bs := HS.out k hk
    by_cases hlt : k < 24
    · obtain ⟨b, off, hA, hbl, h1⟩ := HA.out.at_ (i := k) (by rw [HL.out]; omega)
      subst hA
      obtain ⟨hc, hf⟩ := bcell hb
      have hat : l.getD k 0 = at0 l k := rfl
      rw [hat] at h1
      have bx := HB.out k hlt
      have hadd := Lib.hid (show sm l k + at0 l k = sm l (k + 1) from rfl)
      generalize at0 l k = x at *
      generalize hS : sm l k = S0 at *
      clear hS
      go_wp2
      go_roundw
      case rel => exact ⟨k + 1, by omega, by rw [← hadd.out], by go_num, hb⟩
      case measure => simp [intOf]; omega
    · have e : k = 24 := by omega
      subst e
      go_wp2
      go_ret
      exact ⟨rfl, hb⟩
end Go.Proofs.Ytkgkeohnnpkahaa.S6
