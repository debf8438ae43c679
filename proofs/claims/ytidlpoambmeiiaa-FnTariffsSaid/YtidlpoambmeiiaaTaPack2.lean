/- What the program's and the model's functions of chapter 14 give for one tariff and one volume, in one word; the laws' comparison and sum of numbers. Conditions: each theorem's own premises. -/
import Derived.Test.YtidlpoambmeiiaaTaPack
import Derived.Test.YtidlpoambmeiiaaTaSame
import Derived.Test.YtidlpoambmeiiaaTaSpl
import Derived.Test.YtidlpoambmeiiaaTaPr
import Derived.Test.YtidlpoambmeiiaaTaSm
import Derived.Test.YtidlpoambmeiiaaTaSmS
import Derived.BigQuiet
namespace Go.Proofs.Ytidlpoambmeiiaa.S14
open Go.RowKit P14

/-- A list beside a bool. -/
def GivesL (w : World) (l : List Int) (ok : Bool) (e : Ending) (w' : World) : Prop :=
  ∃ A c, e = .returned (.tuple #[.slice A l.length c, .bool ok]) ∧ IAt w' A l ∧ Below w.heap.size w w'
theorem GivesI.l {w w' : World} {l : List Int} {ok : Bool} {e : Ending} (h : GivesI w l ok e w') : GivesL w l ok e w' := by
  obtain ⟨g, cap, rfl, _, ho, hb⟩ := h
  exact ⟨_, cap, rfl, ho.iat, hb⟩
theorem sm_r {t : Ta} {R : Ta} {ok : Bool} (hR : gB t = true → R = smT t ∧ ok = true) (hN : gB t = false → R = ⟨0, []⟩ ∧ ok = false) {w w' : World} {e : Ending} (h : SmI t w e w') : GivesTR w R ok e w' := by
  rcases h with ⟨hb, g, cap, he, _, ho, hb'⟩ | ⟨hb, he, hb'⟩
  · obtain ⟨rfl, rfl⟩ := hR hb
    refine ⟨_, cap, he, ⟨own_cat ho, ?_⟩, hb'⟩
    have := (smT_good (gB_of hb)).2.1.2
    omega
  · obtain ⟨rfl, rfl⟩ := hN hb
    exact ⟨none, 0, he, tat_nil, hb'⟩
set_option maxHeartbeats 1000000 in
theorem rsum_any (A : Option Addr) (cap : Nat) (l : List Int) (w : World) (h : IAt w A l) (hl : l.length ≤ 6) (hb : ∀ i, 0 ≤ l.getD i 0 ∧ l.getD i 0 ≤ 100000000) (hp : ∀ k, k ≤ l.length → 0 ≤ psum l k ∧ psum l k ≤ 1000000000) :
    Calls Try.prog 47 #[.slice A l.length cap] w fun e w' => e = .returned (.int .i64 (psum l l.length)) ∧ w' = w := by
  have HA := Lib.hid h
  have HB := Lib.hid hb
  have HP := Lib.hid hp
  clear h hb hp
  go_enter Try.func47, Try.ntmps47
  go_wp2
  go_loopw [3, 4] (fun s i wr => ∃ k : Nat, k ≤ l.length ∧ s = .int .i64 (psum l k) ∧ i = .int .i64 (k : Int) ∧ Hid (wr = w)) (fun _ i _ => l.length - (intOf i).toNat)
  case atStart => exact ⟨0, Nat.zero_le _, rfl, rfl, Lib.hid rfl⟩
  case round =>
    obtain ⟨k, hk, rfl, rfl, hw⟩ := hrel
    have hw' := hw.out
    clear hw
    subst hw'
    by_cases hlt : k < l.length
    · obtain ⟨b, off, hA, hbl, h0⟩ := HA.out.at_ hlt
      subst hA
      have hk0 : (0 : Int) ≤ (k : Int) := by omega
      have hkn : (k : Int) < (l.length : Int) := by omega
      have hp := HP.out k (by omega)
      have hq := HB.out k
      have HNX := Lib.hid (show psum l (k + 1) = psum l k + l.getD k 0 from rfl)
      generalize l.getD k 0 = y at *
      generalize psum l k = S at *
      go_wp2
      go_roundw
      case rel => exact ⟨k + 1, by omega, by rw [HNX.out], by go_num, Lib.hid (by trivial)⟩
      case measure => simp [intOf]; omega
    · have e : k = l.length := by omega
      subst e
      go_wp2
      go_ret
      exact ⟨rfl, rfl⟩
set_option maxHeartbeats 1000000 in
theorem rints_same (A A2 : Option Addr) (cap cap2 : Nat) (l : List Int) (w : World) (h : IAt w A l) (h2 : IAt w A2 l) (hn : l.length ≤ 1048576) :
    Calls Try.prog 45 #[.slice A l.length cap, .slice A2 l.length cap2] w fun e w' => e = .returned (.bool true) ∧ Below w.heap.size w w' := by
  have HA := Lib.hid h
  have HA2 := Lib.hid h2
  clear h h2
  go_enter Try.func45, Try.ntmps45
  go_wp2
  go_loopw [5] (fun i wr => ∃ (k d : Nat), k ≤ l.length ∧ i = .int .i64 k ∧ wr = w.drewN d) (fun i _ => l.length - (intOf i).toNat)
  case atStart => exact ⟨0, 0, Nat.zero_le _, rfl, rfl⟩
  case round =>
    obtain ⟨k, d, hk, rfl, rfl⟩ := hrel
    by_cases hlt : k < l.length
    · obtain ⟨b, off, hA, hbl, h0⟩ := HA.out.at_ hlt
      obtain ⟨b2, off2, hA2, hbl2, g0⟩ := HA2.out.at_ hlt
      subst hA hA2
      have hk0i : (0 : Int) ≤ (k : Int) := by omega
      have hk1i : (k : Int) < (l.length : Int) := by omega
      generalize l.getD k 0 = x at *
      go_wp2
      go_quiet (fail)
      go_wp2
      go_roundw
      case rel => exact ⟨k + 1, _, by omega, by go_num, rfl⟩
      case measure => simp [intOf]; omega
    · go_wp2
      go_ret
      exact ⟨rfl, below_drewN (Below.refl _ _) d⟩
abbrev Tells (f : FuncId) (t : Ta) (v x : Int) (b : Bool) : Prop := ∀ A c w, TAt w t A → Calls Try.prog f #[tv t A c, .int .i64 v] w (G2 x b w)
theorem cost_pack (t : Ta) (v : Int) : ∃ (C : Int) (k : Bool) (N : Int) (f : Bool) (L : List Int) (R : Ta) (g : Bool) (X : Int) (o : Bool),
    Hid (Tells 21 t v C k) ∧ Hid (Tells 20 t v C k) ∧ Hid (Tells 23 t v N f) ∧ Hid (Tells 22 t v N f) ∧
    Hid (∀ A c w, TAt w t A → Calls Try.prog 33 #[tv t A c, .int .i64 v] w (GivesL w L k)) ∧
    Hid (∀ A c w, TAt w t A → Calls Try.prog 32 #[tv t A c, .int .i64 v] w (GivesL w L k)) ∧
    Hid (∀ A c w, TAt w t A → Calls Try.prog 42 #[tv t A c] w (GivesTR w R g)) ∧
    Hid (∀ A c w, TAt w t A → Calls Try.prog 41 #[tv t A c] w (GivesTR w R g)) ∧
    Hid (∀ A c w, TAt w t A → Calls Try.prog 18 #[tv t A c] w fun e w' => e = .returned (.bool g) ∧ Below w.heap.size w w') ∧
    Hid (Tells 21 t (v + 1) X o) ∧ L.length ≤ 6 ∧ Hid (coR t v = C) ∧
    Hid (k = true → Tells 21 R v C true ∧ (∀ A c w, IAt w A L → Calls Try.prog 47 #[.slice A L.length c] w fun e w' => e = .returned (.int .i64 C) ∧ w' = w) ∧ L.getD 0 0 = t.fee ∧ 0 < L.length ∧ (0 ≤ v ∧ v ≤ 100000) ∧ (f = true → o = true ∧ IntKind.i64.wrap (X - C) = N)) := by
  refine ⟨coR t v, okV t v, nxR t v, nxV t v, spR t v, smR t, gB t, coR t (v + 1), okV t (v + 1), Lib.hid fun A c w h => cost_any t A c v w h, Lib.hid fun A c w h => scostof_any t A c v w h, Lib.hid fun A c w h => next_any t A c v w h, Lib.hid fun A c w h => snext_any t A c v w h, Lib.hid fun A c w h => (split_any t A c v w h).mono fun _ _ h => GivesI.l h, Lib.hid fun A c w h => (ssplitcost_any t A c v w h).mono fun _ _ h => GivesI.l h, Lib.hid fun A c w h => (simp_any t A c w h).mono fun _ _ h => ?_, Lib.hid fun A c w h => (ssimp_any t A c w h).mono fun _ _ h => ?_, Lib.hid fun A c w h => valid_any t A c w h, Lib.hid fun A c w h => cost_any t A c _ w h, spR_len t v, Lib.hid rfl, Lib.hid fun hk => ?_⟩
  · exact sm_r (fun hg => ⟨by unfold smR; rw [if_pos hg], hg⟩) (fun hg => ⟨by unfold smR; rw [hg]; rfl, hg⟩) h
  · exact sm_r (fun hg => ⟨by unfold smR; rw [if_pos hg], hg⟩) (fun hg => ⟨by unfold smR; rw [hg]; rfl, hg⟩) h
  · obtain ⟨g, h0, h9⟩ := okV_of hk
    have hR : smR t = smT t := by unfold smR; rw [if_pos (gB_mk g)]
    have e0 := spR_yes hk
    refine ⟨?_, ?_, ?_, ?_, ⟨h0, h9⟩, fun hf => ?_⟩
    · rw [hR, coR_yes hk, ← smT_cost g v]
      exact co_in (okV_mk (gB_mk (smT_good g)) ⟨h0, h9⟩)
    · intro A c w h
      rw [← coR_sum t v]
      exact rsum_any A c _ w h (spR_len t v) (spR_low t v) (fun k hk2 => by
        have h1 := psum_low t v k
        have h2 := spR_len t v
        omega)
    · rw [e0]; rfl
    · rw [e0, spL_len]; omega
    · obtain ⟨_, h2, h3⟩ := nx_cost hf
      have c1 := cost_le g v
      have c2 := cost_le g (v + 1)
      have c3 := g.1
      refine ⟨h2, ?_⟩
      rw [coR_yes h2, coR_yes hk, h3, ← h3]
      exact IntWalk.i64_in _ (by omega)
theorem mean_pack (t : Ta) (v C : Int) (hc : coR t v = C) : ∃ (M D : Int) (m : Bool),
    Hid (∀ A c w, TAt w t A → Calls Try.prog 27 #[tv t A c, .int .i64 v] w fun e w' => e = .returned (.tuple #[.int .i64 M, .int .i64 D, .bool m]) ∧ Below w.heap.size w w') ∧
    Hid (∀ A c w, TAt w t A → Calls Try.prog 26 #[tv t A c, .int .i64 v] w fun e w' => e = .returned (.tuple #[.int .i64 M, .int .i64 D, .bool m]) ∧ Below w.heap.size w w') ∧
    Hid (m = true → ∃ Z, IntKind.i64.wrap (M * v) = Z ∧ IntKind.i64.wrap (C * D) = Z) := by
  refine ⟨meN t v, meD t v, meV t v, Lib.hid fun A c w h => mean_any t A c v w h, Lib.hid fun A c w h => smean_any t A c v w h, Lib.hid fun hm => ⟨_, rfl, ?_⟩⟩
  obtain ⟨h1, h2, _⟩ := me_mul hm
  rw [← hc, coR_yes h2, h1]
theorem prog_pack (t : Ta) : ∃ (y g : Bool),
    Hid (∀ A c w, TAt w t A → Calls Try.prog 29 #[tv t A c] w fun e w' => e = .returned (.tuple #[.bool y, .bool g]) ∧ Below w.heap.size w w') ∧
    Hid (∀ A c w, TAt w t A → Calls Try.prog 28 #[tv t A c] w fun e w' => e = .returned (.tuple #[.bool y, .bool g]) ∧ Below w.heap.size w w') :=
  ⟨pgR t, gB t, Lib.hid fun A c w h => prog_any t A c w h, Lib.hid fun A c w h => sprog_any t A c w h⟩
end Go.Proofs.Ytidlpoambmeiiaa.S14
