/- What the program's and the model's functions of chapter 14 give, valid or not, in one word each; the laws' comparison of tariffs. Conditions: each theorem's own premises. -/
import Derived.Test.YtidlpoambmeiiaaTaNx
import Derived.Test.YtidlpoambmeiiaaTaNxS
import Derived.Test.YtidlpoambmeiiaaTaCh
import Derived.Test.YtidlpoambmeiiaaTaChS
import Derived.Test.YtidlpoambmeiiaaTaRz
import Derived.Test.YtidlpoambmeiiaaTaRzS
import Derived.Test.YtidlpoambmeiiaaTaSplS
namespace Go.Proofs.Ytidlpoambmeiiaa.S14
open Go.RowKit P14

/-- A call that tells a number and a bool. -/
abbrev G2 (x : Int) (b : Bool) (w : World) (e : Ending) (w' : World) : Prop := e = .returned (.tuple #[.int .i64 x, .bool b]) ∧ Below w.heap.size w w'
def GivesTR (w : World) (t : Ta) (ok : Bool) (e : Ending) (w' : World) : Prop :=
  ∃ A c, e = .returned (.tuple #[tv t A c, .bool ok]) ∧ TAt w' t A ∧ Below w.heap.size w w'
theorem co_in {t : Ta} {v : Int} (g : okV t v = true) (A : Option Addr) (c : Nat) (w : World) (h : TAt w t A) : Calls Try.prog 21 #[tv t A c, .int .i64 v] w (G2 (cost t v) true w) :=
  cost_w (coR_yes g) g A c w h
theorem vol_pack (t : Ta) (z : Int) : ∃ (v : Int) (ok : Bool) (C D : Int) (o2 : Bool),
    Hid (∀ A c w, TAt w t A → Calls Try.prog 25 #[tv t A c, .int .i64 z] w (G2 v ok w)) ∧
    Hid (∀ A c w, TAt w t A → Calls Try.prog 24 #[tv t A c, .int .i64 z] w (G2 v ok w)) ∧
    Hid (ok = true → (∀ A c w, TAt w t A → Calls Try.prog 21 #[tv t A c, .int .i64 v] w (G2 C true w)) ∧ (∀ A c w, TAt w t A → Calls Try.prog 21 #[tv t A c, .int .i64 (v + 1)] w (G2 D o2 w)) ∧ C ≤ z ∧ (o2 = true → z < D) ∧ 0 ≤ v ∧ v ≤ 100000) := by
  refine ⟨vfR t z, vfV t z, cost t (vfR t z), coR t (vfR t z + 1), okV t (vfR t z + 1), Lib.hid fun A c w h => volume_any t A c z w h, Lib.hid fun A c w h => svolume_any t A c z w h, Lib.hid fun h => ?_⟩
  obtain ⟨g, _⟩ := vfV_of h
  obtain ⟨hv, hc, hn⟩ := vfR_in h
  refine ⟨co_in (okV_mk g hv), fun A c w h => cost_any t A c _ w h, hc, fun ho => ?_, hv⟩
  obtain ⟨_, h1, h2⟩ := okV_of ho
  rw [coR_yes ho]
  exact hn (by omega)
theorem cheap_pack (a b : Ta) : ∃ (n : Int) (ok : Bool) (X Y U V : Int),
    Hid (∀ A c B d w, TAt w a A → TAt w b B → Calls Try.prog 31 #[tv a A c, tv b B d] w (G2 n ok w)) ∧
    Hid (∀ A c B d w, TAt w a A → TAt w b B → Calls Try.prog 30 #[tv a A c, tv b B d] w (G2 n ok w)) ∧
    Hid (ok = true → (∀ A c w, TAt w a A → Calls Try.prog 21 #[tv a A c, .int .i64 n] w (G2 X true w)) ∧ (∀ A c w, TAt w b A → Calls Try.prog 21 #[tv b A c, .int .i64 n] w (G2 Y true w)) ∧ Y < X ∧ 0 ≤ n ∧ n ≤ 100000 ∧
      (0 < n → (∀ A c w, TAt w a A → Calls Try.prog 21 #[tv a A c, .int .i64 (n - 1)] w (G2 U true w)) ∧ (∀ A c w, TAt w b A → Calls Try.prog 21 #[tv b A c, .int .i64 (n - 1)] w (G2 V true w)) ∧ U ≤ V)) := by
  refine ⟨cfR a b, cfB a b, cost a (cfR a b), cost b (cfR a b), cost a (cfR a b - 1), cost b (cfR a b - 1), Lib.hid fun A c B d w h1 h2 => cheap_any a b A c B d w h1 h2, Lib.hid fun A c B d w h1 h2 => scheap_any a b A c B d w h1 h2, Lib.hid fun h => ?_⟩
  obtain ⟨ga, gb, m, hm⟩ := cfB_of h
  have e := cfR_yes ga gb hm
  obtain ⟨h1, h2, h3⟩ := hm
  unfold gap at h2 h3
  rw [e]
  refine ⟨co_in (okV_mk ga ⟨by omega, by omega⟩), co_in (okV_mk gb ⟨by omega, by omega⟩), by omega, by omega, by omega, fun h0 => ?_⟩
  have h4 := h3 (m - 1) (by omega)
  have e2 : ((m - 1 : Nat) : Int) = (m : Int) - 1 := by omega
  rw [e2] at h4
  exact ⟨co_in (okV_mk ga ⟨by omega, by omega⟩), co_in (okV_mk gb ⟨by omega, by omega⟩), by omega⟩
theorem rz_r {t : Ta} {p : Int} {R : Ta} {ok : Bool} (hR : rzB t p = true → R = rzT t p ∧ ok = true) (hN : rzB t p = false → R = ⟨0, []⟩ ∧ ok = false) {w w' : World} {e : Ending} (h : (rzB t p = true ∧ GivesT w (rzT t p) true e w') ∨ (rzB t p = false ∧ GivesTN w e w')) : GivesTR w R ok e w' := by
  rcases h with ⟨hb, g, cap, he, _, ho, hb'⟩ | ⟨hb, he, hb'⟩
  · obtain ⟨rfl, rfl⟩ := hR hb
    refine ⟨_, cap, he, ⟨own_cat ho, ?_⟩, hb'⟩
    have := (rzB_of hb).2.2.2.1.2
    omega
  · obtain ⟨rfl, rfl⟩ := hN hb
    exact ⟨none, 0, he, tat_nil, hb'⟩
theorem raise_pack (t : Ta) (p : Int) : ∃ (R : Ta) (ok : Bool),
    Hid (∀ A c w, TAt w t A → Calls Try.prog 39 #[tv t A c, .int .i64 p] w (GivesTR w R ok)) ∧
    Hid (∀ A c w, TAt w t A → Calls Try.prog 38 #[tv t A c, .int .i64 p] w (GivesTR w R ok)) ∧
    Hid (ok = true → ∀ A c w, TAt w R A → Calls Try.prog 18 #[tv R A c] w fun e w' => e = .returned (.bool true) ∧ Below w.heap.size w w') := by
  cases h : rzB t p with
  | true =>
    have k := fun {w w' : World} {e : Ending} => rz_r (t := t) (p := p) (R := rzT t p) (ok := true) (fun _ => ⟨rfl, rfl⟩) (fun h2 => by rw [h] at h2; cases h2) (w := w) (w' := w') (e := e)
    exact ⟨rzT t p, true, Lib.hid fun A c w h => (raise_any t A c p w h).mono fun e w' h => k h, Lib.hid fun A c w h => (sraise_any t A c p w h).mono fun e w' h => k h, Lib.hid fun _ => valid_w (gB_mk (rzB_of h).2.2)⟩
  | false =>
    have k := fun {w w' : World} {e : Ending} => rz_r (t := t) (p := p) (R := ⟨0, []⟩) (ok := false) (fun h2 => by rw [h] at h2; cases h2) (fun _ => ⟨rfl, rfl⟩) (w := w) (w' := w') (e := e)
    exact ⟨⟨0, []⟩, false, Lib.hid fun A c w h => (raise_any t A c p w h).mono fun e w' h => k h, Lib.hid fun A c w h => (sraise_any t A c p w h).mono fun e w' h => k h, Lib.hid fun h => by cases h⟩

theorem rbig_no (a : Option Addr) (n cap : Nat) (w : World) (hn : n ≤ 65536) : Calls Try.prog 43 #[.slice a n cap] w fun e w' => e = .returned (.bool false) ∧ w' = w := by
  have h : ¬ (65536 : Int) < (n : Int) := by omega
  go_enter Try.func43, Try.ntmps43
  go_wp2
  go_ret
  exact ⟨by simp, rfl⟩
theorem rbig_below (a : Option Addr) (n cap : Nat) (w : World) (hn : n ≤ 65536) : Calls Try.prog 43 #[.slice a n cap] w fun e w' => e = .returned (.bool false) ∧ Below w.heap.size w w' :=
  (rbig_no a n cap w hn).mono fun _ _ ⟨he, hw⟩ => ⟨he, hw ▸ Below.refl _ _⟩
theorem rbig_yes (a : Option Addr) (n cap : Nat) (w : World) (hn : 65536 < n) : Calls Try.prog 43 #[.slice a n cap] w fun e w' => e = .returned (.bool true) ∧ w' = w := by
  have h : (65536 : Int) < (n : Int) := by omega
  go_enter Try.func43, Try.ntmps43
  go_wp2
  go_ret
  exact ⟨by simp, rfl⟩
set_option maxHeartbeats 2000000 in
theorem rtariffs_same (t : Ta) (A B : Option Addr) (c d : Nat) (w : World) (h : TAt w t A) (h2 : TAt w t B) :
    Calls Try.prog 46 #[tv t A c, tv t B d] w fun e w' => e = .returned (.bool true) ∧ Below w.heap.size w w' := by
  obtain ⟨W, hW⟩ : ∃ W, W = (w.alloc (tb 29 t A c)).alloc (tb 29 t B d) := ⟨_, rfl⟩
  have hbw : Below w.heap.size w W := by rw [hW]; exact two_below _ _ _
  have HB := Lib.hid hbw
  have HA := Lib.hid (h.kept hbw).x
  have HA2 := Lib.hid (h2.kept hbw).x
  have HL := Lib.hid h.xl
  have p1 : B2 W w.heap.size t A c := by rw [hW]; exact (B2.new w _ t A c).kept (alloc_below _ _)
  have p2 : B2 W (w.heap.size + 1) t B d := by
    have := B2.new (w.alloc (tb 29 t A c)) 29 t B d
    rw [alloc_size] at this
    rw [hW]; exact this
  obtain ⟨_, a0, a1, _⟩ := p1
  obtain ⟨_, b0, b1, _⟩ := p2
  clear h h2 hbw
  obtain ⟨fee, cs⟩ := t
  dsimp only at *
  go_enter Try.func46, Try.ntmps46
  go_wp2
  rw [← hW]
  clear hW
  go_loopw [5] (fun i wr => ∃ (k d : Nat), k ≤ cs.length ∧ i = .int .i64 k ∧ wr = W.drewN d) (fun i _ => cs.length - (intOf i).toNat)
  case atStart => exact ⟨0, 0, Nat.zero_le _, rfl, rfl⟩
  case round =>
    obtain ⟨k, d, hk, rfl, rfl⟩ := hrel
    by_cases hlt : k < cs.length
    · obtain ⟨b, off, hA, hbl, h0, h1⟩ := HA.out.at_ hlt
      obtain ⟨b2, off2, hA2, hbl2, g0, g1⟩ := HA2.out.at_ hlt
      subst hA hA2
      have hn : cs.length ≤ 1048576 := HL.out
      have hk0i : (0 : Int) ≤ (k : Int) := by omega
      have hk1i : (k : Int) < (cs.length : Int) := by omega
      generalize (cAt cs k).up = x at *
      generalize (cAt cs k).pr = y at *
      go_wp2
      go_quiet (fail)
      go_wp2
      go_roundw
      case rel => exact ⟨k + 1, _, by omega, by go_num, rfl⟩
      case measure => simp [intOf]; omega
    · go_wp2
      go_ret
      exact ⟨rfl, HB.out.trans ((below_drewN (Below.refl _ _) d).mono HB.out.size)⟩
end Go.Proofs.Ytidlpoambmeiiaa.S14
