/- Whether a tariff is valid: what the program returns: contracts. Conditions: each theorem's own premises. -/
import Derived.Test.YtidlpoambmeiiaaTaLaw
namespace Go.Proofs.Ytidlpoambmeiiaa.S14
open Go.RowKit P14

theorem gB_fin {t : Ta} (hf : 0 ≤ t.fee ∧ t.fee ≤ 100000) (hl : t.bs.length ≤ 5) (h : To t.bs t.bs.length) : gB t = decide (pre t.bs t.bs.length = 100000) := by
  by_cases e : pre t.bs t.bs.length = 100000
  · have h1 : 1 ≤ t.bs.length := by
      by_cases h0 : t.bs.length = 0
      · rw [h0] at e; have : (0 : Int) = 100000 := e; omega
      · omega
    rw [gB_mk ⟨hf, ⟨h1, hl⟩, h, e⟩]; simp [e]
  · rw [gB_end e]; simp [e]
/-- What a call that says whether a tariff is valid gives. -/
def GPost (t : Ta) (w : World) (e : Ending) (w' : World) : Prop := e = .returned (.bool (gB t)) ∧ Below w.heap.size w w'
theorem gpost {t : Ta} {w w' : World} {v : Bool} (h : gB t = v) (hb : Below w.heap.size w w') : GPost t w (.returned (.bool v)) w' := ⟨by rw [h], hb⟩
set_option maxHeartbeats 4000000 in
theorem valid_any (t : Ta) (A : Option Addr) (c : Nat) (w : World) (h : TAt w t A) :
    Calls Try.prog 18 #[tv t A c] w (GPost t w) := by
  have HA := Lib.hid h.x
  have HB0 := Lib.hid (alloc_below w (tb 29 t A c))
  have HQ0 := Lib.hid (B2.new w 29 t A c)
  clear h
  by_cases hf : 0 ≤ t.fee ∧ t.fee ≤ 100000
  · obtain ⟨hf0, hf9⟩ := hf
    by_cases hl : t.bs.length ≤ 5
    · have HG := Lib.hid (fun h => gB_fin (t := t) ⟨hf0, hf9⟩ hl h)
      have HN := Lib.hid (fun k (hk : k < t.bs.length) (h : ¬ Ok t.bs k) => gB_bad hk h)
      have hli : ((t.bs.length : Nat) : Int) ≤ 5 := by omega
      have d1 : decide (t.fee < 0) = false := by simp; omega
      have d2 : decide (100000 < t.fee) = false := by simp; omega
      have d3 : decide (5 < ((t.bs.length : Nat) : Int)) = false := by simp; omega
      go_enter Try.func18, Try.ntmps18
      go_wp2
      clear d1 d2 d3 hli
      go_loopw [3, 23] (fun e i wr => ∃ k : Nat, k ≤ t.bs.length ∧ e = .int .i64 (pre t.bs k) ∧ i = .int .i64 k ∧ Hid (To t.bs k) ∧ Hid (Below w.heap.size w wr)) (fun _ i _ => t.bs.length - (intOf i).toNat)
      case atStart => exact ⟨0, Nat.zero_le _, rfl, rfl, Lib.hid (To.zero _), HB0⟩
      case round =>
        obtain ⟨k, hk, rfl, rfl, hto, HB⟩ := hrel
        by_cases hlt : k < t.bs.length
        · obtain ⟨b, off, hA, hbl, h0, h1⟩ := HA.out.at_ hlt
          subst hA
          obtain ⟨hc, hfz⟩ := bcell HB.out
          have hk0 : (0 : Int) ≤ (k : Int) := by omega
          have hkn : (k : Int) < (t.bs.length : Int) := by omega
          have hbn := Lib.hid (fun o => HB.out.alloc HB.out.size o)
          have HNK := Lib.hid (HN.out k hlt)
          have HNX := Lib.hid (fun h => hto.out.next (k := k) h)
          by_cases hok : Ok t.bs k
          · have hok' := hok
            obtain ⟨o1, o2, o3⟩ := hok'
            have HT := Lib.hid (HNX.out hok)
            have HP := Lib.hid (show pre t.bs (k + 1) = (cAt t.bs k).up from rfl)
            clear hok HNX HNK
            generalize (cAt t.bs k).up = x at *
            generalize (cAt t.bs k).pr = y at *
            generalize pre t.bs k = E at *
            go_wp2
            go_roundw
            case rel => exact ⟨k + 1, by omega, by rw [HP.out], by go_num, HT, Lib.hid (hbn.out _)⟩
            case measure => simp [intOf]; omega
          · have HV := Lib.hid (HNK.out hok)
            have hno : ¬ (pre t.bs k < (cAt t.bs k).up ∧ 0 ≤ (cAt t.bs k).pr ∧ (cAt t.bs k).pr ≤ 1000) := hok
            clear hok HNX HNK
            generalize (cAt t.bs k).up = x at *
            generalize (cAt t.bs k).pr = y at *
            generalize pre t.bs k = E at *
            by_cases e1 : x ≤ E
            · go_wp2
              go_ret
              exact gpost HV.out (hbn.out _)
            · by_cases e2 : y < 0
              · go_wp2
                go_ret
                exact gpost HV.out (hbn.out _)
              · have e3 : 1000 < y := by omega
                go_wp2
                go_ret
                exact gpost HV.out (hbn.out _)
        · have e : k = t.bs.length := by omega
          subst e
          have HGG := HG.out hto.out
          generalize pre t.bs t.bs.length = E at *
          have HV := Lib.hid HGG
          clear HGG
          go_wp2
          go_ret
          exact gpost (by rw [HV.out]; rfl) HB.out
    · have HV := Lib.hid (gB_len (t := t) (by omega))
      have hl5 : (5 : Int) < ((t.bs.length : Nat) : Int) := by omega
      go_enter Try.func18, Try.ntmps18
      go_wp2
      go_ret
      exact gpost HV.out HB0.out
  · have HV := Lib.hid (gB_fee hf)
    by_cases e1 : t.fee < 0
    · go_enter Try.func18, Try.ntmps18
      go_wp2
      go_ret
      exact gpost HV.out HB0.out
    · have e2 : 100000 < t.fee := by omega
      go_enter Try.func18, Try.ntmps18
      go_wp2
      go_ret
      exact gpost HV.out HB0.out
theorem valid_w {t : Ta} {v : Bool} (hv : gB t = v) (A : Option Addr) (c : Nat) (w : World) (h : TAt w t A) :
    Calls Try.prog 18 #[tv t A c] w fun e w' => e = .returned (.bool v) ∧ Below w.heap.size w w' := by
  rw [← hv]; exact valid_any t A c w h
end Go.Proofs.Ytidlpoambmeiiaa.S14
