/- IsBalanced of the model; the law on its two sides: contracts. Conditions: each theorem's own premises. -/
import Derived.Test.YtipnecmgpfmjeaaBal
import Derived.Test.YtipnecmgpfmjeaaBothImb
import Derived.Test.YtipnecmgpfmjeaaWalkBal
namespace Go.Proofs.Ytipnecmgpfmjeaa.S2
open Go.RowKit P2

set_option maxHeartbeats 1000000 in
set_option maxRecDepth 100000 in
theorem sbald_any (N s : Nat) (A : Option Addr) (cap : Nat) (ps : List Pp) (AD : Option Addr) (dc : Nat) (dm : List Int) (AF : Option Addr) (fc : Nat) (fl : List Int) (w : World) (h : PAt w A ps)
    (hd : IAt w AD dm) (hf : IAt w AF fl) (hg : P2.Good N ps) (hs1 : 1 ≤ s) (hs2 : s ≤ N) (hdN : dm.length = N) (hdr : allR 0 1000 dm = true) (hfn : fl.length = ps.length) (hfr : allR (-8000) 8000 fl = true) :
    Calls Try.prog 68 #[nv N A ps.length cap, .int .i64 (s : Int), .slice AD dm.length dc, .slice AF fl.length fc] w fun e w' => e = .returned (.bool (balB (imbA s dm ps fl))) ∧ Below w.heap.size w w' := by
  have hN8 : N ≤ 8 := by have := hg.2.1; omega
  have H := Lib.hid (fun v (hv1 : 1 ≤ v) (hv2 : v ≤ N) w' (hb : Below w.heap.size w w') => simb_any N s v A cap ps AD dc dm AF fc fl w' (h.kept hb (Nat.le_refl _)) (hd.kept hb (Nat.le_refl _)) (hf.kept hb (Nat.le_refl _)) hg hdN hdr hfn hfr hv1 hv2)
  have HO := Lib.hid (fun v hv => imbA_out (fl := fl) hg hdN hs1 hs2 (v := v) hv)
  clear h hd hf hg hdr hfn hfr hdN
  generalize imbA s dm ps fl = S at *
  go_enter Try.func68, Try.ntmps68
  go_wp2
  go_loopw [9] (fun i wr => ∃ k : Nat, 1 ≤ k ∧ k ≤ N + 1 ∧ i = .int .i64 (k : Int) ∧ Hid (∀ v, 1 ≤ v → v < k → S v = 0) ∧ Hid (Below (w.heap.size + 1) (w.alloc (nb N A ps.length cap)) wr)) (fun i _ => N + 1 - (intOf i).toNat)
  case atStart => exact ⟨1, Nat.le_refl _, by omega, rfl, Lib.hid (fun v h1 h2 => absurd h1 (by omega)), Lib.hid (Below.refl _ _)⟩
  case round =>
    obtain ⟨k, hk1, hk, rfl, hno, HB⟩ := hrel
    obtain ⟨b0, b1⟩ := box2 HB.out
    have hz := box_lt HB.out
    by_cases hlt : k ≤ N
    · have HC := Lib.hid (H.out k hk1 hlt wr (below_box HB.out))
      by_cases h0 : S k = 0
      · rw [h0] at HC
        have hno2 := Lib.hid (show ∀ v, 1 ≤ v → v < k + 1 → S v = 0 from fun v h1 h2 => by
          by_cases e : v = k
          · rw [e]; exact h0
          · exact hno.out v h1 (by omega))
        clear h0 hno
        go_wp2_with (first | (go_at_call 87; refine HC.out.mono ?_; rintro e w1 ⟨rfl, hb1⟩; have HB1 := Lib.hid (on_call HB.out hb1)) | fail)
        go_roundw
        case rel => exact ⟨k + 1, by omega, by omega, by go_num, hno2, HB1⟩
        case measure => simp [intOf]; omega
      · have HR := Lib.hid (balB_no (S := S) (v := k) (by omega) h0)
        have hne : (S k != 0) = true := by simpa using h0
        generalize S k = x at *
        clear h0 hno
        go_wp2_with (first | (go_at_call 87; refine HC.out.mono ?_; rintro e w1 ⟨rfl, hb1⟩; have HB1 := Lib.hid (on_call HB.out hb1)) | fail)
        go_ret
        exact ⟨by rw [HR.out]; rfl, below_box HB1.out⟩
    · have HR := Lib.hid (show balB S = true from balB_mk (fun v _ => by
        by_cases h1 : v = 0 ∨ N < v
        · exact HO.out v h1
        · exact hno.out v (by omega) (by omega)))
      go_wp2
      go_ret
      exact ⟨by rw [HR.out]; rfl, below_box HB.out⟩

set_option maxHeartbeats 1000000 in
theorem sbal_no (n : Int) (A : Option Addr) (cap : Nat) (ps : List Pp) (s : Int) (AD : Option Addr) (dc : Nat) (dm : List Int) (AF : Option Addr) (fc : Nat) (fl : List Int) (w : World) (h : PAt w A ps) (hm : ps.length ≤ maxLen)
    (hd : IAt w AD dm) (hdl : dm.length ≤ 1048576) (hf : IAt w AF fl) (hfl : fl.length ≤ 1048576) (hv : askB n ps s dm fl = false) :
    Calls Try.prog 25 #[nv n A ps.length cap, .int .i64 s, .slice AD dm.length dc, .slice AF fl.length fc] w fun e w' => e = .returned (.tuple #[.bool false, .bool false]) ∧ Below w.heap.size w w' := by
  have H1 := Lib.hid (fun w' (hb : Below w.heap.size w w') => sask_v hv A cap AD dc AF fc w' (h.kept hb (Nat.le_refl _)) hm (hd.kept hb (Nat.le_refl _)) hdl (hf.kept hb (Nat.le_refl _)) hfl)
  clear h hd hf hv
  go_enter Try.func25, Try.ntmps25
  go_wp2_with (go_at_call 67; refine (H1.out _ ((Below.refl _ _).alloc (Nat.le_refl _) _)).mono ?_; rintro e w1 ⟨rfl, hb1⟩)
  go_ret2
  exact ⟨rfl, below_alloc_call hb1⟩
set_option maxHeartbeats 1000000 in
theorem sbal_yes (N s : Nat) (A : Option Addr) (cap : Nat) (ps : List Pp) (AD : Option Addr) (dc : Nat) (dm : List Int) (AF : Option Addr) (fc : Nat) (fl : List Int) (w : World) (h : PAt w A ps) (hm : ps.length ≤ maxLen)
    (hd : IAt w AD dm) (hdl : dm.length ≤ 1048576) (hf : IAt w AF fl) (hfl : fl.length ≤ 1048576) (hv : askB N ps s dm fl = true) :
    Calls Try.prog 25 #[nv N A ps.length cap, .int .i64 (s : Int), .slice AD dm.length dc, .slice AF fl.length fc] w fun e w' => e = .returned (.tuple #[.bool (balB (imbA s dm ps fl)), .bool true]) ∧ Below w.heap.size w w' := by
  obtain ⟨hv1, hv2, hv3⟩ := askB_of hv
  obtain ⟨hg, hs1, hs2⟩ := nodeB_of hv1
  obtain ⟨_, hdn, hdr⟩ := demB_of hv2
  obtain ⟨_, hfn, hfr⟩ := floB_of hv3
  have H1 := Lib.hid (fun w' (hb : Below w.heap.size w w') => sask_v hv A cap AD dc AF fc w' (h.kept hb (Nat.le_refl _)) hm (hd.kept hb (Nat.le_refl _)) hdl (hf.kept hb (Nat.le_refl _)) hfl)
  have H2 := Lib.hid (fun w' (hb : Below w.heap.size w w') => sbald_any N s A cap ps AD dc dm AF fc fl w' (h.kept hb (Nat.le_refl _)) (hd.kept hb (Nat.le_refl _)) (hf.kept hb (Nat.le_refl _)) hg (by omega) (by omega) (by omega) hdr hfn hfr)
  clear h hd hf hv hv1 hv2 hv3 hg hs1 hs2 hdn hdr hfn hfr hm hdl hfl
  generalize balB (imbA s dm ps fl) = bb at *
  go_enter Try.func25, Try.ntmps25
  go_wp2_with (first
    | (go_at_call 67; refine (H1.out _ ((Below.refl _ _).alloc (Nat.le_refl _) _)).mono ?_; rintro e w1 ⟨rfl, hb1⟩; have HB1 := Lib.hid (show Below (w.heap.size + 1) (w.alloc (nb N A ps.length cap)) w1 from (by simpa using hb1)); obtain ⟨b0, b1⟩ := box2 HB1.out)
    | (go_at_call 68; refine (H2.out _ (below_box HB1.out)).mono ?_; rintro e w2 ⟨rfl, hb2⟩; have HB2 := Lib.hid (on_call HB1.out hb2); clear b0 b1; obtain ⟨b0, b1⟩ := box2 HB2.out)
    | fail)
  go_ret2
  exact ⟨rfl, below_box HB2.out⟩
theorem law_bal (n : Int) (A : Option Addr) (cap : Nat) (ps : List Pp) (s : Int) (AC : Option Addr) (cc : Nat) (cu : List Int) (AF : Option Addr) (fc : Nat) (fl : List Int) (w : World) (h : PAt w A ps) (hm : ps.length ≤ maxLen) (hc : IAt w AC cu) (hmc : cu.length ≤ maxLen) (hf : IAt w AF fl) (hmf : fl.length ≤ maxLen) :
    Calls Try.prog 7 #[nv n A ps.length cap, .int .i64 s, .slice AC cu.length cc, .slice AF fl.length fc] w fun e w' => e = .returned (.bool true) ∧ Below w.heap.size w w' := by
  cases hv : askB n ps s cu fl with
  | false => exact walkIsBalanced n A cap ps s AC cc cu AF fc fl w h hm hc hmc hf hmf false false (fun A c AC cc AF fc w h hl _ hc hcl hf hfl => sbal_no n A c ps s AC cc cu AF fc fl w h hm hc hcl hf hfl hv) (fun A c AC cc AF fc w h hl _ hc hcl hf hfl => bal_no n A c ps s AC cc cu AF fc fl w h hm hc hcl hf hfl hv)
  | true =>
    obtain ⟨N, S, rfl, rfl⟩ := nodeB_nat (askB_of hv).1
    exact walkIsBalanced N A cap ps S AC cc cu AF fc fl w h hm hc hmc hf hmf _ true (fun A c AC cc AF fc w h hl _ hc hcl hf hfl => sbal_yes N S A c ps AC cc cu AF fc fl w h hm hc hcl hf hfl hv) (fun A c AC cc AF fc w h hl _ hc hcl hf hfl => bal_yes N S A c ps AC cc cu AF fc fl w h hm hc hcl hf hfl hv)
end Go.Proofs.Ytipnecmgpfmjeaa.S2
