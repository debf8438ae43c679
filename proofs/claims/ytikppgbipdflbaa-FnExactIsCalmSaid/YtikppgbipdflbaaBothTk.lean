/- The laws on tanks: the program's answer is its model's: contracts. Conditions: each theorem's own premises. -/
import Derived.Test.YtikppgbipdflbaaTkStS
import Derived.Test.YtikppgbipdflbaaWalkTkv
import Derived.Test.YtikppgbipdflbaaWalkTks
import Derived.Test.YtikppgbipdflbaaWalkTkr
import Derived.Test.YtikppgbipdflbaaWalkTkc
import Derived.Test.YtikppgbipdflbaaWalkTkw
import Derived.Test.YtikppgbipdflbaaWalkTkp
import Derived.Test.YtikppgbipdflbaaWalkTkd
namespace Go.Proofs.Ytikppgbipdflbaa.S11
open Go.RowKit P11

theorem law_tkv (L a b : Int) (w : World) : Calls Try.prog 3 #[tv L a b] w fun e w' => e = .returned (.bool true) ∧ Below w.heap.size w w' :=
  walkIsValidTank L a b w (tkB L a b) (fun w => svalid_any L a b w) (fun w => valid_any L a b w)
theorem law_tks (L a b x y : Int) (w : World) : Calls Try.prog 4 #[tv L a b, .int .i64 x, .int .i64 y] w fun e w' => e = .returned (.bool true) ∧ Below w.heap.size w w' := by
  cases h : stB L a b x y with
  | false => exact walkStepTank L a b x y w 0 0 0 0 0 false (fun w => sstep_no L a b x y w h) (fun w => step_no L a b x y w h)
  | true => exact walkStepTank L a b x y w (nxt a b L x y) a b (spl b L x) (mis a b L x y) true (fun w => sstep_yes L a b x y w h) (fun w => step_yes L a b x y w h)
theorem law_tkr (L a b : Int) (A : Option Addr) (cap : Nat) (xs : List Int) (AU : Option Addr) (cc : Nat) (ys : List Int) (w : World) (hx : IAt w A xs) (hmx : xs.length ≤ maxLen) (hy : IAt w AU ys) (hmy : ys.length ≤ maxLen) :
    Calls Try.prog 5 #[tv L a b, .slice A xs.length cap, .slice AU ys.length cc] w fun e w' => e = .returned (.bool true) ∧ Below w.heap.size w w' := by
  cases h : dayB L a b xs ys with
  | false => exact walkRunTank L a b A cap xs AU cc ys w hx hmx hy hmy [] (by simp) 0 0 false (fun A c B d w h1 h2 h3 h4 => srun_no L a b A c xs B d ys w h1 h2 h3 h4 h) (fun A c B d w h1 h2 h3 h4 => run_no L a b A c xs B d ys w h1 h2 h3 h4 h)
  | true =>
    have hd := dayB_iff.1 h
    exact walkRunTank L a b A cap xs AU cc ys w hx hmx hy hmy (levL a b L xs ys xs.length) (by rw [levL_len]; have := hd.n1; omega) _ _ true (fun A c B d w h1 h2 h3 h4 => srun_yes L a b A c xs B d ys w h1 h2 h3 h4 hd) (fun A c B d w h1 h2 h3 h4 => run_yes L a b A c xs B d ys w h1 h2 h3 h4 hd)
theorem law_tkc (L a b : Int) (A : Option Addr) (cap : Nat) (xs : List Int) (AU : Option Addr) (cc : Nat) (ys : List Int) (w : World) (hx : IAt w A xs) (hmx : xs.length ≤ maxLen) (hy : IAt w AU ys) (hmy : ys.length ≤ maxLen) :
    Calls Try.prog 6 #[tv L a b, .slice A xs.length cap, .slice AU ys.length cc] w fun e w' => e = .returned (.bool true) ∧ Below w.heap.size w w' := by
  cases h : dayB L a b xs ys with
  | false => exact walkIsCalm L a b A cap xs AU cc ys w hx hmx hy hmy false false (fun A c B d w h1 h2 h3 h4 => scalm_no L a b A c xs B d ys w h1 h2 h3 h4 h) (fun A c B d w h1 h2 h3 h4 => calm_no L a b A c xs B d ys w h1 h2 h3 h4 h)
  | true =>
    have hd := dayB_iff.1 h
    exact walkIsCalm L a b A cap xs AU cc ys w hx hmx hy hmy _ true (fun A c B d w h1 h2 h3 h4 => scalm_yes L a b A c xs B d ys w h1 h2 h3 h4 hd) (fun A c B d w h1 h2 h3 h4 => calm_yes L a b A c xs B d ys w h1 h2 h3 h4 hd)
theorem law_tkw (L a b : Int) (A : Option Addr) (cap : Nat) (xs : List Int) (AU : Option Addr) (cc : Nat) (ys : List Int) (w : World) (hx : IAt w A xs) (hmx : xs.length ≤ maxLen) (hy : IAt w AU ys) (hmy : ys.length ≤ maxLen) :
    Calls Try.prog 7 #[tv L a b, .slice A xs.length cap, .slice AU ys.length cc] w fun e w' => e = .returned (.bool true) ∧ Below w.heap.size w w' := by
  cases h : dayB L a b xs ys with
  | false => exact walkWaterTaken L a b A cap xs AU cc ys w hx hmx hy hmy 0 false (fun A c B d w h1 h2 h3 h4 => swat_no L a b A c xs B d ys w h1 h2 h3 h4 h) (fun A c B d w h1 h2 h3 h4 => wat_no L a b A c xs B d ys w h1 h2 h3 h4 h)
  | true =>
    have hd := dayB_iff.1 h
    exact walkWaterTaken L a b A cap xs AU cc ys w hx hmx hy hmy _ true (fun A c B d w h1 h2 h3 h4 => swat_yes L a b A c xs B d ys w h1 h2 h3 h4 hd) (fun A c B d w h1 h2 h3 h4 => wat_yes L a b A c xs B d ys w h1 h2 h3 h4 hd)
theorem law_tkp (L a b : Int) (A : Option Addr) (cap : Nat) (xs : List Int) (AU : Option Addr) (cc : Nat) (ys : List Int) (d : Int) (w : World) (hx : IAt w A xs) (hmx : xs.length ≤ maxLen) (hy : IAt w AU ys) (hmy : ys.length ≤ maxLen) :
    Calls Try.prog 8 #[tv L a b, .slice A xs.length cap, .slice AU ys.length cc, .int .i64 d] w fun e w' => e = .returned (.bool true) ∧ Below w.heap.size w w' := by
  cases h : repB L a b xs ys d with
  | false => exact walkRepeatDay L a b A cap xs AU cc ys d w hx hmx hy hmy 0 0 0 false (fun A c B e w h1 h2 h3 h4 => srep_no L a b A c xs B e ys d w h1 h2 h3 h4 h) (fun A c B e w h1 h2 h3 h4 => rep_no L a b A c xs B e ys d w h1 h2 h3 h4 h)
  | true =>
    unfold repB at h
    rw [Bool.and_eq_true, decide_eq_true_iff] at h
    obtain ⟨h1, h2, h3⟩ := h
    have hd := dayB_iff.1 h1
    exact walkRepeatDay L a b A cap xs AU cc ys d w hx hmx hy hmy _ a b true (fun A c B e w g1 g2 g3 g4 => srep_yes L a b A c xs B e ys d w g1 g2 g3 g4 hd h2 h3) (fun A c B e w g1 g2 g3 g4 => rep_yes L a b A c xs B e ys d w g1 g2 g3 g4 hd h2 h3)
/-- SteadyLevel of the program. -/
theorem ist_any (L a b : Int) (A : Option Addr) (cap : Nat) (xs : List Int) (AU : Option Addr) (cc : Nat) (ys : List Int) (w : World) (hx : IAt w A xs) (hxl : xs.length ≤ 1048576) (hy : IAt w AU ys) (hyl : ys.length ≤ 1048576) :
    Calls Try.prog 29 #[tv L a b, .slice A xs.length cap, .slice AU ys.length cc] w (LowPost (if dayB L a b xs ys then lowI (stdB a b xs ys) a b else none) w) := by
  cases ht : tkB L a b with
  | false =>
    have h : dayB L a b xs ys = false := by unfold dayB; rw [ht, Bool.false_and]
    rw [h]
    exact st_bad L a b A cap xs AU cc ys w ht
  | true =>
    obtain ⟨a0, a1, a2, a3⟩ := tkB_iff.1 ht
    have hl : ∀ l, a ≤ l → l ≤ b → tkB l a b = true := fun l h1 h2 => tkB_iff.2 (by omega)
    cases h : dayB L a b xs ys with
    | false =>
      have hno : ∀ l, a ≤ l → l ≤ b → dayB l a b xs ys = false := fun l h1 h2 => by
        unfold dayB at h ⊢
        rw [ht, Bool.true_and] at h
        rw [h, Bool.and_false]
      have H := st_ok L a b A cap xs AU cc ys w ht (fun _ => false) (fun l w' h1 h2 hb hc1 hc2 => stc_no l a b A cap xs AU cc ys (w.heap.size + 1) (w.heap.size + 2) w' (hx.kept hb (Nat.le_refl _)) hxl (hy.kept hb (Nat.le_refl _)) hyl (hno l h1 h2) hc1 hc2)
      rw [low_none (p := fun _ => false) (fun _ _ _ => rfl)] at H
      exact H
    | true =>
      have hd := dayB_iff.1 h
      exact st_ok L a b A cap xs AU cc ys w ht (stdB a b xs ys) (fun l w' h1 h2 hb hc1 hc2 => stc_any l a b A cap xs AU cc ys (w.heap.size + 1) (w.heap.size + 2) w' (hx.kept hb (Nat.le_refl _)) (hy.kept hb (Nat.le_refl _)) (hd.other (hl l h1 h2)) hc1 hc2)
theorem sst_any (L a b : Int) (A : Option Addr) (cap : Nat) (xs : List Int) (AU : Option Addr) (cc : Nat) (ys : List Int) (w : World) (hx : IAt w A xs) (hxl : xs.length ≤ 1048576) (hy : IAt w AU ys) (hyl : ys.length ≤ 1048576) :
    Calls Try.prog 28 #[tv L a b, .slice A xs.length cap, .slice AU ys.length cc] w (LowPost (if dayB L a b xs ys then lowI (stdB a b xs ys) a b else none) w) := by
  cases h : dayB L a b xs ys with
  | false => exact sst_no L a b A cap xs AU cc ys w hx hxl hy hyl h
  | true => exact sst_yes L a b A cap xs AU cc ys w hx hxl hy hyl (dayB_iff.1 h)
theorem law_tkd (L a b : Int) (A : Option Addr) (cap : Nat) (xs : List Int) (AU : Option Addr) (cc : Nat) (ys : List Int) (w : World) (hx : IAt w A xs) (hmx : xs.length ≤ maxLen) (hy : IAt w AU ys) (hmy : ys.length ≤ maxLen) :
    Calls Try.prog 9 #[tv L a b, .slice A xs.length cap, .slice AU ys.length cc] w fun e w' => e = .returned (.bool true) ∧ Below w.heap.size w w' :=
  walkSteadyLevel L a b A cap xs AU cc ys w hx hmx hy hmy _ _ (fun A c B d w h1 h2 h3 h4 => sst_any L a b A c xs B d ys w h1 h2 h3 h4) (fun A c B d w h1 h2 h3 h4 => ist_any L a b A c xs B d ys w h1 h2 h3 h4)
end Go.Proofs.Ytikppgbipdflbaa.S11
