/- The lazy schedule: what the program returns: contract. Conditions: its own premises. -/
import Derived.Test.YtlkomipjamelkaaPuChS
import Derived.Test.YtlkomipjamelkaaPuEgI
import Derived.Deep.DeepCutAuto
namespace Go.Proofs.Ytlkomipjamelkaa.S13
open Go.RowKit Go.Sort Go.ChangeShapes Go.WideShapes Go.Deep Go.Joins P11 S11 P13

theorem free_pgB {p : Pg} (h : pgB p = true) : pgB (free p) = true := pgB_iff.2 (free_good (pgB_iff.1 h))
theorem free_chE {p : Pg} (h : pgB p = true) : chE (free p) = chE p := by
  unfold chE
  rw [h, free_pgB h, free_len]
  have := (free_ex p p.xs.length p.L).1
  exact congrArg (fun b => true && b) this
theorem free_chR {p : Pg} (h : pgB p = true) : chR (free p) = lzR p := by
  unfold chR lzR
  rw [free_chE h, free_len]
theorem zeros_own (w : World) (n : Nat) (hn : n ≤ 1048576) : IAt (w.alloc (.cells (madeCells #[.int .i64 0] n) 3)) (some ⟨w.heap.size, 0, none⟩) (List.replicate n 0) := by
  have h := made_n (List.replicate n 0) n (by simp) w hn
  have e : fiI (List.replicate n (0 : Int)) 0 = (List.replicate n (0 : Int)).map iv := by simp [fiI]
  rw [e] at h
  have h2 : IOwn (w.alloc (.cells (madeCells #[.int .i64 0] n) 3)) w.heap.size (.slice (some ⟨w.heap.size, 0, none⟩) (List.replicate n (0 : Int)).length n) (List.replicate n (0 : Int)) := by
    unfold IOwn
    rw [List.length_replicate]
    exact h
  exact h2.iat
set_option maxHeartbeats 2000000 in
theorem lazy_any (p : Pg) (A : Option Addr) (c : Nat) (A2 : Option Addr) (c2 : Nat) (w : World) (hp : PAt w p A A2) :
    Calls Try.prog 32 #[pv p A c A2 c2] w (GivesI w (lzR p) (chE p)) := by
  have HI := Lib.hid (fun w' hb => ivp_any p A c A2 c2 w' (hp.kept (w' := w') hb))
  have HB0 := Lib.hid (boxB w 31 p A c A2 c2)
  have H60 := Lib.hid (B6.new w 31 p A c A2 c2)
  have HF0 := Lib.hid (FZ.new w #[.int .i64 p.L, .int .i64 p.a, .int .i64 p.b, .int .i64 p.pm, .slice A p.xs.length c, .slice A2 p.ys.length c2] 31)
  cases hv : pgB p with
  | false =>
    have hE : chE p = false := by unfold chE; rw [hv]; rfl
    rw [hE, lz_no hE]
    rw [hv] at HI
    clear hv hp hE
    go_enter Try.func32, Try.ntmps32
    go_wp2_with (first | (go_at_call 14; refine (HI.out _ HB0.out).mono ?_; rintro e w1 ⟨rfl, hb1⟩; refine Hid.out ?_) | fail)
    have HB1 := Lib.hid (HB0.out.trans (hb1.mono HB0.out.size))
    refine Lib.hid ?_
    go_wp2_with fail
    go_ret2
    exact empty_givesI HB1.out
  | true =>
    have hg := pgB_iff.1 hv
    have hn12 := hg.day.n1
    have hn0 := hg.day.n0
    have hy := hp.yl
    rw [hv] at HI
    have HC : Hid (∀ (g : Nat) w', IAt w' (some ⟨g, 0, none⟩) (List.replicate p.xs.length 0) → IAt w' A2 p.ys → Calls Try.prog 25 #[.agg #[.int .i64 p.L, .int .i64 p.a, .int .i64 p.b, .int .i64 p.pm, .slice (some ⟨g, 0, none⟩) p.xs.length p.xs.length, .slice A2 p.ys.length c2]] w' (GivesI3 w' (lzR p) (chC (free p)) (chE p))) := Lib.hid (fun g w' h1 h2 => by
      have := cheap_any (free p) (some ⟨g, 0, none⟩) p.xs.length A2 c2 w' ⟨h1, h2, by rw [free_len]; omega, hy⟩
      rw [free_chE hv, free_chR hv] at this
      have e : pv (free p) (some ⟨g, 0, none⟩) p.xs.length A2 c2 = .agg #[.int .i64 p.L, .int .i64 p.a, .int .i64 p.b, .int .i64 p.pm, .slice (some ⟨g, 0, none⟩) p.xs.length p.xs.length, .slice A2 p.ys.length c2] := by
        unfold pv
        rw [free_len]
        rfl
      rw [e] at this
      exact this)
    have HY := Lib.hid (fun w' (hb : Below w.heap.size w w') => hp.y.kept hb (Nat.le_refl _))
    have hmk := run_make_row' (P := Try.prog) 24 3 (.int .i64 0) 8 Try.underlying24 infoI rfl .i64 .i64 p.xs.length (by omega) (by omega)
    clear hv hp hg
    generalize lzR p = el at *
    generalize chE p = ok at *
    generalize chC (free p) = cc at *
    go_enter Try.func32, Try.ntmps32
    go_wp2_with (first | (go_at_call 14; refine (HI.out _ HB0.out).mono ?_; rintro e w1 ⟨rfl, hb1⟩; refine Hid.out ?_) | fail)
    have HB1 := Lib.hid (HB0.out.trans (hb1.mono HB0.out.size))
    have H61 := Lib.hid (H60.out.kept hb1)
    obtain ⟨a0, a1, a2, a3, a4, a5⟩ := H61.out.out
    have hwl : w.heap.size < w1.heap.size := H61.out.lt
    obtain ⟨f0, f1, f2, f3, f4, f5⟩ := fz_six (HF0.out.kept hb1 (by simp))
    have hss : (w1.setCell ⟨w.heap.size, 4, none⟩ (.slice (some ⟨w1.heap.size, 0, none⟩) p.xs.length p.xs.length)).heap.size = w1.heap.size := by simp
    have hz9 := zeros_own (w1.setCell ⟨w.heap.size, 4, none⟩ (.slice (some ⟨w1.heap.size, 0, none⟩) p.xs.length p.xs.length)) p.xs.length (by omega)
    rw [hss] at hz9
    have HZ2 := Lib.hid hz9
    have HBS := HB1.out.setCell (p := ⟨w.heap.size, 4, none⟩) (Nat.le_refl _) (.slice (some ⟨w1.heap.size, 0, none⟩) p.xs.length p.xs.length)
    have HB2 := Lib.hid (HBS.trans ((alloc_below _ (.cells (madeCells #[.int .i64 0] p.xs.length) 3)).mono HBS.size))
    clear hb1 HI HF0 hz9 HBS hss
    refine Lib.hid ?_
    go_wp2_with (first | (go_at_call 25; refine (HC.out w1.heap.size _ HZ2.out (HY.out _ HB2.out)).mono ?_; rintro e w2 ⟨g, cg, rfl, hg2, hO, hb2⟩; refine Hid.out ?_) | fail)
    have HB3 := Lib.hid (HB2.out.trans (hb2.mono HB2.out.size))
    refine Lib.hid ?_
    go_wp2_with fail
    go_ret2
    exact ⟨g, cg, rfl, Nat.le_trans HB2.out.size hg2, own_lower hO HB2.out.size, HB3.out⟩
end Go.Proofs.Ytlkomipjamelkaa.S13
