/- A search at the end of a day: contract. Conditions: its own premises. -/
import Derived.Test.YtlkomipjamelkaaPuClo
import Derived.Deep.RegionLaw
import Derived.Deep.CutRange
import Derived.Deep.DeepCutAuto
namespace Go.Proofs.Ytlkomipjamelkaa.S13
open Go.RowKit Go.Sort Go.ChangeShapes Go.WideShapes Go.Deep Go.Joins P11 S11 P13

/-- A search ends: its plan is kept, then read. -/
theorem fr_leave {w W : World} {O : Nat} {p : Pg} {A : Option Addr} {c : Nat} {A2 : Option Addr} {c2 h l : Nat} {q : Pl} {tmps : Array Value} (f : Fr w W O p A c A2 c2 h l false q) (hh : h ≤ 12) (hl : l ≤ 60) (hq : plan p (p.xs.length - h) l = q)
    (hr : ∀ W', E4 W' (w.heap.size + 1) 0 true q → (results Try.f46 tmps).run Try.prog W' = .ok (plv true q) W') :
    Leaves Try.prog Try.f46 tmps (FromIs w O p A c A2 c2 q) [{ target := .fn (.func 57) #[.pointer (some ⟨w.heap.size + 1, 0, none⟩), .pointer (some ⟨w.heap.size + 2, 0, none⟩)], args := #[] }] .returning W := by
  obtain ⟨k0, q0, h4, _⟩ := f.ot.mem h l hh hl
  have hlo := f.lo
  obtain ⟨d1, d2, d3⟩ := f.done hh hl hq
  refine leaves_cons (f := 57) (args := #[.pointer (some ⟨w.heap.size + 1, 0, none⟩), .pointer (some ⟨w.heap.size + 2, 0, none⟩)]) (by simp) (by simp [go_sem]) ?_
  refine (keep_deferred (w.heap.size + 1) (w.heap.size + 2) O (eI h l) false k0 q q0 W f.t6 f.f6 f.t7 h4 f.ot.fz (by omega) (by omega)).mono ?_
  rintro e u' w'' ⟨rfl, rfl, rfl⟩
  exact ⟨plv true q, hr _ d3, rfl, d1, d2⟩
/-- The boxes of a search are made. -/
theorem Fr.new {w : World} {O : Nat} {p : Pg} {A : Option Addr} {c : Nat} {A2 : Option Addr} {c2 : Nat} (ho : Ot w O p A c A2 c2) (h l : Nat) (t5 t6 t7 : TypeId) :
    Fr w (((w.alloc (tb t5 l p.a p.b)).alloc (.cells #[.bool false, .bool false, .int .i64 0, .int .i64 0] t6)).alloc (.cells #[.pointer (some ⟨O, eI h l, none⟩)] t7)) O p A c A2 c2 h l false ⟨false, 0, 0⟩ := by
  have b1 := BT.new w t5 l p.a p.b
  have s1 : (w.alloc (tb t5 l p.a p.b)).heap.size = w.heap.size + 1 := by simp
  have k1 := alloc_below w (tb t5 l p.a p.b)
  generalize w.alloc (tb t5 l p.a p.b) = w1 at *
  have k2 := alloc_below w1 (.cells #[.bool false, .bool false, .int .i64 0, .int .i64 0] t6)
  have e2 : E4 (w1.alloc (.cells #[.bool false, .bool false, .int .i64 0, .int .i64 0] t6)) w1.heap.size 0 false ⟨false, 0, 0⟩ := by
    refine ⟨?_, ?_, ?_, ?_⟩ <;> (rw [World.cell?_alloc_at _ _ _ _ rfl]; rfl)
  have f2 := FZ.new w1 #[.bool false, .bool false, .int .i64 0, .int .i64 0] t6
  have s2 : (w1.alloc (.cells #[.bool false, .bool false, .int .i64 0, .int .i64 0] t6)).heap.size = w.heap.size + 2 := by simp [s1]
  rw [s1] at e2 f2
  generalize w1.alloc (.cells #[.bool false, .bool false, .int .i64 0, .int .i64 0] t6) = w2 at *
  have k3 := alloc_below w2 (.cells #[.pointer (some ⟨O, eI h l, none⟩)] t7)
  have c3 : (w2.alloc (.cells #[.pointer (some ⟨O, eI h l, none⟩)] t7)).cell? ⟨w2.heap.size, 0, none⟩ = some (.pointer (some ⟨O, eI h l, none⟩)) := by rw [World.cell?_alloc_at _ _ _ _ rfl]; rfl
  rw [s2] at c3
  have hg := ((k1.trans (k2.mono k1.size)).trans (k3.mono (Nat.le_trans k1.size k2.size)))
  exact ⟨ho.b6.lt, ho.kept hg, (b1.kept k2).kept k3, e2.same fun j => k3.cell (p := ⟨w.heap.size + 1, j, none⟩) (by show w.heap.size + 1 < w2.heap.size; omega), f2.kept k3 (by omega), c3, by simp [s2], below_grown hg _⟩
set_option maxHeartbeats 2000000 in
theorem from_zero (p : Pg) (A : Option Addr) (c : Nat) (A2 : Option Addr) (c2 O h l : Nat) (w : World) (hg : P13.Good p) (hh : h = p.ys.length) (ht : tkB (l : Int) p.a p.b = true) (ho : Ot w O p A c A2 c2) :
    Calls Try.prog 46 #[.pointer (some ⟨O, 0, none⟩), .int .i64 h, tv (l : Int) p.a p.b] w (FromIs w O p A c A2 c2 (plan p 0 l)) := by
  have hmf : ∀ (fn : Fn) (first cap : Array Value) (w : World), (Instr.makeFunc fn first cap).run Try.prog w = .ok (.func fn first cap) w := fun _ _ _ _ => rfl
  obtain ⟨t0, t1, t2, t3⟩ := tkB_iff.1 ht
  have hl60 : l ≤ 60 := by omega
  have hny : h ≤ 12 := by have := hg.day.n1; have := hg.day.eq; omega
  have HF := Lib.hid (Fr.new ho h l 29 60 76)
  have hlo := ho.b6.lt
  have hq : plan p (p.xs.length - h) l = plan p 0 l := by rw [hh, hg.day.eq, Nat.sub_self]
  have HQ := Lib.hid hq
  have HH := Lib.hid hh
  clear hq hh ht t0 t1 t2 t3 ho
  have hhi : (h : Int) < 13 := by omega
  have hli : (l : Int) < 61 := by omega
  go_enter_defers Try.func46, Try.ntmps46
  go_upto_region 1 with (fail)
  go_cut [7] from 15 to 22 (fun s wx => s = .pointer (some ⟨w.heap.size + 2, 0, none⟩) ∧ Hid (Fr w wx O p A c A2 c2 h l false ⟨false, 0, 0⟩))
  case first =>
    go_region
    all_goals
      go_wp2_with fail
      go_meet
      exact ⟨rfl, Lib.hid (HF.out.below (Below.refl _ _).drew)⟩
  case rest =>
    obtain ⟨rfl, hf⟩ := hcut
    obtain ⟨w1, hw1⟩ : ∃ w1, w1 = wc := ⟨_, rfl⟩
    subst hw1
    clear HF hhi hli
    obtain ⟨kn, q, h4, hk⟩ := hf.out.ot.mem h l hny hl60
    obtain ⟨d0, d1, d2, d3⟩ := h4
    have e7 := hf.out.t7
    obtain ⟨_, b0, b1, b2⟩ := hf.out.t5
    obtain ⟨c0, c1, c2', c3⟩ := hf.out.t6.six
    obtain ⟨f0, f1, f2, f3⟩ := fz_four hf.out.f6
    obtain ⟨a0, a1, a2, a3, a4, a5⟩ := hf.out.ot.b6.out
    have hOn : O ≠ w.heap.size + 1 := by omega
    have hOn2 : O ≠ w.heap.size + 2 := by omega
    have hOn3 : O ≠ w.heap.size := by omega
    cases kn with
    | true =>
      have HKQ := Lib.hid (hk rfl)
      have HP := Lib.hid (hf.out.put true q)
      obtain ⟨g0, g1, g2, g3⟩ := HP.out.t6.six
      clear hk
      refine Lib.hid ?_
      go_wp2_with fail
      refine ⟨plv true q, ?_, rfl.trans (by rw [← HQ.out, HKQ.out]), HP.out.gr, HP.out.ot⟩
      simp [results, Try.results46, go_sem, g0, g1, g2, g3]
    | false =>
      clear hk
      have dq : ((h : Int) == (p.ys.length : Int)) = true := by rw [HH.out]; simp
      refine Lib.hid ?_
      go_wp2_with fail
      have HPL := Lib.hid (show plan p 0 l = ⟨decide (p.L ≤ l), 0, 0⟩ from rfl)
      go_region
      all_goals
        go_wp2_with fail
        have HP := (hf.out.put false ⟨decide (p.L ≤ l), 0, 0⟩).below (Below.refl _ _).drew
        rw [HPL.out]
        refine fr_leave HP hny hl60 (by rw [HQ.out, HPL.out]) (fun W' h6 => ?_)
        obtain ⟨g0, g1, g2, g3⟩ := h6.six
        simp [results, Try.results46, go_sem, g0, g1, g2, g3]
end Go.Proofs.Ytlkomipjamelkaa.S13
