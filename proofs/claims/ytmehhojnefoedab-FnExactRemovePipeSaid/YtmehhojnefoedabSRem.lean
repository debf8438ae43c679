/- The model's RemovePipe: contracts. Conditions: each theorem's own premises. -/
import Derived.Test.YtmehhojnefoedabWoFour
import Derived.Test.YtmehhojnefoedabFindOne
namespace Go.Proofs.Ytmehhojnefoedab.S2
open Go.RowKit P2

/-- A network whose pipes can be read, beside a bool. -/
def GivesNA (w : World) (N : Int) (L : List Pp) (ok : Bool) (e : Ending) (w' : World) : Prop :=
  ∃ A c, e = .returned (.tuple #[nv N A L.length c, .bool ok]) ∧ L.length ≤ c ∧ PAt w' A L ∧ Below w.heap.size w w'
theorem GivesNA.none {w w' : World} (h : Below w.heap.size w w') : GivesNA w 0 [] false (.returned (.tuple #[nv 0 none 0 0, .bool false])) w' :=
  ⟨Option.none, 0, rfl, Nat.le_refl _, .inl rfl, h⟩
theorem find_one {ps : List Pp} {x r s : Int} (h : FindIs ps x r) (g : FindIs ps x s) : r = s := by
  rcases h with ⟨rfl, hn⟩ | ⟨i, hi, rfl, hx, hf⟩ <;> rcases g with ⟨rfl, gn⟩ | ⟨j, hj, rfl, gx, gf⟩
  · rfl
  · exact absurd gx (hn j hj)
  · exact absurd hx (gn i hi)
  · by_cases e : i = j
    · rw [e]
    · by_cases h1 : i < j
      · exact absurd hx (gf i h1)
      · exact absurd gx (hf j (by omega))

theorem pat_set1 {w : World} {g : Nat} {ps : List Pp} {p : Addr} {v : Value} (h : PAt w (some ⟨g, 0, none⟩) ps) (hne : p.block ≠ g) : PAt (w.setCell p v) (some ⟨g, 0, none⟩) ps := by
  rcases h with h | ⟨b, off, hA, hlt, hc⟩
  · exact .inl h
  · refine .inr ⟨b, off, hA, by simpa using hlt, fun i hi => ?_⟩
    injection hA with hA
    injection hA with hb _ _
    have hp : p.block ≠ b := by rw [← hb]; exact hne
    obtain ⟨h0, h1, h2, h3⟩ := hc i hi
    exact ⟨(World.cell?_setCell_far _ p _ _ hp).trans h0, (World.cell?_setCell_far _ p _ _ hp).trans h1, (World.cell?_setCell_far _ p _ _ hp).trans h2, (World.cell?_setCell_far _ p _ _ hp).trans h3⟩

set_option maxHeartbeats 1000000 in
theorem srem_bad (n : Int) (A : Option Addr) (cap : Nat) (ps : List Pp) (x : Int) (w : World) (h : PAt w A ps) (hm : ps.length ≤ 1048576) (hb : goodB n ps = false) :
    Calls Try.prog 13 #[nv n A ps.length cap, .int .i64 x] w (GivesNA w 0 [] false) := by
  have HF := Lib.hid (fun w' (hb : Below w.heap.size w w') => find_any n A cap ps x w' (h.kept hb (Nat.le_refl _)) hm)
  have HG := Lib.hid (fun w' (hb' : Below w.heap.size w w') => (sgood_any n A cap ps w' (h.kept hb' (Nat.le_refl _)) (by unfold maxLen; omega)).mono (fun e w'' hp => show e = .returned (.bool false) ∧ Below w'.heap.size w' w'' from ⟨by rw [← hb]; exact hp.1, hp.2⟩))
  clear h hm hb
  go_enter Try.func13, Try.ntmps13
  go_wp2_with (first
    | (go_at_call 95; refine (HF.out _ (((Below.refl w.heap.size w).alloc (Nat.le_refl _) _).alloc (by simp) _)).mono ?_; rintro e w1 ⟨⟨r, rfl, hr⟩, hb1⟩; have hz1 : w.heap.size + 2 ≤ w1.heap.size := (by have := hb1.size; simp at this; omega); have a10 : w1.cell? ⟨w.heap.size, 0, none⟩ = some (.int .i64 n) := (hb1.cell (p := ⟨w.heap.size, 0, none⟩) (by first | (simp; done) | (simp; omega) | (dsimp only; omega))).trans (by first | go_simp | simp); have a11 : w1.cell? ⟨w.heap.size, 1, none⟩ = some (.slice A ps.length cap) := (hb1.cell (p := ⟨w.heap.size, 1, none⟩) (by first | (simp; done) | (simp; omega) | (dsimp only; omega))).trans (by first | go_simp | simp); have c10 : w1.cell? ⟨w.heap.size + 1, 0, none⟩ = some (.int .i64 0) := (hb1.cell (p := ⟨w.heap.size + 1, 0, none⟩) (by first | (simp; done) | (simp; omega) | (dsimp only; omega))).trans (by first | go_simp | simp); have f10 : w1.frozen? ⟨w.heap.size + 1, 0, none⟩ = false := (hb1.frozen (p := ⟨w.heap.size + 1, 0, none⟩) (by first | (simp; done) | (simp; omega) | (dsimp only; omega))).trans (by first | go_simp | simp); have c11 : w1.cell? ⟨w.heap.size + 1, 1, none⟩ = some (.slice none 0 0) := (hb1.cell (p := ⟨w.heap.size + 1, 1, none⟩) (by first | (simp; done) | (simp; omega) | (dsimp only; omega))).trans (by first | go_simp | simp); have f11 : w1.frozen? ⟨w.heap.size + 1, 1, none⟩ = false := (hb1.frozen (p := ⟨w.heap.size + 1, 1, none⟩) (by first | (simp; done) | (simp; omega) | (dsimp only; omega))).trans (by first | go_simp | simp); have hB1 := Lib.hid ((((Below.refl w.heap.size w).alloc (Nat.le_refl _) (.cells #[.int .i64 n, .slice A ps.length cap] 28)).alloc (by simp) (.cells #[.int .i64 0, .slice none 0 0] 28)).trans (hb1.mono (by simp; omega))); clear hr hb1)
    | (go_at_call 96; refine (HG.out _ hB1.out).mono ?_; rintro e w2 ⟨rfl, hb2⟩; have hz2 := hb2.size; have a20 : w2.cell? ⟨w.heap.size, 0, none⟩ = some (.int .i64 n) := (hb2.cell (p := ⟨w.heap.size, 0, none⟩) (by first | (simp; done) | (simp; omega) | (dsimp only; omega))).trans a10; have a21 : w2.cell? ⟨w.heap.size, 1, none⟩ = some (.slice A ps.length cap) := (hb2.cell (p := ⟨w.heap.size, 1, none⟩) (by first | (simp; done) | (simp; omega) | (dsimp only; omega))).trans a11; have c20 : w2.cell? ⟨w.heap.size + 1, 0, none⟩ = some (.int .i64 0) := (hb2.cell (p := ⟨w.heap.size + 1, 0, none⟩) (by first | (simp; done) | (simp; omega) | (dsimp only; omega))).trans c10; have f20 : w2.frozen? ⟨w.heap.size + 1, 0, none⟩ = false := (hb2.frozen (p := ⟨w.heap.size + 1, 0, none⟩) (by first | (simp; done) | (simp; omega) | (dsimp only; omega))).trans f10; have c21 : w2.cell? ⟨w.heap.size + 1, 1, none⟩ = some (.slice none 0 0) := (hb2.cell (p := ⟨w.heap.size + 1, 1, none⟩) (by first | (simp; done) | (simp; omega) | (dsimp only; omega))).trans c11; have f21 : w2.frozen? ⟨w.heap.size + 1, 1, none⟩ = false := (hb2.frozen (p := ⟨w.heap.size + 1, 1, none⟩) (by first | (simp; done) | (simp; omega) | (dsimp only; omega))).trans f11; have hB2 := Lib.hid (hB1.out.trans (hb2.mono hB1.out.size)); clear hb2 a10 a11 c10 c11 f10 f11))
  refine bodyPost_ret (v := .tuple #[nv 0 none 0 0, .bool false]) ?_ rfl (GivesNA.none ?_)
  · simp [results, Try.results13, go_sem, c20, c21]
  · exact (hB2.out.setCell (p := ⟨w.heap.size + 1, 0, none⟩) (by show w.heap.size ≤ w.heap.size + 1; omega) _).setCell (p := ⟨w.heap.size + 1, 1, none⟩) (by show w.heap.size ≤ w.heap.size + 1; omega) _
set_option maxHeartbeats 1000000 in
theorem srem_none (n : Int) (A : Option Addr) (cap : Nat) (ps : List Pp) (x : Int) (w : World) (h : PAt w A ps) (hm : ps.length ≤ 1048576) (hb : goodB n ps = true) (hf : FindIs ps x (-1)) :
    Calls Try.prog 13 #[nv n A ps.length cap, .int .i64 x] w (GivesNA w 0 [] false) := by
  have HF := Lib.hid (fun w' (hb : Below w.heap.size w w') => find_any n A cap ps x w' (h.kept hb (Nat.le_refl _)) hm)
  have HG := Lib.hid (fun w' (hb' : Below w.heap.size w w') => (sgood_any n A cap ps w' (h.kept hb' (Nat.le_refl _)) (by unfold maxLen; omega)).mono (fun e w'' hp => show e = .returned (.bool true) ∧ Below w'.heap.size w' w'' from ⟨by rw [← hb]; exact hp.1, hp.2⟩))
  have HX := Lib.hid hf
  clear h hm hb hf
  go_enter Try.func13, Try.ntmps13
  go_wp2_with (first
    | (go_at_call 95; refine (HF.out _ (((Below.refl w.heap.size w).alloc (Nat.le_refl _) _).alloc (by simp) _)).mono ?_; rintro e w1 ⟨⟨r, rfl, hr⟩, hb1⟩; obtain rfl := find_one hr HX.out; have hz1 : w.heap.size + 2 ≤ w1.heap.size := (by have := hb1.size; simp at this; omega); have a10 : w1.cell? ⟨w.heap.size, 0, none⟩ = some (.int .i64 n) := (hb1.cell (p := ⟨w.heap.size, 0, none⟩) (by first | (simp; done) | (simp; omega) | (dsimp only; omega))).trans (by first | go_simp | simp); have a11 : w1.cell? ⟨w.heap.size, 1, none⟩ = some (.slice A ps.length cap) := (hb1.cell (p := ⟨w.heap.size, 1, none⟩) (by first | (simp; done) | (simp; omega) | (dsimp only; omega))).trans (by first | go_simp | simp); have c10 : w1.cell? ⟨w.heap.size + 1, 0, none⟩ = some (.int .i64 0) := (hb1.cell (p := ⟨w.heap.size + 1, 0, none⟩) (by first | (simp; done) | (simp; omega) | (dsimp only; omega))).trans (by first | go_simp | simp); have f10 : w1.frozen? ⟨w.heap.size + 1, 0, none⟩ = false := (hb1.frozen (p := ⟨w.heap.size + 1, 0, none⟩) (by first | (simp; done) | (simp; omega) | (dsimp only; omega))).trans (by first | go_simp | simp); have c11 : w1.cell? ⟨w.heap.size + 1, 1, none⟩ = some (.slice none 0 0) := (hb1.cell (p := ⟨w.heap.size + 1, 1, none⟩) (by first | (simp; done) | (simp; omega) | (dsimp only; omega))).trans (by first | go_simp | simp); have f11 : w1.frozen? ⟨w.heap.size + 1, 1, none⟩ = false := (hb1.frozen (p := ⟨w.heap.size + 1, 1, none⟩) (by first | (simp; done) | (simp; omega) | (dsimp only; omega))).trans (by first | go_simp | simp); have hB1 := Lib.hid ((((Below.refl w.heap.size w).alloc (Nat.le_refl _) (.cells #[.int .i64 n, .slice A ps.length cap] 28)).alloc (by simp) (.cells #[.int .i64 0, .slice none 0 0] 28)).trans (hb1.mono (by simp; omega))); clear hr hb1)
    | (go_at_call 96; refine (HG.out _ hB1.out).mono ?_; rintro e w2 ⟨rfl, hb2⟩; have hz2 := hb2.size; have a20 : w2.cell? ⟨w.heap.size, 0, none⟩ = some (.int .i64 n) := (hb2.cell (p := ⟨w.heap.size, 0, none⟩) (by first | (simp; done) | (simp; omega) | (dsimp only; omega))).trans a10; have a21 : w2.cell? ⟨w.heap.size, 1, none⟩ = some (.slice A ps.length cap) := (hb2.cell (p := ⟨w.heap.size, 1, none⟩) (by first | (simp; done) | (simp; omega) | (dsimp only; omega))).trans a11; have c20 : w2.cell? ⟨w.heap.size + 1, 0, none⟩ = some (.int .i64 0) := (hb2.cell (p := ⟨w.heap.size + 1, 0, none⟩) (by first | (simp; done) | (simp; omega) | (dsimp only; omega))).trans c10; have f20 : w2.frozen? ⟨w.heap.size + 1, 0, none⟩ = false := (hb2.frozen (p := ⟨w.heap.size + 1, 0, none⟩) (by first | (simp; done) | (simp; omega) | (dsimp only; omega))).trans f10; have c21 : w2.cell? ⟨w.heap.size + 1, 1, none⟩ = some (.slice none 0 0) := (hb2.cell (p := ⟨w.heap.size + 1, 1, none⟩) (by first | (simp; done) | (simp; omega) | (dsimp only; omega))).trans c11; have f21 : w2.frozen? ⟨w.heap.size + 1, 1, none⟩ = false := (hb2.frozen (p := ⟨w.heap.size + 1, 1, none⟩) (by first | (simp; done) | (simp; omega) | (dsimp only; omega))).trans f11; have hB2 := Lib.hid (hB1.out.trans (hb2.mono hB1.out.size)); clear hb2 a10 a11 c10 c11 f10 f11))
  refine bodyPost_ret (v := .tuple #[nv 0 none 0 0, .bool false]) ?_ rfl (GivesNA.none ?_)
  · simp [results, Try.results13, go_sem, c20, c21]
  · exact (hB2.out.setCell (p := ⟨w.heap.size + 1, 0, none⟩) (by show w.heap.size ≤ w.heap.size + 1; omega) _).setCell (p := ⟨w.heap.size + 1, 1, none⟩) (by show w.heap.size ≤ w.heap.size + 1; omega) _
set_option maxHeartbeats 1000000 in
theorem srem_yes (N i : Nat) (A : Option Addr) (cap : Nat) (ps : List Pp) (x : Int) (w : World) (h : PAt w A ps) (hm : ps.length ≤ 1048576) (hb : goodB N ps = true) (hcap : ps.length ≤ cap) (hi : i < ps.length) (hf : FindIs ps x i) :
    Calls Try.prog 13 #[nv N A ps.length cap, .int .i64 x] w (GivesNA w N (wo ps i) true) := by
  have HF := Lib.hid (fun w' (hb : Below w.heap.size w w') => find_any N A cap ps x w' (h.kept hb (Nat.le_refl _)) hm)
  have HG := Lib.hid (fun w' (hb' : Below w.heap.size w w') => (sgood_any N A cap ps w' (h.kept hb' (Nat.le_refl _)) (by unfold maxLen; omega)).mono (fun e w'' hp => show e = .returned (.bool true) ∧ Below w'.heap.size w' w'' from ⟨by rw [← hb]; exact hp.1, hp.2⟩))
  have hl := (good_of hb).2.2.1
  obtain ⟨b, off, hA, _⟩ := h.at_ hi
  subst hA
  have HW := Lib.hid (fun w' (hb : Below w.heap.size w w') => swo_any N i b off ps.length cap ps w' (h.kept hb (Nat.le_refl _)) rfl hi hcap hl)
  have HX := Lib.hid hf
  have hi0 : (0 : Int) ≤ (i : Int) := by omega
  have hi1 : ¬ (i : Int) < 0 := by omega
  clear h hm hb hf
  go_enter Try.func13, Try.ntmps13
  go_wp2_with (first
    | (go_at_call 95; refine (HF.out _ (((Below.refl w.heap.size w).alloc (Nat.le_refl _) _).alloc (by simp) _)).mono ?_; rintro e w1 ⟨⟨r, rfl, hr⟩, hb1⟩; obtain rfl := find_one hr HX.out; have hz1 : w.heap.size + 2 ≤ w1.heap.size := (by have := hb1.size; simp at this; omega); have a10 : w1.cell? ⟨w.heap.size, 0, none⟩ = some (.int .i64 N) := (hb1.cell (p := ⟨w.heap.size, 0, none⟩) (by first | (simp; done) | (simp; omega) | (dsimp only; omega))).trans (by first | go_simp | simp); have a11 : w1.cell? ⟨w.heap.size, 1, none⟩ = some (.slice (some ⟨b, off, none⟩) ps.length cap) := (hb1.cell (p := ⟨w.heap.size, 1, none⟩) (by first | (simp; done) | (simp; omega) | (dsimp only; omega))).trans (by first | go_simp | simp); have c10 : w1.cell? ⟨w.heap.size + 1, 0, none⟩ = some (.int .i64 0) := (hb1.cell (p := ⟨w.heap.size + 1, 0, none⟩) (by first | (simp; done) | (simp; omega) | (dsimp only; omega))).trans (by first | go_simp | simp); have f10 : w1.frozen? ⟨w.heap.size + 1, 0, none⟩ = false := (hb1.frozen (p := ⟨w.heap.size + 1, 0, none⟩) (by first | (simp; done) | (simp; omega) | (dsimp only; omega))).trans (by first | go_simp | simp); have c11 : w1.cell? ⟨w.heap.size + 1, 1, none⟩ = some (.slice none 0 0) := (hb1.cell (p := ⟨w.heap.size + 1, 1, none⟩) (by first | (simp; done) | (simp; omega) | (dsimp only; omega))).trans (by first | go_simp | simp); have f11 : w1.frozen? ⟨w.heap.size + 1, 1, none⟩ = false := (hb1.frozen (p := ⟨w.heap.size + 1, 1, none⟩) (by first | (simp; done) | (simp; omega) | (dsimp only; omega))).trans (by first | go_simp | simp); have hB1 := Lib.hid ((((Below.refl w.heap.size w).alloc (Nat.le_refl _) (.cells #[.int .i64 N, .slice (some ⟨b, off, none⟩) ps.length cap] 28)).alloc (by simp) (.cells #[.int .i64 0, .slice none 0 0] 28)).trans (hb1.mono (by simp; omega))); clear hr hb1)
    | (go_at_call 96; refine (HG.out _ hB1.out).mono ?_; rintro e w2 ⟨rfl, hb2⟩; have hz2 := hb2.size; have a20 : w2.cell? ⟨w.heap.size, 0, none⟩ = some (.int .i64 N) := (hb2.cell (p := ⟨w.heap.size, 0, none⟩) (by first | (simp; done) | (simp; omega) | (dsimp only; omega))).trans a10; have a21 : w2.cell? ⟨w.heap.size, 1, none⟩ = some (.slice (some ⟨b, off, none⟩) ps.length cap) := (hb2.cell (p := ⟨w.heap.size, 1, none⟩) (by first | (simp; done) | (simp; omega) | (dsimp only; omega))).trans a11; have c20 : w2.cell? ⟨w.heap.size + 1, 0, none⟩ = some (.int .i64 0) := (hb2.cell (p := ⟨w.heap.size + 1, 0, none⟩) (by first | (simp; done) | (simp; omega) | (dsimp only; omega))).trans c10; have f20 : w2.frozen? ⟨w.heap.size + 1, 0, none⟩ = false := (hb2.frozen (p := ⟨w.heap.size + 1, 0, none⟩) (by first | (simp; done) | (simp; omega) | (dsimp only; omega))).trans f10; have c21 : w2.cell? ⟨w.heap.size + 1, 1, none⟩ = some (.slice none 0 0) := (hb2.cell (p := ⟨w.heap.size + 1, 1, none⟩) (by first | (simp; done) | (simp; omega) | (dsimp only; omega))).trans c11; have f21 : w2.frozen? ⟨w.heap.size + 1, 1, none⟩ = false := (hb2.frozen (p := ⟨w.heap.size + 1, 1, none⟩) (by first | (simp; done) | (simp; omega) | (dsimp only; omega))).trans f11; have hB2 := Lib.hid (hB1.out.trans (hb2.mono hB1.out.size)); clear hb2 a10 a11 c10 c11 f10 f11)
    | (go_at_call 97; refine (HW.out _ hB2.out).mono ?_; rintro e w3 ⟨g, c, rfl, hg3, hc3, hp3, hb3⟩; have hz3 := hb3.size; have c30 : w3.cell? ⟨w.heap.size + 1, 0, none⟩ = some (.int .i64 0) := (hb3.cell (p := ⟨w.heap.size + 1, 0, none⟩) (by dsimp only; omega)).trans c20; have f30 : w3.frozen? ⟨w.heap.size + 1, 0, none⟩ = false := (hb3.frozen (p := ⟨w.heap.size + 1, 0, none⟩) (by dsimp only; omega)).trans f20; have c31 : w3.cell? ⟨w.heap.size + 1, 1, none⟩ = some (.slice none 0 0) := (hb3.cell (p := ⟨w.heap.size + 1, 1, none⟩) (by dsimp only; omega)).trans c21; have f31 : w3.frozen? ⟨w.heap.size + 1, 1, none⟩ = false := (hb3.frozen (p := ⟨w.heap.size + 1, 1, none⟩) (by dsimp only; omega)).trans f21; have HP := Lib.hid hp3; have hB3 := Lib.hid (hB2.out.trans (hb3.mono hB2.out.size)); clear hb3 hp3 c20 c21 f20 f21))
  refine bodyPost_ret (v := .tuple #[nv N (some ⟨g, 0, none⟩) (ps.length - 1) c, .bool true]) ?_ rfl ⟨some ⟨g, 0, none⟩, c, by rw [wo_len ps i hi], by rw [wo_len ps i hi]; exact hc3, ?_, ?_⟩
  · simp [results, Try.results13, go_sem, c30, c31]
  · exact pat_set1 (pat_set1 HP.out (by dsimp only; omega)) (by dsimp only; omega)
  · exact (hB3.out.setCell (p := ⟨w.heap.size + 1, 0, none⟩) (by show w.heap.size ≤ w.heap.size + 1; omega) _).setCell (p := ⟨w.heap.size + 1, 1, none⟩) (by show w.heap.size ≤ w.heap.size + 1; omega) _
end Go.Proofs.Ytmehhojnefoedab.S2
