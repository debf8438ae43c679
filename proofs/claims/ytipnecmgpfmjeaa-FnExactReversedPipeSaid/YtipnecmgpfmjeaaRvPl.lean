/- A pipe reversed; a clone of pipes and of numbers: plain facts and contracts. Conditions: each theorem's own premises. -/
import Derived.Test.YtipnecmgpfmjeaaSpI
import Derived.Test.YtipnecmgpfmjeaaFindOne
import Derived.Deep.DeepCutAuto
namespace Go.Proofs.Ytipnecmgpfmjeaa.S2
open Go.RowKit P2

/-- With the pipe at i reversed. -/
def rvL (ps : List Pp) (i : Nat) : List Pp := ps.set i ⟨(pAt ps i).id, (pAt ps i).to, (pAt ps i).fr, (pAt ps i).sz⟩
def ngL (fl : List Int) (i : Nat) : List Int := fl.set i (-(fl.getD i 0))
theorem rvL_len (ps : List Pp) (i : Nat) : (rvL ps i).length = ps.length := by simp [rvL]
theorem ngL_len (fl : List Int) (i : Nat) : (ngL fl i).length = fl.length := by simp [ngL]
theorem pcs_set (ps : List Pp) : ∀ i, i < ps.length → ((pcs ps).set (i * 4 + 1) (.int .i64 (pAt ps i).to)).set (i * 4 + 2) (.int .i64 (pAt ps i).fr) = pcs (rvL ps i) := by
  induction ps with
  | nil => intro i h; simp at h
  | cons p ps ih =>
    intro i hi
    have e : pcs (p :: ps) = pcs4 p ++ pcs ps := rfl
    match i with
    | 0 =>
      have e2 : pAt (p :: ps) 0 = p := by simp [pAt, List.getD]
      unfold rvL
      rw [e2, e]
      simp [pcs4, pcs]
    | i + 1 =>
      have e2 : pAt (p :: ps) (i + 1) = pAt ps i := by simp [pAt, List.getD]
      have h1 := ih i (by simpa using hi)
      unfold rvL at h1 ⊢
      rw [e2, e, List.set_cons_succ]
      have e3 : ∀ (q : Pp) (l : List Pp), pcs (q :: l) = pcs4 q ++ pcs l := fun _ _ => rfl
      rw [e3, ← h1]
      have l4 : (pcs4 p).length = 4 := rfl
      rw [List.set_append_right _ _ (by omega), List.set_append_right _ _ (by omega), l4]
      congr 3 <;> omega
theorem ng_set (fl : List Int) (i : Nat) : (fl.map iv).set i (iv (-(fl.getD i 0))) = (ngL fl i).map iv := by
  unfold ngL
  rw [List.map_set]

theorem own_sl4 {w : World} {B n : Nat} {v : Value} {xs : List Value} {e : TypeId} {k : Nat} (h : w.ownsRow B e k v n xs) (hn : 0 < n) : ∃ g cap, v = .slice (some ⟨g, 0, none⟩) n cap ∧ B ≤ g := by
  rcases h.2 with ⟨_, h0⟩ | ⟨g, cap, cur, hv, hb, _⟩
  · omega
  · exact ⟨g, cap, hv, hb⟩

set_option maxHeartbeats 4000000 in
set_option maxRecDepth 100000 in
/-- A clone of pipes, one or more: a row of its own. -/
theorem pclone_some (b off capv : Nat) (ps : List Pp) (w : World) (hv : PAt w (some ⟨b, off, none⟩) ps) (hm : ps.length ≤ 10) (hn : 0 < ps.length) :
    Calls Try.prog 72 #[.slice (some ⟨b, off, none⟩) ps.length capv] w fun e w' => ∃ g cap, e = .returned (.slice (some ⟨g, 0, none⟩) ps.length cap) ∧ w.heap.size ≤ g ∧ w'.ownsRow w.heap.size 40 4 (.slice (some ⟨g, 0, none⟩) ps.length cap) ps.length (pcs ps) ∧ Below w.heap.size w w' := by
  obtain ⟨i0, hi0, hz0, hz1, hz2⟩ := info_parts infoP
  have hbl : b < w.heap.size := by
    rcases hv with h | ⟨b', off', hA, hlt, _⟩
    · rw [h] at hn; simp at hn
    · injection hA with hA; injection hA with hb' _ _; rw [hb']; exact hlt
  have HV := Lib.hid (fun w' (hb' : Below w.heap.size w w') => (show ∀ j u, (pcs ps)[j]? = some u → w'.cell? ((⟨b, off, none⟩ : Addr).add j) = some u from by have := pat_take hv hbl hb' (Nat.le_refl ps.length); rwa [List.take_length] at this))
  have HO0 := Lib.hid (own_emptyP w w.heap.size (Nat.le_refl _))
  have q22 : ∀ (w : World) (a : Option Addr) (n c n' c' : Nat), (binOp .eql 24 (.slice a n c) (.slice none n' c')).run Try.prog w = .ok (.bool a.isNone) w := fun w a n c n' c' => Lib.run_eql_slice_nil w _ _ a n c n' c' Try.underlying24
  clear hv
  go_enter Try.func72, Try.ntmps72
  go_wp2_with (at_builtin; go_must (refine wpList_append_own _ rfl _ _ 24 rfl w.heap.size 40 i0 _ 4 32 Try.underlying24 hi0 hz0 hz1 hz2 rfl (by omega) _ _ _ rfl HO0.out ⟨b, off, none⟩ ps.length capv (pcs ps) rfl (pcs_len ps) (HV.out _ ((Below.refl _ _).alloc (Nat.le_refl _) _)) (pcs_one ps) ?c3 ?c4 ?c5 ?_))
  case c3 => unfold maxLen; omega
  case c4 => omega
  case c5 => simp
  intro v' w3 hown' hgrow hnil
  obtain ⟨g, cg, rfl, hgg⟩ := own_sl4 hown' (by omega)
  have hB3 := Lib.hid (((Below.refl w.heap.size w).alloc (Nat.le_refl _) (.cells #[] 40)).grown hgrow (by simp) (fun g hg => (HO0.out.lt g hg).1))
  have HO3 := Lib.hid hown'
  clear hown' hgrow hnil HO0
  go_wp2_with fail
  go_ret
  exact ⟨g, cg, by simp, hgg, by simpa using HO3.out, hB3.out⟩
/-- A clone of numbers, one or more: a row of its own. -/
theorem iclone_some (A : Option Addr) (cap : Nat) (l : List Int) (w : World) (h : IAt w A l) (hn : 0 < l.length) (hl : l.length ≤ 10) :
    Calls Try.prog 73 #[.slice A l.length cap] w fun e w' => ∃ g cap, e = .returned (.slice (some ⟨g, 0, none⟩) l.length cap) ∧ w.heap.size ≤ g ∧ IOwn w' w.heap.size (.slice (some ⟨g, 0, none⟩) l.length cap) l ∧ Below w.heap.size w w' := by
  obtain ⟨b, off, hA, hbl, _⟩ := h.at_ hn
  subst hA
  have hc : ∀ j, j < l.length → w.cell? ⟨b, off + j, none⟩ = some (.int .i64 (l.getD j 0)) := fun j hj => by
    obtain ⟨b', off', hA', _, hx⟩ := h.at_ hj
    simp only [Option.some.injEq, Addr.mk.injEq, and_true] at hA'
    obtain ⟨rfl, rfl⟩ := hA'
    exact hx
  refine (Try.slices_Clone_int b off l.length cap l w (Nat.le_refl _) (by omega) hc).mono ?_
  rintro e w' ⟨v', rfl, ho, hne, hb⟩
  rw [List.take_length] at ho
  obtain ⟨g, cap', hv, hg, _⟩ := World.ownsRow.form ho hn
  subst hv
  exact ⟨g, cap', rfl, hg, ho, hb⟩
end Go.Proofs.Ytipnecmgpfmjeaa.S2
