/- What the model's l1Split returns: a new slice of the pieces between the bytes b. Conditions: each theorem's own premises. -/
import Derived.Test.YtpdkphokinhhdaaDoorPlainTwo
import Derived.Test.YtpdkphokinhhdaaDoorSumOne
import Derived.OwnWalk
import Derived.WalkSmall
import Derived.Maps.AppendAt
import Derived.WalkSpells
import Derived.WalkLawsBesides
import Derived.Outline
namespace Go.Proofs.YtpdkphokinhhdaaDoor.S1
open Go.RowKit P1

def strV (l : List UInt8) : Value := .string ⟨l.toArray⟩
theorem infoS : (Tryd.prog.info? 9).map (fun i => (i.zero, i.size, i.bytes)) = some (some (.string ⟨#[]⟩), 1, 16) := by kernel_rfl

/-- A slice of strings of the call's own. -/
def OwnStrs (B : Nat) (v : Value) (ps : List (List UInt8)) (w : World) : Prop := w.ownsRow B 9 1 v ps.length (ps.map strV)
theorem ext_strV (s : ByteArray) (a b : Nat) : Value.string (s.extract a b) = strV ((s.data.toList.drop a).take (b - a)) := by
  unfold strV
  rw [← Lib.extract_data]
theorem ext_strV_end (s : ByteArray) (a : Nat) : Value.string (s.extract a s.size) = strV (s.data.toList.drop a) := by
  unfold strV
  rw [← Lib.extract_to_end]

theorem own_start (w : World) : OwnStrs w.heap.size (.slice (some ⟨w.heap.size, 0, none⟩) 0 0) [] (w.alloc (.cells #[] 9)) :=
  ⟨rfl, .inr ⟨w.heap.size, 0, #[], rfl, Nat.le_refl _, by simpa using (MapKept.heap_alloc w (.cells #[] 9)).1, Nat.le_refl _, Nat.zero_le _, rfl, rfl⟩⟩

theorem sp_cut {b : UInt8} {s : ByteArray} {acc : List (List UInt8)} {fr k : Nat} (h : Sp b s.data.toList acc fr k) (hk : k < s.size) (heq : s[k] = b) : Sp b s.data.toList (acc ++ [(s.data.toList.drop fr).take (k - fr)]) (k + 1) (k + 1) :=
  h.cut (by simpa using hk) (by rw [← heq]; rfl)
theorem sp_next {b : UInt8} {s : ByteArray} {acc : List (List UInt8)} {fr k : Nat} (h : Sp b s.data.toList acc fr k) (hk : k < s.size) (hne : s[k] ≠ b) : Sp b s.data.toList acc fr (k + 1) :=
  h.next (by simpa using hk) hne
theorem grown_own {B : Nat} {w0 w w1 : World} {e : TypeId} {v : Value} {n : Nat} {xs : List Value} {o : Obj} (h : Below B w0 (w.alloc o)) (hg : (w.alloc o).grownBy w1 v.ownBlock) (hown : w.ownsRow B e 1 v n xs) (hB : w0.heap.size ≤ w.heap.size) (hBw : B ≤ w0.heap.size := by exact Nat.le_refl _) : Below B w0 w1 :=
  h.grown hg (by simp; omega) fun k hk => (hown.lt k hk).1

set_option maxHeartbeats 1000000 in
set_option maxRecDepth 100000 in
theorem split_any (s : ByteArray) (b : UInt8) (c : Int) (hc : c = (b.toNat : Int)) (w : World) (hs : s.size ≤ 1048576) :
    Calls Tryd.prog 46 #[.string s, .int .u8 c] w fun e w' => ∃ v, e = .returned v ∧ OwnStrs w.heap.size v (splitL b s.data.toList) w' ∧ Below w.heap.size w w' := by
  have HC := Lib.hid hc
  clear hc
  obtain ⟨i0, hi, hz0, hz1, hz2⟩ := info_parts infoS
  have hll : s.data.toList.length = s.size := by simp
  have HL := Lib.hid hll
  clear hll
  go_enter Tryd.func46, Tryd.ntmps46
  go_wp2
  go_loopw [5, 6, 7] (fun v f i wr => ∃ (k fr : Nat) (acc : List (List UInt8)), k ≤ s.size ∧ i = .int .i64 k ∧ f = .int .i64 fr ∧ fr ≤ k ∧ acc.length ≤ fr ∧ Hid (Sp b s.data.toList acc fr k) ∧ OwnStrs w.heap.size v acc wr ∧ Below w.heap.size w wr) (fun _ _ i _ => s.size - (intOf i).toNat)
  case atStart => exact ⟨0, 0, [], Nat.zero_le _, rfl, rfl, Nat.le_refl _, Nat.le_refl _, Lib.hid (Sp.start _ _), own_start w, (Below.refl _ _).alloc (Nat.le_refl _) _⟩
  case round =>
    obtain ⟨k, fr, acc, hk, rfl, rfl, hfr, hacc, hsp, hown, hB⟩ := hrel
    unfold OwnStrs at hown
    by_cases hlt : k < s.size
    · by_cases hb : (s[k]'hlt) = b
      · have hE : (((s[k]'hlt).toNat : Int) == c) = true := by rw [HC.out, hb]; exact beq_self_eq_true _
        have hcut := Lib.hid (sp_cut hsp.out hlt hb)
        clear hb
        go_wp2_with (at_builtin; refine wpList_append_own _ rfl _ _ 69 rfl w.heap.size 9 i0 (.string ⟨#[]⟩) 1 16 Tryd.underlying69 hi hz0 hz1 hz2 rfl (by decide) _ _ _ rfl (hown.alloc _) ⟨wr.heap.size, 0, none⟩ 1 1 [.string (s.extract fr k)] rfl rfl (cell_one_new _ _ _) ?c2 ?c3 ?c4 ?c5 ?_)
        case c2 => intro u hu; simp at hu; subst hu; rfl
        case c3 => unfold maxLen; omega
        case c4 => omega
        case c5 => have := hB.size; simp; omega
        intro v' w1 hown' hgrow _
        have hB1 := grown_own (B := w.heap.size) (hB.alloc hB.size (.cells #[.string (s.extract fr k)] 9)) hgrow hown hB.size
        have hown1 : w1.ownsRow w.heap.size 9 1 v' (acc ++ [(s.data.toList.drop fr).take (k - fr)]).length ((acc ++ [(s.data.toList.drop fr).take (k - fr)]).map strV) := by
          rw [List.length_append, List.map_append]
          simp only [ext_strV] at hown'
          exact hown'
        have HO := Lib.hid hown1
        clear hown hown' hgrow hown1
        go_wp2
        go_roundw
        case rel => exact ⟨k + 1, k + 1, _, by omega, by go_num, by go_num, Nat.le_refl _, by simp; omega, hcut, HO.out, hB1⟩
        case measure => simp [intOf]; omega
      · have hE : (((s[k]'hlt).toNat : Int) == c) = false := by
          rw [HC.out, beq_eq_false_iff_ne]
          intro e
          exact hb (UInt8.toNat_inj.1 (by omega))
        have hnext := Lib.hid (sp_next hsp.out hlt hb)
        have HO := Lib.hid hown
        clear hb hown
        go_wp2
        go_roundw
        case rel => exact ⟨k + 1, fr, acc, by omega, by go_num, rfl, by omega, hacc, hnext, HO.out, hB⟩
        case measure => simp [intOf]; omega
    · have hdone := Lib.hid (hsp.out.done (by rw [HL.out]; omega))
      go_wp2_with (at_builtin; refine wpList_append_own _ rfl _ _ 69 rfl w.heap.size 9 i0 (.string ⟨#[]⟩) 1 16 Tryd.underlying69 hi hz0 hz1 hz2 rfl (by decide) _ _ _ rfl (hown.alloc _) ⟨wr.heap.size, 0, none⟩ 1 1 [.string (s.extract fr s.size)] rfl rfl (cell_one_new _ _ _) ?c2 ?c3 ?c4 ?c5 ?_)
      case c2 => intro u hu; simp at hu; subst hu; rfl
      case c3 => unfold maxLen; omega
      case c4 => omega
      case c5 => have := hB.size; simp; omega
      intro v' w1 hown' hgrow _
      have hB1 := grown_own (B := w.heap.size) (hB.alloc hB.size (.cells #[.string (s.extract fr s.size)] 9)) hgrow hown hB.size
      have hown1 : OwnStrs w.heap.size v' (splitL b s.data.toList) w1 := by
        rw [hdone.out]
        unfold OwnStrs
        rw [List.length_append, List.map_append]
        simp only [ext_strV_end] at hown'
        exact hown'
      have HO := Lib.hid hown1
      clear hown hown' hgrow hown1
      go_wp2
      go_ret
      exact ⟨_, rfl, HO.out, hB1⟩
end Go.Proofs.YtpdkphokinhhdaaDoor.S1
