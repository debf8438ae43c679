/- What both sides of the law FnSplitJoin return, in one form: contracts. Conditions: each theorem's own premises. -/
import Derived.Test.YtcheogmnhooffaaSplitTwo
import Derived.Test.YtcheogmnhooffaaJoinTwo
import Derived.Test.YtcheogmnhooffaaDrawFour
namespace Go.Proofs.Ytcheogmnhooffaa.S1
open Go.RowKit P1

theorem less_flip : ∀ (x y : List UInt8), Op.bytesLess x y = true → Op.bytesLess y x = false
  | [], [], h => by simp [Op.bytesLess] at h
  | [], _ :: _, _ => by simp [Op.bytesLess]
  | _ :: _, [], h => by simp [Op.bytesLess] at h
  | a :: x, b :: y, h => by
    simp only [Op.bytesLess, Bool.or_eq_true, decide_eq_true_eq, Bool.and_eq_true, beq_iff_eq] at h
    simp only [Op.bytesLess, Bool.or_eq_false_iff, Bool.and_eq_false_iff, decide_eq_false_iff_not, beq_eq_false_iff_ne]
    rcases h with h | ⟨rfl, h⟩
    · rw [UInt8.lt_iff_toNat_lt] at h
      refine ⟨fun h' => ?_, .inl fun e => ?_⟩
      · rw [UInt8.lt_iff_toNat_lt] at h'; omega
      · rw [e] at h; omega
    · exact ⟨fun h' => by rw [UInt8.lt_iff_toNat_lt] at h'; omega, .inr (less_flip x y h)⟩

theorem split_small (b : UInt8) : ∀ (l : List UInt8), ∀ p ∈ splitL b l, p.length ≤ l.length
  | [], p, hp => by simp [splitL] at hp; simp [hp]
  | c :: r, p, hp => by
    have ih := split_small b r
    unfold splitL at hp
    split at hp
    · rcases List.mem_cons.1 hp with rfl | hp
      · simp
      · have := ih p hp; simp; omega
    · match e : splitL b r with
      | [] => exact absurd e (splitL_ne b r)
      | q :: t =>
        rw [e] at hp ih
        rcases List.mem_cons.1 hp with rfl | hp
        · have := ih q (by simp); simp; omega
        · have := ih p (by simp [show p ∈ t from hp]); simp; omega

theorem less_impl (a b : ByteArray) (w : World) : Calls Try.prog 15 #[.string a, .string b] w fun e w' => e = .returned (.bool (Op.bytesLess a.toList b.toList)) ∧ w' = w := by
  go_enter Try.func15, Try.ntmps15
  go_wp2
  go_ret
  exact ⟨rfl, rfl⟩
theorem less_spec (a b : ByteArray) (w : World) : Calls Try.prog 16 #[.string a, .string b] w fun e w' => e = .returned (.bool (Op.bytesLess a.toList b.toList)) ∧ w' = w := by
  go_enter Try.func16, Try.ntmps16
  go_wp2
  go_ret
  exact ⟨rfl, rfl⟩

/-- Both joiners hand back the same. -/
theorem joins (ss : List ByteArray) (t : ByteArray) (hn : ss.length ≤ 5000) (hz : ∀ j, j < ss.length → (ss.getD j ByteArray.empty).size ≤ 5000) :
    ∃ (o : ByteArray) (f : Bool), (∀ g c w, At w g 0 ss → Calls Try.prog 12 #[.slice (some ⟨g, 0, none⟩) ss.length c, .string t] w fun e w' => e = .returned (.tuple #[.string o, .bool f]) ∧ Below w.heap.size w w') ∧
      (∀ g c w, At w g 0 ss → Calls Try.prog 13 #[.slice (some ⟨g, 0, none⟩) ss.length c, .string t] w fun e w' => e = .returned (.tuple #[.string o, .bool f]) ∧ Below w.heap.size w w') := by
  have same : ∀ {f : Nat} {vs : Array Value} {v : Value} {w : World}, Calls Try.prog f vs w (fun e w' => e = .returned v ∧ w' = w) → Calls Try.prog f vs w fun e w' => e = .returned v ∧ Below w.heap.size w w' :=
    fun h => h.mono fun _ _ ⟨he, hw⟩ => ⟨he, by rw [hw]; exact Below.refl _ _⟩
  by_cases h0 : ss.length = 0
  · have e : ss = [] := List.length_eq_zero_iff.1 h0
    subst e
    refine ⟨⟨#[]⟩, false, fun g c w _ => same (join_none _ c t w), fun g c w _ => ?_⟩
    by_cases ht : t.size = 1
    · exact same (sjoin_none _ c t w ht)
    · exact same (sjoin_sep _ _ c t w ht)
  · by_cases ht : t.size = 1
    · obtain ⟨⟨l⟩⟩ := t
      match l, ht with
      | [b], _ =>
        exact ⟨⟨((jn b (lists ss)).getD []).toArray⟩, (jn b (lists ss)).isSome,
          fun g c w h => join_some g 0 c ss b w h (by omega) (by omega) (fun j hj => by have := hz j hj; omega),
          fun g c w h => (sjoin_some g 0 c ss b w h (by omega) (by omega) (fun j hj => by have := hz j hj; omega)).mono fun _ _ ⟨he, d, hw⟩ => ⟨he, by rw [hw]; exact below_drewN (Below.refl _ _) d⟩⟩
    · exact ⟨⟨#[]⟩, false, fun g c w _ => same (join_sep _ _ c t w (by omega) ht), fun g c w _ => same (sjoin_sep _ _ c t w ht)⟩

/-- The pieces of a text joined again. -/
theorem join_pieces (s : ByteArray) (b : UInt8) (g c : Nat) (w : World) (hs : s.size ≤ 4000) (h : At w g 0 (pieces b s)) :
    Calls Try.prog 12 #[.slice (some ⟨g, 0, none⟩) (pieces b s).length c, .string ⟨#[b]⟩] w fun e w' => e = .returned (.tuple #[.string s, .bool true]) ∧ Below w.heap.size w w' := by
  have hl : lists (pieces b s) = splitL b s.data.toList := by simp [lists, pieces, Function.comp_def]
  have hj : jnV b (pieces b s) = .tuple #[.string s, .bool true] := by
    unfold jnV
    rw [hl, jn_split b _ (by simpa using hs)]
    simp
  have hpos : 1 ≤ (pieces b s).length := by rw [pieces_len]; exact List.length_pos_iff.2 (splitL_ne _ _)
  have hsz : ∀ p ∈ splitL b s.data.toList, p.length ≤ s.data.toList.length := split_small b _
  refine (join_some g 0 c (pieces b s) b w h (by have := pieces_few b s hs; omega) hpos (fun j hj' => ?_)).mono fun _ _ ⟨he, hb⟩ => ⟨by rw [he, hj], hb⟩
  have e : (pieces b s).getD j ByteArray.empty = (pieces b s)[j] := by simp [List.getD, hj']
  rw [e]
  have hm : (pieces b s)[j] ∈ pieces b s := List.getElem_mem hj'
  unfold pieces at hm
  obtain ⟨p, hp, he⟩ := List.mem_map.1 hm
  have := hsz p hp
  simp at this
  unfold pieces
  rw [← he]
  simp [ByteArray.size]
  omega
end Go.Proofs.Ytcheogmnhooffaa.S1
