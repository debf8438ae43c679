/- The model's digits of a number: contracts. Conditions: each theorem's own premises. -/
import Derived.Test.YtpdkphokinhhdaaDoorUnitFour
import Derived.Laws.IdiomStrings
import Derived.Laws.Concat
import Derived.Laws.DeepStrings4
import Derived.WalkSpells
namespace Go.Proofs.YtpdkphokinhhdaaDoor.S3
open Go.RowKit P1 P3

theorem one_byte (W : World) (c : UInt8) (z : Int) (hz : z = (c.toNat : Int)) : (convert 22 9 (.slice (some ⟨W.heap.size, 0, none⟩) 1 1)).run Tryd.prog (W.alloc (.cells #[.int .u8 z] 5)) = .ok (.string ⟨#[c]⟩) (W.alloc (.cells #[.int .u8 z] 5)) :=
  run_convert_bytes_back (P := Tryd.prog) (W.alloc (.cells #[.int .u8 z] 5)) 22 9 5 ⟨W.heap.size, 0, none⟩ 1 [c] Tryd.underlying22 Tryd.underlying5 Tryd.underlying9 (fun j hj => by
    have hj' : j = 0 := by simpa using hj
    subst hj'
    have e : ((⟨W.heap.size, 0, none⟩ : Addr).add 0) = ⟨W.heap.size, 0, none⟩ := by simp [Addr.add]
    rw [e, World.cell?_alloc_at _ _ _ _ rfl, hz]
    rfl)
theorem add_one (x y : List UInt8) (hx : x.length ≤ 100) (hy : y.length ≤ 100) (wx : World) : (Op.stringOp .add ⟨x.toArray⟩ ⟨y.toArray⟩).run Tryd.prog wx = .ok (.string ⟨(x ++ y).toArray⟩) wx :=
  run_string_add_lists wx x y (by omega) (by omega)
/-- How long the text of a value is. -/
def strLen : Value → Nat
  | .string b => b.size
  | _ => 0

set_option maxHeartbeats 2000000 in
set_option maxRecDepth 100000 in
theorem digits_any (n least : Nat) (w : World) (hn : n < 100000000000000000) (hl : 1 ≤ least) (hl5 : least ≤ 5) :
    Calls Tryd.prog 37 #[.int .i64 (n : Int), .int .i64 (least : Int)] w fun e w' => (∃ J, least ≤ J ∧ J ≤ 20 ∧ n < 10 ^ J ∧ (J = least ∨ 10 ^ (J - 1) ≤ n) ∧ e = .returned (.string ⟨(lowDig n J).toArray⟩)) ∧ Below w.heap.size w w' := by
  have HN := Lib.hid hn
  clear hn
  go_enter Tryd.func37, Tryd.ntmps37
  go_wp2
  go_loopw [0, 5] (fun m s wr => ∃ j M : Nat, m = .int .i64 (M : Int) ∧ Hid (M = n / 10 ^ j) ∧ s = .string ⟨(lowDig n j).toArray⟩ ∧ Hid (j ≤ least ∨ 10 ^ (j - 1) ≤ n) ∧ j ≤ 20 ∧ Below w.heap.size w wr) (fun m s _ => (intOf m).toNat + (6 - strLen s))
  case atStart => exact ⟨0, n, rfl, Lib.hid (by simp), rfl, Lib.hid (.inl (by omega)), by omega, Below.refl _ _⟩
  case round =>
    obtain ⟨j0, M, rfl, hM, rfl, hj, hj20, hb⟩ := hrel
    have hlen := lowDig_len j0 n
    have hMn : M ≤ n := by rw [hM.out]; exact Nat.div_le_self _ _
    have hMs : M < 100000000000000000 := by have := HN.out; omega
    by_cases hgo : 0 < M ∨ j0 < least
    · obtain ⟨q, hq⟩ : ∃ q, q = M / 10 := ⟨_, rfl⟩
      obtain ⟨r, hr⟩ : ∃ r, r = M % 10 := ⟨_, rfl⟩
      have hr10 : r < 10 := by omega
      have hqi : (M : Int) / 10 = (q : Int) := by omega
      have hri : (M : Int).tmod 10 = (r : Int) := by rw [Int.tmod_eq_emod_of_nonneg (by omega)]; omega
      have hqw : IntKind.i64.wrap (q : Int) = (q : Int) := IntWalk.i64_in _ (by omega)
      have hrw : IntKind.i64.wrap (r : Int) = (r : Int) := IntWalk.i64_in _ (by omega)
      have hc := ofNat_toNat hr10
      obtain ⟨c, hce⟩ : ∃ c, c = UInt8.ofNat (48 + r) := ⟨_, rfl⟩
      rw [← hce] at hc
      have hw8 : IntKind.u8.wrap (48 + (r : Int)) = 48 + (r : Int) := by rw [IntKind.wrap_u8]; omega
      have hcv := one_byte wr c (48 + (r : Int)) (by omega)
      have hadd := add_one [c] (lowDig n j0) (by simp) (by omega)
      have hcons : [c] ++ lowDig n j0 = lowDig n (j0 + 1) := by rw [lowDig_cons, hce, hr, hM.out]; rfl
      rw [hcons] at hadd
      have HJ : Hid (q = n / 10 ^ (j0 + 1)) := Lib.hid (by rw [hq, hM.out, Nat.div_div_eq_div_mul, Nat.pow_succ])
      have HK : Hid (j0 + 1 ≤ least ∨ 10 ^ (j0 + 1 - 1) ≤ n) := Lib.hid (by
        rcases hgo with h | h
        · right
          rw [hM.out] at h
          rw [Nat.add_sub_cancel]
          exact Nat.le_of_not_lt fun hlt => by rw [Nat.div_eq_of_lt hlt] at h; omega
        · left; omega)
      have hj19 : j0 + 1 ≤ 20 := by
        rcases hgo with h | h
        · rw [hM.out] at h
          refine Nat.le_of_not_lt fun hlt => ?_
          have hbig : 10 ^ 17 ≤ 10 ^ j0 := Nat.pow_le_pow_right (by omega) (by omega)
          have := HN.out
          rw [Nat.div_eq_of_lt (by omega)] at h
          omega
        · omega
      have hlen1 := lowDig_len (j0 + 1) n
      have hsz1 : (ByteArray.mk (lowDig n (j0 + 1)).toArray).size = j0 + 1 := by simp [ByteArray.size, hlen1]
      have hfin : strLen (.string ⟨(lowDig n (j0 + 1)).toArray⟩) = j0 + 1 := by simp [strLen, ByteArray.size, hlen1]
      have hfin0 : strLen (.string ⟨(lowDig n j0).toArray⟩) = j0 := by simp [strLen, ByteArray.size, hlen]
      have hsz : (ByteArray.mk (lowDig n j0).toArray).size = j0 := by simp [ByteArray.size, hlen]
      have HQ := Lib.hid (show q + (6 - (j0 + 1)) < M + (6 - j0) by omega)
      have HC0 := Lib.hid (fun (h : M = 0) => show q = 0 ∧ r = 0 ∧ c = 48 from by
        have e0 : r = 0 := by omega
        exact ⟨by omega, e0, by rw [hce, e0]; rfl⟩)
      clear hq hr hcons hce hM hMn hlen hlen1 hMs
      have hrel1 : ∀ wz, Below w.heap.size w wz → ∃ j M : Nat, Value.int .i64 (q : Int) = .int .i64 (M : Int) ∧ Hid (M = n / 10 ^ j) ∧ Value.string ⟨(lowDig n (j0 + 1)).toArray⟩ = .string ⟨(lowDig n j).toArray⟩ ∧ Hid (j ≤ least ∨ 10 ^ (j - 1) ≤ n) ∧ j ≤ 20 ∧ Below w.heap.size w wz := fun wz hz => ⟨j0 + 1, q, rfl, HJ, rfl, HK, hj19, hz⟩
      have HR := Lib.hid hrel1
      clear hrel1 HJ HK hj hfin hfin0
      by_cases hM0 : 0 < M
      · go_wp2
        go_roundw
        case rel => exact HR.out _ (hb.alloc hb.size _)
        case measure => simp [intOf, strLen]; rw [hsz, hsz1]; have h := HQ.out; omega
      · have hM1 : M = 0 := by omega
        obtain ⟨rfl, rfl, rfl⟩ := HC0.out hM1
        subst hM1
        have hjl : (j0 : Int) < (least : Int) := by omega
        have hcv0 := one_byte wr 48 48 rfl
        clear hgo hM0 hcv hqi hri hqw hrw hc hw8
        go_wp2
        go_roundw
        case rel => exact HR.out _ (hb.alloc hb.size _)
        case measure => simp [intOf, strLen]; rw [hsz, hsz1]; have h := HQ.out; omega
    · have hM1 : M = 0 := by omega
      have hjl : (least : Int) ≤ (j0 : Int) := by omega
      have HF : Hid (least ≤ j0 ∧ j0 ≤ 20 ∧ n < 10 ^ j0 ∧ (j0 = least ∨ 10 ^ (j0 - 1) ≤ n)) := Lib.hid ⟨by omega, hj20, by
        have h0 : n / 10 ^ j0 = 0 := by rw [← hM.out]; omega
        have hp : 0 < 10 ^ j0 := Nat.pos_of_ne_zero (by simp)
        rcases Nat.div_eq_zero_iff.1 h0 with h | h
        · omega
        · exact h, by rcases hj.out with h | h; exact .inl (by omega); exact .inr h⟩
      have hsz : (ByteArray.mk (lowDig n j0).toArray).size = j0 := by simp [ByteArray.size, hlen]
      clear hM hj hgo hMn hMs hlen
      subst hM1
      go_wp2
      go_ret
      exact ⟨⟨j0, HF.out.1, HF.out.2.1, HF.out.2.2.1, HF.out.2.2.2, rfl⟩, hb⟩
end Go.Proofs.YtpdkphokinhhdaaDoor.S3
