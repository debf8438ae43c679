/- The table of plans as a value: facts on the dump. Conditions: each theorem's own premises. -/
import Derived.Test.YtlkomipjamelkaaPuGood
import Derived.Deep.WholeRow
namespace Go.Proofs.Ytlkomipjamelkaa.S13
open Go.RowKit P11 S11 P13

def zPl : List Value := [.bool false, .bool false, .int .i64 0, .int .i64 0]
def zHead : List Value := [.int .i64 0, .int .i64 0, .int .i64 0, .int .i64 0, .slice none 0 0, .slice none 0 0]
def zTab : List Value := (List.replicate 793 zPl).flatten
set_option maxRecDepth 1000000 in
theorem info_ol : (Try.prog.info? 64).map (fun i => (i.zero, i.size)) = some (some (Value.agg (zHead ++ zTab).toArray), 3178) := by kernel_rfl
set_option maxRecDepth 1000000 in
theorem built_ol (v0 v1 v2 v3 v4 v5 : Value) : Try.prog.built 64 [(0, .agg #[v0, v1, v2, v3, v4, v5])] = some ([v0, v1, v2, v3, v4, v5] ++ zTab).toArray := by kernel_rfl
theorem zTab_len : zTab.length = 3172 := by decide +kernel
theorem zTab_at : ∀ e, e < 793 → zTab[e * 4]? = some (.bool false) ∧ zTab[e * 4 + 1]? = some (.bool false) ∧ zTab[e * 4 + 2]? = some (.int .i64 0) ∧ zTab[e * 4 + 3]? = some (.int .i64 0) := by
  have h : ∀ n e, e < n → ((List.replicate n zPl).flatten)[e * 4]? = some (.bool false) ∧ ((List.replicate n zPl).flatten)[e * 4 + 1]? = some (.bool false) ∧ ((List.replicate n zPl).flatten)[e * 4 + 2]? = some (.int .i64 0) ∧ ((List.replicate n zPl).flatten)[e * 4 + 3]? = some (.int .i64 0) := by
    intro n
    induction n with
    | zero => intro e he; omega
    | succ n ih =>
      intro e he
      rw [List.replicate_succ, List.flatten_cons]
      have hl : zPl.length = 4 := rfl
      cases e with
      | zero => refine ⟨?_, ?_, ?_, ?_⟩ <;> (rw [List.getElem?_append_left (by rw [hl]; omega)]; rfl)
      | succ e =>
        have := ih e (by omega)
        rw [List.getElem?_append_right (by rw [hl]; omega), List.getElem?_append_right (by rw [hl]; omega), List.getElem?_append_right (by rw [hl]; omega), List.getElem?_append_right (by rw [hl]; omega), hl]
        rw [show (e + 1) * 4 - 4 = e * 4 by omega, show (e + 1) * 4 + 1 - 4 = e * 4 + 1 by omega, show (e + 1) * 4 + 2 - 4 = e * 4 + 2 by omega, show (e + 1) * 4 + 3 - 4 = e * 4 + 3 by omega]
        exact this
  exact h 793
/-- A fresh table of plans behind the pumping. -/
def olL (v0 v1 v2 v3 v4 v5 : Value) : List Value := [v0, v1, v2, v3, v4, v5] ++ zTab
theorem olL_len (v0 v1 v2 v3 v4 v5 : Value) : (olL v0 v1 v2 v3 v4 v5).length = 3178 := by unfold olL; rw [List.length_append, zTab_len]; rfl
theorem olL_at (v0 v1 v2 v3 v4 v5 : Value) (e : Nat) (he : e < 793) : (olL v0 v1 v2 v3 v4 v5)[6 + e * 4]? = some (.bool false) ∧ (olL v0 v1 v2 v3 v4 v5)[6 + e * 4 + 1]? = some (.bool false) ∧ (olL v0 v1 v2 v3 v4 v5)[6 + e * 4 + 2]? = some (.int .i64 0) ∧ (olL v0 v1 v2 v3 v4 v5)[6 + e * 4 + 3]? = some (.int .i64 0) := by
  unfold olL
  have hl : [v0, v1, v2, v3, v4, v5].length = 6 := rfl
  have := zTab_at e he
  rw [List.getElem?_append_right (by rw [hl]; omega), List.getElem?_append_right (by rw [hl]; omega), List.getElem?_append_right (by rw [hl]; omega), List.getElem?_append_right (by rw [hl]; omega), hl]
  rw [show 6 + e * 4 - 6 = e * 4 by omega, show 6 + e * 4 + 1 - 6 = e * 4 + 1 by omega, show 6 + e * 4 + 2 - 6 = e * 4 + 2 by omega, show 6 + e * 4 + 3 - 6 = e * 4 + 3 by omega]
  exact this
theorem zTab_one : zTab.all (·.oneCell') = true := by decide +kernel
end Go.Proofs.Ytlkomipjamelkaa.S13
