/- The splitter's iterator: a labelled loop over the pieces, read at the wide fence: its contract. Conditions: each theorem's own premises. -/
import Derived.RangeFuncNested
import Derived.RangeFuncBound
import Derived.RangeFuncCalls
import Derived.RangeFuncLeaves
import Derived.Shelf.Abstract
import Derived.Shelf.RegionOpen
import Derived.WalkKit
import Derived.OwnWalkIn
import Derived.TacticsInMore
import Derived.LoopNIn
import Derived.LoopIn
import Derived.BigRegionIn
import Derived.WalkMore
import Derived.Lib.Hide
import Derived.WalkSpells
import Derived.WalkSmall
import Derived.WalkLawsBesides
import Derived.Test.YtcheogmnhooffaaPlainTwo
import Derived.Test.YtcheogmnhooffaaChecked
namespace Go.Proofs.Ytcheogmnhooffaa.S1
open Go.RowKit Go.Shelf P1
attribute [local go_sem] Oper.semAt_some

section scope
variable {F : Fence} {n : Nat} {P : Program} {Q : Exit → Act → World → Prop} {a : Act} {w : World} {b : Frame} {k : List Item} {cs : List Frame}
theorem stepR_scope {c : Code} : step P (lone (b.atR a (.code (.scope c) :: k)) cs w) = .next (lone (b.atR a (.code c :: .inScope c :: k)) cs w) :=
  step_lone_go (by simp [stepG, stepG.exec, Frame.atR])
theorem stepR_inScope {c : Code} : step P (lone (b.atR a (.inScope c :: k)) cs w) = .next (lone (b.atR a k) cs w) :=
  step_lone_go (by simp [stepG, stepG.exec, Frame.atR])
/-- A scope that no jump leaves or turns back in. -/
theorem wpIn_scope {c : Code} (h : c.wpIn F n P (Exit.noGoto Q) a w) : (Code.scope c).wpIn F n P Q a w := by
  intro b k cs hro hb hr
  have h0 : (lone (b.atR a (.code (.scope c) :: k)) cs w).fenced P F := fenced_calm hb hr rfl
  obtain ⟨e, a₁, w₁, hq, harr⟩ := h b (.inScope c :: k) cs hro hb hr
  cases e with
  | normal => exact ⟨.normal, a₁, w₁, hq, .head h0 stepR_scope (StepsIn.trans harr (.one (fenced_calm hb hr rfl) stepR_inScope))⟩
  | exit id' =>
    have hx : exitTo id' (.inScope c :: k) = exitTo id' k := by simp [exitTo]
    exact ⟨.exit id', a₁, w₁, hq, fun k' hk => .head h0 stepR_scope (harr.1 k' (by rw [hx]; exact hk)),
      fun hr' hk => let ⟨k₁, h1, h2⟩ := harr.2 hr' (by rw [hx]; exact hk); ⟨k₁, h1, .head h0 stepR_scope h2⟩⟩
  | goto l => exact hq.elim
  | ret => exact ⟨_, a₁, w₁, hq, .of_steps (.one h0 stepR_scope) harr⟩
  | panic ch => exact ⟨_, a₁, w₁, hq, .of_steps (.one h0 stepR_scope) harr⟩
  | outgrown => exact ⟨_, a₁, w₁, hq, .of_steps (.one h0 stepR_scope) harr⟩
end scope

/-- A piece: a string that isn't too long to be copied. -/
abbrev Pc : Type := { x : ByteArray // x.size ≤ 1048576 }
/-- The pieces as pcs of bytes. -/
def pcs (ss : List Pc) : List (List UInt8) := ss.map (·.1.data.toList)
theorem pcs_snoc (ss : List Pc) (s : Pc) : pcs (ss ++ [s]) = pcs ss ++ [s.1.data.toList] := by simp [pcs]
theorem pcs_len (ss : List Pc) : (pcs ss).length = ss.length := by simp [pcs]

/-- What a round keeps: the cell that the iterator reads. -/
def Kb (Bx : Nat) (A B : World) : Prop := ∀ v, A.cell? ⟨Bx, 0, none⟩ = some v → B.cell? ⟨Bx, 0, none⟩ = some v
theorem Kb.t {Bx : Nat} {A B C : World} (h : Kb Bx A B) (k : Kb Bx B C) : Kb Bx A C := fun v hv => k v (h v hv)
theorem Kb.b {Bx : Nat} {w : World} (W : World) (l : Nat) (o o' : Obj) (_ : w.heap.size ≤ l) (h : W.heap[l]? = some o) (hc : o.isCells = false) (_ : o.isWalk = false) : Kb Bx W (W.putObj l o') :=
  fun _ hv => cell_kept hv (grownBy_putObj' W l o') (fun r e => by cases e; exact ⟨o, h, hc⟩)
theorem grown_drew (W : World) : W.grownBy W.drew none := ⟨rfl, rfl, rfl, Nat.le_refl _, fun _ _ _ => rfl⟩

theorem take_piece {b : UInt8} {r : ByteArray} {k : Nat} (hk : k < r.size) (hno : b ∉ r.data.toList.take k) (he : r[k] = b) :
    splitL b r.data.toList = (r.extract 0 k).data.toList :: splitL b (r.extract (k + 1) r.size).data.toList := by
  have e1 : (r.extract 0 k).data.toList = r.data.toList.take k := by simp [ByteArray.data_extract]
  have e2 : (r.extract (k + 1) r.size).data.toList = r.data.toList.drop (k + 1) := by
    simp only [ByteArray.data_extract, Array.toList_extract, List.extract_eq_take_drop]
    rw [List.take_of_length_le (by simp)]
  have hkl : k < r.data.toList.length := by simpa using hk
  have e3 : r.data.toList = r.data.toList.take k ++ b :: r.data.toList.drop (k + 1) := by
    conv => lhs; rw [← List.take_append_drop k r.data.toList]
    rw [List.drop_eq_getElem_cons hkl]
    congr 2
  rw [e1, e2]
  conv => lhs; rw [e3]
  exact splitL_piece _ _ _ hno
theorem no_next {b : UInt8} {r : ByteArray} {k : Nat} (hk : k < r.size) (hno : b ∉ r.data.toList.take k) (he : r[k] ≠ b) : b ∉ r.data.toList.take (k + 1) := by
  have hkl : k < r.data.toList.length := by simpa using hk
  rw [List.take_succ_eq_append_getElem hkl]
  intro hm
  rcases List.mem_append.1 hm with h | h
  · exact hno h
  · exact he (List.mem_singleton.1 h).symm
theorem last_piece {b : UInt8} {r : ByteArray} {k : Nat} (hk : r.size ≤ k) (hno : b ∉ r.data.toList.take k) : splitL b r.data.toList = [r.data.toList] := by
  rw [List.take_of_length_le (by simpa using hk)] at hno
  exact splitL_last _ _ hno
theorem room_left {b : UInt8} {l r : List UInt8} {pre : List Pc} (h : splitL b l = pcs pre ++ splitL b r) : pre.length < (splitL b l).length := by
  have := List.length_pos_iff.2 (splitL_ne b r)
  rw [h, List.length_append, pcs_len]
  omega

set_option maxRecDepth 100000 in
set_option maxHeartbeats 4000000 in
theorem pieces_in (n : Nat) (hn : 1 ≤ n) (l Bs Bx : Nat) (s : ByteArray) (b : UInt8) (c : Int) (hc : c = (b.toNat : Int)) (hz : s.size ≤ 1048576) (J Jx : List Pc → World → Prop) (W : World) (hJ : AbidesFrom W.heap.size J)
    (hY : ∀ pre x W, J pre W → pre.length < (splitL b s.data.toList).length → YieldAt Fence.wide (n - 1) Try.prog l #[.string x.1] W fun e W' =>
      (e = .returned (.bool true) ∧ J (pre ++ [x]) W' ∧ Kb Bx W W') ∨ (e = .returned (.bool false) ∧ Jx (pre ++ [x]) W'))
    (hBs : W.cell? ⟨Bs, 0, none⟩ = some (.string s)) (hBx : W.cell? ⟨Bx, 0, none⟩ = some (.int .u8 c)) (h0 : J [] W) :
    CallsIn Fence.wide n Try.prog 39 #[.func (.yield l) #[] #[], .pointer (some ⟨Bs, 0, none⟩), .pointer (some ⟨Bx, 0, none⟩)] W fun e W' => (∃ v, e = .returned v) ∧
      ((∃ ys, pcs ys = splitL b s.data.toList ∧ J ys W') ∨ (∃ pre : List Pc, True ∧ Jx pre W')) := by
  have HC := Lib.hid hc
  have HY := Lib.hid hY
  have HJ := Lib.hid hJ
  clear hc hY hJ
  refine callsIn_of_wp Try.func39 rfl trivial ?_ rfl
  simp only [Try.ntmps39, List.size_toArray, List.length_cons, List.length_nil, Nat.reduceAdd, Nat.reduceSub, Array.replicate_succ, Array.replicate_zero, List.push_toArray, List.append_toArray, List.nil_append, List.cons_append]
  refine wpIn_scope ?_
  gi_wp2
  refine wpIn_label ?_
  gi_wp2
  gi_loopw [4] (fun r wr => ∃ (pre : List Pc) (rest : ByteArray), r = .string rest ∧ rest.size ≤ 1048576 ∧ Hid (splitL b s.data.toList = pcs pre ++ splitL b rest.data.toList) ∧ Hid (J pre wr) ∧ wr.cell? ⟨Bx, 0, none⟩ = some (.int .u8 c))
    (fun r _ => match r with | .string x => x.size | _ => 0)
  case atStart => exact ⟨[], s, rfl, hz, Lib.hid (by simp [pcs]), Lib.hid h0, hBx⟩
  case round =>
    obtain ⟨pre, rest, rfl, hrz, hsp, hJs, hcx⟩ := hrel
    clear hBs hBx h0
    gi_wp2
    gi_loopw [4, 9] (fun r i wi => ∃ k : Nat, k ≤ rest.size ∧ r = .string rest ∧ i = .int .i64 k ∧ Hid (b ∉ rest.data.toList.take k) ∧ Hid (J pre wi) ∧ wi.cell? ⟨Bx, 0, none⟩ = some (.int .u8 c)) (fun _ i _ => rest.size - (intOf i).toNat)
    case atStart => exact ⟨0, Nat.zero_le _, rfl, rfl, Lib.hid (by simp), hJs, hcx⟩
    case round =>
      obtain ⟨k, hk, rfl, rfl, hno, hJi, hci⟩ := hrel
      clear hcx hJs
      by_cases hlt : k < rest.size
      · by_cases hb : (rest[k]'hlt) = b
        · have hE : (((rest[k]'hlt).toNat : Int) == c) = true := by rw [HC.out, hb]; exact beq_self_eq_true _
          have hcut := Lib.hid (take_piece hlt hno.out hb)
          clear hb
          obtain ⟨fn, tmps, assign, body, hy, hR⟩ := HY.out pre ⟨rest.extract 0 k, by rw [ByteArray.size_extract]; omega⟩ wr.drew (HJ.out _ _ _ none hJi.out (grown_drew _) (fun _ e => by cases e)) (room_left hsp.out)
          dsimp only at hy
          gi_wp2
          gi_region
          gi_wp2
          refine hR.mono ?_
          rintro e W3 (⟨rfl, hJ3, hk3⟩ | ⟨rfl, hJx3⟩)
          · have hc3 := hk3 _ hci
            have hJ3 := Lib.hid hJ3
            clear hR hy
            gi_wp2
            refine ⟨⟨_, rest.extract (k + 1) rest.size, rfl, ?_, Lib.hid ?_, hJ3, hc3⟩, ?_⟩
            · simp [ByteArray.size_extract]; omega
            · rw [pcs_snoc, hsp.out, hcut.out]; simp
            · show (rest.extract (k + 1) rest.size).size < rest.size
              rw [ByteArray.size_extract]
              omega
          · gi_wp2
            rw [Exit.noGoto_ret]
            refine bodyPost_ret (results_none rfl _ _ _) rfl ?_
            exact ⟨⟨_, rfl⟩, .inr ⟨_, trivial, hJx3⟩⟩
        · have hE : (((rest[k]'hlt).toNat : Int) == c) = false := by
            rw [HC.out, beq_eq_false_iff_ne]
            intro e
            exact hb (UInt8.toNat_inj.1 (by omega))
          have hnext := Lib.hid (no_next hlt hno.out hb)
          have hJd := Lib.hid (HJ.out _ _ _ none hJi.out (grown_drew _) (fun _ e => by cases e))
          clear hb hno hJi
          gi_wp2
          gi_region
          gi_wp2
          go_roundw
          case rel => exact ⟨k + 1, by omega, rfl, by go_num, hnext, hJd, hci⟩
          case measure => simp [intOf]; omega
      · have hend := Lib.hid (last_piece (by omega) hno.out)
        obtain ⟨fn, tmps, assign, body, hy, hR⟩ := HY.out pre ⟨rest, hrz⟩ wr hJi.out (room_left hsp.out)
        dsimp only at hy
        clear hno
        gi_wp2
        refine hR.mono ?_
        rintro e W3 (⟨rfl, hJ3, hk3⟩ | ⟨rfl, hJx3⟩)
        · gi_wp2
          rw [Exit.noGoto_ret]
          refine bodyPost_ret (results_none rfl _ _ _) rfl ?_
          exact ⟨⟨_, rfl⟩, .inl ⟨_, by rw [pcs_snoc, hsp.out, hend.out], hJ3⟩⟩
        · gi_wp2
          rw [Exit.noGoto_ret]
          refine bodyPost_ret (results_none rfl _ _ _) rfl ?_
          exact ⟨⟨_, rfl⟩, .inr ⟨_, trivial, hJx3⟩⟩

set_option maxHeartbeats 1000000 in
theorem between_in (n : Nat) (s : ByteArray) (c : Int) (w : World) :
    CallsIn Fence.wide n Try.prog 27 #[.string s, .int .u8 c] w fun e w' =>
      e = .returned (.func (.func 39) #[] #[.pointer (some ⟨w.heap.size, 0, none⟩), .pointer (some ⟨w.heap.size + 1, 0, none⟩)]) ∧ w' = (w.alloc (.cells #[.string s] 9)).alloc (.cells #[.int .u8 c] 5) := by
  refine callsIn_of_wp Try.func27 rfl trivial ?_ rfl
  simp only [Try.ntmps27, List.size_toArray, List.length_cons, List.length_nil, Nat.reduceAdd, Nat.reduceSub, Array.replicate_succ, Array.replicate_zero, List.push_toArray, List.append_toArray, List.nil_append, List.cons_append]
  gi_wp2
  go_ret
  exact ⟨rfl, rfl⟩

/-- The iterator's contract. -/
theorem pieces_stops (n : Nat) (hn : 1 ≤ n) (Bs Bx : Nat) (s : ByteArray) (b : UInt8) (c : Int) (hc : c = (b.toNat : Int)) (hz : s.size ≤ 1048576) (w : World) (hBs : Bs < w.heap.size) (hBx : Bx < w.heap.size)
    (hcs : w.cell? ⟨Bs, 0, none⟩ = some (.string s)) (hcx : w.cell? ⟨Bx, 0, none⟩ = some (.int .u8 c)) :
    SeqStopsK Fence.wide n Try.prog 39 #[.pointer (some ⟨Bs, 0, none⟩), .pointer (some ⟨Bx, 0, none⟩)] (fun x : Pc => #[Value.string x.1]) (Kb Bx) (fun ys => pcs ys = splitL b s.data.toList) (fun _ => True) (splitL b s.data.toList).length w := fun l J Jx W hW hJ _ hY h0 =>
  pieces_in n hn l Bs Bx s b c hc hz J Jx W hJ hY ((hW.cell (p := ⟨Bs, 0, none⟩) hBs).trans hcs) ((hW.cell (p := ⟨Bx, 0, none⟩) hBx).trans hcx) h0
end Go.Proofs.Ytcheogmnhooffaa.S1
