/- How the law FnSplitJoin draws its texts: contracts. Conditions: each theorem's own premises. -/
import Derived.Test.YtcheogmnhooffaaDrawTwo
import Derived.Test.YtcheogmnhooffaaStrsOne
import Derived.Test.YtcheogmnhooffaaSplitOne
import Derived.Deep.OwnRows
import Derived.Deep.AppendLies
import Derived.Laws.IdiomStrings
import Derived.Laws.OwnMore
namespace Go.Proofs.Ytcheogmnhooffaa.S1
open Go.RowKit P1

theorem grown_below {w w' : World} {g B : Nat} (h : w.grownBy w' (some g)) (hB : B ≤ g) (hBw : B ≤ w.heap.size) : Below B w w' :=
  ⟨h.os, h.tape, h.output, h.size, fun k hk => h.block k (by omega) (by simp; omega)⟩

theorem st_start {a : Option Addr} {n : Nat} (cap : Nat) {w : World} (h : Cd w.heap.size a n w) (hn : n ≤ 65536) : St w.heap.size w.heap.size a n cap 0 (w.alloc (.cells #[.slice a n cap, .int .i64 0, .int .u64 0] 44)) := by
  refine ⟨?_, ⟨0, 0, Nat.le_refl _, by simpa using (MapKept.heap_alloc w (.cells #[.slice a n cap, .int .i64 0, .int .u64 0] 44)).1⟩, Nat.le_refl _, hn⟩
  rcases h with h0 | ⟨b, off, ha, hb, hc⟩
  · exact .inl h0
  · refine .inr ⟨b, off, ha, hb, fun j hj => ?_⟩
    obtain ⟨v, hv, hcv⟩ := hc j hj
    exact ⟨v, hv, (World.cell?_alloc_past _ _ _ hb).trans hcv⟩
theorem Cd.later {B : Nat} {a : Option Addr} {n : Nat} {w w' : World} (h : Cd B a n w) (hb : Below w.heap.size w w') (hB : B ≤ w.heap.size) : Cd w'.heap.size a n w' := by
  rcases h with h0 | ⟨b, off, ha, hbB, hc⟩
  · exact .inl h0
  · refine .inr ⟨b, off, ha, by have := hb.size; omega, fun j hj => ?_⟩
    obtain ⟨v, hv, hcv⟩ := hc j hj
    exact ⟨v, hv, (hb.cell (p := ⟨b, off + j, none⟩) (show b < w.heap.size by omega)).trans hcv⟩
theorem below_of_start {w w1 : World} {o : Obj} (h : (w.alloc o).grownBy w1 (some w.heap.size)) : Below w.heap.size w w1 :=
  ((Below.refl _ _).alloc (Nat.le_refl _) o).trans (grown_below h (Nat.le_refl _) (by simp))

theorem infoByteD : (Try.prog.info? 5).map (fun i => (i.zero, i.size, i.bytes)) = some (some (.int .u8 0), 1, 1) := by kernel_rfl
theorem made_cell (N j : Nat) (h : j < N) : (madeCells #[.int .u8 0] N)[j]? = some (.int .u8 0) := by
  simp [madeCells, h, Nat.mod_one]
theorem zeros (W : World) (N : Nat) : (convert 22 9 (.slice (some ⟨W.heap.size, 0, none⟩) N N)).run Try.prog (W.alloc (.cells (madeCells #[.int .u8 0] N) 5)) = .ok (.string ⟨(List.replicate N (0 : UInt8)).toArray⟩) (W.alloc (.cells (madeCells #[.int .u8 0] N) 5)) := by
  have h := run_convert_bytes_back (P := Try.prog) (W.alloc (.cells (madeCells #[.int .u8 0] N) 5)) 22 9 5 ⟨W.heap.size, 0, none⟩ N (List.replicate N (0 : UInt8)) Try.underlying22 Try.underlying5 Try.underlying9 (fun j hj => by
    have hj' : j < N := by simpa using hj
    have e : ((⟨W.heap.size, 0, none⟩ : Addr).add j) = ⟨W.heap.size, j, none⟩ := by unfold Addr.add; split <;> simp_all
    rw [e, World.cell?_alloc_at _ _ _ _ rfl, made_cell N j hj']
    simp)
  rw [List.length_replicate] at h
  exact h

/-- vBig. -/
theorem vbig_no (a : Option Addr) (n cap : Nat) (w : World) (hn : n ≤ 65536) :
    Calls Try.prog 8 #[.slice a n cap] w fun e w' => e = .returned (.bool false) ∧ w' = w := by
  have hd : decide ((65536 : Int) < (n : Int)) = false := by simp; omega
  go_enter Try.func8, Try.ntmps8
  go_wp2
  go_ret
  exact ⟨rfl, rfl⟩
theorem vbig_yes (a : Option Addr) (n cap : Nat) (w : World) (hn : 65536 < n) :
    Calls Try.prog 8 #[.slice a n cap] w fun e w' => e = .returned (.bool true) ∧ w' = w := by
  have hd : decide ((65536 : Int) < (n : Int)) = true := by simp; omega
  go_enter Try.func8, Try.ntmps8
  go_wp2
  go_ret
  exact ⟨rfl, rfl⟩


theorem of_small (B g : Nat) (a : Option Addr) (n cap K b N c : Nat) (ss : List ByteArray) (w : World) (hN : N = ss.length) (hK : K ≤ 900000) (h0 : 1 ≤ ss.length) (h1 : ss.length ≤ 1000) (hz : ∀ j, j < ss.length → (ss.getD j ByteArray.empty).size ≤ 100) (h : St B g a n cap K w) (ht : Tx b ss w) (hne : b ≠ g) :
    Calls Try.prog 26 #[.pointer (some ⟨g, 0, none⟩), .slice (some ⟨b, 0, none⟩) N c] w fun e w' => (∃ t : ByteArray, e = .returned (.string t) ∧ t.size ≤ 100) ∧ St B g a n cap (K + 2) w' ∧ w.grownBy w' (some g) :=
  (of_any B g a n cap K b N c ss w hN hK h0 h1 h ht hne).mono fun _ _ ⟨⟨j, hj, he⟩, hs, hg⟩ => ⟨⟨_, he, hz j hj⟩, hs, hg⟩

def splitTexts : List ByteArray := [⟨#[44]⟩, ⟨#[44]⟩, ⟨#[32]⟩, ⟨#[]⟩, ⟨#[44, 44]⟩]
theorem splitTexts_size : ∀ j, j < 5 → (splitTexts.getD j ByteArray.empty).size ≤ 100 := by decide

set_option maxHeartbeats 1000000 in
/-- DrawSplitString: a short text and a separator. -/
theorem dsplit_any (a : Option Addr) (n cap : Nat) (w : World) (hc : Cd w.heap.size a n w) (hn : n ≤ 65536) :
    Calls Try.prog 9 #[.slice a n cap] w fun e w' => (∃ s t : ByteArray, e = .returned (.tuple #[.string s, .string t]) ∧ s.size ≤ 100 ∧ t.size ≤ 100) ∧ Below w.heap.size w w' := by
  have HS := Lib.hid (st_start cap hc hn)
  clear hc
  go_enter Try.func9, Try.ntmps9
  go_wp2_with (go_at_call 25; refine (any_any _ _ a n cap 0 _ (by omega) HS.out).mono ?_; rintro e w1 ⟨⟨s, rfl, hsz⟩, hs1, hg1⟩; refine Hid.out ?_)
  have HS1 := Lib.hid hs1
  have HG1 := Lib.hid (below_of_start hg1)
  have HZ := Lib.hid hsz
  have hlt : w.heap.size < w1.heap.size := by have := hg1.size; simp at this; omega
  clear hs1 hg1 HS hsz
  refine Lib.hid ?_
  go_wp2_with (go_at_call 26; refine (of_small w.heap.size w.heap.size a n cap 2 w1.heap.size 5 5 splitTexts _ rfl (by omega) (by decide) (by decide) splitTexts_size (HS1.out.other ((Below.refl _ _).alloc (Nat.le_refl _) _)) (tx_new w1 splitTexts 9) (by omega)).mono ?_; rintro e w2 ⟨⟨t, rfl, ht⟩, hs2, hg2⟩; refine Hid.out ?_)
  have HB2 := Lib.hid (HG1.out.trans ((((Below.refl w.heap.size w1).alloc (by omega) _)).trans (grown_below hg2 (Nat.le_refl _) (by simp; omega))))
  have HT := Lib.hid ht
  clear hs2 hg2 ht
  refine Lib.hid ?_
  go_wp2_with fail
  go_ret2
  exact ⟨⟨s, t, rfl, HZ.out, HT.out⟩, HB2.out⟩

set_option maxHeartbeats 1000000 in
/-- DrawLessString: two short texts. -/
theorem dless_any (a : Option Addr) (n cap : Nat) (w : World) (hc : Cd w.heap.size a n w) (hn : n ≤ 65536) :
    Calls Try.prog 14 #[.slice a n cap] w fun e w' => (∃ s t : ByteArray, e = .returned (.tuple #[.string s, .string t])) ∧ Below w.heap.size w w' := by
  have HS := Lib.hid (st_start cap hc hn)
  clear hc
  go_enter Try.func14, Try.ntmps14
  go_wp2_with (go_at_call 25; refine (any_any _ _ a n cap 0 _ (by omega) HS.out).mono ?_; rintro e w1 ⟨⟨s, rfl, hsz⟩, hs1, hg1⟩; refine Hid.out ?_)
  have HS1 := Lib.hid hs1
  have HG1 := Lib.hid (below_of_start hg1)
  have hlt : w.heap.size < w1.heap.size := by have := hg1.size; simp at this; omega
  clear hs1 hg1 HS hsz
  refine Lib.hid ?_
  go_wp2_with (go_at_call 25; refine (any_any _ _ a n cap 2 _ (by omega) HS1.out).mono ?_; rintro e w2 ⟨⟨t, rfl, hsz⟩, hs2, hg2⟩; refine Hid.out ?_)
  have HB2 := Lib.hid (HG1.out.trans (grown_below hg2 (Nat.le_refl _) (by omega)))
  clear hs2 hg2 hsz
  refine Lib.hid ?_
  go_wp2_with fail
  go_ret2
  exact ⟨⟨s, t, rfl⟩, HB2.out⟩

theorem St.row {B g : Nat} {a : Option Addr} {n cap K : Nat} {w w' : World} {row : Option Nat} (h : St B g a n cap K w) (hg : w.grownBy w' row) (hr : ∀ k, row = some k → g < k) : St B g a n cap K w' := by
  obtain ⟨k, sd, hk, hgg⟩ := h.cur
  have hlt : g < w.heap.size := (Array.getElem?_eq_some_iff.1 hgg).1
  refine ⟨?_, ⟨k, sd, hk, by rw [hg.block g hlt (fun e => by have := hr g e.symm; omega)]; exact hgg⟩, h.bg, h.few⟩
  rcases h.cd with h0 | ⟨b, off, ha, hbB, hc⟩
  · exact .inl h0
  · refine .inr ⟨b, off, ha, hbB, fun j hj => ?_⟩
    obtain ⟨v, hv, hcv⟩ := hc j hj
    have hbg := h.bg
    refine ⟨v, hv, ?_⟩
    rw [World.cell?_of_block (hg.block b (show b < w.heap.size by omega) (fun e => by have := hr b e.symm; omega))]
    exact hcv

/-- What the draw has so far: some texts in a row of its own, behind the cursor. -/
structure Got (w : World) (a : Option Addr) (n cap K : Nat) (v : Value) (ss : List ByteArray) (wr : World) : Prop where
  st : St w.heap.size w.heap.size a n cap K wr
  own : wr.ownsRow (w.heap.size + 1) 9 1 v ss.length (ss.map Value.string)
  form : ∃ g c, v = .slice (some ⟨g, 0, none⟩) ss.length c
  small : ∀ j, j < ss.length → (ss.getD j ByteArray.empty).size ≤ 5000
  below : Below w.heap.size w wr
  big : w.heap.size + 1 ≤ wr.heap.size

theorem getD_snoc (ss : List ByteArray) (s : ByteArray) (m : Nat) (h : ∀ j, j < ss.length → (ss.getD j ByteArray.empty).size ≤ m) (hs : s.size ≤ m) : ∀ j, j < (ss ++ [s]).length → ((ss ++ [s]).getD j ByteArray.empty).size ≤ m := by
  intro j hj
  by_cases h1 : j < ss.length
  · have e : (ss ++ [s]).getD j ByteArray.empty = ss.getD j ByteArray.empty := by simp [List.getD, List.getElem?_append, h1]
    rw [e]; exact h j h1
  · have h2 : j = ss.length := by simp at hj; omega
    have e : (ss ++ [s]).getD j ByteArray.empty = s := by simp [List.getD, h2]
    rw [e]; exact hs

/-- The cursor has turned. -/
theorem Got.cursor {w : World} {a : Option Addr} {n cap K K' : Nat} {v : Value} {ss : List ByteArray} {wr w1 : World} (h : Got w a n cap K v ss wr) (hs : St w.heap.size w.heap.size a n cap K' w1) (hg : wr.grownBy w1 (some w.heap.size)) : Got w a n cap K' v ss w1 :=
  ⟨hs, h.own.kept hg (.inr fun e => by have := (h.own.lt _ e).1; omega), h.form, h.small, h.below.trans (grown_below hg (Nat.le_refl _) h.below.size), Nat.le_trans h.big hg.size⟩
/-- A text has been appended. -/
theorem Got.append {w : World} {a : Option Addr} {n cap K : Nat} {v v' : Value} {ss : List ByteArray} {wr w1 : World} {o : Obj} {s : ByteArray} (h : Got w a n cap K v ss wr) (hs : s.size ≤ 5000)
    (hown' : w1.ownsRow (w.heap.size + 1) 9 1 v' (ss.length + 1) (ss.map Value.string ++ [.string s])) (hgrow : (wr.alloc o).grownBy w1 v.ownBlock) : Got w a n cap K v' (ss ++ [s]) w1 := by
  obtain ⟨g, c, hv, _⟩ := hown'.form (Nat.succ_pos _)
  have hbig := h.big
  have hr : ∀ k, v.ownBlock = some k → w.heap.size < k := fun k e => by have := (h.own.lt k e).1; omega
  refine ⟨(h.st.other ((Below.refl _ _).alloc (Nat.le_refl _) o)).row hgrow hr, ?_, ⟨g, c, by rw [hv]; simp⟩, getD_snoc ss s 5000 h.small hs, (h.below.alloc h.below.size o).grown hgrow (by simp; omega) (fun k e => by have := hr k e; omega), by have := hgrow.size; simp at this; omega⟩
  rw [List.length_append, List.map_append]
  exact hown'

def joinTexts : List ByteArray := [⟨#[44]⟩, ⟨#[59]⟩, ⟨#[59]⟩, ⟨#[]⟩, ⟨#[97, 98]⟩]
theorem joinTexts_size : ∀ j, j < 5 → (joinTexts.getD j ByteArray.empty).size ≤ 100 := by decide

theorem got_start {a : Option Addr} {n : Nat} (cap : Nat) {w : World} (h : Cd w.heap.size a n w) (hn : n ≤ 65536) :
    Got w a n cap 0 (.slice (some ⟨w.heap.size + 1, 0, none⟩) 0 0) [] ((w.alloc (.cells #[.slice a n cap, .int .i64 0, .int .u64 0] 44)).alloc (.cells #[] 9)) := by
  have hz : (w.alloc (.cells #[.slice a n cap, .int .i64 0, .int .u64 0] 44)).heap.size = w.heap.size + 1 := by simp
  refine ⟨(st_start cap h hn).other ((Below.refl _ _).alloc (Nat.le_refl _) _), ?_, ⟨_, _, rfl⟩, fun j hj => absurd hj (by simp), ((Below.refl _ w).alloc (Nat.le_refl _) _).alloc (by simp) _, by simp⟩
  refine ⟨rfl, .inr ⟨w.heap.size + 1, 0, #[], rfl, Nat.le_refl _, ?_, Nat.le_refl _, Nat.zero_le _, rfl, rfl⟩⟩
  have := (MapKept.heap_alloc (w.alloc (.cells #[.slice a n cap, .int .i64 0, .int .u64 0] 44)) (.cells #[] 9)).1
  rw [hz] at this
  simpa using this

/-- A block has been laid. -/
theorem Got.laid {w : World} {a : Option Addr} {n cap K : Nat} {v : Value} {ss : List ByteArray} {wr : World} (h : Got w a n cap K v ss wr) (o : Obj) : Got w a n cap K v ss (wr.alloc o) :=
  ⟨h.st.other ((Below.refl _ _).alloc (Nat.le_refl _) o), h.own.alloc o, h.form, h.small, h.below.alloc h.below.size o, by have := h.big; simp; omega⟩
theorem djoin_end {w w2 w3 : World} {a : Option Addr} {n cap K : Nat} {v : Value} {ss : List ByteArray} {o : Obj} {t : ByteArray} (h : Got w a n cap K v ss w2) (hg : (w2.alloc o).grownBy w3 (some w.heap.size)) (hs : ss.length ≤ 5) (ht : t.size ≤ 100) :
    ∃ (ss : List ByteArray) (gk ck : Nat) (u : ByteArray), Ending.returned (.tuple #[v, .string t]) = .returned (.tuple #[.slice (some ⟨gk, 0, none⟩) ss.length ck, .string u]) ∧
      (w3.ownsRow (w.heap.size + 1) 9 1 (.slice (some ⟨gk, 0, none⟩) ss.length ck) ss.length (ss.map Value.string) ∧ ss.length ≤ 5 ∧ u.size ≤ 100 ∧ (∀ j, j < ss.length → (ss.getD j ByteArray.empty).size ≤ 5000) ∧ Below w.heap.size w w3) := by
  obtain ⟨g, c, rfl⟩ := h.form
  have h1 := h.laid o
  exact ⟨ss, g, c, t, rfl, h1.own.kept hg (.inr fun e => by have := (h1.own.lt _ e).1; omega), hs, ht, h.small, h1.below.trans (grown_below hg (Nat.le_refl _) h1.below.size)⟩

set_option maxHeartbeats 4000000 in
set_option maxRecDepth 100000 in
/-- DrawJoinStrings: some texts and a separator. -/
theorem djoin_any (a : Option Addr) (n cap : Nat) (w : World) (hc : Cd w.heap.size a n w) (hn : n ≤ 65536) :
    Calls Try.prog 11 #[.slice a n cap] w fun e w' => ∃ (ss : List ByteArray) (gk ck : Nat) (t : ByteArray), e = .returned (.tuple #[.slice (some ⟨gk, 0, none⟩) ss.length ck, .string t]) ∧
      (w'.ownsRow (w.heap.size + 1) 9 1 (.slice (some ⟨gk, 0, none⟩) ss.length ck) ss.length (ss.map Value.string) ∧ ss.length ≤ 5 ∧ t.size ≤ 100 ∧ (∀ j, j < ss.length → (ss.getD j ByteArray.empty).size ≤ 5000) ∧ Below w.heap.size w w') := by
  obtain ⟨i0, hi, hz0, hz1, hz2⟩ := info_parts infoS
  have HG := Lib.hid (got_start cap hc hn)
  clear hc
  go_enter Try.func11, Try.ntmps11
  go_wp2_with (go_at_call 29; refine (pick_any _ _ a n cap 0 _ _ (by omega) (by omega) (by omega) HG.out.st).mono ?_; rintro e w1 ⟨r, rfl, hr0, hr1, hs1, hg1⟩; refine Hid.out ?_)
  have HG1 := Lib.hid (HG.out.cursor hs1 hg1)
  obtain ⟨N, rfl⟩ : ∃ N : Nat, r = (N : Int) := ⟨r.toNat, by omega⟩
  have hN : N ≤ 3 := by omega
  clear hs1 hg1 HG hr0 hr1
  refine Lib.hid ?_
  go_wp2_with fail
  go_loopw [5, 7] (fun v i wr => ∃ (k : Nat) (ss : List ByteArray), k ≤ N ∧ i = .int .i64 k ∧ ss.length = k ∧ Hid (Got w a n cap (2 + 2 * k) v ss wr)) (fun _ i _ => N - (intOf i).toNat)
  case atStart => exact ⟨0, [], Nat.zero_le _, rfl, rfl, HG1⟩
  case round =>
    obtain ⟨k, ss, hk, rfl, hl, hg⟩ := hrel
    clear HG1
    by_cases hlt : k < N
    · go_wp2_with (go_at_call 25; refine (any_any _ _ a n cap (2 + 2 * k) _ (by omega) hg.out.st).mono ?_; rintro e w2 ⟨⟨s, rfl, hsz⟩, hs2, hg2⟩; refine Hid.out ?_)
      have HG2 := Lib.hid (hg.out.cursor hs2 hg2)
      have hown := HG2.out.own
      have hbig := HG2.out.big
      clear hs2 hg2 hg
      refine Lib.hid ?_
      go_wp2_with (at_builtin; refine wpList_append_own _ rfl _ _ 26 rfl (w.heap.size + 1) 9 i0 (.string ⟨#[]⟩) 1 16 Try.underlying26 hi hz0 hz1 hz2 rfl (by decide) _ _ _ rfl (hown.alloc _) ⟨w2.heap.size, 0, none⟩ 1 1 [.string s] rfl rfl (cell_one_new _ _ _) ?c2 ?c3 ?c4 ?c5 ?_)
      case c2 => intro u hu; simp at hu; subst hu; rfl
      case c3 => unfold maxLen; omega
      case c4 => omega
      case c5 => simp; omega
      intro v' w3 hown' hgrow _
      have HG3 := Lib.hid (HG2.out.append (s := s) (by omega) (by rw [hl]; exact hown') hgrow)
      clear hown hown' hgrow
      go_wp2
      go_roundw
      case rel => exact ⟨k + 1, ss ++ [s], by omega, by go_num, by rw [List.length_append, hl]; rfl, Lib.hid (by rw [show 2 + 2 * (k + 1) = 2 + 2 * k + 2 by omega]; exact HG3.out)⟩
      case measure => simp [intOf]; omega
    · have hN5 : 2 + 2 * k ≤ 8 := by omega
      go_wp2_with (go_at_call 30; refine (one_any _ _ a n cap (2 + 2 * k) _ _ (by omega) (by omega) (by omega) hg.out.st).mono ?_; rintro e w2 ⟨r, rfl, hs2, hg2⟩; refine Hid.out ?_)
      have HG2 := Lib.hid (hg.out.cursor hs2 hg2)
      have hss : ss.length ≤ 3 := by omega
      clear hs2 hg2 hg
      cases r
      · refine Lib.hid ?_
        have hbig := HG2.out.big
        go_wp2_with (go_at_call 26; refine (of_small w.heap.size w.heap.size a n cap (2 + 2 * k + 2) w2.heap.size 5 5 joinTexts _ rfl (by omega) (by decide) (by decide) joinTexts_size (HG2.out.st.other ((Below.refl _ _).alloc (Nat.le_refl _) _)) (tx_new w2 joinTexts 9) (by omega)).mono ?_; rintro e w3 ⟨⟨t, rfl, ht⟩, hs3, hg3⟩; refine Hid.out ?_)
        have HE := Lib.hid (djoin_end HG2.out hg3 (by omega) ht)
        clear hs3 hg3 ht
        refine Lib.hid ?_
        go_wp2_with fail
        go_ret2
        exact HE.out
      · refine Lib.hid ?_
        go_wp2_with (go_at_call 29; refine (pick_any _ _ a n cap (2 + 2 * k + 2) _ _ (by omega) (by omega) (by omega) HG2.out.st).mono ?_; rintro e w3 ⟨r, rfl, hr0, hr1, hs3, hg3⟩; refine Hid.out ?_)
        have HG3 := Lib.hid (HG2.out.cursor hs3 hg3)
        clear hs3 hg3 HG2
        obtain ⟨M, hM⟩ : ∃ M : Nat, (M : Int) = 3990 + r := ⟨(3990 + r).toNat, by omega⟩
        have hM4 : M ≤ 4020 := by omega
        have hsum : (3990 : Int) + r = (M : Int) := hM.symm
        have hmk := run_make_row' (P := Try.prog) 22 5 (.int .u8 0) 1 Try.underlying22 infoByteD rfl .i64 .i64 M (by omega) (by omega)
        have hcv := zeros w3 M
        have HG4 := Lib.hid (HG3.out.laid (.cells (madeCells #[.int .u8 0] M) 5))
        have hown := HG4.out.own
        have hbig := HG4.out.big
        have hzz : (ByteArray.mk (List.replicate M (0 : UInt8)).toArray).size ≤ 5000 := by simp [ByteArray.size]; omega
        generalize ByteArray.mk (List.replicate M (0 : UInt8)).toArray = z at hcv hzz
        have HZ := Lib.hid hzz
        clear hM hzz
        refine Lib.hid ?_
        go_wp2_with (at_builtin; refine wpList_append_own _ rfl _ _ 26 rfl (w.heap.size + 1) 9 i0 (.string ⟨#[]⟩) 1 16 Try.underlying26 hi hz0 hz1 hz2 rfl (by decide) _ _ _ rfl (hown.alloc _) ⟨w3.heap.size + 1, 0, none⟩ 1 1 [.string z] (by rfl) rfl ?c1 ?c2 ?c3 ?c4 ?c5 ?_)
        case c1 =>
          rw [← show (w3.alloc (.cells (madeCells #[.int .u8 0] M) 5)).heap.size = w3.heap.size + 1 by simp]
          exact cell_one_new _ _ _
        case c2 => intro u hu; simp at hu; subst hu; rfl
        case c3 => unfold maxLen; omega
        case c4 => omega
        case c5 => simp at hbig ⊢; omega
        intro v' w4 hown' hgrow _
        have HG5 := Lib.hid (HG4.out.append (s := z) HZ.out (by rw [hl]; exact hown') hgrow)
        clear hown hown' hgrow hbig HG4 HG3 hmk hcv
        have hbig := HG5.out.big
        have hl5 : (ss ++ [z]).length ≤ 5 := by simp; omega
        go_wp2_with (go_at_call 26; refine (of_small w.heap.size w.heap.size a n cap (2 + 2 * k + 2 + 2) w4.heap.size 5 5 joinTexts _ rfl (by omega) (by decide) (by decide) joinTexts_size (HG5.out.st.other ((Below.refl _ _).alloc (Nat.le_refl _) _)) (tx_new w4 joinTexts 9) (by omega)).mono ?_; rintro e w5 ⟨⟨t, rfl, ht⟩, hs5, hg5⟩; refine Hid.out ?_)
        have HE := Lib.hid (djoin_end HG5.out hg5 hl5 ht)
        clear hs5 hg5 ht hl5
        refine Lib.hid ?_
        go_wp2_with fail
        go_ret2
        exact HE.out
end Go.Proofs.Ytcheogmnhooffaa.S1
