/- CheaperFrom of the program: contracts. Conditions: each theorem's own premises. -/
import Derived.Test.YtidlpoambmeiiaaTaEnd
import Derived.Test.YtidlpoambmeiiaaTaSrch
import Derived.Test.YtidlpoambmeiiaaTaAns
namespace Go.Proofs.Ytidlpoambmeiiaa.S14
open Go.RowKit P14

/-- The boxes of two tariffs. -/
structure CT (w W : World) (a b : Ta) (A : Option Addr) (c : Nat) (B : Option Addr) (d : Nat) : Prop where
  a : B2 W w.heap.size a A c
  b : B2 W (w.heap.size + 1) b B d
  bw : Below w.heap.size w W
theorem CT.new (w : World) (ty ty2 : TypeId) (a b : Ta) (A : Option Addr) (c : Nat) (B : Option Addr) (d : Nat) : CT w ((w.alloc (tb ty a A c)).alloc (tb ty2 b B d)) a b A c B d := by
  have h1 := (B2.new w ty a A c).kept (alloc_below _ (tb ty2 b B d))
  have h2 := B2.new (w.alloc (tb ty a A c)) ty2 b B d
  rw [alloc_size] at h2
  exact ⟨h1, h2, two_below _ _ _⟩
theorem CT.call {w W W2 : World} {a b : Ta} {A : Option Addr} {c : Nat} {B : Option Addr} {d : Nat} (h : CT w W a b A c B d) (hb : Below W.heap.size W W2) : CT w W2 a b A c B d :=
  ⟨h.a.kept hb, h.b.kept hb, h.bw.trans (hb.mono h.bw.size)⟩
set_option maxHeartbeats 2000000 in
theorem hclo_any (b1 b2 : Nat) (a b : Ta) (A : Option Addr) (c : Nat) (B : Option Addr) (d : Nat) (i : Int) (w : World) (ha : TAt w a A) (hb : TAt w b B) (ga : P14.Good a) (gb : P14.Good b) (h1 : B2 w b1 a A c) (h2 : B2 w b2 b B d) (hi0 : 0 ≤ i) (hi9 : i ≤ 100000) :
    Calls Try.prog 67 #[.int .i64 i, .pointer (some ⟨b1, 0, none⟩), .pointer (some ⟨b2, 0, none⟩)] w fun e w' => e = .returned (.bool (decide (cost b i < cost a i))) ∧ Below w.heap.size w w' := by
  have HA := Lib.hid (cost_w (coR_yes (okV_mk (gB_mk ga) ⟨hi0, hi9⟩)) (okV_mk (gB_mk ga) ⟨hi0, hi9⟩) A c w ha)
  have HB := Lib.hid (fun w' (hbw : Below w.heap.size w w') => cost_w (coR_yes (okV_mk (gB_mk gb) ⟨hi0, hi9⟩)) (okV_mk (gB_mk gb) ⟨hi0, hi9⟩) B d w' (hb.kept hbw))
  obtain ⟨_, q0, q1, _⟩ := h1
  clear ha hb ga gb hi0 hi9
  generalize cost a i = X at *
  generalize cost b i = Y at *
  go_enter Try.func67, Try.ntmps67
  go_wp2_with (first | (go_at_call 21; refine HA.out.mono ?_; rintro e w1 ⟨rfl, hb1⟩; have HB1 := Lib.hid hb1; have h3 := h2.kept hb1; clear hb1; refine Hid.out ?_) | fail)
  clear q0 q1 h2 HA
  obtain ⟨_, q0, q1, _⟩ := h3
  refine Lib.hid ?_
  go_wp2_with (first | (go_at_call 21; refine (HB.out _ HB1.out).mono ?_; rintro e w2 ⟨rfl, hb2⟩; have HB2 := Lib.hid (HB1.out.trans (hb2.mono HB1.out.size)); clear hb2; refine Hid.out ?_) | fail)
  refine Lib.hid ?_
  go_wp2_with fail
  go_ret
  exact ⟨rfl, HB2.out⟩
theorem end_in {a b : Ta} (ga : P14.Good a) (gb : P14.Good b) {u : Int} (h : P14.End a b u) : 0 ≤ u ∧ u ≤ 100000 := by
  rcases h with h | ⟨i, hi, h⟩ | ⟨i, hi, h⟩
  · omega
  · have := (ga.at_ hi).1; omega
  · have := (gb.at_ hi).1; omega
theorem end_get {a b : Ta} {k : Nat} (hk : k < (endS a b).length) : P14.End a b ((endS a b).getD k 0) := by
  rw [← endS_mem]
  simp [List.getD, hk]
/-- The first end at which b is cheaper: up to it b stays cheaper once it is. -/
theorem end_first {a b : Ta} {k : Nat} (hno : ∀ j, j < k → decide (cost b ((endS a b).getD j 0) < cost a ((endS a b).getD j 0)) = false) :
    ∀ u, P14.End a b u → u < (endS a b).getD k 0 → gap a b u ≤ 0 := by
  intro u hu hlt
  rw [← endS_mem] at hu
  obtain ⟨j, hj, rfl⟩ := List.getElem_of_mem hu
  have e : (endS a b).getD j 0 = (endS a b)[j] := by simp [List.getD, hj]
  have hjk : j < k := by
    rcases Nat.lt_or_ge j k with h | h
    · exact h
    · have := endS_asc (a := a) (b := b) h hj
      rw [e] at this
      omega
  have := hno j hjk
  rw [e] at this
  simp at this
  unfold gap; omega
theorem cf_found {a b : Ta} {n m : Nat} (hn : n ≤ 100000) (hc : decide (cost b (n : Int) < cost a (n : Int)) = true) (hm : m ≤ n) (hlow : ∀ t : Nat, t < m → decide (cost b (t : Int) < cost a (t : Int)) = false) (hhigh : ∀ t : Nat, m ≤ t → t < n → decide (cost b (t : Int) < cost a (t : Int)) = true) : CF a b m := by
  refine ⟨by omega, ?_, fun t ht => ?_⟩
  · have h : decide (cost b (m : Int) < cost a (m : Int)) = true := by
      rcases Nat.lt_or_ge m n with h | h
      · exact hhigh m (Nat.le_refl _) h
      · have e : m = n := by omega
        rw [e]; exact hc
    simp at h
    unfold gap; omega
  · have := hlow t ht
    simp at this
    unfold gap; omega
def ChI (a b : Ta) (w : World) (e : Ending) (w' : World) : Prop := e = .returned (.tuple #[.int .i64 (cfR a b), .bool (cfB a b)]) ∧ Below w.heap.size w w'
theorem ch_no {a b : Ta} {w w' : World} (h : cfB a b = false) (hb : Below w.heap.size w w') : ChI a b w (.returned (.tuple #[.int .i64 0, .bool false])) w' := ⟨by rw [cfR_no h, h], hb⟩
theorem ch_yes {a b : Ta} {w w' : World} {n : Nat} (ga : gB a = true) (gb : gB b = true) (h : CF a b n) (hb : Below w.heap.size w w') : ChI a b w (.returned (.tuple #[.int .i64 (n : Int), .bool true])) w' := ⟨by rw [cfR_yes ga gb h, cfB_mk ga gb h], hb⟩
/-- The row that holds two tariffs. -/
theorem tw_new {w W : World} {ty : TypeId} {a b : Ta} {A : Option Addr} {c : Nat} {B : Option Addr} {d : Nat} (hb : Below w.heap.size w W) (ha : TAt w a A) (hB : TAt w b B) (la : a.bs.length ≤ 5) (lb : b.bs.length ≤ 5) :
    TW (W.alloc (.cells #[.int .i64 a.fee, .slice A a.bs.length c, .int .i64 b.fee, .slice B b.bs.length d] ty)) W.heap.size a b A c B d := by
  have h2 := hb.alloc hb.size (.cells #[.int .i64 a.fee, .slice A a.bs.length c, .int .i64 b.fee, .slice B b.bs.length d] ty)
  have hc : ∀ o, (W.alloc (.cells #[.int .i64 a.fee, .slice A a.bs.length c, .int .i64 b.fee, .slice B b.bs.length d] ty)).cell? ⟨W.heap.size, o, none⟩ = #[Value.int .i64 a.fee, .slice A a.bs.length c, .int .i64 b.fee, .slice B b.bs.length d][o]? := fun o => World.cell?_alloc_at _ _ _ _ rfl
  refine ⟨fun k hk => ?_, fun k hk => ?_, by simp, fun k hk => ?_, fun k hk => ?_⟩
  · rw [hc]
    match k, hk with
    | 0, _ => rfl
    | 1, _ => rfl
  · rw [hc]
    match k, hk with
    | 0, _ => rfl
    | 1, _ => rfl
  · match k, hk with
    | 0, _ => exact ha.x.kept h2 (Nat.le_refl _)
    | 1, _ => exact hB.x.kept h2 (Nat.le_refl _)
  · match k, hk with
    | 0, _ => exact la
    | 1, _ => exact lb
set_option maxHeartbeats 8000000 in
set_option maxRecDepth 100000 in
theorem cheap_any (a b : Ta) (A : Option Addr) (c : Nat) (B : Option Addr) (d : Nat) (w : World) (ha : TAt w a A) (hb : TAt w b B) :
    Calls Try.prog 31 #[tv a A c, tv b B d] w (ChI a b w) := by
  have HC0 := Lib.hid (CT.new w 29 29 a b A c B d)
  obtain ⟨v1, hv1⟩ : ∃ v, gB a = v := ⟨_, rfl⟩
  obtain ⟨v2, hv2⟩ : ∃ v, gB b = v := ⟨_, rfl⟩
  have H1 := Lib.hid (fun w' (hbw : Below w.heap.size w w') => valid_w hv1 A c w' (ha.kept hbw))
  have H2 := Lib.hid (fun w' (hbw : Below w.heap.size w w') => valid_w hv2 B d w' (hb.kept hbw))
  have HTA := Lib.hid ha
  have HTB := Lib.hid hb
  clear ha hb
  cases v1 with
  | false =>
    have HN := Lib.hid (cfB_bad (a := a) (b := b) (.inl hv1))
    clear hv1 hv2
    go_enter Try.func31, Try.ntmps31
    go_wp2_with (first | (go_at_call 18; refine (H1.out _ HC0.out.bw).mono ?_; rintro e w1 ⟨rfl, hb1⟩; have HB1 := Lib.hid (HC0.out.call hb1).bw; clear hb1; refine Hid.out ?_) | fail)
    refine Lib.hid ?_
    go_wp2_with fail
    go_ret2
    exact ch_no HN.out HB1.out
  | true =>
    cases v2 with
    | false =>
      have HN := Lib.hid (cfB_bad (a := a) (b := b) (.inr hv2))
      clear hv1 hv2
      go_enter Try.func31, Try.ntmps31
      go_wp2_with (first | (go_at_call 18; refine (H1.out _ HC0.out.bw).mono ?_; rintro e w1 ⟨rfl, hb1⟩; have HC1 := Lib.hid (HC0.out.call hb1); clear hb1; refine Hid.out ?_) | fail)
      obtain ⟨⟨_, q0, q1, _⟩, ⟨_, q2, q3, _⟩, _⟩ := HC1.out
      clear HC0 H1
      refine Lib.hid ?_
      go_wp2_with (first | (go_at_call 18; refine (H2.out _ HC1.out.bw).mono ?_; rintro e w2 ⟨rfl, hb2⟩; have HB2 := Lib.hid (HC1.out.call hb2).bw; clear hb2; refine Hid.out ?_) | fail)
      refine Lib.hid ?_
      go_wp2_with fail
      go_ret2
      exact ch_no HN.out HB2.out
    | true =>
      have HGA := Lib.hid hv1
      have HGB := Lib.hid hv2
      have hla := (gB_of hv1).2.1.2
      have hlb := (gB_of hv2).2.1.2
      have hEL : (endS a b).length ≤ 11 := by rw [endS_len, endL_len]; omega
      have HCL := Lib.hid (fun (W : World) (hC : CT w W a b A c B d) (i : Int) (h0 : 0 ≤ i) (h9 : i ≤ 100000) => hclo_any w.heap.size (w.heap.size + 1) a b A c B d i W (HTA.out.kept hC.bw) (HTB.out.kept hC.bw) (gB_of HGA.out) (gB_of HGB.out) hC.a hC.b h0 h9)
      clear hv1 hv2
      go_enter Try.func31, Try.ntmps31
      go_wp2_with (first | (go_at_call 18; refine (H1.out _ HC0.out.bw).mono ?_; rintro e w1 ⟨rfl, hb1⟩; have HC1 := Lib.hid (HC0.out.call hb1); clear hb1; refine Hid.out ?_) | fail)
      obtain ⟨⟨_, q0, q1, _⟩, ⟨_, q2, q3, _⟩, _⟩ := HC1.out
      clear HC0 H1
      refine Lib.hid ?_
      go_wp2_with (first | (go_at_call 18; refine (H2.out _ HC1.out.bw).mono ?_; rintro e w2 ⟨rfl, hb2⟩; have HC2 := Lib.hid (HC1.out.call hb2); clear hb2; refine Hid.out ?_) | fail)
      clear q0 q1 q2 q3 HC1 H2
      obtain ⟨⟨_, q0, q1, _⟩, ⟨_, q2, q3, _⟩, _⟩ := HC2.out
      have HTW := Lib.hid (tw_new (ty := 29) (c := c) (d := d) HC2.out.bw HTA.out HTB.out hla hlb)
      have HC3 := Lib.hid (HC2.out.call (alloc_below w2 (.cells #[.int .i64 a.fee, .slice A a.bs.length c, .int .i64 b.fee, .slice B b.bs.length d] 29)))
      refine Lib.hid ?_
      go_wp2_with (first | (go_at_call 68; refine (ends_any a b A c B d _ _ HTW.out).mono ?_; rintro e w4 ⟨g, cp, rfl, hI, hb4⟩; have HC4 := Lib.hid (HC3.out.call hb4); have HI := Lib.hid hI; clear hb4 hI; refine Hid.out ?_) | fail)
      clear q0 q1 q2 q3 HC2 HC3 HTW
      refine Lib.hid ?_
      go_wp2_with fail
      go_loopw [8, 23] (fun _ i wr => ∃ k : Nat, k ≤ (endS a b).length ∧ i = .int .i64 (k : Int) ∧ Hid (∀ j, j < k → decide (cost b ((endS a b).getD j 0) < cost a ((endS a b).getD j 0)) = false) ∧ Hid (CT w wr a b A c B d) ∧ Hid (Below w4.heap.size w4 wr)) (fun _ i _ => (endS a b).length - (intOf i).toNat)
      case atStart => exact ⟨0, Nat.zero_le _, rfl, Lib.hid (fun j hj => absurd hj (by omega)), HC4, Lib.hid (Below.refl _ _)⟩
      case round =>
        obtain ⟨k, hk, rfl, hno, HC, HB⟩ := hrel
        by_cases hlt : k < (endS a b).length
        · obtain ⟨b0, off, hA, hbl, h0⟩ := (HI.out.kept HB.out (Nat.le_refl _)).at_ hlt
          simp only [Option.some.injEq, Addr.mk.injEq, and_true] at hA
          obtain ⟨rfl, rfl⟩ := hA
          rw [Nat.zero_add] at h0
          have hk0 : (0 : Int) ≤ (k : Int) := by omega
          have hkn : (k : Int) < ((endS a b).length : Int) := by omega
          have hei := end_in (gB_of HGA.out) (gB_of HGB.out) (end_get hlt)
          have HF := Lib.hid (end_first (a := a) (b := b) (k := k) hno.out)
          have HNX := Lib.hid (show decide (cost b ((endS a b).getD k 0) < cost a ((endS a b).getD k 0)) = false → ∀ j, j < k + 1 → decide (cost b ((endS a b).getD j 0) < cost a ((endS a b).getD j 0)) = false from fun h j hj => by
            by_cases e : j = k
            · subst e; exact h
            · exact hno.out j (by omega))
          generalize (endS a b).getD k 0 = u at *
          obtain ⟨n, rfl⟩ : ∃ n : Nat, u = (n : Int) := ⟨u.toNat, by omega⟩
          have hn9 : n ≤ 100000 := by omega
          have HCK := Lib.hid (HCL.out wr HC.out (n : Int) (by omega) (by omega))
          cases hp : decide (cost b (n : Int) < cost a (n : Int)) with
          | false =>
            rw [hp] at HCK
            have HV := Lib.hid (HNX.out hp)
            clear hp hei
            go_wp2_with (go_at_call 67; refine HCK.out.mono ?_; rintro e w5 ⟨rfl, hb5⟩; have HC5 := Lib.hid (HC.out.call hb5); have HB5 := Lib.hid (HB.out.trans (hb5.mono HB.out.size)); clear hb5)
            go_roundw
            case rel => exact ⟨k + 1, by omega, by go_num, HV, HC5, HB5⟩
            case measure => simp [intOf]; omega
          | true =>
            rw [hp] at HCK
            have HSR := Lib.hid (fun (W : World) (hC : CT w W a b A c B d) => search_h w.heap.size (w.heap.size + 1) n (fun i => decide (cost b (i : Int) < cost a (i : Int))) W (by omega)
              (fun w' hb i hi => HCL.out w' (hC.call hb) (i : Int) (by omega) (by omega))
              (fun x y hxy hy h => by
                have h1 : 0 < gap a b (x : Int) := by simp at h; unfold gap; omega
                have h2 := gap_stays_to (gB_of HGA.out) (gB_of HGB.out) (e := (n : Int)) (by omega) HF.out hxy h1 (by omega)
                unfold gap at h2
                simp; omega))
            have HFD := Lib.hid (fun m hm hlow hhigh => cf_found (a := a) (b := b) (n := n) (m := m) hn9 hp hm hlow hhigh)
            clear hp hei HNX
            go_wp2_with (first | (go_at_call 67; refine HCK.out.mono ?_; rintro e w5 ⟨rfl, hb5⟩; have HC5 := Lib.hid (HC.out.call hb5); clear hb5; refine Hid.out ?_) | fail)
            refine Lib.hid ?_
            go_wp2_with (first | (go_at_call 58; refine (HSR.out _ HC5.out).mono ?_; rintro e w6 ⟨⟨m, rfl, hm, hlow, hhigh⟩, hb6⟩; have HX := Lib.hid (HFD.out m hm hlow hhigh); have HC6 := Lib.hid (HC5.out.call hb6); clear hm hlow hhigh hb6; refine Hid.out ?_) | fail)
            refine Lib.hid ?_
            go_wp2_with fail
            go_ret2
            exact ch_yes HGA.out HGB.out HX.out HC6.out.bw
        · have e : k = (endS a b).length := by omega
          have HV := Lib.hid (cfB_no (cf_no (a := a) (b := b) (gB_of HGA.out) (gB_of HGB.out) (fun u hu => by
            rw [← endS_mem] at hu
            obtain ⟨j, hj, rfl⟩ := List.getElem_of_mem hu
            have e2 : (endS a b).getD j 0 = (endS a b)[j] := by simp [List.getD, hj]
            have := hno.out j (by omega)
            rw [e2] at this
            simp at this
            unfold gap; omega)))
          go_wp2
          go_ret2
          exact ch_no HV.out HC.out.bw
end Go.Proofs.Ytidlpoambmeiiaa.S14
