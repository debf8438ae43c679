/- The ends of the blocks of two tariffs, in order, with 0 ahead: contracts. Conditions: each theorem's own premises. -/
import Derived.Test.YtidlpoambmeiiaaSortSh
import Derived.Test.YtidlpoambmeiiaaTaSpl
import Derived.Sort.OwnSortedInts
namespace Go.Proofs.Ytidlpoambmeiiaa.S14
open Go.RowKit Go.Sort P14

theorem sort_own {w : World} {B g c : Nat} {l : List Int} (h : IOwn w B (.slice (some ⟨g, 0, none⟩) l.length c) l) (hl : l.length ≤ 1000) :
    Calls Try.prog 83 #[.slice (some ⟨g, 0, none⟩) l.length c] w fun e w' => e = .returned (.tuple #[]) ∧ w'.ownsRow B 3 1 (.slice (some ⟨g, 0, none⟩) l.length c) l.length ((l.mergeSort fun x y => decide (x ≤ y)).map iv) ∧ w.grownBy w' (some g) := by
  rcases h.2 with ⟨h0, _⟩ | ⟨g', c', cur, hv, hbase, hheap, hn, hcap, hsz, htake⟩
  · cases h0
  · have e1 : g' = g ∧ c' = c := by
      have := hv
      simp only [Value.slice.injEq, Option.some.injEq, Addr.mk.injEq, and_true, true_and] at this
      exact ⟨this.1.symm, this.2.symm⟩
    obtain ⟨rfl, rfl⟩ := e1
    rw [Nat.mul_one] at htake
    refine (Try.slices_Sort_int g' 0 c' l w (holds_of_blockI hheap htake) (Array.getElem?_eq_some_iff.1 hheap).1 (by omega)).mono ?_
    rintro e w' ⟨he, n, os, rfl⟩
    exact ⟨he, ownsRow_sortedI (ts := l.mergeSort fun x y => decide (x ≤ y)) (List.length_mergeSort l) hbase hheap hn hcap hsz, grownBy_sortedI _⟩
/-- One of two tariffs. -/
def two (a b : Ta) (k : Nat) : Ta := if k = 0 then a else b
def twoA (A B : Option Addr) (k : Nat) : Option Addr := if k = 0 then A else B
def twoC (c d k : Nat) : Nat := if k = 0 then c else d
/-- The ends of the first n blocks. -/
def ups (bs : List Bl) (n : Nat) : List Int := (List.range n).map fun i => (cAt bs i).up
theorem ups_len (bs : List Bl) (n : Nat) : (ups bs n).length = n := by simp [ups]
theorem ups_succ (bs : List Bl) (n : Nat) : ups bs (n + 1) = ups bs n ++ [(cAt bs n).up] := by simp [ups, List.range_succ]
/-- 0 and the ends of the blocks of the first k tariffs. -/
def endL (a b : Ta) : Nat → List Int
  | 0 => [0]
  | k + 1 => endL a b k ++ ups (two a b k).bs (two a b k).bs.length
theorem endL_mem {a b : Ta} {x : Int} : x ∈ endL a b 2 ↔ P14.End a b x := by
  have e : endL a b 2 = [0] ++ ups a.bs a.bs.length ++ ups b.bs b.bs.length := rfl
  rw [e]
  simp only [List.mem_append, List.mem_singleton, ups, List.mem_map, List.mem_range, P14.End]
  constructor
  · rintro ((h | ⟨i, hi, h⟩) | ⟨i, hi, h⟩)
    · exact .inl h
    · exact .inr (.inl ⟨i, hi, h.symm⟩)
    · exact .inr (.inr ⟨i, hi, h.symm⟩)
  · rintro (h | ⟨i, hi, h⟩ | ⟨i, hi, h⟩)
    · exact .inl (.inl h)
    · exact .inl (.inr ⟨i, hi, h.symm⟩)
    · exact .inr ⟨i, hi, h.symm⟩
/-- The ends in order. -/
def endS (a b : Ta) : List Int := (endL a b 2).mergeSort fun x y => decide (x ≤ y)
theorem endS_mem {a b : Ta} {x : Int} : x ∈ endS a b ↔ P14.End a b x := by
  unfold endS
  rw [(List.mergeSort_perm _ _).mem_iff]; exact endL_mem
theorem endS_len (a b : Ta) : (endS a b).length = (endL a b 2).length := List.length_mergeSort _
theorem endL_len (a b : Ta) : (endL a b 2).length = 1 + a.bs.length + b.bs.length := by
  have e : endL a b 2 = [0] ++ ups a.bs a.bs.length ++ ups b.bs b.bs.length := rfl
  rw [e]; simp [ups_len]; omega
theorem endS_asc {a b : Ta} {i j : Nat} (h : i ≤ j) (hj : j < (endS a b).length) : (endS a b).getD i 0 ≤ (endS a b).getD j 0 := by
  have hp : (endS a b).Pairwise (fun x y => decide (x ≤ y) = true) := List.pairwise_mergeSort (fun a b c h1 h2 => by simp at h1 h2 ⊢; omega) (fun a b => by simp; omega) _
  rcases Nat.lt_or_ge i j with e | e
  · have := List.pairwise_iff_getElem.1 hp i j (by omega) hj e
    simp at this
    simp [List.getD, show i < (endS a b).length by omega, hj]
    exact this
  · have : i = j := by omega
    subst this; exact Int.le_refl _
/-- The blocks and the boxes of two tariffs in a row. -/
structure TW (w : World) (g : Nat) (a b : Ta) (A : Option Addr) (c : Nat) (B : Option Addr) (d : Nat) : Prop where
  k0 : ∀ k, k < 2 → w.cell? ⟨g, k * 2, none⟩ = some (.int .i64 (two a b k).fee)
  k1 : ∀ k, k < 2 → w.cell? ⟨g, k * 2 + 1, none⟩ = some (.slice (twoA A B k) (two a b k).bs.length (twoC c d k))
  lt : g < w.heap.size
  at_ : ∀ k, k < 2 → CAt w (twoA A B k) (two a b k).bs
  le : ∀ k, k < 2 → (two a b k).bs.length ≤ 5
theorem TW.kept {w w' : World} {S g : Nat} {a b : Ta} {A : Option Addr} {c : Nat} {B : Option Addr} {d : Nat} (h : TW w g a b A c B d) (hb : Below S w w') (hS : w.heap.size ≤ S) : TW w' g a b A c B d :=
  ⟨fun k hk => (hb.cell (p := ⟨g, k * 2, none⟩) (Nat.lt_of_lt_of_le h.lt hS)).trans (h.k0 k hk), fun k hk => (hb.cell (p := ⟨g, k * 2 + 1, none⟩) (Nat.lt_of_lt_of_le h.lt hS)).trans (h.k1 k hk), Nat.lt_of_lt_of_le h.lt hb.size, fun k hk => (h.at_ k hk).kept hb hS, h.le⟩
/-- A row of numbers, read. -/
def GivesR (w : World) (l : List Int) (e : Ending) (w' : World) : Prop :=
  ∃ g cap, e = .returned (.slice (some ⟨g, 0, none⟩) l.length cap) ∧ IAt w' (some ⟨g, 0, none⟩) l ∧ Below w.heap.size w w'
theorem gives_sorted {w w6 w7 : World} {l : List Int} {g cap : Nat} (hb : Below w.heap.size w w6) (hg : w.heap.size ≤ g) (ho : w7.ownsRow w.heap.size 3 1 (.slice (some ⟨g, 0, none⟩) l.length cap) l.length ((l.mergeSort fun x y => decide (x ≤ y)).map iv)) (hgr : w6.grownBy w7 (some g)) :
    GivesR w (l.mergeSort fun x y => decide (x ≤ y)) (.returned (.slice (some ⟨g, 0, none⟩) l.length cap)) w7 := by
  have hl := List.length_mergeSort (le := fun x y : Int => decide (x ≤ y)) l
  refine ⟨g, cap, by rw [hl], ?_, hb.grown hgr hb.size (fun k hk => by simp at hk; omega)⟩
  have : IOwn w7 w.heap.size (.slice (some ⟨g, 0, none⟩) (l.mergeSort fun x y => decide (x ≤ y)).length cap) (l.mergeSort fun x y => decide (x ≤ y)) := by
    unfold IOwn; rw [hl]; exact ho
  exact this.iat
set_option maxHeartbeats 8000000 in
set_option maxRecDepth 100000 in
theorem ends_any (a b : Ta) (A : Option Addr) (c : Nat) (B : Option Addr) (d : Nat) (gg : Nat) (w : World) (h : TW w gg a b A c B d) :
    Calls Try.prog 68 #[.slice (some ⟨gg, 0, none⟩) 2 2] w (GivesR w (endS a b)) := by
  have HT := Lib.hid h
  have hgl := h.lt
  obtain ⟨i0, hi, hz0, hz1, hz2⟩ := info_parts infoI
  have HO0 := Lib.hid (own_single w w.heap.size (Nat.le_refl _) 0)
  have HB0 := Lib.hid (alloc_below w (.cells #[.int .i64 0] 3))
  have HLE := Lib.hid (show (endL a b 2).length ≤ 1000 by rw [endL_len]; have h0 := h.le 0 (by omega); have h1 := h.le 1 (by omega); simp [two] at h0 h1; omega)
  clear h
  unfold endS
  go_enter Try.func68, Try.ntmps68
  go_wp2
  go_loopw [3, 11] (fun s i wr => ∃ k : Nat, k ≤ 2 ∧ i = .int .i64 (k : Int) ∧ Hid (IOwn wr w.heap.size s (endL a b k)) ∧ Hid (s ≠ .slice none 0 0) ∧ Hid (Below w.heap.size w wr)) (fun _ i _ => 2 - (intOf i).toNat)
  case atStart => exact ⟨0, Nat.zero_le _, rfl, HO0, Lib.hid (by simp), HB0⟩
  case round =>
    clear HO0 HB0
    obtain ⟨k, hk, rfl, hown, hvn, HB⟩ := hrel
    obtain ⟨wo, hwo⟩ : ∃ wo, wo = wr := ⟨_, rfl⟩
    subst hwo
    by_cases hlt : k < 2
    · have hT2 := HT.out.kept HB.out (Nat.le_refl _)
      have p0 := hT2.k0 k hlt
      have p1 := hT2.k1 k hlt
      have hle := hT2.le k hlt
      have HNX := Lib.hid (show endL a b (k + 1) = endL a b k ++ ups (two a b k).bs (two a b k).bs.length from rfl)
      have HCA := Lib.hid (fun w' (hb : Below w.heap.size w w') => (HT.out.at_ k hlt).kept hb (Nat.le_refl _))
      have hk0 : (0 : Int) ≤ (k : Int) := by omega
      have hk2 : (k : Int) < 2 := by omega
      have hzw := HB.out.size
      generalize two a b k = t at *
      generalize twoA A B k = At at *
      generalize twoC c d k = ct at *
      obtain ⟨fee, bs⟩ := t
      simp only at p0 p1 hle HNX HCA
      have HO1 := Lib.hid (hown.out.on (alloc_below wo (.cells #[.int .i64 fee, .slice At bs.length ct] 29)))
      have HB1 := Lib.hid (HB.out.alloc hzw (.cells #[.int .i64 fee, .slice At bs.length ct] 29))
      have HU0 := Lib.hid (show endL a b k ++ ups bs 0 = endL a b k by simp [ups])
      clear hT2
      go_wp2
      go_loopw [3, 18] (fun s i wr => ∃ j : Nat, j ≤ bs.length ∧ i = .int .i64 (j : Int) ∧ Hid (IOwn wr w.heap.size s (endL a b k ++ ups bs j)) ∧ Hid (s ≠ .slice none 0 0) ∧ Hid (Below w.heap.size w wr)) (fun _ i _ => bs.length - (intOf i).toNat)
      case atStart => exact ⟨0, Nat.zero_le _, rfl, by rw [HU0.out]; exact HO1, hvn, HB1⟩
      case round =>
        clear hown HB HO1 HB1 HU0 p0 p1 hvn hzw
        obtain ⟨j, hj, rfl, hown, hvn, HB⟩ := hrel
        by_cases hlj : j < bs.length
        · obtain ⟨b0, off, hA, hbl, h0, h1⟩ := (HCA.out _ HB.out).at_ hlj
          subst hA
          have hj0 : (0 : Int) ≤ (j : Int) := by omega
          have hjn : (j : Int) < (bs.length : Int) := by omega
          have hsn := Lib.hid (show endL a b k ++ ups bs (j + 1) = (endL a b k ++ ups bs j) ++ [(cAt bs j).up] by rw [ups_succ, List.append_assoc])
          have hfl : (endL a b k ++ ups bs j).length ≤ 100 := by
            rw [List.length_append, ups_len]
            have h2 := HT.out.le 0 (by omega)
            have h3 : (endL a b k).length ≤ 1 + (two a b 0).bs.length := by
              match k, hlt with
              | 0, _ => simp [endL]
              | 1, _ => simp [endL, ups_len]; omega
            omega
          generalize (cAt bs j).up = x at *
          generalize (cAt bs j).pr = y at *
          generalize endL a b k ++ ups bs j = LL at *
          have hzw := HB.out.size
          have ho := (hown.out.on (alloc_below wr (.cells #[.int .i64 x, .int .i64 y] 62)))
          have HBN := Lib.hid (HB.out.alloc hzw (.cells #[.int .i64 x, .int .i64 y] 62))
          have hzb := alloc_size wr (.cells #[.int .i64 x, .int .i64 y] 62)
          unfold IOwn at ho
          go_wp2_with (at_builtin; go_must (refine wpList_append_own _ rfl _ _ 42 rfl w.heap.size 3 i0 (.int .i64 0) 1 8 Try.underlying42 hi hz0 hz1 hz2 rfl (by decide) _ _ _ rfl (ho.alloc _) ⟨wr.heap.size + 1, 0, none⟩ 1 1 [iv x] rfl rfl (by have := cell_one_new (wr.alloc (.cells #[.int .i64 x, .int .i64 y] 62)) (iv x) 3; rw [hzb] at this; exact this) (by intro u hu; simp at hu; subst hu; rfl) (by unfold maxLen; omega) (by omega) (by have := HBN.out.size; simp at this ⊢; omega) ?_); intro v' w7 hown' hgrow hnil)
          have hown3 := Lib.hid (IOwn.push hown')
          rw [← hsn.out] at hown3
          have hB7 := Lib.hid ((HBN.out.alloc HBN.out.size (.cells #[iv x] 3)).grown hgrow (by have := HBN.out.size; simp at this ⊢; omega) (fun g hg => (ho.lt g hg).1))
          have hnil3 := Lib.hid (show v' ≠ .slice none 0 0 from fun e => by simp [e] at hnil)
          go_roundw
          case rel => exact ⟨j + 1, by omega, by go_num, hown3, hnil3, hB7⟩
          case measure => simp [intOf]; omega
        · have e : j = bs.length := by omega
          subst e
          rw [← HNX.out] at hown
          go_wp2
          go_roundw
          case rel => exact ⟨k + 1, by omega, by go_num, hown, hvn, HB⟩
          case measure => simp [intOf]; omega
    · have e : k = 2 := by omega
      subst e
      obtain ⟨g0, cp, rfl, hg⟩ := own_slice hown.out hvn.out
      have HS := Lib.hid (sort_own hown.out HLE.out)
      have HG := Lib.hid (fun w7 ho hgr => gives_sorted (w := w) (w7 := w7) (l := endL a b 2) (g := g0) (cap := cp) HB.out hg ho hgr)
      clear hk hown hvn hlt
      go_wp2_with (first | (go_at_call 83; refine HS.out.mono ?_; rintro e w7 ⟨rfl, ho7, hg7⟩; have HF := Lib.hid (HG.out w7 ho7 hg7); clear ho7 hg7; refine Hid.out ?_) | fail)
      refine Lib.hid ?_
      go_wp2_with fail
      go_ret
      exact HF.out
end Go.Proofs.Ytidlpoambmeiiaa.S14
