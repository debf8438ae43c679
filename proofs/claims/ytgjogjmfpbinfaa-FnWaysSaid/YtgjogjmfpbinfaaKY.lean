/- What the functions of ways and bridges give, valid or not, in one word each; ways pipe by pipe: contracts and plain facts. Conditions: each theorem's own premises. -/
import Derived.Test.YtgjogjmfpbinfaaKR
import Derived.Test.YtgjogjmfpbinfaaKW
import Derived.Test.YtgjogjmfpbinfaaKM
namespace Go.Proofs.Ytgjogjmfpbinfaa.S2
open Go.RowKit P2

theorem path_back {ps : List Pp} {k : Nat} {a b : Int} (h : Path ps k a b) : Path ps k b a := h.symm
/-- As far there as back. -/
theorem dist_back (ps : List Pp) (a b : Int) : dist ps a b = dist ps b a := by
  refine isD_one (dist_is ps a b) ?_
  rcases dist_is ps b a with ⟨h1, h2⟩ | ⟨k, h1, h2, h3⟩
  · exact .inl ⟨h1, fun ⟨k, hk⟩ => h2 ⟨k, path_back hk⟩⟩
  · exact .inr ⟨k, h1, path_back h2, fun j hj => h3 j (path_back hj)⟩
/-- A way that there is: its pipes eA, its nodes vA. -/
structure WyIs (n x y : Int) (ps : List Pp) (L : List Int) (N X T K : Nat) : Prop where
  nn : n = N
  xx : x = X
  yy : y = T
  good : P2.Good N ps
  x1 : 1 ≤ X
  x2 : X ≤ N
  t1 : 1 ≤ T
  t2 : T ≤ N
  dst : dist ps T X = K
  len : L.length = K
  at_ : ∀ i, i < K → L.getD i 0 = (eA ps T (vA ps T X i)).id
  wy : Wy ps T K (fun j => eA ps T (vA ps T X j)) (fun j => (vA ps T X j : Int))
theorem way_pack (n : Int) (ps : List Pp) (x y : Int) (hm : ps.length ≤ maxLen) : ∃ (L : List Int) (ok : Bool), L.length ≤ 1000 ∧
    Hid (∀ A c w, PAt w A ps → Calls Try.prog 97 #[nv n A ps.length c, .int .i64 x, .int .i64 y] w (GivesA w L ok)) ∧
    Hid (∀ A c w, PAt w A ps → Calls Try.prog 98 #[nv n A ps.length c, .int .i64 x, .int .i64 y] w (GivesA w L ok)) ∧
    Hid (ok = true → ∃ N X T K : Nat, WyIs n x y ps L N X T K) ∧
    Hid (nodeB n ps x = true → nodeB n ps y = true → (ok = true ↔ Conn ps x y)) := by
  cases hv : nodeB n ps x with
  | false => exact ⟨[], false, by simp, Lib.hid fun A c w h => (way_no1 n A c ps x y w h hm hv).mono fun _ _ h => h.any, Lib.hid fun A c w h => sway_no1 n A c ps x y w h hm hv, Lib.hid fun h => (by cases h), Lib.hid fun h => by cases h⟩
  | true =>
    cases hv2 : nodeB n ps y with
    | false => exact ⟨[], false, by simp, Lib.hid fun A c w h => (way_no2 n A c ps x y w h hm hv hv2).mono fun _ _ h => h.any, Lib.hid fun A c w h => sway_no2 n A c ps x y w h hm hv hv2, Lib.hid fun h => (by cases h), Lib.hid fun _ h => by cases h⟩
    | true =>
      obtain ⟨hg, h1, h2⟩ := nodeB_of hv
      obtain ⟨_, h3, h4⟩ := nodeB_of hv2
      obtain ⟨N, rfl⟩ : ∃ N : Nat, n = N := ⟨n.toNat, by have := hg.1; omega⟩
      obtain ⟨X, rfl⟩ : ∃ X : Nat, x = X := ⟨x.toNat, by omega⟩
      obtain ⟨T, rfl⟩ : ∃ T : Nat, y = T := ⟨y.toNat, by omega⟩
      by_cases hd : dist ps T X = -1
      · refine ⟨[], false, by simp, Lib.hid fun A c w h => (way_no3 N X T A c ps w h hm hv hv2 hd).mono fun _ _ h => h.any, Lib.hid fun A c w h => sway_no3 N X T A c ps w h hm hv hv2 hd, Lib.hid fun h => (by cases h), Lib.hid fun _ _ => ⟨fun h => (by cases h), fun h => absurd hd (dist_conn.2 h)⟩⟩
      · obtain ⟨K, hK⟩ : ∃ K : Nat, dist ps T X = K := by
          rcases dist_is ps T X with ⟨a, _⟩ | ⟨k, a, _⟩
          · exact absurd a hd
          · exact ⟨k, a⟩
        have hK9 := dist_le hg (t := (T : Int)) X (by omega)
        have hN8 := hg.2.1
        have hids := way_ids hg (t := (T : Int)) K X (by omega) (by omega) hK
        have hlen : (wayL ps T K X).length = K := by rw [hids]; simp
        refine ⟨wayL ps T K X, true, by omega, Lib.hid fun A c w h => (way_yes N X T A c ps w h hm hv hv2 K hK).mono fun _ _ h => h.any, Lib.hid fun A c w h => sway_yes N X T A c ps w h hm hv hv2 K hK, Lib.hid fun _ => ⟨N, X, T, K, ⟨rfl, rfl, rfl, hg, by omega, by omega, by omega, by omega, hK, hlen, fun i hi => ?_, way_wy hg (by omega) (by omega) hK⟩⟩, Lib.hid fun _ _ => ⟨fun _ => dist_conn.1 hd, fun _ => rfl⟩⟩
        rw [hids]
        simp [List.getD, hi]
theorem br_pack (n : Int) (ps : List Pp) (hm : ps.length ≤ maxLen) : ∃ (L : List Int) (ok : Bool), L.length ≤ 1000 ∧
    Hid (∀ A c w, PAt w A ps → ps.length ≤ c → Calls Try.prog 55 #[nv n A ps.length c] w (GivesA w L ok)) ∧
    Hid (∀ A c w, PAt w A ps → ps.length ≤ c → Calls Try.prog 100 #[nv n A ps.length c] w (GivesA w L ok)) ∧
    Hid (ok = true → ∃ N : Nat, n = N ∧ goodB N ps = true ∧ ∀ i, i < ps.length → decide ((pAt ps i).id ∈ L) = brB ps i) := by
  cases hv : goodB n ps with
  | false => exact ⟨[], false, by simp, Lib.hid fun A c w h hc => (br_no n A c ps w h hm hv).mono fun _ _ h => h.any, Lib.hid fun A c w h hc => (sbr_no n A c ps w h hm hv).mono fun _ _ h => h.any, Lib.hid fun h => by cases h⟩
  | true =>
    have hg := good_of hv
    obtain ⟨N, rfl⟩ : ∃ N : Nat, n = N := ⟨n.toNat, by have := hg.1; omega⟩
    exact ⟨brTo ps ps.length, true, by
      have : (brTo ps ps.length).length ≤ ps.length := by
        unfold brTo
        rw [List.length_map]
        have := List.length_filter_le (brB ps) (List.range ps.length)
        simpa using this
      have := hg.2.2.1
      omega, Lib.hid fun A c w h hc => (br_yes N A c ps w h hm hv hc).mono fun _ _ h => h.any, Lib.hid fun A c w h hc => (sbr_yes N A c ps w h hm hv hc).mono fun _ _ h => h.any, Lib.hid fun _ => ⟨N, rfl, hv, fun i hi => brTo_mem hg hi⟩⟩
/-- A pipe of a valid network removed. -/
theorem rem_pack (N i : Nat) (ps : List Pp) (hv : goodB N ps = true) (hi : i < ps.length) (A : Option Addr) (c : Nat) (w : World) (h : PAt w A ps) (hc : ps.length ≤ c) :
    Calls Try.prog 101 #[nv N A ps.length c, .int .i64 (pAt ps i).id] w fun e w' => ∃ A2 c2, e = .returned (.tuple #[nv N A2 (wo ps i).length c2, .bool true]) ∧ PAt w' A2 (wo ps i) ∧ Below w.heap.size w w' := by
  have hg := good_of hv
  have hl := hg.2.2.1
  have hf : FindIs ps (pAt ps i).id (i : Int) := .inr ⟨i, hi, rfl, rfl, fun j hj => by have := good_ids hg j i hj hi; omega⟩
  have hw := wo_len ps i hi
  by_cases h2 : 2 ≤ ps.length
  · refine (irem_many N i A c ps (pAt ps i).id w h (by omega) hv hc hi h2 hf).mono ?_
    rintro e w' ⟨g, c2, B, he, _, _, ho, hb⟩
    rw [← hw] at he ho
    exact ⟨_, c2, he, own_patP ho, hb⟩
  · have h1 : ps.length = 1 := by omega
    refine (irem_one N i A c ps (pAt ps i).id w h hv hc hi h1 hf).mono ?_
    rintro e w' ⟨he, hb⟩
    have h0 : (wo ps i).length = 0 := by omega
    exact ⟨none, 0, by rw [he, h0], .inl (List.length_eq_zero_iff.1 h0), hb⟩
/-- The pipe that leads on, found among all pipes. -/
theorem wy_one {n x y : Int} {ps : List Pp} {L : List Int} {N X T K : Nat} (h : WyIs n x y ps L N X T K) {i : Nat} (hi : i < K) : ∃ p : Nat, p < ps.length ∧ (∀ k, k < ps.length → ((pAt ps k).id = L.getD i 0 ↔ k = p)) ∧
    (((pAt ps p).fr = (vA ps T X i : Int) ∧ (pAt ps p).to = (vA ps T X (i + 1) : Int)) ∨ ((pAt ps p).to = (vA ps T X i : Int) ∧ (pAt ps p).fr = (vA ps T X (i + 1) : Int))) ∧ (pAt ps p).fr ≠ (pAt ps p).to := by
  obtain ⟨hp, he⟩ := ix_in h.good (h.wy.mem i hi)
  refine ⟨ix ps (eA ps T (vA ps T X i)), hp, fun k hk => ?_, ?_, ?_⟩
  · rw [h.at_ i hi]
    constructor
    · intro e
      have e2 : (pAt ps k).id = (pAt ps (ix ps (eA ps T (vA ps T X i)))).id := by rw [he]; exact e
      have a : ¬ k < ix ps (eA ps T (vA ps T X i)) := fun z => by have := good_ids h.good k _ z hp; omega
      have b : ¬ ix ps (eA ps T (vA ps T X i)) < k := fun z => by have := good_ids h.good _ k z hk; omega
      omega
    · intro e; rw [e, he]
  · have hj := h.wy.jn i hi
    rw [he]
    rcases hj with ⟨a, b⟩ | ⟨a, b⟩
    · exact .inl ⟨a, b⟩
    · exact .inr ⟨a, b⟩
  · exact (good_pp h.good (pAt_mem hp)).2.2.2.2.2.2.1
end Go.Proofs.Ytgjogjmfpbinfaa.S2
