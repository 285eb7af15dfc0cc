/- IDs and rules do not hang on the order of objects: plain. -/
import Derived.Test.YtildnadkfonlhaaProg
import Derived.Test.YtildnadkfonlhaaVp
import Derived.Test.YtildnadkfonlhaaVh
set_option linter.unusedVariables false
set_option linter.unusedSimpArgs false
namespace Go.Proofs.Ytildnadkfonlhaa.Fx
open Go Go.RowKit
theorem leD_trans (a b c : Int) : decide (a ≤ b) = true → decide (b ≤ c) = true → decide (a ≤ c) = true := by simp only [decide_eq_true_eq]; omega
theorem leD_total (a b : Int) : (decide (a ≤ b) || decide (b ≤ a)) = true := by
  by_cases h : a ≤ b
  · simp [h]
  · have : b ≤ a := by omega
    simp [this]
theorem sort_rises (l : List Int) : (l.mergeSort fun x y => decide (x ≤ y)).Pairwise fun x y => decide (x ≤ y) = true := List.pairwise_mergeSort leD_trans leD_total l
theorem sort_one {l m : List Int} (h : l.Perm m) : (l.mergeSort fun x y => decide (x ≤ y)) = m.mergeSort fun x y => decide (x ≤ y) := by
  have hp : (l.mergeSort fun x y => decide (x ≤ y)).Perm (m.mergeSort fun x y => decide (x ≤ y)) := ((List.mergeSort_perm l _).trans h).trans (List.mergeSort_perm m _).symm
  refine hp.eq_of_pairwise (fun a b _ _ h1 h2 => ?_) (sort_rises l) (sort_rises m)
  simp only [decide_eq_true_eq] at h1 h2
  omega
theorem sorted_rev (l : List ObjR) : sortedIds l.reverse = sortedIds l := by
  unfold sortedIds rawIds
  exact sort_one (by rw [List.map_reverse]; exact List.reverse_perm _)
theorem sorted_len (l : List ObjR) : (sortedIds l).length = l.length := by
  unfold sortedIds rawIds
  simp
theorem sorted_step {l : List ObjR} {k : Nat} (h : k + 1 < (sortedIds l).length) : (sortedIds l).getD k 0 ≤ (sortedIds l).getD (k + 1) 0 := by
  have := List.pairwise_iff_getElem.1 (sort_rises (rawIds l)) k (k + 1) (by unfold sortedIds at h; omega) h (by omega)
  unfold sortedIds at h ⊢
  rw [List.getD_eq_getElem?_getD, List.getD_eq_getElem?_getD, List.getElem?_eq_getElem (by omega), List.getElem?_eq_getElem h]
  simpa using this
/-- what a scene that may be is, of its objects taken together -/
structure OkAll (s : ScR) : Prop where
  size : sizeB s = false
  cam : wB 16777216 s.cam 16 = true
  many : s.os.length ≤ 16
  apart : (rawIds s.os).Nodup
  each : ∀ x ∈ s.os, (1 ≤ x.id ∧ x.id ≤ 65535) ∧ keep5 s x 0 = true ∧ keep6 s x 0 = true ∧ keep7 s x 0 = true ∧ keep8 s x 0 = true
theorem keep4_iff {s : ScR} {k : Nat} {x : ObjR} : keep4 s x k = true ↔ (∀ y ∈ s.os.take k, y.id ≠ x.id) ∧ 1 ≤ x.id ∧ x.id ≤ 65535 := by
  unfold keep4
  simp only [Bool.and_eq_true, decide_eq_true_eq, List.all_eq_true]
theorem ok_iff {s : ScR} : okZ s = true ↔ OkAll s := by
  constructor
  · intro h
    obtain ⟨h1, h2, h3, hall⟩ := ok_all h
    have h4 : ∀ k x, s.os[k]? = some x → keep4 s x k = true := fun k x hx => bad_none (hall 4 (by omega) (by omega)) hx
    refine ⟨h1, h2, h3, ?_, fun x hx => ?_⟩
    · unfold rawIds
      rw [List.nodup_iff_pairwise_ne, List.pairwise_iff_getElem]
      intro i j hi hj hij
      rw [List.length_map] at hi hj
      rw [List.getElem_map, List.getElem_map]
      have := (keep4_iff.1 (h4 j s.os[j] (List.getElem?_eq_getElem hj))).1
      exact this s.os[i] (List.mem_take_iff_getElem.2 ⟨i, by omega, rfl⟩)
    · obtain ⟨k, hk⟩ := List.mem_iff_getElem?.1 hx
      exact ⟨(keep4_iff.1 (h4 k x hk)).2, bad_none (hall 5 (by omega) (by omega)) hk, bad_none (hall 6 (by omega) (by omega)) hk, bad_none (hall 7 (by omega) (by omega)) hk, bad_none (hall 8 (by omega) (by omega)) hk⟩
  · rintro ⟨h1, h2, h3, h4, h5⟩
    have hw : wrongZ s = (0, -1) := wrong_not h1 h2 h3 (fun q hq hq9 => badIn_none fun k hk => by
      obtain ⟨x, hx⟩ : ∃ x, s.os[k]? = some x := ⟨_, List.getElem?_eq_getElem hk⟩
      have hb : badAt s q k = !keepZ s x k q := by unfold badAt; rw [hx]
      obtain ⟨e4, e5, e6, e7, e8⟩ := h5 x (List.mem_of_getElem? hx)
      have k4 : keep4 s x k = true := by
        refine keep4_iff.2 ⟨fun y hy e => ?_, e4⟩
        obtain ⟨i, hi, rfl⟩ := List.mem_take_iff_getElem.1 hy
        unfold rawIds at h4
        rw [List.nodup_iff_pairwise_ne, List.pairwise_iff_getElem] at h4
        have := h4 i k (by rw [List.length_map]; omega) (by rw [List.length_map]; omega) (by omega)
        rw [List.getElem_map, List.getElem_map] at this
        rw [List.getElem?_eq_getElem hk] at hx
        cases hx
        exact this e
      have hkz : keepZ s x k q = true := by
        obtain rfl | rfl | rfl | rfl | rfl : q = 4 ∨ q = 5 ∨ q = 6 ∨ q = 7 ∨ q = 8 := by omega
        · exact k4
        · exact e5
        · exact e6
        · exact e7
        · exact e8
      rw [hb, hkz]
      rfl)
    unfold okZ
    rw [hw]
    rfl
/-- the scene with its objects the other way about -/
def turned (s : ScR) (o : Option Addr) (c : Nat) : ScR := ⟨s.w, s.h, s.cam, o, s.os.reverse, c⟩
theorem ok_turned (s : ScR) (o : Option Addr) (c : Nat) : okZ (turned s o c) = okZ s := by
  rw [Bool.eq_iff_iff, ok_iff, ok_iff]
  constructor
  · rintro ⟨h1, h2, h3, h4, h5⟩
    refine ⟨h1, h2, by simpa [turned] using h3, ?_, fun x hx => h5 x (by simpa [turned] using hx)⟩
    unfold rawIds turned at h4
    rw [List.map_reverse, (List.reverse_perm _).nodup_iff] at h4
    exact h4
  · rintro ⟨h1, h2, h3, h4, h5⟩
    refine ⟨h1, h2, by simpa [turned] using h3, ?_, fun x hx => h5 x (by simpa [turned] using hx)⟩
    unfold rawIds turned
    rw [List.map_reverse, (List.reverse_perm _).nodup_iff]
    exact h4
end Go.Proofs.Ytildnadkfonlhaa.Fx
