/- Both ways to sort the IDs say one thing. -/
import Derived.Test.YtildnadkfonlhaaGreatProg
import Derived.Test.YtildnadkfonlhaaGreatVq
set_option linter.unusedVariables false
set_option linter.unusedSimpArgs false
namespace Go.Proofs.YtildnadkfonlhaaGreat.Fx
open Go Go.RowKit
theorem ins_perm (a : Int) : ∀ l : List Int, (ins a l).Perm (a :: l)
  | [] => List.Perm.refl _
  | x :: t => by
    rw [ins_cons]
    split
    · exact List.Perm.refl _
    · exact ((ins_perm a t).cons x).trans (List.Perm.swap a x t)
theorem ins_rises (a : Int) : ∀ l : List Int, l.Pairwise (· ≤ ·) → (ins a l).Pairwise (· ≤ ·)
  | [], _ => by simp [ins]
  | x :: t, h => by
    rw [List.pairwise_cons] at h
    rw [ins_cons]
    split
    · rename_i hx
      rw [List.pairwise_cons, List.pairwise_cons]
      exact ⟨fun z hz => by
        rcases List.mem_cons.1 hz with rfl | hz
        · omega
        · have := h.1 z hz; omega, h⟩
    · rename_i hx
      rw [List.pairwise_cons]
      refine ⟨fun z hz => ?_, ins_rises a t h.2⟩
      rcases List.mem_cons.1 ((ins_perm a t).mem_iff.1 hz) with rfl | hz
      · omega
      · exact h.1 z hz
theorem ids_both (l : List ObjR) : idsZ l = sortedIds l := by
  have key : ∀ (l : List ObjR) (acc : List Int), acc.Pairwise (· ≤ ·) → (l.foldl (fun acc x => ins x.id acc) acc).Pairwise (· ≤ ·) ∧ (l.foldl (fun acc x => ins x.id acc) acc).Perm (acc ++ l.map (·.id)) := by
    intro l
    induction l with
    | nil => intro acc h; exact ⟨h, by simp⟩
    | cons x t ih =>
      intro acc h
      obtain ⟨h1, h2⟩ := ih (ins x.id acc) (ins_rises _ _ h)
      refine ⟨h1, h2.trans ?_⟩
      rw [List.map_cons]
      exact ((ins_perm x.id acc).append_right _).trans (List.perm_middle).symm
  obtain ⟨h1, h2⟩ := key l [] List.Pairwise.nil
  have h3 : (idsZ l).Perm (rawIds l) := by simpa [idsZ, rawIds] using h2
  have h4 : (idsZ l).mergeSort (fun x y => decide (x ≤ y)) = idsZ l := List.mergeSort_of_pairwise (h1.imp (by simp))
  rw [← h4]
  exact sort_one h3
end Go.Proofs.YtildnadkfonlhaaGreat.Fx
