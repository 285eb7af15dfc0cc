/- The library's IndexFunc and ContainsFunc at vertices, triangles and numbers, whatever the predicate: walked. -/
import Derived.Test.YtbbhmhihpdmoiaaProg
import Derived.Test.YtbbhmhihpdmoiaaSg
import Derived.Shelf.Abstract
import Derived.WalkMore
set_option linter.unusedVariables false
set_option linter.unusedSimpArgs false
namespace Go.Proofs.Ytbbhmhihpdmoiaa.Fx
open Go Go.RowKit Go.Shelf
/-- where the first is of which it holds, or -1 -/
def idxZ {α : Type} (p : α → Bool) (l : List α) : Int := ((l.findIdx? p).map Int.ofNat).getD (-1)
theorem idx_none {α : Type} {p : α → Bool} {l : List α} {n : Nat} (hn : l.length ≤ n) (h : (l.take n).any p = false) : idxZ p l = -1 := by
  rw [List.take_of_length_le hn] at h
  unfold idxZ
  rw [List.findIdx?_eq_none_iff.2 (by simpa using h)]
  rfl
theorem idx_hit {α : Type} {p : α → Bool} {l : List α} {k : Nat} {x : α} (hx : l[k]? = some x) (h : (l.take k).any p = false) (hp : p x = true) : idxZ p l = (k : Int) := by
  obtain ⟨hkl, hx'⟩ := List.getElem?_eq_some_iff.1 hx
  unfold idxZ
  have e : l.findIdx? p = some k := by
    rw [← List.take_append_drop k l, List.findIdx?_append, List.findIdx?_eq_none_iff.2 (by simpa using h), List.drop_eq_getElem_cons hkl]
    simp [List.findIdx?_cons, hx', hp]
    omega
  rw [e]
  rfl
theorem idx_any {α : Type} (p : α → Bool) (l : List α) : (l.any p = true ∧ 0 ≤ idxZ p l) ∨ (l.any p = false ∧ idxZ p l < 0) := by
  unfold idxZ
  cases h : l.findIdx? p with
  | none =>
    right
    rw [List.findIdx?_eq_none_iff] at h
    exact ⟨by simpa using h, by simp⟩
  | some k =>
    left
    have := List.findIdx?_eq_some_iff_getElem.1 h
    obtain ⟨h1, h2, _⟩ := this
    exact ⟨List.any_eq_true.2 ⟨_, List.getElem_mem h1, h2⟩, by simp⟩
def IxRel {α : Type} (p : α → Bool) (l : List α) (w : World) (n g : Nat) (s5 s8 : Value) (W : World) : Prop :=
  ∃ k : Nat, g = n - k ∧ s8 = .int .i64 (k : Int) ∧ k ≤ n ∧ Below w.heap.size w W ∧ (l.take k).any p = false
theorem any_snoc {α : Type} {p : α → Bool} {l : List α} {k : Nat} {x : α} (hx : l[k]? = some x) (h : (l.take k).any p = false) (hp : p x = false) : (l.take (k + 1)).any p = false := by
  rw [List.take_add_one, hx, List.any_append, h]
  simp [hp]
def RetIdx (z : Int) (w : World) (e : Ending) (w' : World) : Prop := e = .returned (.int .i64 z) ∧ Below w.heap.size w w'
end Go.Proofs.Ytbbhmhihpdmoiaa.Fx
