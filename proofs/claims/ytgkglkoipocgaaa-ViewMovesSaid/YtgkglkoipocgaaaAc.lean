/- matrix.Across, walked: rows and columns are exchanged. -/
import Derived.Test.YtgkglkoipocgaaaProg
import Derived.Test.YtgkglkoipocgaaaIt
import Derived.Test.YtgkglkoipocgaaaHd
import Derived.Test.YtgkglkoipocgaaaR0
import Derived.Test.YtgkglkoipocgaaaWi
import Derived.Shelf.Abstract
import Derived.Shelf.RegionOpen
import Derived.WalkKit
import Derived.OwnWalkIn
import Derived.TacticsInMore
import Derived.LoopNIn
import Derived.LoopIn
import Derived.Lib.Hide
import Derived.Outline
import Derived.WalkMore
import Derived.Deep.RegionHeld3
set_option linter.unusedVariables false
set_option linter.unusedSimpArgs false
namespace Go.Proofs.Ytgkglkoipocgaaa.Fx
open Go Go.RowKit Go.Shelf
attribute [local go_sem] Oper.semAt_some
/-- the cells of numbers -/
def mC (m : List Int) : Array Value := (m.map encI).toArray
theorem mC_size (m : List Int) : (mC m).size = m.length := by simp [mC]
theorem mC_one (m : List Int) : (mC m).all (·.oneCell') = true := by
  rw [Array.all_eq_true_iff_forall_mem]
  intro v hv
  simp only [mC, List.mem_toArray, List.mem_map] at hv
  obtain ⟨x, _, rfl⟩ := hv
  rfl
theorem mC_at (m : List Int) (j : Nat) (h : j < m.length) : (mC m)[j]? = some (.int .i64 (m.getD j 0)) := by
  unfold mC
  rw [List.getElem?_toArray, List.getElem?_map]
  simp [List.getD_eq_getElem?_getD, h, encI]
theorem mC_put (m : List Int) (j : Nat) (x : Int) : (mC m).setIfInBounds j (.int .i64 x) = mC (m.set j x) := by
  unfold mC
  rw [List.setIfInBounds_toArray, List.map_set]
  rfl
/-- rows and columns exchanged, as far as k numbers have come -/
def trL (m : List Int) (k : Nat) : List Int := (List.range 16).map fun p => if p % 4 * 4 + p / 4 < k then m.getD (p % 4 * 4 + p / 4) 0 else 0
def tr (m : List Int) : List Int := (List.range 16).map fun p => m.getD (p % 4 * 4 + p / 4) 0
theorem trL_len (m : List Int) (k : Nat) : (trL m k).length = 16 := by simp [trL]
theorem tr_len (m : List Int) : (tr m).length = 16 := by simp [tr]
theorem trL_end (m : List Int) : trL m 16 = tr m := by
  unfold trL tr
  refine List.map_congr_left fun p hp => ?_
  rw [List.mem_range] at hp
  rw [if_pos (by omega)]
theorem trL_step (m : List Int) (k : Nat) (h : k < 16) : (trL m k).set (k % 4 * 4 + k / 4) (m.getD k 0) = trL m (k + 1) := by
  refine List.ext_getElem (by simp [trL]) fun p h1 h2 => ?_
  have hp : p < 16 := by simpa [trL] using h2
  rw [List.getElem_set]
  simp only [trL, List.getElem_map, List.getElem_range]
  by_cases e : k % 4 * 4 + k / 4 = p
  · have e2 : p % 4 * 4 + p / 4 = k := by omega
    rw [if_pos e, e2, if_pos (by omega)]
  · rw [if_neg e]
    have e2 : p % 4 * 4 + p / 4 ≠ k := by omega
    by_cases e3 : p % 4 * 4 + p / 4 < k
    · rw [if_pos e3, if_pos (by omega)]
    · rw [if_neg e3, if_neg (by omega)]
theorem trL_zero (m : List Int) : trL m 0 = List.replicate 16 0 := by
  unfold trL
  simp only [Nat.not_lt_zero, if_false]
  rfl
theorem size16 : (Try.prog.info? 44).map (·.size) = some 16 := by kernel_rfl
structure AcM (m : List Int) (k : Nat) (w W : World) : Prop where
  a : W.heap[w.heap.size]? = some (.cells (mC m) 44 (0, 0))
  r : W.heap[w.heap.size + 1]? = some (.cells (mC (List.replicate 16 0)) 44 (0, 0))
  x : W.heap[w.heap.size + 1 + 1]? = some (.cells (mC (trL m k)) 44 (0, 0))
  b : W.heap[w.heap.size + 1 + 1 + 1]? = some (.cells #[.slice (some ⟨w.heap.size, 0, none⟩) 4 4] 24 (0, 0))
  below : Below w.heap.size w W
theorem AcM.kept {m : List Int} {k B : Nat} {w W X : World} (hB : w.heap.size ≤ B) (h : Kept B W X) (s : AcM m k w W) : AcM m k w X := ⟨h.cells s.a, h.cells s.r, h.cells s.x, h.cells s.b, h.below hB s.below⟩
theorem AcM.reads {m : List Int} {k : Nat} {w W : World} (hm : m.length = 16) (s : AcM m k w W) : RowsM m 4 w.heap.size 4 (w.heap.size + 1 + 1 + 1) W :=
  ⟨by rw [cell_of_row _ _ _ _ _ _ s.b]; rfl, fun j hj => by rw [cell_of_row _ _ _ _ _ _ s.a, mC_at _ _ (by omega)]⟩
theorem AcM.next {m : List Int} {k : Nat} {w W : World} (hk : k < 16) (s : AcM m k w W) : AcM m (k + 1) w (W.setCell ⟨w.heap.size + 1 + 1, k % 4 * 4 + k / 4, none⟩ (.int .i64 (m.getD k 0))) := by
  refine ⟨?_, ?_, ?_, ?_, s.below.setCell (p := ⟨w.heap.size + 1 + 1, k % 4 * 4 + k / 4, none⟩) (by show _ ≤ w.heap.size + 1 + 1; omega) _⟩
  · rw [heap_setCell_other _ _ _ _ (by show _ ≠ w.heap.size + 1 + 1; omega)]; exact s.a
  · rw [heap_setCell_other _ _ _ _ (by show _ ≠ w.heap.size + 1 + 1; omega)]; exact s.r
  · rw [heap_setCell_same _ _ _ _ _ _ s.x, mC_put, trL_step _ _ hk]
  · rw [heap_setCell_other _ _ _ _ (by show _ ≠ w.heap.size + 1 + 1; omega)]; exact s.b
def AcA (m : List Int) (w : World) (k B : Nat) (a : Act) : Prop :=
  a = { tmps := #[.agg (mC m), .pointer (some ⟨w.heap.size, 0, none⟩), .pointer (some ⟨w.heap.size + 1, 0, none⟩), .pointer (some ⟨w.heap.size + 1 + 1, 0, none⟩), .pointer (some ⟨B, 0, none⟩), .int .i64 (m.getD k 0), .slice (some ⟨w.heap.size, 0, none⟩) 4 4,
    .func (.func 74) #[] #[.pointer (some ⟨w.heap.size + 1 + 1 + 1, 0, none⟩)], .agg #[.int .i64 ((k / 4 : Nat) : Int), .int .i64 ((k % 4 : Nat) : Int)], .int .i64 (m.getD k 0), undef, undef, undef, undef, undef, undef, undef, undef], defers := [] }
def AcX (m : List Int) (w : World) (k : Nat) (a : Act) (W : World) : Prop := ∃ B, AcA m w k B a ∧ W.heap[B]? = some (.cells #[.int .i64 ((k / 4 : Nat) : Int), .int .i64 ((k % 4 : Nat) : Int)] 112 (0, 0)) ∧ AcM m k w W
def RetM (m : List Int) (w : World) (e : Ending) (w' : World) : Prop := e = .returned (.agg (mC m)) ∧ Below w.heap.size w w'
theorem block4s (w : World) (A B C D : Obj) : ((((w.alloc A).alloc B).alloc C).alloc D).heap[w.heap.size]? = some A ∧ ((((w.alloc A).alloc B).alloc C).alloc D).heap[w.heap.size + 1]? = some B ∧ ((((w.alloc A).alloc B).alloc C).alloc D).heap[w.heap.size + 1 + 1]? = some C ∧ ((((w.alloc A).alloc B).alloc C).alloc D).heap[w.heap.size + 1 + 1 + 1]? = some D := by
  have h0 := heap_alloc_new w A
  have h1 := heap_alloc_new (w.alloc A) B
  have h2 := heap_alloc_new ((w.alloc A).alloc B) C
  have h3 := heap_alloc_new (((w.alloc A).alloc B).alloc C) D
  simp only [World.size_alloc] at h1 h2 h3
  exact ⟨step_row (step_row (step_row h0)), step_row (step_row h1), step_row h2, h3⟩
end Go.Proofs.Ytgkglkoipocgaaa.Fx
