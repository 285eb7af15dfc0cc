/- The document's Apply, walked. 
  The document's product of matrices, walked. -/
import Derived.Test.YtildnadkfonlhaaProg
import Derived.Test.YtildnadkfonlhaaQ2
set_option linter.unusedVariables false
set_option linter.unusedSimpArgs false
namespace Go.Proofs.Ytildnadkfonlhaa.Fx
open Go Go.RowKit Wm
theorem wB_pad (b v0 v1 v2 v3 : Int) : wB b [v0, v1, v2, v3, 0, 0, 0, 0, 0, 0, 0, 0, 0, 0, 0, 0] 16 = wB b [v0, v1, v2, v3] 4 := by
  rw [Bool.eq_iff_iff, wB_iff, wB_iff]
  constructor
  · intro h j hj
    have := h j (by omega)
    have hd : j = 0 ∨ j = 1 ∨ j = 2 ∨ j = 3 := by omega
    rcases hd with rfl | rfl | rfl | rfl <;> exact this
  · intro h j hj
    have h0 : 0 ≤ b := (h 0 (by omega)).1
    by_cases h4 : j < 4
    · have := h j h4
      have hd : j = 0 ∨ j = 1 ∨ j = 2 ∨ j = 3 := by omega
      rcases hd with rfl | rfl | rfl | rfl <;> exact this
    · have e : [v0, v1, v2, v3, 0, 0, 0, 0, 0, 0, 0, 0, 0, 0, 0, 0].getD j 0 = 0 := by
        have hd : j = 4 ∨ j = 5 ∨ j = 6 ∨ j = 7 ∨ j = 8 ∨ j = 9 ∨ j = 10 ∨ j = 11 ∨ j = 12 ∨ j = 13 ∨ j = 14 ∨ j = 15 := by omega
        rcases hd with rfl | rfl | rfl | rfl | rfl | rfl | rfl | rfl | rfl | rfl | rfl | rfl <;> rfl
      rw [e]
      omega
theorem ap_bad {m v : List Int} {j : Nat} (hj : j < 4) (h : okB 4611686018427387904 (pq (rowOf m j) v) = false) : apO m v = none := by
  unfold apO
  rw [if_neg]
  rintro ⟨_, _, h3⟩
  have h4 := wB_iff.1 h3 j hj
  have e : (apRows m v).getD j 0 = pq (rowOf m j) v := by
    have hd : j = 0 ∨ j = 1 ∨ j = 2 ∨ j = 3 := by omega
    rcases hd with rfl | rfl | rfl | rfl <;> rfl
  rw [e] at h4
  unfold okB at h
  have := of_decide_eq_false h
  exact this h4
theorem ap_good {m v : List Int} (h1 : wB 4611686018427387904 m 16 = true) (h2 : wB 4611686018427387904 v 4 = true) (h : ∀ j, j < 4 → okB 4611686018427387904 (pq (rowOf m j) v) = true) : apO m v = some (apRows m v) := by
  unfold apO
  rw [if_pos]
  refine ⟨h1, h2, wB_iff.2 fun j hj => ?_⟩
  have h4 := h j hj
  have e : (apRows m v).getD j 0 = pq (rowOf m j) v := by
    have hd : j = 0 ∨ j = 1 ∨ j = 2 ∨ j = 3 := by omega
    rcases hd with rfl | rfl | rfl | rfl <;> rfl
  rw [e]
  unfold okB at h4
  exact of_decide_eq_true h4
theorem ap_no1 {m v : List Int} (h : wB 4611686018427387904 m 16 = false) : apO m v = none := by
  unfold apO
  rw [if_neg]
  rintro ⟨h1, _⟩
  rw [h] at h1
  cases h1
theorem ap_no2 {m v : List Int} (h : wB 4611686018427387904 v 4 = false) : apO m v = none := by
  unfold apO
  rw [if_neg]
  rintro ⟨_, h1, _⟩
  rw [h] at h1
  cases h1
def ZpRel (m : List Int) (v0 v1 v2 v3 : Int) (B : Nat) (w : World) (g : Nat) (s : Value) (W : World) : Prop :=
  ∃ r, g = 4 - r ∧ s = .int .i64 (r : Int) ∧ r ≤ 4 ∧ (∀ j, j < r → okB 4611686018427387904 (pq (rowOf m j) [v0, v1, v2, v3]) = true) ∧ AI m v0 v1 v2 v3 r B w W
theorem RowAt.put4 {t : TypeId} {g : Nat} {x0 x1 x2 x3 : Value} {W : World} (h : RowAt t g #[x0, x1, x2, x3] W) (y0 y1 y2 y3 : Value) : RowAt t g #[y0, y1, y2, y3] ((((W.setCell ⟨g, 0, none⟩ y0).setCell ⟨g, 1, none⟩ y1).setCell ⟨g, 2, none⟩ y2).setCell ⟨g, 3, none⟩ y3) := by
  have h1 := heap_setCell_same W _ 0 _ _ y0 h
  have h2 := heap_setCell_same _ _ 1 _ _ y1 h1
  have h3 := heap_setCell_same _ _ 2 _ _ y2 h2
  exact heap_setCell_same _ _ 3 _ _ y3 h3
theorem Below.put4 {w W : World} {g : Nat} (h : Below w.heap.size w W) (hg : w.heap.size ≤ g) (y0 y1 y2 y3 : Value) : Below w.heap.size w ((((W.setCell ⟨g, 0, none⟩ y0).setCell ⟨g, 1, none⟩ y1).setCell ⟨g, 2, none⟩ y2).setCell ⟨g, 3, none⟩ y3) :=
  (((h.setCell (p := ⟨g, 0, none⟩) hg _).setCell (p := ⟨g, 1, none⟩) hg _).setCell (p := ⟨g, 2, none⟩) hg _).setCell (p := ⟨g, 3, none⟩) hg _
theorem size4 : (Try.prog.info? 27).map (·.size) = some 4 := by kernel_rfl
theorem bound_row {m : List Int} (h : ∀ j, -9223372036854775808 ≤ m.getD j 0 ∧ m.getD j 0 ≤ 9223372036854775807) (r : Nat) : ∀ j, -9223372036854775808 ≤ (rowOf m r).getD j 0 ∧ (rowOf m r).getD j 0 ≤ 9223372036854775807 := by
  intro j
  unfold rowOf
  match j with
  | 0 => exact h _
  | 1 => exact h _
  | 2 => exact h _
  | 3 => exact h _
  | j + 4 => simp
end Go.Proofs.Ytildnadkfonlhaa.Fx
set_option linter.unusedVariables false
set_option linter.unusedSimpArgs false
namespace Go.Proofs.Ytildnadkfonlhaa.Fx
open Go Go.RowKit Wm
def colX (a b : List Int) (c r : Nat) : Int := ((colO a b c).getD []).getD r 0
def outL (a b : List Int) (c r : Nat) : List Int := (List.range 16).map fun p => if p % 4 < c ∨ (p % 4 = c ∧ p / 4 < r) then colX a b (p % 4) (p / 4) else 0
theorem outL_len (a b : List Int) (c r : Nat) : (outL a b c r).length = 16 := by simp [outL]
theorem outL_zero (a b : List Int) : outL a b 0 0 = zero16 := rfl
theorem outL_col (a b : List Int) (c : Nat) (hc : c < 4) : outL a b c 4 = outL a b (c + 1) 0 := by
  have hd : c = 0 ∨ c = 1 ∨ c = 2 ∨ c = 3 := by omega
  rcases hd with rfl | rfl | rfl | rfl <;> rfl
theorem outL_end (a b : List Int) : outL a b 4 0 = tr (csA a b) := rfl
theorem outL_step (a b : List Int) (c r : Nat) (hc : c < 4) (hr : r < 4) : (outL a b c r).set (r * 4 + c) (colX a b c r) = outL a b c (r + 1) := by
  have hd : c = 0 ∨ c = 1 ∨ c = 2 ∨ c = 3 := by omega
  have he : r = 0 ∨ r = 1 ∨ r = 2 ∨ r = 3 := by omega
  rcases hd with rfl | rfl | rfl | rfl <;> rcases he with rfl | rfl | rfl | rfl <;> rfl
theorem col_row (b : List Int) (c : Nat) (hc : c < 4) : rowOf (tr b) c = [b.getD c 0, b.getD (4 + c) 0, b.getD (8 + c) 0, b.getD (12 + c) 0] := by
  have hd : c = 0 ∨ c = 1 ∨ c = 2 ∨ c = 3 := by omega
  rcases hd with rfl | rfl | rfl | rfl <;> rfl
structure MzI (a b : List Int) (B c r : Nat) (w W : World) : Prop where
  ra : RowAt 29 w.heap.size (mC a) W
  rb : RowAt 29 (w.heap.size + 1) (mC b) W
  rr : RowAt 29 (w.heap.size + 1 + 1) (mC zero16) W
  ro : RowAt 29 B (mC (outL a b c r)) W
  below : Below w.heap.size w W
  lt : w.heap.size + 1 + 1 < B
theorem MzI.up {a b : List Int} {B c r : Nat} {w W V : World} (i : MzI a b B c r w W) (hb : Below W.heap.size W V) : MzI a b B c r w V := ⟨i.ra.below hb, i.rb.below hb, i.rr.below hb, i.ro.below hb, bnext i.below hb, i.lt⟩
theorem RowAt.otherC {t : TypeId} {g k j : Nat} {cs : Array Value} {W : World} (h : RowAt t g cs W) (hk : g ≠ k) (v : Value) : RowAt t g cs (W.setCell ⟨k, j, none⟩ v) := by unfold RowAt; rw [heap_setCell_other _ _ _ _ (by show g ≠ k; exact hk)]; exact h
theorem MzI.next {a b : List Int} {B c r : Nat} {w W : World} (i : MzI a b B c r w W) (hc : c < 4) (hr : r < 4) : MzI a b B c (r + 1) w (W.setCell ⟨B, r * 4 + c, none⟩ (.int .i64 (colX a b c r))) := by
  have hB := i.lt
  refine ⟨i.ra.otherC (by omega) _, i.rb.otherC (by omega) _, i.rr.otherC (by omega) _, ?_, i.below.setCell (p := ⟨B, r * 4 + c, none⟩) (by show _ ≤ B; omega) _, hB⟩
  have := heap_setCell_same _ _ (r * 4 + c) _ _ (.int .i64 (colX a b c r)) i.ro
  unfold RowAt
  rw [this, mC_put, outL_step _ _ _ _ hc hr]
def MzRel (a b : List Int) (B : Nat) (w : World) (g : Nat) (s : Value) (W : World) : Prop :=
  ∃ c, g = 4 - c ∧ s = .int .i64 (c : Int) ∧ c ≤ 4 ∧ (∀ j, j < c → (colO a b j).isSome = true) ∧ MzI a b B c 0 w W
def MyRel (a b : List Int) (B c bC : Nat) (u : List Int) (w : World) (g : Nat) (s : Value) (W : World) : Prop :=
  ∃ r, g = 4 - r ∧ s = .int .i64 (r : Int) ∧ r ≤ 4 ∧ MzI a b B c r w W ∧ RowAt 27 bC (mC u) W
theorem colO_len {a b : List Int} {c : Nat} {u : List Int} (h : colO a b c = some u) : u.length = 4 := by
  unfold colO apO at h
  split at h
  · cases h; rfl
  · cases h
theorem mul_all {a b : List Int} (h : ∀ j, j < 4 → (colO a b j).isSome = true) : mulO a b = some (tr (csA a b)) := by
  unfold mulO
  rw [if_pos ⟨h 0 (by omega), h 1 (by omega), h 2 (by omega), h 3 (by omega)⟩]
end Go.Proofs.Ytildnadkfonlhaa.Fx
