/- matrix.Apply, walked. -/
import Derived.Test.YtgkglkoipocgaaaProg
import Derived.Test.YtgkglkoipocgaaaPd
import Derived.Test.YtgkglkoipocgaaaR0
import Derived.Deep.LoopGhost
import Derived.BigQuiet
import Derived.Deep.QuietTactic
set_option linter.unusedVariables false
set_option linter.unusedSimpArgs false
namespace Go.Proofs.Ytgkglkoipocgaaa.Fx
open Go Go.RowKit Go.Shelf Wm
def rowOf (m : List Int) (r : Nat) : List Int := [m.getD (r * 4) 0, m.getD (r * 4 + 1) 0, m.getD (r * 4 + 2) 0, m.getD (r * 4 + 3) 0]
theorem list4 {l : List Int} (h : l.length = 4) : l = [l.getD 0 0, l.getD 1 0, l.getD 2 0, l.getD 3 0] := by
  match l, h with
  | [a, b, c, d], _ => rfl
theorem list16 {l : List Int} (h : l.length = 16) : l = [l.getD 0 0, l.getD 1 0, l.getD 2 0, l.getD 3 0, l.getD 4 0, l.getD 5 0, l.getD 6 0, l.getD 7 0, l.getD 8 0, l.getD 9 0, l.getD 10 0, l.getD 11 0, l.getD 12 0, l.getD 13 0, l.getD 14 0, l.getD 15 0] := by
  match l, h with
  | [a, b, c, d, a1, b1, c1, d1, a2, b2, c2, d2, a3, b3, c3, d3], _ => rfl
theorem mat_at (m : List Int) (hm : m.length = 16) (r : Nat) (h : r < 4) (w : World) : (Instr.index 44 (.agg (mC m)) (.int .i64 (r : Int))).run Try.prog w =
    .ok (.agg #[.int .i64 (m.getD (r * 4) 0), .int .i64 (m.getD (r * 4 + 1) 0), .int .i64 (m.getD (r * 4 + 2) 0), .int .i64 (m.getD (r * 4 + 3) 0)]) w := by
  rw [list16 hm]
  generalize m.getD 0 0 = a0
  generalize m.getD 1 0 = a1
  generalize m.getD 2 0 = a2
  generalize m.getD 3 0 = a3
  generalize m.getD 4 0 = a4
  generalize m.getD 5 0 = a5
  generalize m.getD 6 0 = a6
  generalize m.getD 7 0 = a7
  generalize m.getD 8 0 = a8
  generalize m.getD 9 0 = a9
  generalize m.getD 10 0 = a10
  generalize m.getD 11 0 = a11
  generalize m.getD 12 0 = a12
  generalize m.getD 13 0 = a13
  generalize m.getD 14 0 = a14
  generalize m.getD 15 0 = a15
  have hd : r = 0 ∨ r = 1 ∨ r = 2 ∨ r = 3 := by omega
  rcases hd with rfl | rfl | rfl | rfl <;> (show _ = _; kernel_rfl)
/-- what is answered: the vector, or the error -/
def RetV (o : Option (List Int)) (w : World) (e : Ending) (w' : World) : Prop := e = .returned (.tuple #[.agg (mC (o.getD [0, 0, 0, 0])), .int .i64 (if o.isSome then 0 else 30)]) ∧ Below w.heap.size w w'
def most : Int := 4611686018427387904
def apRows (m v : List Int) : List Int := [pq (rowOf m 0) v, pq (rowOf m 1) v, pq (rowOf m 2) v, pq (rowOf m 3) v]
def apO (m v : List Int) : Option (List Int) := if wB 4611686018427387904 m 16 = true ∧ wB 4611686018427387904 v 4 = true ∧ wB 4611686018427387904 (apRows m v) 4 = true then some (apRows m v) else none
theorem within_m (m : List Int) (n g cap : Nat) (w : World) (b : Bool) (hn : n ≤ 4) (hm : Fours m n g w) (hb : wB 4611686018427387904 m (4 * n) = b) :
    Calls Try.prog 47 #[.int .i64 4611686018427387904, .slice (some ⟨g, 0, none⟩) n cap] w fun e w' => e = .returned (.bool b) ∧ Below w.heap.size w w' := by
  rw [← hb]
  exact within_any 4611686018427387904 m n g cap w hn (by omega) (by omega) hm
/-- a vector's block -/
def VecAt (b : Nat) (v0 v1 v2 v3 : Int) (W : World) : Prop := W.heap[b]? = some (.cells #[.int .i64 v0, .int .i64 v1, .int .i64 v2, .int .i64 v3] 23 (0, 0))
theorem VecAt.cells {b : Nat} {v0 v1 v2 v3 : Int} {W : World} (h : VecAt b v0 v1 v2 v3 W) : W.cell? ⟨b, 0, none⟩ = some (.int .i64 v0) ∧ W.cell? ⟨b, 1, none⟩ = some (.int .i64 v1) ∧ W.cell? ⟨b, 2, none⟩ = some (.int .i64 v2) ∧ W.cell? ⟨b, 3, none⟩ = some (.int .i64 v3) :=
  ⟨by rw [cell_of_row _ _ _ _ _ _ h]; rfl, by rw [cell_of_row _ _ _ _ _ _ h]; rfl, by rw [cell_of_row _ _ _ _ _ _ h]; rfl, by rw [cell_of_row _ _ _ _ _ _ h]; rfl⟩
theorem VecAt.free {b : Nat} {v0 v1 v2 v3 : Int} {W : World} (h : VecAt b v0 v1 v2 v3 W) : W.frozen? ⟨b, 0, none⟩ = false ∧ W.frozen? ⟨b, 1, none⟩ = false ∧ W.frozen? ⟨b, 2, none⟩ = false ∧ W.frozen? ⟨b, 3, none⟩ = false :=
  ⟨frozen_row h, frozen_row h, frozen_row h, frozen_row h⟩
theorem VecAt.below {b : Nat} {v0 v1 v2 v3 : Int} {w W : World} (hb : Below w.heap.size w W) (h : VecAt b v0 v1 v2 v3 w) : VecAt b v0 v1 v2 v3 W := keep_row hb h
theorem VecAt.fours {b : Nat} {v0 v1 v2 v3 : Int} {W : World} (h : VecAt b v0 v1 v2 v3 W) : Fours [v0, v1, v2, v3] 1 b W := fours_of (t := 23) h (by simp)
theorem VecAt.lt {b : Nat} {v0 v1 v2 v3 : Int} {W : World} (h : VecAt b v0 v1 v2 v3 W) : b < W.heap.size := (Array.getElem?_eq_some_iff.1 h).1
set_option maxRecDepth 100000 in
set_option maxHeartbeats 4000000 in
theorem apply_no1 (m : List Int) (v0 v1 v2 v3 : Int) (w : World) (hm : m.length = 16) (h1 : wB 4611686018427387904 m 16 = false) :
    Calls Try.prog 36 #[.agg (mC m), .agg #[.int .i64 v0, .int .i64 v1, .int .i64 v2, .int .i64 v3]] w (RetV none w) := by
  have HM := Lib.hid hm
  have H1 := Lib.hid h1
  clear hm h1
  go_enter Try.func36, Try.ntmps36
  go_wp2_with fail
  obtain ⟨V, hV⟩ : ∃ V, (((w.alloc (.cells (mC m) 44)).alloc (.cells #[.int .i64 v0, .int .i64 v1, .int .i64 v2, .int .i64 v3] 23)).alloc (.cells #[.int .i64 0, .int .i64 0, .int .i64 0, .int .i64 0] 23)) = V := ⟨_, rfl⟩
  have h3 := block3s w (.cells (mC m) 44) (.cells #[.int .i64 v0, .int .i64 v1, .int .i64 v2, .int .i64 v3] 23) (.cells #[.int .i64 0, .int .i64 0, .int .i64 0, .int .i64 0] 23)
  have hBV : Below w.heap.size w V := by rw [← hV]; go_grown
  rw [hV] at h3 ⊢
  clear hV
  obtain ⟨rm, rv, rr⟩ := h3
  refine (within_m m 4 w.heap.size 4 _ false (by omega) (fours_of (t := 44) rm (by rw [HM.out]; omega)) H1.out).mono ?_
  rintro e w1 ⟨rfl, hb⟩
  have rm1 := keep_row hb rm
  have rv1 : VecAt (w.heap.size + 1) v0 v1 v2 v3 w1 := keep_row hb rv
  have rr1 : VecAt (w.heap.size + 1 + 1) 0 0 0 0 w1 := keep_row hb rr
  have hB1 : Below w.heap.size w w1 := bnext hBV hb
  have hs1 := hB1.size
  obtain ⟨z0, z1, z2, z3⟩ := rr1.cells
  obtain ⟨y0, y1, y2, y3⟩ := rr1.free
  clear rm rv rr
  have RM := Lib.hid rm1
  have RV := Lib.hid rv1
  have RR := Lib.hid rr1
  clear rm1 rv1 rr1
  go_wp2
  refine bodyPost_ret (v := .tuple #[.agg #[.int .i64 0, .int .i64 0, .int .i64 0, .int .i64 0], .int .i64 30]) (by simp [results, Try.results36, go_sem, *]) rfl ⟨rfl, ?_⟩
  repeat' (first | (with_reducible exact Below.refl _ _) | (with_reducible assumption) | (with_reducible refine Below.drew ?_) | (with_reducible refine Below.setCell ?_ ?_ _) | (with_reducible refine bnext ?_ (by assumption)) | (with_reducible refine Below.alloc ?_ ?_ _) | go_size)
set_option maxRecDepth 100000 in
set_option maxHeartbeats 4000000 in
theorem apply_no2 (m : List Int) (v0 v1 v2 v3 : Int) (w : World) (hm : m.length = 16) (h1 : wB 4611686018427387904 m 16 = true) (h2 : wB 4611686018427387904 [v0, v1, v2, v3] 4 = false) :
    Calls Try.prog 36 #[.agg (mC m), .agg #[.int .i64 v0, .int .i64 v1, .int .i64 v2, .int .i64 v3]] w (RetV none w) := by
  have HM := Lib.hid hm
  have H1 := Lib.hid h1
  have H2 := Lib.hid h2
  clear hm h1 h2
  go_enter Try.func36, Try.ntmps36
  go_wp2_with fail
  obtain ⟨V, hV⟩ : ∃ V, (((w.alloc (.cells (mC m) 44)).alloc (.cells #[.int .i64 v0, .int .i64 v1, .int .i64 v2, .int .i64 v3] 23)).alloc (.cells #[.int .i64 0, .int .i64 0, .int .i64 0, .int .i64 0] 23)) = V := ⟨_, rfl⟩
  have h3 := block3s w (.cells (mC m) 44) (.cells #[.int .i64 v0, .int .i64 v1, .int .i64 v2, .int .i64 v3] 23) (.cells #[.int .i64 0, .int .i64 0, .int .i64 0, .int .i64 0] 23)
  have hBV : Below w.heap.size w V := by rw [← hV]; go_grown
  rw [hV] at h3 ⊢
  clear hV
  obtain ⟨rm, rv, rr⟩ := h3
  refine (within_m m 4 w.heap.size 4 _ true (by omega) (fours_of (t := 44) rm (by rw [HM.out]; omega)) H1.out).mono ?_
  rintro e w1 ⟨rfl, hb⟩
  have rm1 := keep_row hb rm
  have rv1 : VecAt (w.heap.size + 1) v0 v1 v2 v3 w1 := keep_row hb rv
  have rr1 : VecAt (w.heap.size + 1 + 1) 0 0 0 0 w1 := keep_row hb rr
  have hB1 : Below w.heap.size w w1 := bnext hBV hb
  have hs1 := hB1.size
  obtain ⟨z0, z1, z2, z3⟩ := rr1.cells
  obtain ⟨y0, y1, y2, y3⟩ := rr1.free
  clear rm rv rr
  obtain ⟨x0, x1, x2, x3⟩ := rv1.cells
  have RM := Lib.hid rm1
  have RV := Lib.hid rv1
  have RR := Lib.hid rr1
  clear rm1 rv1 rr1
  go_wp2_with fail
  refine (within_m [v0, v1, v2, v3] 1 _ 1 _ false (by omega) (VecAt.fours (heap_alloc_new _ _)) H2.out).mono ?_
  rintro e w2 ⟨rfl, hb2⟩
  have rr2 : VecAt (w.heap.size + 1 + 1) 0 0 0 0 w2 := (VecAt.below ((Below.refl _ _).alloc (Nat.le_refl _) _) RR.out).below hb2
  have hB2 : Below w.heap.size w w2 := bnext (hB1.alloc hs1 _) hb2
  have hs2 := hB2.size
  obtain ⟨z0', z1', z2', z3'⟩ := rr2.cells
  obtain ⟨y0', y1', y2', y3'⟩ := rr2.free
  clear rr2
  go_wp2
  refine bodyPost_ret (v := .tuple #[.agg #[.int .i64 0, .int .i64 0, .int .i64 0, .int .i64 0], .int .i64 30]) (by simp [results, Try.results36, go_sem, *]) rfl ⟨rfl, ?_⟩
  repeat' (first | (with_reducible exact Below.refl _ _) | (with_reducible assumption) | (with_reducible refine Below.drew ?_) | (with_reducible refine Below.setCell ?_ ?_ _) | (with_reducible refine bnext ?_ (by assumption)) | (with_reducible refine Below.alloc ?_ ?_ _) | go_size)
/-- the numbers that have come, when r rows are done -/
def apL (m v : List Int) (r : Nat) : List Int := (List.range 4).map fun j => if j < r then pq (rowOf m j) v else 0
theorem apL_len (m v : List Int) (r : Nat) : (apL m v r).length = 4 := by simp [apL]
theorem apL_zero (m v : List Int) : apL m v 0 = [0, 0, 0, 0] := rfl
theorem apL_end (m v : List Int) : apL m v 4 = apRows m v := rfl
theorem apL_step (m v : List Int) (r : Nat) (h : r < 4) : (apL m v r).set r (pq (rowOf m r) v) = apL m v (r + 1) := by
  have hd : r = 0 ∨ r = 1 ∨ r = 2 ∨ r = 3 := by omega
  rcases hd with rfl | rfl | rfl | rfl <;> rfl
structure AI (m : List Int) (v0 v1 v2 v3 : Int) (r B : Nat) (w W : World) : Prop where
  bm : W.heap[w.heap.size]? = some (.cells (mC m) 44 (0, 0))
  bv : VecAt (w.heap.size + 1) v0 v1 v2 v3 W
  br : VecAt (w.heap.size + 1 + 1) 0 0 0 0 W
  ba : W.heap[B]? = some (.cells (mC (apL m [v0, v1, v2, v3] r)) 23 (0, 0))
  hB : w.heap.size + 1 + 1 < B
  below : Below w.heap.size w W
theorem AI.up {m : List Int} {v0 v1 v2 v3 : Int} {r B : Nat} {w W X : World} (h : AI m v0 v1 v2 v3 r B w W) (hb : Below W.heap.size W X) : AI m v0 v1 v2 v3 r B w X :=
  ⟨keep_row hb h.bm, h.bv.below hb, h.br.below hb, keep_row hb h.ba, h.hB, bnext h.below hb⟩
theorem AI.next {m : List Int} {v0 v1 v2 v3 : Int} {r B : Nat} {w W : World} (h : AI m v0 v1 v2 v3 r B w W) (hr : r < 4) : AI m v0 v1 v2 v3 (r + 1) B w (W.setCell ⟨B, r, none⟩ (.int .i64 (pq (rowOf m r) [v0, v1, v2, v3]))) := by
  have hB := h.hB
  refine ⟨?_, ?_, ?_, ?_, hB, h.below.setCell (p := ⟨B, r, none⟩) (by show _ ≤ B; omega) _⟩
  · rw [heap_setCell_other _ _ _ _ (by show _ ≠ B; omega)]; exact h.bm
  · unfold VecAt; rw [heap_setCell_other _ _ _ _ (by show _ ≠ B; omega)]; exact h.bv
  · unfold VecAt; rw [heap_setCell_other _ _ _ _ (by show _ ≠ B; omega)]; exact h.br
  · rw [heap_setCell_same _ _ _ _ _ _ h.ba, mC_put, apL_step _ _ _ hr]
def ApRel (m : List Int) (v0 v1 v2 v3 : Int) (B : Nat) (w : World) (g : Nat) (s : Value) (W : World) : Prop :=
  ∃ r, g = 4 - r ∧ s = .int .i64 (r : Int) ∧ r ≤ 4 ∧ (∀ j, j < r → In64 (pq (rowOf m j) [v0, v1, v2, v3])) ∧ AI m v0 v1 v2 v3 r B w W
theorem may_of {m : List Int} {k : Nat} (h : wB 4611686018427387904 m k = true) (hk : m.length ≤ k) : May m := by
  intro j
  by_cases hj : j < k
  · have := wB_iff.1 h j hj
    omega
  · rw [List.getD_eq_getElem?_getD, List.getElem?_eq_none (by omega)]
    simp
theorem may_row {m : List Int} (h : May m) (r : Nat) : May (rowOf m r) := by
  intro j
  unfold rowOf
  match j with
  | 0 => exact h _
  | 1 => exact h _
  | 2 => exact h _
  | 3 => exact h _
  | j + 4 => simp
theorem product4 (m : List Int) (v0 v1 v2 v3 : Int) (r : Nat) (w : World) (hm : May m) (hv : May [v0, v1, v2, v3]) :
    Calls Try.prog 48 #[.agg #[.int .i64 (m.getD (r * 4) 0), .int .i64 (m.getD (r * 4 + 1) 0), .int .i64 (m.getD (r * 4 + 2) 0), .int .i64 (m.getD (r * 4 + 3) 0)], .agg #[.int .i64 v0, .int .i64 v1, .int .i64 v2, .int .i64 v3]] w fun e w' =>
      e = .returned (.tuple #[.int .i64 (if In64 (pq (rowOf m r) [v0, v1, v2, v3]) then pq (rowOf m r) [v0, v1, v2, v3] else 0), .int .i64 (if In64 (pq (rowOf m r) [v0, v1, v2, v3]) then 0 else 20)]) ∧ Below w.heap.size w w' :=
  product_any (rowOf m r) [v0, v1, v2, v3] w rfl rfl (may_row hm r) hv
theorem ap_wide {m v : List Int} {j : Nat} (hj : j < 4) (h : ¬ In64 (pq (rowOf m j) v)) : apO m v = none := by
  unfold apO
  rw [if_neg]
  rintro ⟨_, _, h3⟩
  have h4 := wB_iff.1 h3 j hj
  apply h
  have hd : j = 0 ∨ j = 1 ∨ j = 2 ∨ j = 3 := by omega
  unfold In64
  unfold apRows at h4
  rcases hd with rfl | rfl | rfl | rfl
  · have : (4611686018427387904 : Int) ≥ pq (rowOf m 0) v := h4.2.2
    have : -(4611686018427387904 : Int) ≤ pq (rowOf m 0) v := h4.2.1
    omega
  · have : (4611686018427387904 : Int) ≥ pq (rowOf m 1) v := h4.2.2
    have : -(4611686018427387904 : Int) ≤ pq (rowOf m 1) v := h4.2.1
    omega
  · have : (4611686018427387904 : Int) ≥ pq (rowOf m 2) v := h4.2.2
    have : -(4611686018427387904 : Int) ≤ pq (rowOf m 2) v := h4.2.1
    omega
  · have : (4611686018427387904 : Int) ≥ pq (rowOf m 3) v := h4.2.2
    have : -(4611686018427387904 : Int) ≤ pq (rowOf m 3) v := h4.2.1
    omega
set_option maxRecDepth 100000 in
set_option maxHeartbeats 4000000 in
theorem apply_go (m : List Int) (v0 v1 v2 v3 : Int) (w : World) (hm : m.length = 16) (h1 : wB 4611686018427387904 m 16 = true) (h2 : wB 4611686018427387904 [v0, v1, v2, v3] 4 = true) :
    Calls Try.prog 36 #[.agg (mC m), .agg #[.int .i64 v0, .int .i64 v1, .int .i64 v2, .int .i64 v3]] w (RetV (apO m [v0, v1, v2, v3]) w) := by
  have MM := Lib.hid (may_of h1 (by omega))
  have MV := Lib.hid (may_of h2 (by simp))
  have HM := Lib.hid hm
  have H1 := Lib.hid h1
  have H2 := Lib.hid h2
  have hinf : (Try.prog.info? 44).map (·.size) = some (mC m).size := by rw [size16, mC_size, hm]
  have HINF := Lib.hid hinf
  clear hm h1 h2 hinf
  go_enter Try.func36, Try.ntmps36
  go_wp2_with fail
  obtain ⟨V, hV⟩ : ∃ V, (((w.alloc (.cells (mC m) 44)).alloc (.cells #[.int .i64 v0, .int .i64 v1, .int .i64 v2, .int .i64 v3] 23)).alloc (.cells #[.int .i64 0, .int .i64 0, .int .i64 0, .int .i64 0] 23)) = V := ⟨_, rfl⟩
  have h3 := block3s w (.cells (mC m) 44) (.cells #[.int .i64 v0, .int .i64 v1, .int .i64 v2, .int .i64 v3] 23) (.cells #[.int .i64 0, .int .i64 0, .int .i64 0, .int .i64 0] 23)
  have hBV : Below w.heap.size w V := by rw [← hV]; go_grown
  rw [hV] at h3 ⊢
  clear hV
  obtain ⟨rm, rv, rr⟩ := h3
  refine (within_m m 4 w.heap.size 4 _ true (by omega) (fours_of (t := 44) rm (by rw [HM.out]; omega)) H1.out).mono ?_
  rintro e w1 ⟨rfl, hb⟩
  have rm1 := keep_row hb rm
  have rv1 : VecAt (w.heap.size + 1) v0 v1 v2 v3 w1 := keep_row hb rv
  have rr1 : VecAt (w.heap.size + 1 + 1) 0 0 0 0 w1 := keep_row hb rr
  have hB1 : Below w.heap.size w w1 := bnext hBV hb
  have hs1 := hB1.size
  obtain ⟨z0, z1, z2, z3⟩ := rr1.cells
  obtain ⟨y0, y1, y2, y3⟩ := rr1.free
  clear rm rv rr
  obtain ⟨x0, x1, x2, x3⟩ := rv1.cells
  have RM := Lib.hid rm1
  have RV := Lib.hid rv1
  have RR := Lib.hid rr1
  clear rm1 rv1 rr1
  go_wp2_with fail
  refine (within_m [v0, v1, v2, v3] 1 _ 1 _ true (by omega) (VecAt.fours (heap_alloc_new _ _)) H2.out).mono ?_
  rintro e w2 ⟨rfl, hb2⟩
  have hB2 : Below w.heap.size w w2 := bnext (hB1.alloc hs1 _) hb2
  have hlt := VecAt.lt RR.out
  have hs12 := hb2.size
  simp only [World.size_alloc] at hs12
  have AI0 : AI m v0 v1 v2 v3 0 w2.heap.size w (w2.alloc (.cells #[.int .i64 0, .int .i64 0, .int .i64 0, .int .i64 0] 23)) := by
    refine ⟨step_row (keep_row hb2 (step_row RM.out)), step_row (keep_row hb2 (step_row RV.out)), step_row (keep_row hb2 (step_row RR.out)), heap_alloc_new _ _, by omega, hB2.alloc hB2.size _⟩
  have BM := Lib.hid AI0.bm
  have HAI := Lib.hid AI0
  clear AI0
  go_wp2_with (refine wpList_load_row rfl 44 (.tmp 2) rfl w.heap.size rfl _ _ _ _ BM.out Try.underlying44 rfl HINF.out ?_)
  generalize w2.heap.size = B at HAI ⊢
  go_loopg [22] 4 (ApRel m v0 v1 v2 v3 B w)
  case atStart => exact ⟨0, rfl, rfl, by omega, fun j hj => absurd hj (by omega), HAI.out⟩
  case round =>
    clear HAI BM
    obtain ⟨r, rfl, rfl, hr4, hok, I⟩ := hrel
    by_cases hr : r < 4
    · have hix := mat_at m HM.out r hr
      have hP := product4 m v0 v1 v2 v3 r
      have HNX := Lib.hid (fun W (h : AI m v0 v1 v2 v3 r B w W) => h.next hr)
      have HOK := Lib.hid hok
      obtain ⟨q, hq⟩ : ∃ q, pq (rowOf m r) [v0, v1, v2, v3] = q := ⟨_, rfl⟩
      rw [hq] at hP HNX
      have HQ := Lib.hid hq
      generalize m.getD (r * 4) 0 = a0 at hix hP
      generalize m.getD (r * 4 + 1) 0 = a1 at hix hP
      generalize m.getD (r * 4 + 2) 0 = a2 at hix hP
      generalize m.getD (r * 4 + 3) 0 = a3 at hix hP
      have HP := Lib.hid hP
      obtain ⟨x0, x1, x2, x3⟩ := I.bv.cells
      have hw1 : w.heap.size + 1 < wr.heap.size := I.bv.lt
      have II := Lib.hid I
      have r0 : (0 : Int) ≤ (r : Int) := by omega
      have r1 : (r : Int) < 4 := by omega
      clear hP hq hok I z0 z1 z2 z3 y0 y1 y2 y3
      by_cases hin : In64 q
      · have e1 : (if In64 q then q else 0) = q := if_pos hin
        have e2 : (if In64 q then (0 : Int) else 20) = 0 := if_pos hin
        rw [e1, e2] at HP
        have HIN := Lib.hid hin
        clear e1 e2 hin
        go_wp2_with fail
        refine (HP.out _ MM.out MV.out).mono ?_
        rintro e w3 ⟨rfl, hb3⟩
        have I3 := (II.out.up ((Below.refl wr.heap.size wr).alloc (Nat.le_refl _) (.cells #[.int .i64 a0, .int .i64 a1, .int .i64 a2, .int .i64 a3] 23))).up hb3
        have cb : w3.cell? ⟨B, r, none⟩ = some (.int .i64 ((apL m [v0, v1, v2, v3] r).getD r 0)) := by rw [cell_of_row _ _ _ _ _ _ I3.ba, mC_at _ _ (by rw [apL_len]; exact hr)]
        have fb : w3.frozen? ⟨B, r, none⟩ = false := frozen_row I3.ba
        have II3 := Lib.hid (HNX.out _ I3)
        clear I3
        go_wp2_with fail
        go_roundg (4 - (r + 1))
        case measure => omega
        case rel =>
          refine ⟨r + 1, rfl, by go_num, by omega, fun j hj => ?_, II3.out⟩
          by_cases hjr : j < r
          · exact HOK.out j hjr
          · rw [show j = r by omega, HQ.out]; exact HIN.out
      · have e1 : (if In64 q then q else 0) = 0 := if_neg hin
        have e2 : (if In64 q then (0 : Int) else 20) = 20 := if_neg hin
        rw [e1, e2] at HP
        have HNO : Hid (apO m [v0, v1, v2, v3] = none) := Lib.hid (ap_wide hr (by rw [HQ.out]; exact hin))
        clear e1 e2 hin
        go_wp2_with fail
        refine (HP.out _ MM.out MV.out).mono ?_
        rintro e w3 ⟨rfl, hb3⟩
        have I3 := (II.out.up ((Below.refl wr.heap.size wr).alloc (Nat.le_refl _) (.cells #[.int .i64 a0, .int .i64 a1, .int .i64 a2, .int .i64 a3] 23))).up hb3
        obtain ⟨z0', z1', z2', z3'⟩ := I3.br.cells
        obtain ⟨y0', y1', y2', y3'⟩ := I3.br.free
        have hBX := I3.below
        have hsX := hBX.size
        clear I3
        go_wp2
        rw [HNO.out]
        refine bodyPost_ret (v := .tuple #[.agg #[.int .i64 0, .int .i64 0, .int .i64 0, .int .i64 0], .int .i64 30]) (by simp [results, Try.results36, go_sem, *]) rfl ⟨rfl, ?_⟩
        repeat' (first | (with_reducible exact Below.refl _ _) | (with_reducible assumption) | (with_reducible refine Below.drew ?_) | (with_reducible refine Below.setCell ?_ ?_ _) | (with_reducible refine bnext ?_ (by assumption)) | (with_reducible refine Below.alloc ?_ ?_ _) | go_size)
    · have hre : r = 4 := by omega
      subst hre
      have hall : Hid (∀ j, j < 4 → In64 (pq (rowOf m j) [v0, v1, v2, v3])) := Lib.hid hok
      have ba := I.ba
      rw [apL_end] at ba
      have hap : Hid (apRows m [v0, v1, v2, v3] = [pq (rowOf m 0) [v0, v1, v2, v3], pq (rowOf m 1) [v0, v1, v2, v3], pq (rowOf m 2) [v0, v1, v2, v3], pq (rowOf m 3) [v0, v1, v2, v3]]) := Lib.hid rfl
      rw [hap.out] at ba
      generalize pq (rowOf m 0) [v0, v1, v2, v3] = q0 at hap ba
      generalize pq (rowOf m 1) [v0, v1, v2, v3] = q1 at hap ba
      generalize pq (rowOf m 2) [v0, v1, v2, v3] = q2 at hap ba
      generalize pq (rowOf m 3) [v0, v1, v2, v3] = q3 at hap ba
      have BA : VecAt B q0 q1 q2 q3 wr := ba
      obtain ⟨x0, x1, x2, x3⟩ := BA.cells
      have II := Lib.hid I
      have HBA := Lib.hid BA
      clear BA ba I hok z0 z1 z2 z3 y0 y1 y2 y3
      cases h3 : wB 4611686018427387904 [q0, q1, q2, q3] 4 with
      | true =>
        have HAP : Hid (apO m [v0, v1, v2, v3] = some [q0, q1, q2, q3]) := Lib.hid (by unfold apO; rw [hap.out, if_pos ⟨H1.out, H2.out, h3⟩])
        have H3 := Lib.hid h3
        clear h3
        go_wp2_with fail
        refine (within_m [q0, q1, q2, q3] 1 _ 1 _ true (by omega) (VecAt.fours (heap_alloc_new _ _)) H3.out).mono ?_
        rintro e w3 ⟨rfl, hb3⟩
        have I3 := (II.out.up ((Below.refl wr.heap.size wr).alloc (Nat.le_refl _) (.cells #[.int .i64 q0, .int .i64 q1, .int .i64 q2, .int .i64 q3] 23))).up hb3
        have BA3 : VecAt B q0 q1 q2 q3 w3 := (HBA.out.below ((Below.refl wr.heap.size wr).alloc (Nat.le_refl _) (.cells #[.int .i64 q0, .int .i64 q1, .int .i64 q2, .int .i64 q3] 23))).below hb3
        obtain ⟨z0', z1', z2', z3'⟩ := I3.br.cells
        obtain ⟨y0', y1', y2', y3'⟩ := I3.br.free
        obtain ⟨c0, c1, c2, c3⟩ := BA3.cells
        have hBX := I3.below
        have hsX := hBX.size
        clear I3 BA3
        go_wp2
        rw [HAP.out]
        refine bodyPost_ret (v := .tuple #[.agg #[.int .i64 q0, .int .i64 q1, .int .i64 q2, .int .i64 q3], .int .i64 0]) (by simp [results, Try.results36, go_sem, *]) rfl ⟨rfl, ?_⟩
        repeat' (first | (with_reducible exact Below.refl _ _) | (with_reducible assumption) | (with_reducible refine Below.drew ?_) | (with_reducible refine Below.setCell ?_ ?_ _) | (with_reducible refine bnext ?_ (by assumption)) | (with_reducible refine Below.alloc ?_ ?_ _) | go_size)
      | false =>
        have HAP : Hid (apO m [v0, v1, v2, v3] = none) := Lib.hid (by unfold apO; rw [hap.out, if_neg (by rw [h3]; simp)])
        have H3 := Lib.hid h3
        clear h3
        go_wp2_with fail
        refine (within_m [q0, q1, q2, q3] 1 _ 1 _ false (by omega) (VecAt.fours (heap_alloc_new _ _)) H3.out).mono ?_
        rintro e w3 ⟨rfl, hb3⟩
        have I3 := (II.out.up ((Below.refl wr.heap.size wr).alloc (Nat.le_refl _) (.cells #[.int .i64 q0, .int .i64 q1, .int .i64 q2, .int .i64 q3] 23))).up hb3
        obtain ⟨z0', z1', z2', z3'⟩ := I3.br.cells
        obtain ⟨y0', y1', y2', y3'⟩ := I3.br.free
        have hBX := I3.below
        have hsX := hBX.size
        clear I3
        go_wp2
        rw [HAP.out]
        refine bodyPost_ret (v := .tuple #[.agg #[.int .i64 0, .int .i64 0, .int .i64 0, .int .i64 0], .int .i64 30]) (by simp [results, Try.results36, go_sem, *]) rfl ⟨rfl, ?_⟩
        repeat' (first | (with_reducible exact Below.refl _ _) | (with_reducible assumption) | (with_reducible refine Below.drew ?_) | (with_reducible refine Below.setCell ?_ ?_ _) | (with_reducible refine bnext ?_ (by assumption)) | (with_reducible refine Below.alloc ?_ ?_ _) | go_size)
end Go.Proofs.Ytgkglkoipocgaaa.Fx
