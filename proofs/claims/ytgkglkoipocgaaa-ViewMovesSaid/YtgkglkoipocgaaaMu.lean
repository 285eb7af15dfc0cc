/- matrix.Mul, walked. 
  matrix.Scale, Identity, Move, Check, walked. -/
import Derived.Test.YtgkglkoipocgaaaProg
import Derived.Test.YtgkglkoipocgaaaAp
set_option linter.unusedVariables false
set_option linter.unusedSimpArgs false
namespace Go.Proofs.Ytgkglkoipocgaaa.Fx
open Go Go.RowKit Go.Shelf Wm
theorem apO_len {m v l : List Int} (h : apO m v = some l) : l.length = 4 := by
  unfold apO at h
  split at h
  · cases h; rfl
  · cases h
theorem apply_any (m v : List Int) (w : World) (hm : m.length = 16) (hv : v.length = 4) : Calls Try.prog 36 #[.agg (mC m), .agg (mC v)] w (RetV (apO m v) w) := by
  rw [list4 hv]
  generalize v.getD 0 0 = v0
  generalize v.getD 1 0 = v1
  generalize v.getD 2 0 = v2
  generalize v.getD 3 0 = v3
  cases h1 : wB 4611686018427387904 m 16 with
  | false =>
    rw [show apO m [v0, v1, v2, v3] = none from by unfold apO; rw [if_neg (by rw [h1]; simp)]]
    exact apply_no1 m v0 v1 v2 v3 w hm h1
  | true =>
    cases h2 : wB 4611686018427387904 [v0, v1, v2, v3] 4 with
    | false =>
      rw [show apO m [v0, v1, v2, v3] = none from by unfold apO; rw [if_neg (by rw [h2]; simp)]]
      exact apply_no2 m v0 v1 v2 v3 w hm h1 h2
    | true => exact apply_go m v0 v1 v2 v3 w hm h1 h2
/-- a column of the product -/
def colO (a b : List Int) (r : Nat) : Option (List Int) := apO a (rowOf (tr b) r)
def colA (a b : List Int) (p : Nat) : Int := ((colO a b (p / 4)).getD []).getD (p % 4) 0
/-- the columns that have come -/
def csL (a b : List Int) (r : Nat) : List Int := (List.range 16).map fun p => if p / 4 < r then colA a b p else 0
def csA (a b : List Int) : List Int := (List.range 16).map fun p => colA a b p
theorem csL_len (a b : List Int) (r : Nat) : (csL a b r).length = 16 := by simp [csL]
theorem csA_len (a b : List Int) : (csA a b).length = 16 := by simp [csA]
theorem csL_end (a b : List Int) : csL a b 4 = csA a b := by
  unfold csL csA
  refine List.map_congr_left fun p hp => ?_
  rw [List.mem_range] at hp
  rw [if_pos (by omega)]
theorem csL_zero (a b : List Int) : csL a b 0 = List.replicate 16 0 := by
  unfold csL
  simp only [Nat.not_lt_zero, if_false]
  rfl
theorem csL_step {a b : List Int} {r : Nat} {q0 q1 q2 q3 : Int} (h : r < 4) (hc : colO a b r = some [q0, q1, q2, q3]) : ((((csL a b r).set (r * 4) q0).set (r * 4 + 1) q1).set (r * 4 + 2) q2).set (r * 4 + 3) q3 = csL a b (r + 1) := by
  refine List.ext_getElem (by simp [csL]) fun p h1 h2 => ?_
  have hp : p < 16 := by simpa [csL] using h2
  simp only [List.getElem_set]
  simp only [csL, List.getElem_map, List.getElem_range]
  by_cases e3 : r * 4 + 3 = p
  · rw [if_pos e3, if_pos (by omega)]
    unfold colA
    rw [show p / 4 = r by omega, show p % 4 = 3 by omega, hc]
    rfl
  rw [if_neg e3]
  by_cases e2 : r * 4 + 2 = p
  · rw [if_pos e2, if_pos (by omega)]
    unfold colA
    rw [show p / 4 = r by omega, show p % 4 = 2 by omega, hc]
    rfl
  rw [if_neg e2]
  by_cases e1 : r * 4 + 1 = p
  · rw [if_pos e1, if_pos (by omega)]
    unfold colA
    rw [show p / 4 = r by omega, show p % 4 = 1 by omega, hc]
    rfl
  rw [if_neg e1]
  by_cases e0 : r * 4 = p
  · rw [if_pos e0, if_pos (by omega)]
    unfold colA
    rw [show p / 4 = r by omega, show p % 4 = 0 by omega, hc]
    rfl
  rw [if_neg e0]
  by_cases e : p / 4 < r
  · rw [if_pos e, if_pos (by omega)]
  · rw [if_neg e, if_neg (by omega)]
def mulO (a b : List Int) : Option (List Int) := if (colO a b 0).isSome = true ∧ (colO a b 1).isSome = true ∧ (colO a b 2).isSome = true ∧ (colO a b 3).isSome = true then some (tr (csA a b)) else none
theorem mulO_none {a b : List Int} {r : Nat} (hr : r < 4) (h : colO a b r = none) : mulO a b = none := by
  unfold mulO
  rw [if_neg]
  have hd : r = 0 ∨ r = 1 ∨ r = 2 ∨ r = 3 := by omega
  rintro ⟨h0, h1, h2, h3⟩
  rcases hd with rfl | rfl | rfl | rfl
  · rw [h] at h0; cases h0
  · rw [h] at h1; cases h1
  · rw [h] at h2; cases h2
  · rw [h] at h3; cases h3
def zero16 : List Int := [0, 0, 0, 0, 0, 0, 0, 0, 0, 0, 0, 0, 0, 0, 0, 0]
def RetMM (o : Option (List Int)) (w : World) (e : Ending) (w' : World) : Prop := e = .returned (.tuple #[.agg (mC (o.getD zero16)), .int .i64 (if o.isSome then 0 else 30)]) ∧ Below w.heap.size w w'
theorem results_row2 {P : Program} {fn : Func} {p u : Tmp} {ty : TypeId} (h : fn.results = #[.cell p ty, .tmp u]) (tmps : Array Value) (w : World) (g : Nat) (t : TypeId) (cs : Array Value) (fr : Nat × Nat) (d : TypeDesc) (v : Value)
    (hp : tmps.getD p undef = .pointer (some ⟨g, 0, none⟩)) (hv : tmps.getD u undef = v) (hg : w.heap[g]? = some (.cells cs t fr))
    (hu : P.underlying ty = some d) (hd : (match d with | .struct _ | .array _ _ => true | _ => false) = true) (hi : (P.info? ty).map (·.size) = some cs.size) :
    (results fn tmps).run P w = .ok (.tuple #[.agg cs, v]) w := by
  have hp' : tmps[p]?.getD undef = .pointer (some ⟨g, 0, none⟩) := by simpa using hp
  have hv' : tmps[u]?.getD undef = v := by simpa using hv
  simp [results, h, hp', hv', asAddr, run_loadVar_row w g t ty cs fr d hg hu hd hi]
/-- a matrix's block -/
def MatAt (b : Nat) (m : List Int) (W : World) : Prop := W.heap[b]? = some (.cells (mC m) 44 (0, 0))
theorem MatAt.below {b : Nat} {m : List Int} {w W : World} (hb : Below w.heap.size w W) (h : MatAt b m w) : MatAt b m W := keep_row hb h
theorem MatAt.lt {b : Nat} {m : List Int} {W : World} (h : MatAt b m W) : b < W.heap.size := (Array.getElem?_eq_some_iff.1 h).1
theorem MatAt.cell {b j : Nat} {m : List Int} {W : World} (h : MatAt b m W) (hj : j < m.length) : W.cell? ⟨b, j, none⟩ = some (.int .i64 (m.getD j 0)) := by rw [cell_of_row _ _ _ _ _ _ h, mC_at _ _ hj]
theorem MatAt.set {b j : Nat} {m : List Int} {W : World} (h : MatAt b m W) (x : Int) : MatAt b (m.set j x) (W.setCell ⟨b, j, none⟩ (.int .i64 x)) := by
  unfold MatAt
  rw [heap_setCell_same _ _ _ _ _ _ h, mC_put]
theorem MatAt.other {b c j : Nat} {m : List Int} {W : World} (h : MatAt b m W) (v : Value) (hn : b ≠ c) : MatAt b m (W.setCell ⟨c, j, none⟩ v) := by
  unfold MatAt
  rw [heap_setCell_other _ _ _ _ hn]
  exact h
structure MI (a b : List Int) (r B : Nat) (w W : World) : Prop where
  ba : MatAt w.heap.size a W
  br : MatAt (w.heap.size + 1 + 1) zero16 W
  bc : MatAt B (csL a b r) W
  hB : w.heap.size + 1 + 1 < B
  below : Below w.heap.size w W
theorem MI.up {a b : List Int} {r B : Nat} {w W X : World} (h : MI a b r B w W) (hb : Below W.heap.size W X) : MI a b r B w X :=
  ⟨h.ba.below hb, h.br.below hb, h.bc.below hb, h.hB, bnext h.below hb⟩
theorem MI.next {a b : List Int} {r B : Nat} {w W : World} {q0 q1 q2 q3 : Int} (h : MI a b r B w W) (hr : r < 4) (hc : colO a b r = some [q0, q1, q2, q3]) :
    MI a b (r + 1) B w ((((W.setCell ⟨B, r * 4, none⟩ (.int .i64 q0)).setCell ⟨B, r * 4 + 1, none⟩ (.int .i64 q1)).setCell ⟨B, r * 4 + 2, none⟩ (.int .i64 q2)).setCell ⟨B, r * 4 + 3, none⟩ (.int .i64 q3)) := by
  have hB := h.hB
  refine ⟨?_, ?_, ?_, hB, ?_⟩
  · exact (((h.ba.other _ (by omega)).other _ (by omega)).other _ (by omega)).other _ (by omega)
  · exact (((h.br.other _ (by omega)).other _ (by omega)).other _ (by omega)).other _ (by omega)
  · rw [← csL_step hr hc]
    exact (((h.bc.set q0).set q1).set q2).set q3
  · exact (((h.below.setCell (p := ⟨B, r * 4, none⟩) (by show _ ≤ B; omega) _).setCell (p := ⟨B, r * 4 + 1, none⟩) (by show _ ≤ B; omega) _).setCell (p := ⟨B, r * 4 + 2, none⟩) (by show _ ≤ B; omega) _).setCell (p := ⟨B, r * 4 + 3, none⟩) (by show _ ≤ B; omega) _
def MRelM (a b : List Int) (B : Nat) (w : World) (g : Nat) (s : Value) (W : World) : Prop :=
  ∃ r, g = 4 - r ∧ s = .int .i64 (r : Int) ∧ r ≤ 4 ∧ (∀ j, j < r → (colO a b j).isSome = true) ∧ MI a b r B w W
end Go.Proofs.Ytgkglkoipocgaaa.Fx
set_option linter.unusedVariables false
set_option linter.unusedSimpArgs false
namespace Go.Proofs.Ytgkglkoipocgaaa.Fx
open Go Go.RowKit Go.Shelf Wm
def scl (x y z : Int) : List Int := [x, 0, 0, 0, 0, y, 0, 0, 0, 0, z, 0, 0, 0, 0, 65536]
def mvl (x y z : Int) : List Int := [65536, 0, 0, x, 0, 65536, 0, y, 0, 0, 65536, z, 0, 0, 0, 65536]
def idl : List Int := scl 65536 65536 65536
theorem scale_any (x y z : Int) (w : World) : Calls Try.prog 38 #[.int .i64 x, .int .i64 y, .int .i64 z] w (RetM (scl x y z) w) := by
  go_enter Try.func38, Try.ntmps38
  go_wp2_with (refine wpList_store_big rfl 44 (.tmp 6) (.tmp 14) rfl w.heap.size _ _ (mC (scl x y z)) rfl rfl (heap_alloc_new _ _) size16 rfl (mC_one _) ?_)
  refine bodyPost_ret (results_cell_row rfl _ _ w.heap.size _ (mC (scl x y z)) _ _ rfl (setRow_heap _ _ _ _ _ _ (heap_alloc_new _ _)) Try.underlying44 rfl size16) rfl ?_
  exact ⟨rfl, Below.row ((Below.refl _ w).alloc (Nat.le_refl _) _) (Nat.le_refl _) _⟩
theorem identity_any (w : World) : Calls Try.prog 23 #[] w (RetM idl w) := by
  go_enter Try.func23, Try.ntmps23
  go_wp2_with fail
  refine (scale_any 65536 65536 65536 _).mono ?_
  rintro e w1 ⟨rfl, hb⟩
  have RR := Lib.hid (keep_row hb (heap_alloc_new w _))
  have hB := ((Below.refl _ w).alloc (Nat.le_refl _) _).trans (hb.mono (by simp))
  have HB := Lib.hid hB
  clear hB
  go_wp2_with (refine wpList_store_big rfl 44 (.tmp 0) (.tmp 1) rfl w.heap.size _ _ (mC idl) rfl rfl RR.out size16 rfl (mC_one _) ?_)
  refine bodyPost_ret (results_cell_row rfl _ _ w.heap.size _ (mC idl) _ _ rfl (setRow_heap _ _ _ _ _ _ RR.out) Try.underlying44 rfl size16) rfl ?_
  exact ⟨rfl, Below.row HB.out (Nat.le_refl _) _⟩
set_option maxHeartbeats 1000000 in
theorem move_any (x y z : Int) (w : World) : Calls Try.prog 26 #[.int .i64 x, .int .i64 y, .int .i64 z] w (RetM (mvl x y z) w) := by
  go_enter Try.func26, Try.ntmps26
  go_wp2_with fail
  refine (identity_any _).mono ?_
  rintro e w1 ⟨rfl, hb⟩
  have hB := ((Below.refl _ w).alloc (Nat.le_refl _) _).trans (hb.mono (by simp))
  have hsz := hb.size
  simp only [World.size_alloc] at hsz
  have RR := Lib.hid (keep_row hb (heap_alloc_new w _))
  have HB := Lib.hid hB
  clear hB
  have R2 := Lib.hid (show (w1.alloc (.cells #[.int .i64 0, .int .i64 0, .int .i64 0, .int .i64 0, .int .i64 0, .int .i64 0, .int .i64 0, .int .i64 0, .int .i64 0, .int .i64 0, .int .i64 0, .int .i64 0, .int .i64 0, .int .i64 0, .int .i64 0, .int .i64 0] 44)).heap[w1.heap.size]? = some (.cells #[.int .i64 0, .int .i64 0, .int .i64 0, .int .i64 0, .int .i64 0, .int .i64 0, .int .i64 0, .int .i64 0, .int .i64 0, .int .i64 0, .int .i64 0, .int .i64 0, .int .i64 0, .int .i64 0, .int .i64 0, .int .i64 0] 44 (0, 0)) from heap_alloc_new _ _)
  have hB2 : Hid (Below w.heap.size w ((w1.alloc (.cells #[.int .i64 0, .int .i64 0, .int .i64 0, .int .i64 0, .int .i64 0, .int .i64 0, .int .i64 0, .int .i64 0, .int .i64 0, .int .i64 0, .int .i64 0, .int .i64 0, .int .i64 0, .int .i64 0, .int .i64 0, .int .i64 0] 44)).setRow w1.heap.size (mC idl))) := Lib.hid (Below.row (HB.out.alloc HB.out.size _) HB.out.size _)
  have R3 : Hid (MatAt w.heap.size zero16 ((w1.alloc (.cells #[.int .i64 0, .int .i64 0, .int .i64 0, .int .i64 0, .int .i64 0, .int .i64 0, .int .i64 0, .int .i64 0, .int .i64 0, .int .i64 0, .int .i64 0, .int .i64 0, .int .i64 0, .int .i64 0, .int .i64 0, .int .i64 0] 44)).setRow w1.heap.size (mC idl))) := Lib.hid (by unfold MatAt; rw [setRow_other _ _ _ _ (by omega)]; exact step_row RR.out)
  have R4 : Hid (MatAt w1.heap.size idl ((w1.alloc (.cells #[.int .i64 0, .int .i64 0, .int .i64 0, .int .i64 0, .int .i64 0, .int .i64 0, .int .i64 0, .int .i64 0, .int .i64 0, .int .i64 0, .int .i64 0, .int .i64 0, .int .i64 0, .int .i64 0, .int .i64 0, .int .i64 0] 44)).setRow w1.heap.size (mC idl))) := Lib.hid (setRow_heap _ _ _ _ _ _ R2.out)
  have tok : True := trivial
  go_wp2_with (first | (have _t := tok; refine wpList_store_big rfl 44 (.tmp 7) (.tmp 8) rfl w1.heap.size _ _ (mC idl) rfl rfl R2.out size16 rfl (mC_one _) ?_; clear tok; generalize World.setRow _ _ _ = V at hB2 R3 R4 ⊢; have c3 : V.cell? ⟨w1.heap.size, 3, none⟩ = some (.int .i64 0) := R4.out.cell (by decide); have c7 : V.cell? ⟨w1.heap.size, 7, none⟩ = some (.int .i64 0) := R4.out.cell (by decide); have c11 : V.cell? ⟨w1.heap.size, 11, none⟩ = some (.int .i64 0) := R4.out.cell (by decide); have f3 : V.frozen? ⟨w1.heap.size, 3, none⟩ = false := frozen_row R4.out; have f7 : V.frozen? ⟨w1.heap.size, 7, none⟩ = false := frozen_row R4.out; have f11 : V.frozen? ⟨w1.heap.size, 11, none⟩ = false := frozen_row R4.out) | (have m3 : MatAt w1.heap.size (mvl x y z) (((V.setCell ⟨w1.heap.size, 3, none⟩ (.int .i64 x)).setCell ⟨w1.heap.size, 7, none⟩ (.int .i64 y)).setCell ⟨w1.heap.size, 11, none⟩ (.int .i64 z)) := ((R4.out.set x).set y).set z; refine wpList_load_row rfl 44 (.tmp 7) rfl w1.heap.size rfl _ _ _ _ m3 Try.underlying44 rfl size16 ?_) | (have m4 : MatAt w.heap.size zero16 (((V.setCell ⟨w1.heap.size, 3, none⟩ (.int .i64 x)).setCell ⟨w1.heap.size, 7, none⟩ (.int .i64 y)).setCell ⟨w1.heap.size, 11, none⟩ (.int .i64 z)) := ((R3.out.other _ (by omega)).other _ (by omega)).other _ (by omega); refine wpList_store_big rfl 44 (.tmp 6) (.tmp 18) rfl w.heap.size _ _ (mC (mvl x y z)) rfl rfl m4 size16 rfl (mC_one _) ?_))
  have m4 : MatAt w.heap.size zero16 (((V.setCell ⟨w1.heap.size, 3, none⟩ (.int .i64 x)).setCell ⟨w1.heap.size, 7, none⟩ (.int .i64 y)).setCell ⟨w1.heap.size, 11, none⟩ (.int .i64 z)) := ((R3.out.other _ (by omega)).other _ (by omega)).other _ (by omega)
  refine bodyPost_ret (results_cell_row rfl _ _ w.heap.size _ (mC (mvl x y z)) _ _ rfl (setRow_heap _ _ _ _ _ _ m4) Try.underlying44 rfl size16) rfl ?_
  exact ⟨rfl, Below.row (((hB2.out.setCell (p := ⟨w1.heap.size, 3, none⟩) (by show _ ≤ w1.heap.size; omega) _).setCell (p := ⟨w1.heap.size, 7, none⟩) (by show _ ≤ w1.heap.size; omega) _).setCell (p := ⟨w1.heap.size, 11, none⟩) (by show _ ≤ w1.heap.size; omega) _) (Nat.le_refl _) _⟩
end Go.Proofs.Ytgkglkoipocgaaa.Fx
