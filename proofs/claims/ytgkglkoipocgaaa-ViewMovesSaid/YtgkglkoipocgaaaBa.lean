/- The document's sums, walked. -/
import Derived.Test.YtgkglkoipocgaaaProg
import Derived.Test.YtgkglkoipocgaaaR1
import Derived.Test.YtgkglkoipocgaaaMu
set_option linter.unusedVariables false
set_option linter.unusedSimpArgs false
namespace Go.Proofs.Ytgkglkoipocgaaa.Fx
open Go Go.RowKit Wm
structure AddI (nx ny nz : Bool) (dx dy dz : List Nat) (w W : World) : Prop where
  bx : W.heap[w.heap.size]? = some (.cells (bigC nx dx) 79 (0, 0))
  by0 : W.heap[w.heap.size + 1]? = some (.cells (bigC ny dy) 79 (0, 0))
  br : W.heap[w.heap.size + 1 + 1]? = some (.cells (bigC false zeros) 79 (0, 0))
  bz : W.heap[w.heap.size + 1 + 1 + 1]? = some (.cells (bigC nz dz) 79 (0, 0))
  below : Below w.heap.size w W
theorem AddI.up {nx ny nz : Bool} {dx dy dz : List Nat} {w W X : World} (h : AddI nx ny nz dx dy dz w W) (hb : Below W.heap.size W X) : AddI nx ny nz dx dy dz w X :=
  ⟨keep_row hb h.bx, keep_row hb h.by0, keep_row hb h.br, keep_row hb h.bz, bnext h.below hb⟩
theorem AddI.row {nx ny nz : Bool} {dx dy dz : List Nat} {w W : World} (h : AddI nx ny nz dx dy dz w W) (n : Bool) (d : List Nat) : AddI nx ny n dx dy d w (W.setRow (w.heap.size + 1 + 1 + 1) (bigC n d)) :=
  ⟨by rw [setRow_other _ _ _ _ (by omega)]; exact h.bx, by rw [setRow_other _ _ _ _ (by omega)]; exact h.by0, by rw [setRow_other _ _ _ _ (by omega)]; exact h.br, setRow_heap _ _ _ _ _ _ h.bz, Below.row h.below (by omega) _⟩
theorem AddI.sign {nx ny nz : Bool} {dx dy dz : List Nat} {w W : World} (h : AddI nx ny nz dx dy dz w W) (n : Bool) : AddI nx ny n dx dy dz w (W.setCell ⟨w.heap.size + 1 + 1 + 1, 0, none⟩ (.bool n)) :=
  ⟨by rw [heap_setCell_other _ _ _ _ (by show _ ≠ w.heap.size + 1 + 1 + 1; omega)]; exact h.bx, by rw [heap_setCell_other _ _ _ _ (by show _ ≠ w.heap.size + 1 + 1 + 1; omega)]; exact h.by0, by rw [heap_setCell_other _ _ _ _ (by show _ ≠ w.heap.size + 1 + 1 + 1; omega)]; exact h.br,
    by rw [heap_setCell_same _ _ _ _ _ _ h.bz, big_sign], h.below.setCell (p := ⟨w.heap.size + 1 + 1 + 1, 0, none⟩) (by show _ ≤ w.heap.size + 1 + 1 + 1; omega) _⟩
theorem AddI.heads {nx ny nz : Bool} {dx dy dz : List Nat} {w W : World} (h : AddI nx ny nz dx dy dz w W) :
    W.cell? ⟨w.heap.size, 0, none⟩ = some (.bool nx) ∧ W.cell? ⟨w.heap.size + 1, 0, none⟩ = some (.bool ny) ∧ W.cell? ⟨w.heap.size + 1 + 1 + 1, 0, none⟩ = some (.bool nz) ∧ W.frozen? ⟨w.heap.size + 1 + 1 + 1, 0, none⟩ = false :=
  ⟨by rw [cell_of_row _ _ _ _ _ _ h.bx, big_head], by rw [cell_of_row _ _ _ _ _ _ h.by0, big_head], by rw [cell_of_row _ _ _ _ _ _ h.bz, big_head], frozen_row h.bz⟩
theorem addI0 (nx ny : Bool) (dx dy : List Nat) (w : World) : AddI nx ny false dx dy zeros w ((((w.alloc (.cells (bigC nx dx) 79)).alloc (.cells (bigC ny dy) 79)).alloc (.cells (bigC false zeros) 79)).alloc (.cells (bigC false zeros) 79)) := by
  have h := block3 w (.cells (bigC nx dx) 79) (.cells (bigC ny dy) 79) (.cells (bigC false zeros) 79) (.cells (bigC false zeros) 79)
  exact ⟨h.1.1, h.1.2, h.2.1, h.2.2, by go_grown⟩
set_option maxRecDepth 100000 in
set_option maxHeartbeats 4000000 in
theorem add_same_z (nx ny : Bool) (dx dy d : List Nat) (w : World) (hx : dx.length = 20) (hy : dy.length = 20) (hd : d.length = 20) (hs : nx = ny) (hc : ∀ w, Calls Try.prog 55 #[.agg (bigC nx dx), .agg (bigC ny dy)] w (RetB false d w))
    (hz : (d == zeros) = true) : Calls Try.prog 58 #[.agg (bigC nx dx), .agg (bigC ny dy)] w (RetB false d w) := by
  have IX := Lib.hid (big_info nx dx hx)
  have IY := Lib.hid (big_info ny dy hy)
  have IDf := Lib.hid (big_info false d hd)
  have IDs := Lib.hid (big_info nx d hd)
  have SD := Lib.hid (big_same false false zeros d rfl hd)
  have SR := Lib.hid (big_same false false zeros d rfl hd)
  have NN := Lib.hid (fun w => none_any nx d w hd)
  have HZ := Lib.hid hz
  have I0 := addI0 nx ny dx dy w
  have BX := Lib.hid I0.bx
  have BY := Lib.hid I0.by0
  obtain ⟨g0, g1, g2, g3⟩ := I0.heads
  have HI0 := Lib.hid I0
  have hzr : bigC false zeros = #[.bool false, .int .u64 0, .int .u64 0, .int .u64 0, .int .u64 0, .int .u64 0, .int .u64 0, .int .u64 0, .int .u64 0, .int .u64 0, .int .u64 0, .int .u64 0, .int .u64 0, .int .u64 0, .int .u64 0, .int .u64 0, .int .u64 0, .int .u64 0, .int .u64 0, .int .u64 0, .int .u64 0] := rfl
  rw [hzr] at g0 g1 g2 g3
  clear I0 hx hy hd hz hzr
  have HC := Lib.hid hc
  have hs1 : (nx == ny) = true := by simp [hs]
  clear hc hs
  go_enter Try.func58, Try.ntmps58
  go_wp2_with (first | (refine wpList_load_row rfl 79 (.tmp 2) rfl w.heap.size rfl _ _ _ _ BX.out Try.underlying79 rfl IX.out ?_) | (refine wpList_load_row rfl 79 (.tmp 3) rfl (w.heap.size + 1) rfl _ _ _ _ BY.out Try.underlying79 rfl IY.out ?_))
  refine (HC.out _).mono ?_
  rintro e w1 ⟨rfl, hb⟩
  have I1 := HI0.out.up hb
  have B1 := Lib.hid I1.bz
  have I2 := I1.row false d
  have I3 := I2.sign nx
  obtain ⟨m0, m1, m2, m3⟩ := I2.heads
  have B3 := Lib.hid I3.bz
  have HI3 := Lib.hid I3
  clear I1 I2 I3 hb g0 g1 g2 g3
  go_wp2_with (first | (refine wpList_store_big rfl 79 (.tmp 5) (.tmp 20) rfl (w.heap.size + 1 + 1 + 1) _ _ (bigC false d) rfl rfl B1.out IDf.out SD.out (big_one _ _) ?_) | (refine wpList_load_row rfl 79 (.tmp 5) rfl (w.heap.size + 1 + 1 + 1) rfl _ _ _ _ B3.out Try.underlying79 rfl IDs.out ?_))
  refine (NN.out _).mono ?_
  rintro e w4 ⟨rfl, hb4⟩
  rw [HZ.out]
  have I4 := HI3.out.up hb4
  have I5 := I4.sign false
  obtain ⟨n0, n1, n2, n3⟩ := I4.heads
  have B5 := Lib.hid I5.bz
  have R5 := Lib.hid I5.br
  have L5 := Lib.hid I5.below
  clear I4 I5 hb4 m0 m1 m2 m3
  go_wp2_with (first | (refine wpList_load_row rfl 79 (.tmp 5) rfl (w.heap.size + 1 + 1 + 1) rfl _ _ _ _ B5.out Try.underlying79 rfl IDf.out ?_) | (refine wpList_store_big rfl 79 (.tmp 4) (.tmp 37) rfl (w.heap.size + 1 + 1) _ _ (bigC false d) rfl rfl R5.out IDf.out SR.out (big_one _ _) ?_))
  refine bodyPost_ret (v := .agg (bigC false d)) (results_cell_row rfl _ _ (w.heap.size + 1 + 1) _ _ _ _ rfl (setRow_heap _ _ _ _ _ _ R5.out) Try.underlying79 rfl IDf.out) rfl ?_
  exact ⟨rfl, Below.row L5.out (by omega) _⟩
set_option maxRecDepth 100000 in
set_option maxHeartbeats 4000000 in
theorem add_same_n (nx ny : Bool) (dx dy d : List Nat) (w : World) (hx : dx.length = 20) (hy : dy.length = 20) (hd : d.length = 20) (hs : nx = ny) (hc : ∀ w, Calls Try.prog 55 #[.agg (bigC nx dx), .agg (bigC ny dy)] w (RetB false d w))
    (hz : (d == zeros) = false) : Calls Try.prog 58 #[.agg (bigC nx dx), .agg (bigC ny dy)] w (RetB nx d w) := by
  have IX := Lib.hid (big_info nx dx hx)
  have IY := Lib.hid (big_info ny dy hy)
  have IDf := Lib.hid (big_info false d hd)
  have IDs := Lib.hid (big_info nx d hd)
  have SD := Lib.hid (big_same false false zeros d rfl hd)
  have SR := Lib.hid (big_same false nx zeros d rfl hd)
  have NN := Lib.hid (fun w => none_any nx d w hd)
  have HZ := Lib.hid hz
  have I0 := addI0 nx ny dx dy w
  have BX := Lib.hid I0.bx
  have BY := Lib.hid I0.by0
  obtain ⟨g0, g1, g2, g3⟩ := I0.heads
  have HI0 := Lib.hid I0
  have hzr : bigC false zeros = #[.bool false, .int .u64 0, .int .u64 0, .int .u64 0, .int .u64 0, .int .u64 0, .int .u64 0, .int .u64 0, .int .u64 0, .int .u64 0, .int .u64 0, .int .u64 0, .int .u64 0, .int .u64 0, .int .u64 0, .int .u64 0, .int .u64 0, .int .u64 0, .int .u64 0, .int .u64 0, .int .u64 0] := rfl
  rw [hzr] at g0 g1 g2 g3
  clear I0 hx hy hd hz hzr
  have HC := Lib.hid hc
  have hs1 : (nx == ny) = true := by simp [hs]
  clear hc hs
  go_enter Try.func58, Try.ntmps58
  go_wp2_with (first | (refine wpList_load_row rfl 79 (.tmp 2) rfl w.heap.size rfl _ _ _ _ BX.out Try.underlying79 rfl IX.out ?_) | (refine wpList_load_row rfl 79 (.tmp 3) rfl (w.heap.size + 1) rfl _ _ _ _ BY.out Try.underlying79 rfl IY.out ?_))
  refine (HC.out _).mono ?_
  rintro e w1 ⟨rfl, hb⟩
  have I1 := HI0.out.up hb
  have B1 := Lib.hid I1.bz
  have I2 := I1.row false d
  have I3 := I2.sign nx
  obtain ⟨m0, m1, m2, m3⟩ := I2.heads
  have B3 := Lib.hid I3.bz
  have HI3 := Lib.hid I3
  clear I1 I2 I3 hb g0 g1 g2 g3
  go_wp2_with (first | (refine wpList_store_big rfl 79 (.tmp 5) (.tmp 20) rfl (w.heap.size + 1 + 1 + 1) _ _ (bigC false d) rfl rfl B1.out IDf.out SD.out (big_one _ _) ?_) | (refine wpList_load_row rfl 79 (.tmp 5) rfl (w.heap.size + 1 + 1 + 1) rfl _ _ _ _ B3.out Try.underlying79 rfl IDs.out ?_))
  refine (NN.out _).mono ?_
  rintro e w4 ⟨rfl, hb4⟩
  rw [HZ.out]
  have I4 := HI3.out.up hb4
  have I5 := I4
  have B5 := Lib.hid I5.bz
  have R5 := Lib.hid I5.br
  have L5 := Lib.hid I5.below
  clear I4 I5 hb4 m0 m1 m2 m3
  go_wp2_with (first | (refine wpList_load_row rfl 79 (.tmp 5) rfl (w.heap.size + 1 + 1 + 1) rfl _ _ _ _ B5.out Try.underlying79 rfl IDs.out ?_) | (refine wpList_store_big rfl 79 (.tmp 4) (.tmp 37) rfl (w.heap.size + 1 + 1) _ _ (bigC nx d) rfl rfl R5.out IDs.out SR.out (big_one _ _) ?_))
  refine bodyPost_ret (v := .agg (bigC nx d)) (results_cell_row rfl _ _ (w.heap.size + 1 + 1) _ _ _ _ rfl (setRow_heap _ _ _ _ _ _ R5.out) Try.underlying79 rfl IDs.out) rfl ?_
  exact ⟨rfl, Below.row L5.out (by omega) _⟩
set_option maxRecDepth 100000 in
set_option maxHeartbeats 4000000 in
theorem add_lt (nx ny : Bool) (dx dy d : List Nat) (w : World) (hx : dx.length = 20) (hy : dy.length = 20) (hd : d.length = 20) (hs : (nx == ny) = false) (hl : ∀ w, Calls Try.prog 56 #[.agg (bigC nx dx), .agg (bigC ny dy)] w fun e w' => e = .returned (.bool true) ∧ Below w.heap.size w w') (hc : ∀ w, Calls Try.prog 57 #[.agg (bigC ny dy), .agg (bigC nx dx)] w (RetB false d w))
    (hz : (d == zeros) = false) : Calls Try.prog 58 #[.agg (bigC nx dx), .agg (bigC ny dy)] w (RetB ny d w) := by
  have IX := Lib.hid (big_info nx dx hx)
  have IY := Lib.hid (big_info ny dy hy)
  have IDf := Lib.hid (big_info false d hd)
  have IDs := Lib.hid (big_info ny d hd)
  have SD := Lib.hid (big_same false false zeros d rfl hd)
  have SR := Lib.hid (big_same false ny zeros d rfl hd)
  have NN := Lib.hid (fun w => none_any ny d w hd)
  have HZ := Lib.hid hz
  have I0 := addI0 nx ny dx dy w
  have BX := Lib.hid I0.bx
  have BY := Lib.hid I0.by0
  obtain ⟨g0, g1, g2, g3⟩ := I0.heads
  have HI0 := Lib.hid I0
  have hzr : bigC false zeros = #[.bool false, .int .u64 0, .int .u64 0, .int .u64 0, .int .u64 0, .int .u64 0, .int .u64 0, .int .u64 0, .int .u64 0, .int .u64 0, .int .u64 0, .int .u64 0, .int .u64 0, .int .u64 0, .int .u64 0, .int .u64 0, .int .u64 0, .int .u64 0, .int .u64 0, .int .u64 0, .int .u64 0] := rfl
  rw [hzr] at g0 g1 g2 g3
  clear I0 hx hy hd hz hzr
  have HC := Lib.hid hc
  have HL := Lib.hid hl
  clear hc hl
  go_enter Try.func58, Try.ntmps58
  go_wp2_with (first | (refine wpList_load_row rfl 79 (.tmp 2) rfl w.heap.size rfl _ _ _ _ BX.out Try.underlying79 rfl IX.out ?_) | (refine wpList_load_row rfl 79 (.tmp 3) rfl (w.heap.size + 1) rfl _ _ _ _ BY.out Try.underlying79 rfl IY.out ?_))
  refine (HL.out _).mono ?_
  rintro e w0 ⟨rfl, hb0⟩
  have I0 := HI0.out.up hb0
  have BX' := Lib.hid I0.bx
  have BY' := Lib.hid I0.by0
  clear HI0
  have HI0 := Lib.hid I0
  clear I0 hb0 g0 g1 g2 g3
  go_wp2_with (first | (refine wpList_load_row rfl 79 (.tmp 2) rfl w.heap.size rfl _ _ _ _ BX'.out Try.underlying79 rfl IX.out ?_) | (refine wpList_load_row rfl 79 (.tmp 3) rfl (w.heap.size + 1) rfl _ _ _ _ BY'.out Try.underlying79 rfl IY.out ?_))
  refine (HC.out _).mono ?_
  rintro e w1 ⟨rfl, hb⟩
  have I1 := HI0.out.up hb
  have B1 := Lib.hid I1.bz
  have I2 := I1.row false d
  have I3 := I2.sign ny
  obtain ⟨m0, m1, m2, m3⟩ := I2.heads
  have B3 := Lib.hid I3.bz
  have HI3 := Lib.hid I3
  clear I1 I2 I3 hb
  go_wp2_with (first | (refine wpList_store_big rfl 79 (.tmp 5) (.tmp 30) rfl (w.heap.size + 1 + 1 + 1) _ _ (bigC false d) rfl rfl B1.out IDf.out SD.out (big_one _ _) ?_) | (refine wpList_load_row rfl 79 (.tmp 5) rfl (w.heap.size + 1 + 1 + 1) rfl _ _ _ _ B3.out Try.underlying79 rfl IDs.out ?_))
  refine (NN.out _).mono ?_
  rintro e w4 ⟨rfl, hb4⟩
  rw [HZ.out]
  have I4 := HI3.out.up hb4
  have I5 := I4
  have B5 := Lib.hid I5.bz
  have R5 := Lib.hid I5.br
  have L5 := Lib.hid I5.below
  clear I4 I5 hb4 m0 m1 m2 m3
  go_wp2_with (first | (refine wpList_load_row rfl 79 (.tmp 5) rfl (w.heap.size + 1 + 1 + 1) rfl _ _ _ _ B5.out Try.underlying79 rfl IDs.out ?_) | (refine wpList_store_big rfl 79 (.tmp 4) (.tmp 37) rfl (w.heap.size + 1 + 1) _ _ (bigC ny d) rfl rfl R5.out IDs.out SR.out (big_one _ _) ?_))
  refine bodyPost_ret (v := .agg (bigC ny d)) (results_cell_row rfl _ _ (w.heap.size + 1 + 1) _ _ _ _ rfl (setRow_heap _ _ _ _ _ _ R5.out) Try.underlying79 rfl IDs.out) rfl ?_
  exact ⟨rfl, Below.row L5.out (by omega) _⟩
set_option maxRecDepth 100000 in
set_option maxHeartbeats 4000000 in
theorem add_gt (nx ny : Bool) (dx dy d : List Nat) (w : World) (hx : dx.length = 20) (hy : dy.length = 20) (hd : d.length = 20) (hs : (nx == ny) = false) (hl : ∀ w, Calls Try.prog 56 #[.agg (bigC nx dx), .agg (bigC ny dy)] w fun e w' => e = .returned (.bool false) ∧ Below w.heap.size w w') (hc : ∀ w, Calls Try.prog 57 #[.agg (bigC nx dx), .agg (bigC ny dy)] w (RetB false d w))
    (hz : (d == zeros) = false) : Calls Try.prog 58 #[.agg (bigC nx dx), .agg (bigC ny dy)] w (RetB nx d w) := by
  have IX := Lib.hid (big_info nx dx hx)
  have IY := Lib.hid (big_info ny dy hy)
  have IDf := Lib.hid (big_info false d hd)
  have IDs := Lib.hid (big_info nx d hd)
  have SD := Lib.hid (big_same false false zeros d rfl hd)
  have SR := Lib.hid (big_same false nx zeros d rfl hd)
  have NN := Lib.hid (fun w => none_any nx d w hd)
  have HZ := Lib.hid hz
  have I0 := addI0 nx ny dx dy w
  have BX := Lib.hid I0.bx
  have BY := Lib.hid I0.by0
  obtain ⟨g0, g1, g2, g3⟩ := I0.heads
  have HI0 := Lib.hid I0
  have hzr : bigC false zeros = #[.bool false, .int .u64 0, .int .u64 0, .int .u64 0, .int .u64 0, .int .u64 0, .int .u64 0, .int .u64 0, .int .u64 0, .int .u64 0, .int .u64 0, .int .u64 0, .int .u64 0, .int .u64 0, .int .u64 0, .int .u64 0, .int .u64 0, .int .u64 0, .int .u64 0, .int .u64 0, .int .u64 0] := rfl
  rw [hzr] at g0 g1 g2 g3
  clear I0 hx hy hd hz hzr
  have HC := Lib.hid hc
  have HL := Lib.hid hl
  clear hc hl
  go_enter Try.func58, Try.ntmps58
  go_wp2_with (first | (refine wpList_load_row rfl 79 (.tmp 2) rfl w.heap.size rfl _ _ _ _ BX.out Try.underlying79 rfl IX.out ?_) | (refine wpList_load_row rfl 79 (.tmp 3) rfl (w.heap.size + 1) rfl _ _ _ _ BY.out Try.underlying79 rfl IY.out ?_))
  refine (HL.out _).mono ?_
  rintro e w0 ⟨rfl, hb0⟩
  have I0 := HI0.out.up hb0
  have BX' := Lib.hid I0.bx
  have BY' := Lib.hid I0.by0
  clear HI0
  have HI0 := Lib.hid I0
  clear I0 hb0 g0 g1 g2 g3
  go_wp2_with (first | (refine wpList_load_row rfl 79 (.tmp 2) rfl w.heap.size rfl _ _ _ _ BX'.out Try.underlying79 rfl IX.out ?_) | (refine wpList_load_row rfl 79 (.tmp 3) rfl (w.heap.size + 1) rfl _ _ _ _ BY'.out Try.underlying79 rfl IY.out ?_))
  refine (HC.out _).mono ?_
  rintro e w1 ⟨rfl, hb⟩
  have I1 := HI0.out.up hb
  have B1 := Lib.hid I1.bz
  have I2 := I1.row false d
  have I3 := I2.sign nx
  obtain ⟨m0, m1, m2, m3⟩ := I2.heads
  have B3 := Lib.hid I3.bz
  have HI3 := Lib.hid I3
  clear I1 I2 I3 hb
  go_wp2_with (first | (refine wpList_store_big rfl 79 (.tmp 5) (.tmp 8) rfl (w.heap.size + 1 + 1 + 1) _ _ (bigC false d) rfl rfl B1.out IDf.out SD.out (big_one _ _) ?_) | (refine wpList_load_row rfl 79 (.tmp 5) rfl (w.heap.size + 1 + 1 + 1) rfl _ _ _ _ B3.out Try.underlying79 rfl IDs.out ?_))
  refine (NN.out _).mono ?_
  rintro e w4 ⟨rfl, hb4⟩
  rw [HZ.out]
  have I4 := HI3.out.up hb4
  have I5 := I4
  have B5 := Lib.hid I5.bz
  have R5 := Lib.hid I5.br
  have L5 := Lib.hid I5.below
  clear I4 I5 hb4 m0 m1 m2 m3
  go_wp2_with (first | (refine wpList_load_row rfl 79 (.tmp 5) rfl (w.heap.size + 1 + 1 + 1) rfl _ _ _ _ B5.out Try.underlying79 rfl IDs.out ?_) | (refine wpList_store_big rfl 79 (.tmp 4) (.tmp 37) rfl (w.heap.size + 1 + 1) _ _ (bigC nx d) rfl rfl R5.out IDs.out SR.out (big_one _ _) ?_))
  refine bodyPost_ret (v := .agg (bigC nx d)) (results_cell_row rfl _ _ (w.heap.size + 1 + 1) _ _ _ _ rfl (setRow_heap _ _ _ _ _ _ R5.out) Try.underlying79 rfl IDs.out) rfl ?_
  exact ⟨rfl, Below.row L5.out (by omega) _⟩
set_option maxRecDepth 100000 in
set_option maxHeartbeats 4000000 in
theorem add_eq (nx ny : Bool) (dx dy d : List Nat) (w : World) (hx : dx.length = 20) (hy : dy.length = 20) (hd : d.length = 20) (hs : (nx == ny) = false) (hl : ∀ w, Calls Try.prog 56 #[.agg (bigC nx dx), .agg (bigC ny dy)] w fun e w' => e = .returned (.bool false) ∧ Below w.heap.size w w') (hc : ∀ w, Calls Try.prog 57 #[.agg (bigC nx dx), .agg (bigC ny dy)] w (RetB false d w))
    (hz : (d == zeros) = true) : Calls Try.prog 58 #[.agg (bigC nx dx), .agg (bigC ny dy)] w (RetB false d w) := by
  have IX := Lib.hid (big_info nx dx hx)
  have IY := Lib.hid (big_info ny dy hy)
  have IDf := Lib.hid (big_info false d hd)
  have IDs := Lib.hid (big_info nx d hd)
  have SD := Lib.hid (big_same false false zeros d rfl hd)
  have SR := Lib.hid (big_same false false zeros d rfl hd)
  have NN := Lib.hid (fun w => none_any nx d w hd)
  have HZ := Lib.hid hz
  have I0 := addI0 nx ny dx dy w
  have BX := Lib.hid I0.bx
  have BY := Lib.hid I0.by0
  obtain ⟨g0, g1, g2, g3⟩ := I0.heads
  have HI0 := Lib.hid I0
  have hzr : bigC false zeros = #[.bool false, .int .u64 0, .int .u64 0, .int .u64 0, .int .u64 0, .int .u64 0, .int .u64 0, .int .u64 0, .int .u64 0, .int .u64 0, .int .u64 0, .int .u64 0, .int .u64 0, .int .u64 0, .int .u64 0, .int .u64 0, .int .u64 0, .int .u64 0, .int .u64 0, .int .u64 0, .int .u64 0] := rfl
  rw [hzr] at g0 g1 g2 g3
  clear I0 hx hy hd hz hzr
  have HC := Lib.hid hc
  have HL := Lib.hid hl
  clear hc hl
  go_enter Try.func58, Try.ntmps58
  go_wp2_with (first | (refine wpList_load_row rfl 79 (.tmp 2) rfl w.heap.size rfl _ _ _ _ BX.out Try.underlying79 rfl IX.out ?_) | (refine wpList_load_row rfl 79 (.tmp 3) rfl (w.heap.size + 1) rfl _ _ _ _ BY.out Try.underlying79 rfl IY.out ?_))
  refine (HL.out _).mono ?_
  rintro e w0 ⟨rfl, hb0⟩
  have I0 := HI0.out.up hb0
  have BX' := Lib.hid I0.bx
  have BY' := Lib.hid I0.by0
  clear HI0
  have HI0 := Lib.hid I0
  clear I0 hb0 g0 g1 g2 g3
  go_wp2_with (first | (refine wpList_load_row rfl 79 (.tmp 2) rfl w.heap.size rfl _ _ _ _ BX'.out Try.underlying79 rfl IX.out ?_) | (refine wpList_load_row rfl 79 (.tmp 3) rfl (w.heap.size + 1) rfl _ _ _ _ BY'.out Try.underlying79 rfl IY.out ?_))
  refine (HC.out _).mono ?_
  rintro e w1 ⟨rfl, hb⟩
  have I1 := HI0.out.up hb
  have B1 := Lib.hid I1.bz
  have I2 := I1.row false d
  have I3 := I2.sign nx
  obtain ⟨m0, m1, m2, m3⟩ := I2.heads
  have B3 := Lib.hid I3.bz
  have HI3 := Lib.hid I3
  clear I1 I2 I3 hb
  go_wp2_with (first | (refine wpList_store_big rfl 79 (.tmp 5) (.tmp 8) rfl (w.heap.size + 1 + 1 + 1) _ _ (bigC false d) rfl rfl B1.out IDf.out SD.out (big_one _ _) ?_) | (refine wpList_load_row rfl 79 (.tmp 5) rfl (w.heap.size + 1 + 1 + 1) rfl _ _ _ _ B3.out Try.underlying79 rfl IDs.out ?_))
  refine (NN.out _).mono ?_
  rintro e w4 ⟨rfl, hb4⟩
  rw [HZ.out]
  have I4 := HI3.out.up hb4
  have I5 := I4.sign false
  obtain ⟨n0, n1, n2, n3⟩ := I4.heads
  have B5 := Lib.hid I5.bz
  have R5 := Lib.hid I5.br
  have L5 := Lib.hid I5.below
  clear I4 I5 hb4 m0 m1 m2 m3
  go_wp2_with (first | (refine wpList_load_row rfl 79 (.tmp 5) rfl (w.heap.size + 1 + 1 + 1) rfl _ _ _ _ B5.out Try.underlying79 rfl IDf.out ?_) | (refine wpList_store_big rfl 79 (.tmp 4) (.tmp 37) rfl (w.heap.size + 1 + 1) _ _ (bigC false d) rfl rfl R5.out IDf.out SR.out (big_one _ _) ?_))
  refine bodyPost_ret (v := .agg (bigC false d)) (results_cell_row rfl _ _ (w.heap.size + 1 + 1) _ _ _ _ rfl (setRow_heap _ _ _ _ _ _ R5.out) Try.underlying79 rfl IDf.out) rfl ?_
  exact ⟨rfl, Below.row L5.out (by omega) _⟩
theorem add_z (x y : Int) (w : World) (h : x.natAbs + y.natAbs < BB) : Calls Try.prog 58 #[.agg (bv x), .agg (bv y)] w (RetZ (x + y) w) := by
  have hx : x.natAbs < BB := by omega
  have hy : y.natAbs < BB := by omega
  have key : ∀ (n : Bool) (d : List Nat), n = decide (x + y < 0) → d = dg (x + y).natAbs → Calls Try.prog 58 #[.agg (bv x), .agg (bv y)] w (RetB n d w) → Calls Try.prog 58 #[.agg (bv x), .agg (bv y)] w (RetZ (x + y) w) := by
    intro n d h1 h2 hc
    refine hc.mono ?_
    rintro e w' ⟨rfl, hb⟩
    exact ⟨by rw [bv_eq h1 h2], hb⟩
  have L := fun w => less_big (decide (x < 0)) (decide (y < 0)) (dg x.natAbs) (dg y.natAbs) w (dg_len _) (dg_len _)
  rw [less_dg hx hy] at L
  by_cases hs : decide (x < 0) = decide (y < 0)
  · have hs' := decide_eq_decide.1 hs
    have hab : (x + y).natAbs = x.natAbs + y.natAbs := by omega
    have hc := fun w => more_any (decide (x < 0)) (decide (y < 0)) (dg x.natAbs) (dg y.natAbs) w (dg_dg _) (dg_dg _)
    rw [add_dg] at hc
    by_cases hz : x.natAbs + y.natAbs = 0
    · exact key false (dg (x.natAbs + y.natAbs)) (by rw [eq_comm, decide_eq_false_iff_not]; omega) (by rw [hab]) (add_same_z _ _ _ _ _ w (dg_len _) (dg_len _) (dg_len _) hs hc (by rw [dg_zero h, hz]; rfl))
    · exact key (decide (x < 0)) (dg (x.natAbs + y.natAbs)) (by rw [decide_eq_decide]; omega) (by rw [hab]) (add_same_n _ _ _ _ _ w (dg_len _) (dg_len _) (dg_len _) hs hc (by rw [dg_zero h, decide_eq_false hz]))
  · have hs2 : (decide (x < 0) == decide (y < 0)) = false := by simpa using hs
    have hs' : ¬ (x < 0 ↔ y < 0) := fun e => hs (decide_eq_decide.2 e)
    by_cases hl : x.natAbs < y.natAbs
    · rw [decide_eq_true hl] at L
      have hc := fun w => away_any (decide (y < 0)) (decide (x < 0)) (dg y.natAbs) (dg x.natAbs) w (dg_dg _) (dg_dg _)
      rw [sub_dg (by omega)] at hc
      exact key (decide (y < 0)) (dg (y.natAbs - x.natAbs)) (by rw [decide_eq_decide]; omega) (by congr 1; omega) (add_lt _ _ _ _ _ w (dg_len _) (dg_len _) (dg_len _) hs2 L hc (by rw [dg_zero (by omega), decide_eq_false (by omega)]))
    · rw [decide_eq_false hl] at L
      have hc := fun w => away_any (decide (x < 0)) (decide (y < 0)) (dg x.natAbs) (dg y.natAbs) w (dg_dg _) (dg_dg _)
      rw [sub_dg (by omega)] at hc
      by_cases hz : x.natAbs - y.natAbs = 0
      · exact key false (dg (x.natAbs - y.natAbs)) (by rw [eq_comm, decide_eq_false_iff_not]; omega) (by congr 1; omega) (add_eq _ _ _ _ _ w (dg_len _) (dg_len _) (dg_len _) hs2 L hc (by rw [dg_zero (by omega), hz]; rfl))
      · exact key (decide (x < 0)) (dg (x.natAbs - y.natAbs)) (by rw [decide_eq_decide]; omega) (by congr 1; omega) (add_gt _ _ _ _ _ w (dg_len _) (dg_len _) (dg_len _) hs2 L hc (by rw [dg_zero (by omega), decide_eq_false hz]))
end Go.Proofs.Ytgkglkoipocgaaa.Fx
