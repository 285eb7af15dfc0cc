import Derived.Laws.Rows
import Derived.Test.YtbbhmhihpdmoiaaGreatProg
import Derived.Deep.WholeRow
import Derived.Test.YtbbhmhihpdmoiaaGreatMv07
import Derived.Test.YtbbhmhihpdmoiaaGreatMv14
set_option linter.unusedVariables false
set_option linter.unusedSimpArgs false
namespace Go.Proofs.YtbbhmhihpdmoiaaGreat.Fx
open Go Go.RowKit Wm
structure AddI (nx ny nz : Bool) (dx dy dz : List Nat) (w W : World) : Prop where
 bx : W.heap[w.heap.size]? = some (.cells (bigC nx dx) 214 (0, 0))
 by0 : W.heap[w.heap.size + 1]? = some (.cells (bigC ny dy) 214 (0, 0))
 br : W.heap[w.heap.size + 1 + 1]? = some (.cells (bigC false zeros) 214 (0, 0))
 bz : W.heap[w.heap.size + 1 + 1 + 1]? = some (.cells (bigC nz dz) 214 (0, 0))
 below : Below w.heap.size w W
theorem AddI.up {nx ny nz : Bool} {dx dy dz : List Nat} {w W X : World} (h : AddI nx ny nz dx dy dz w W) (hb : Below W.heap.size W X) : AddI nx ny nz dx dy dz w X :=
 ⟨keep_row hb h.bx, keep_row hb h.by0, keep_row hb h.br, keep_row hb h.bz, bnext h.below hb⟩
theorem AddI.row {nx ny nz : Bool} {dx dy dz : List Nat} {w W : World} (h : AddI nx ny nz dx dy dz w W) (n : Bool) (d : List Nat) : AddI nx ny n dx dy d w (W.setRow (w.heap.size + 1 + 1 + 1) (bigC n d)) :=
 ⟨by rw [setRow_other _ _ _ _ (by omega)]; exact h.bx, by rw [setRow_other _ _ _ _ (by omega)]; exact h.by0, by rw [setRow_other _ _ _ _ (by omega)]; exact h.br, setRow_heap _ _ _ _ _ _ h.bz, Below.row h.below (by omega) _⟩
theorem AddI.sign {nx ny nz : Bool} {dx dy dz : List Nat} {w W : World} (h : AddI nx ny nz dx dy dz w W) (n : Bool) : AddI nx ny n dx dy dz w (W.setCell ⟨w.heap.size + 1 + 1 + 1, 0, none⟩ (.bool n)) :=
 ⟨by rw [heap_setCell_other _ _ _ _ (by show _ ≠ w.heap.size + 1 + 1 + 1; omega)]; exact h.bx, by rw [heap_setCell_other _ _ _ _ (by show _ ≠ w.heap.size + 1 + 1 + 1; omega)]; exact h.by0, by rw [heap_setCell_other _ _ _ _ (by show _ ≠ w.heap.size + 1 + 1 + 1; omega)]; exact h.br,
  by rw [heap_setCell_same _ _ _ _ _ _ h.bz, big_sign], h.below.setCell (p := ⟨w.heap.size + 1 + 1 + 1, 0, none⟩) (by show _ ≤ w.heap.size + 1 + 1 + 1; omega) _⟩
theorem AddI.heads {nx ny nz : Bool} {dx dy dz : List Nat} {w W : World} (h : AddI nx ny nz dx dy dz w W) :
  W.cell? ⟨w.heap.size, 0, none⟩ = some (.bool nx) ∧ W.cell? ⟨w.heap.size + 1, 0, none⟩ = some (.bool ny) ∧ W.cell? ⟨w.heap.size + 1 + 1 + 1, 0, none⟩ = some (.bool nz) ∧ W.frozen? ⟨w.heap.size + 1 + 1 + 1, 0, none⟩ = false :=
 ⟨by rw [cell_of_row _ _ _ _ _ _ h.bx, big_head], by rw [cell_of_row _ _ _ _ _ _ h.by0, big_head], by rw [cell_of_row _ _ _ _ _ _ h.bz, big_head], frozen_row h.bz⟩
theorem addI0 (nx ny : Bool) (dx dy : List Nat) (w : World) : AddI nx ny false dx dy zeros w ((((w.alloc (.cells (bigC nx dx) 214)).alloc (.cells (bigC ny dy) 214)).alloc (.cells (bigC false zeros) 214)).alloc (.cells (bigC false zeros) 214)) := by
 have h := block3 w (.cells (bigC nx dx) 214) (.cells (bigC ny dy) 214) (.cells (bigC false zeros) 214) (.cells (bigC false zeros) 214)
 exact ⟨h.1.1, h.1.2, h.2.1, h.2.2, by go_grown⟩
set_option maxRecDepth 100000 in
set_option maxHeartbeats 4000000 in
theorem add_same_z (nx ny : Bool) (dx dy d : List Nat) (w : World) (hx : dx.length = 20) (hy : dy.length = 20) (hd : d.length = 20) (hs : nx = ny) (hc : ∀ w, Calls Tryz.prog 165 #[.agg (bigC nx dx), .agg (bigC ny dy)] w (RetB false d w))
  (hz : (d == zeros) = true) : Calls Tryz.prog 158 #[.agg (bigC nx dx), .agg (bigC ny dy)] w (RetB false d w) := by
 have IX := Lib.hid (big_info nx dx hx)
 have IY := Lib.hid (big_info ny dy hy)
 have IDf := Lib.hid (big_info false d hd)
 have IDs := Lib.hid (big_info nx d hd)
 have SD := Lib.hid (big_same false false zeros d rfl hd)
 have SR := Lib.hid (big_same false false zeros d rfl hd)
 have NN := Lib.hid (fun w => none_any nx d w hd)
 have HZ := Lib.hid hz
 have I0 := addI0 nx ny dx dy w
 have BX := Lib.hid I0.bx
 have BY := Lib.hid I0.by0
 obtain ⟨g0, g1, g2, g3⟩ := I0.heads
 have HI0 := Lib.hid I0
 have hzr : bigC false zeros = #[.bool false, .int .u64 0, .int .u64 0, .int .u64 0, .int .u64 0, .int .u64 0, .int .u64 0, .int .u64 0, .int .u64 0, .int .u64 0, .int .u64 0, .int .u64 0, .int .u64 0, .int .u64 0, .int .u64 0, .int .u64 0, .int .u64 0, .int .u64 0, .int .u64 0, .int .u64 0, .int .u64 0] := rfl
 rw [hzr] at g0 g1 g2 g3
 clear I0 hx hy hd hz hzr
 have HC := Lib.hid hc
 have hs1 : (nx == ny) = true := by simp [hs]
 clear hc hs
 go_enter Tryz.func158, Tryz.ntmps158
 go_wp2_with (first | (refine wpList_load_row rfl 214 (.tmp 2) rfl w.heap.size rfl _ _ _ _ BX.out Tryz.underlying214 rfl IX.out ?_) | (refine wpList_load_row rfl 214 (.tmp 3) rfl (w.heap.size + 1) rfl _ _ _ _ BY.out Tryz.underlying214 rfl IY.out ?_))
 refine (HC.out _).mono ?_
 rintro e w1 ⟨rfl, hb⟩
 have I1 := HI0.out.up hb
 have B1 := Lib.hid I1.bz
 have I2 := I1.row false d
 have I3 := I2.sign nx
 obtain ⟨m0, m1, m2, m3⟩ := I2.heads
 have B3 := Lib.hid I3.bz
 have HI3 := Lib.hid I3
 clear I1 I2 I3 hb g0 g1 g2 g3
 go_wp2_with (first | (refine wpList_store_big rfl 214 (.tmp 5) (.tmp 20) rfl (w.heap.size + 1 + 1 + 1) _ _ (bigC false d) rfl rfl B1.out IDf.out SD.out (big_one _ _) ?_) | (refine wpList_load_row rfl 214 (.tmp 5) rfl (w.heap.size + 1 + 1 + 1) rfl _ _ _ _ B3.out Tryz.underlying214 rfl IDs.out ?_))
 refine (NN.out _).mono ?_
 rintro e w4 ⟨rfl, hb4⟩
 rw [HZ.out]
 have I4 := HI3.out.up hb4
 have I5 := I4.sign false
 obtain ⟨n0, n1, n2, n3⟩ := I4.heads
 have B5 := Lib.hid I5.bz
 have R5 := Lib.hid I5.br
 have L5 := Lib.hid I5.below
 clear I4 I5 hb4 m0 m1 m2 m3
 go_wp2_with (first | (refine wpList_load_row rfl 214 (.tmp 5) rfl (w.heap.size + 1 + 1 + 1) rfl _ _ _ _ B5.out Tryz.underlying214 rfl IDf.out ?_) | (refine wpList_store_big rfl 214 (.tmp 4) (.tmp 37) rfl (w.heap.size + 1 + 1) _ _ (bigC false d) rfl rfl R5.out IDf.out SR.out (big_one _ _) ?_))
 refine bodyPost_ret (v := .agg (bigC false d)) (results_cell_row rfl _ _ (w.heap.size + 1 + 1) _ _ _ _ rfl (setRow_heap _ _ _ _ _ _ R5.out) Tryz.underlying214 rfl IDf.out) rfl ?_
 exact ⟨rfl, Below.row L5.out (by omega) _⟩
set_option maxRecDepth 100000 in
set_option maxHeartbeats 4000000 in
theorem add_same_n (nx ny : Bool) (dx dy d : List Nat) (w : World) (hx : dx.length = 20) (hy : dy.length = 20) (hd : d.length = 20) (hs : nx = ny) (hc : ∀ w, Calls Tryz.prog 165 #[.agg (bigC nx dx), .agg (bigC ny dy)] w (RetB false d w))
  (hz : (d == zeros) = false) : Calls Tryz.prog 158 #[.agg (bigC nx dx), .agg (bigC ny dy)] w (RetB nx d w) := by
 have IX := Lib.hid (big_info nx dx hx)
 have IY := Lib.hid (big_info ny dy hy)
 have IDf := Lib.hid (big_info false d hd)
 have IDs := Lib.hid (big_info nx d hd)
 have SD := Lib.hid (big_same false false zeros d rfl hd)
 have SR := Lib.hid (big_same false nx zeros d rfl hd)
 have NN := Lib.hid (fun w => none_any nx d w hd)
 have HZ := Lib.hid hz
 have I0 := addI0 nx ny dx dy w
 have BX := Lib.hid I0.bx
 have BY := Lib.hid I0.by0
 obtain ⟨g0, g1, g2, g3⟩ := I0.heads
 have HI0 := Lib.hid I0
 have hzr : bigC false zeros = #[.bool false, .int .u64 0, .int .u64 0, .int .u64 0, .int .u64 0, .int .u64 0, .int .u64 0, .int .u64 0, .int .u64 0, .int .u64 0, .int .u64 0, .int .u64 0, .int .u64 0, .int .u64 0, .int .u64 0, .int .u64 0, .int .u64 0, .int .u64 0, .int .u64 0, .int .u64 0, .int .u64 0] := rfl
 rw [hzr] at g0 g1 g2 g3
 clear I0 hx hy hd hz hzr
 have HC := Lib.hid hc
 have hs1 : (nx == ny) = true := by simp [hs]
 clear hc hs
 go_enter Tryz.func158, Tryz.ntmps158
 go_wp2_with (first | (refine wpList_load_row rfl 214 (.tmp 2) rfl w.heap.size rfl _ _ _ _ BX.out Tryz.underlying214 rfl IX.out ?_) | (refine wpList_load_row rfl 214 (.tmp 3) rfl (w.heap.size + 1) rfl _ _ _ _ BY.out Tryz.underlying214 rfl IY.out ?_))
 refine (HC.out _).mono ?_
 rintro e w1 ⟨rfl, hb⟩
 have I1 := HI0.out.up hb
 have B1 := Lib.hid I1.bz
 have I2 := I1.row false d
 have I3 := I2.sign nx
 obtain ⟨m0, m1, m2, m3⟩ := I2.heads
 have B3 := Lib.hid I3.bz
 have HI3 := Lib.hid I3
 clear I1 I2 I3 hb g0 g1 g2 g3
 go_wp2_with (first | (refine wpList_store_big rfl 214 (.tmp 5) (.tmp 20) rfl (w.heap.size + 1 + 1 + 1) _ _ (bigC false d) rfl rfl B1.out IDf.out SD.out (big_one _ _) ?_) | (refine wpList_load_row rfl 214 (.tmp 5) rfl (w.heap.size + 1 + 1 + 1) rfl _ _ _ _ B3.out Tryz.underlying214 rfl IDs.out ?_))
 refine (NN.out _).mono ?_
 rintro e w4 ⟨rfl, hb4⟩
 rw [HZ.out]
 have I4 := HI3.out.up hb4
 have I5 := I4
 have B5 := Lib.hid I5.bz
 have R5 := Lib.hid I5.br
 have L5 := Lib.hid I5.below
 clear I4 I5 hb4 m0 m1 m2 m3
 go_wp2_with (first | (refine wpList_load_row rfl 214 (.tmp 5) rfl (w.heap.size + 1 + 1 + 1) rfl _ _ _ _ B5.out Tryz.underlying214 rfl IDs.out ?_) | (refine wpList_store_big rfl 214 (.tmp 4) (.tmp 37) rfl (w.heap.size + 1 + 1) _ _ (bigC nx d) rfl rfl R5.out IDs.out SR.out (big_one _ _) ?_))
 refine bodyPost_ret (v := .agg (bigC nx d)) (results_cell_row rfl _ _ (w.heap.size + 1 + 1) _ _ _ _ rfl (setRow_heap _ _ _ _ _ _ R5.out) Tryz.underlying214 rfl IDs.out) rfl ?_
 exact ⟨rfl, Below.row L5.out (by omega) _⟩
set_option maxRecDepth 100000 in
set_option maxHeartbeats 4000000 in
theorem add_lt (nx ny : Bool) (dx dy d : List Nat) (w : World) (hx : dx.length = 20) (hy : dy.length = 20) (hd : d.length = 20) (hs : (nx == ny) = false) (hl : ∀ w, Calls Tryz.prog 166 #[.agg (bigC nx dx), .agg (bigC ny dy)] w fun e w' => e = .returned (.bool true) ∧ Below w.heap.size w w') (hc : ∀ w, Calls Tryz.prog 167 #[.agg (bigC ny dy), .agg (bigC nx dx)] w (RetB false d w))
  (hz : (d == zeros) = false) : Calls Tryz.prog 158 #[.agg (bigC nx dx), .agg (bigC ny dy)] w (RetB ny d w) := by
 have IX := Lib.hid (big_info nx dx hx)
 have IY := Lib.hid (big_info ny dy hy)
 have IDf := Lib.hid (big_info false d hd)
 have IDs := Lib.hid (big_info ny d hd)
 have SD := Lib.hid (big_same false false zeros d rfl hd)
 have SR := Lib.hid (big_same false ny zeros d rfl hd)
 have NN := Lib.hid (fun w => none_any ny d w hd)
 have HZ := Lib.hid hz
 have I0 := addI0 nx ny dx dy w
 have BX := Lib.hid I0.bx
 have BY := Lib.hid I0.by0
 obtain ⟨g0, g1, g2, g3⟩ := I0.heads
 have HI0 := Lib.hid I0
 have hzr : bigC false zeros = #[.bool false, .int .u64 0, .int .u64 0, .int .u64 0, .int .u64 0, .int .u64 0, .int .u64 0, .int .u64 0, .int .u64 0, .int .u64 0, .int .u64 0, .int .u64 0, .int .u64 0, .int .u64 0, .int .u64 0, .int .u64 0, .int .u64 0, .int .u64 0, .int .u64 0, .int .u64 0, .int .u64 0] := rfl
 rw [hzr] at g0 g1 g2 g3
 clear I0 hx hy hd hz hzr
 have HC := Lib.hid hc
 have HL := Lib.hid hl
 clear hc hl
 go_enter Tryz.func158, Tryz.ntmps158
 go_wp2_with (first | (refine wpList_load_row rfl 214 (.tmp 2) rfl w.heap.size rfl _ _ _ _ BX.out Tryz.underlying214 rfl IX.out ?_) | (refine wpList_load_row rfl 214 (.tmp 3) rfl (w.heap.size + 1) rfl _ _ _ _ BY.out Tryz.underlying214 rfl IY.out ?_))
 refine (HL.out _).mono ?_
 rintro e w0 ⟨rfl, hb0⟩
 have I0 := HI0.out.up hb0
 have BX' := Lib.hid I0.bx
 have BY' := Lib.hid I0.by0
 clear HI0
 have HI0 := Lib.hid I0
 clear I0 hb0 g0 g1 g2 g3
 go_wp2_with (first | (refine wpList_load_row rfl 214 (.tmp 2) rfl w.heap.size rfl _ _ _ _ BX'.out Tryz.underlying214 rfl IX.out ?_) | (refine wpList_load_row rfl 214 (.tmp 3) rfl (w.heap.size + 1) rfl _ _ _ _ BY'.out Tryz.underlying214 rfl IY.out ?_))
 refine (HC.out _).mono ?_
 rintro e w1 ⟨rfl, hb⟩
 have I1 := HI0.out.up hb
 have B1 := Lib.hid I1.bz
 have I2 := I1.row false d
 have I3 := I2.sign ny
 obtain ⟨m0, m1, m2, m3⟩ := I2.heads
 have B3 := Lib.hid I3.bz
 have HI3 := Lib.hid I3
 clear I1 I2 I3 hb
 go_wp2_with (first | (refine wpList_store_big rfl 214 (.tmp 5) (.tmp 30) rfl (w.heap.size + 1 + 1 + 1) _ _ (bigC false d) rfl rfl B1.out IDf.out SD.out (big_one _ _) ?_) | (refine wpList_load_row rfl 214 (.tmp 5) rfl (w.heap.size + 1 + 1 + 1) rfl _ _ _ _ B3.out Tryz.underlying214 rfl IDs.out ?_))
 refine (NN.out _).mono ?_
 rintro e w4 ⟨rfl, hb4⟩
 rw [HZ.out]
 have I4 := HI3.out.up hb4
 have I5 := I4
 have B5 := Lib.hid I5.bz
 have R5 := Lib.hid I5.br
 have L5 := Lib.hid I5.below
 clear I4 I5 hb4 m0 m1 m2 m3
 go_wp2_with (first | (refine wpList_load_row rfl 214 (.tmp 5) rfl (w.heap.size + 1 + 1 + 1) rfl _ _ _ _ B5.out Tryz.underlying214 rfl IDs.out ?_) | (refine wpList_store_big rfl 214 (.tmp 4) (.tmp 37) rfl (w.heap.size + 1 + 1) _ _ (bigC ny d) rfl rfl R5.out IDs.out SR.out (big_one _ _) ?_))
 refine bodyPost_ret (v := .agg (bigC ny d)) (results_cell_row rfl _ _ (w.heap.size + 1 + 1) _ _ _ _ rfl (setRow_heap _ _ _ _ _ _ R5.out) Tryz.underlying214 rfl IDs.out) rfl ?_
 exact ⟨rfl, Below.row L5.out (by omega) _⟩
set_option maxRecDepth 100000 in
set_option maxHeartbeats 4000000 in
theorem add_gt (nx ny : Bool) (dx dy d : List Nat) (w : World) (hx : dx.length = 20) (hy : dy.length = 20) (hd : d.length = 20) (hs : (nx == ny) = false) (hl : ∀ w, Calls Tryz.prog 166 #[.agg (bigC nx dx), .agg (bigC ny dy)] w fun e w' => e = .returned (.bool false) ∧ Below w.heap.size w w') (hc : ∀ w, Calls Tryz.prog 167 #[.agg (bigC nx dx), .agg (bigC ny dy)] w (RetB false d w))
  (hz : (d == zeros) = false) : Calls Tryz.prog 158 #[.agg (bigC nx dx), .agg (bigC ny dy)] w (RetB nx d w) := by
 have IX := Lib.hid (big_info nx dx hx)
 have IY := Lib.hid (big_info ny dy hy)
 have IDf := Lib.hid (big_info false d hd)
 have IDs := Lib.hid (big_info nx d hd)
 have SD := Lib.hid (big_same false false zeros d rfl hd)
 have SR := Lib.hid (big_same false nx zeros d rfl hd)
 have NN := Lib.hid (fun w => none_any nx d w hd)
 have HZ := Lib.hid hz
 have I0 := addI0 nx ny dx dy w
 have BX := Lib.hid I0.bx
 have BY := Lib.hid I0.by0
 obtain ⟨g0, g1, g2, g3⟩ := I0.heads
 have HI0 := Lib.hid I0
 have hzr : bigC false zeros = #[.bool false, .int .u64 0, .int .u64 0, .int .u64 0, .int .u64 0, .int .u64 0, .int .u64 0, .int .u64 0, .int .u64 0, .int .u64 0, .int .u64 0, .int .u64 0, .int .u64 0, .int .u64 0, .int .u64 0, .int .u64 0, .int .u64 0, .int .u64 0, .int .u64 0, .int .u64 0, .int .u64 0] := rfl
 rw [hzr] at g0 g1 g2 g3
 clear I0 hx hy hd hz hzr
 have HC := Lib.hid hc
 have HL := Lib.hid hl
 clear hc hl
 go_enter Tryz.func158, Tryz.ntmps158
 go_wp2_with (first | (refine wpList_load_row rfl 214 (.tmp 2) rfl w.heap.size rfl _ _ _ _ BX.out Tryz.underlying214 rfl IX.out ?_) | (refine wpList_load_row rfl 214 (.tmp 3) rfl (w.heap.size + 1) rfl _ _ _ _ BY.out Tryz.underlying214 rfl IY.out ?_))
 refine (HL.out _).mono ?_
 rintro e w0 ⟨rfl, hb0⟩
 have I0 := HI0.out.up hb0
 have BX' := Lib.hid I0.bx
 have BY' := Lib.hid I0.by0
 clear HI0
 have HI0 := Lib.hid I0
 clear I0 hb0 g0 g1 g2 g3
 go_wp2_with (first | (refine wpList_load_row rfl 214 (.tmp 2) rfl w.heap.size rfl _ _ _ _ BX'.out Tryz.underlying214 rfl IX.out ?_) | (refine wpList_load_row rfl 214 (.tmp 3) rfl (w.heap.size + 1) rfl _ _ _ _ BY'.out Tryz.underlying214 rfl IY.out ?_))
 refine (HC.out _).mono ?_
 rintro e w1 ⟨rfl, hb⟩
 have I1 := HI0.out.up hb
 have B1 := Lib.hid I1.bz
 have I2 := I1.row false d
 have I3 := I2.sign nx
 obtain ⟨m0, m1, m2, m3⟩ := I2.heads
 have B3 := Lib.hid I3.bz
 have HI3 := Lib.hid I3
 clear I1 I2 I3 hb
 go_wp2_with (first | (refine wpList_store_big rfl 214 (.tmp 5) (.tmp 8) rfl (w.heap.size + 1 + 1 + 1) _ _ (bigC false d) rfl rfl B1.out IDf.out SD.out (big_one _ _) ?_) | (refine wpList_load_row rfl 214 (.tmp 5) rfl (w.heap.size + 1 + 1 + 1) rfl _ _ _ _ B3.out Tryz.underlying214 rfl IDs.out ?_))
 refine (NN.out _).mono ?_
 rintro e w4 ⟨rfl, hb4⟩
 rw [HZ.out]
 have I4 := HI3.out.up hb4
 have I5 := I4
 have B5 := Lib.hid I5.bz
 have R5 := Lib.hid I5.br
 have L5 := Lib.hid I5.below
 clear I4 I5 hb4 m0 m1 m2 m3
 go_wp2_with (first | (refine wpList_load_row rfl 214 (.tmp 5) rfl (w.heap.size + 1 + 1 + 1) rfl _ _ _ _ B5.out Tryz.underlying214 rfl IDs.out ?_) | (refine wpList_store_big rfl 214 (.tmp 4) (.tmp 37) rfl (w.heap.size + 1 + 1) _ _ (bigC nx d) rfl rfl R5.out IDs.out SR.out (big_one _ _) ?_))
 refine bodyPost_ret (v := .agg (bigC nx d)) (results_cell_row rfl _ _ (w.heap.size + 1 + 1) _ _ _ _ rfl (setRow_heap _ _ _ _ _ _ R5.out) Tryz.underlying214 rfl IDs.out) rfl ?_
 exact ⟨rfl, Below.row L5.out (by omega) _⟩
set_option maxRecDepth 100000 in
set_option maxHeartbeats 4000000 in
theorem add_eq (nx ny : Bool) (dx dy d : List Nat) (w : World) (hx : dx.length = 20) (hy : dy.length = 20) (hd : d.length = 20) (hs : (nx == ny) = false) (hl : ∀ w, Calls Tryz.prog 166 #[.agg (bigC nx dx), .agg (bigC ny dy)] w fun e w' => e = .returned (.bool false) ∧ Below w.heap.size w w') (hc : ∀ w, Calls Tryz.prog 167 #[.agg (bigC nx dx), .agg (bigC ny dy)] w (RetB false d w))
  (hz : (d == zeros) = true) : Calls Tryz.prog 158 #[.agg (bigC nx dx), .agg (bigC ny dy)] w (RetB false d w) := by
 have IX := Lib.hid (big_info nx dx hx)
 have IY := Lib.hid (big_info ny dy hy)
 have IDf := Lib.hid (big_info false d hd)
 have IDs := Lib.hid (big_info nx d hd)
 have SD := Lib.hid (big_same false false zeros d rfl hd)
 have SR := Lib.hid (big_same false false zeros d rfl hd)
 have NN := Lib.hid (fun w => none_any nx d w hd)
 have HZ := Lib.hid hz
 have I0 := addI0 nx ny dx dy w
 have BX := Lib.hid I0.bx
 have BY := Lib.hid I0.by0
 obtain ⟨g0, g1, g2, g3⟩ := I0.heads
 have HI0 := Lib.hid I0
 have hzr : bigC false zeros = #[.bool false, .int .u64 0, .int .u64 0, .int .u64 0, .int .u64 0, .int .u64 0, .int .u64 0, .int .u64 0, .int .u64 0, .int .u64 0, .int .u64 0, .int .u64 0, .int .u64 0, .int .u64 0, .int .u64 0, .int .u64 0, .int .u64 0, .int .u64 0, .int .u64 0, .int .u64 0, .int .u64 0] := rfl
 rw [hzr] at g0 g1 g2 g3
 clear I0 hx hy hd hz hzr
 have HC := Lib.hid hc
 have HL := Lib.hid hl
 clear hc hl
 go_enter Tryz.func158, Tryz.ntmps158
 go_wp2_with (first | (refine wpList_load_row rfl 214 (.tmp 2) rfl w.heap.size rfl _ _ _ _ BX.out Tryz.underlying214 rfl IX.out ?_) | (refine wpList_load_row rfl 214 (.tmp 3) rfl (w.heap.size + 1) rfl _ _ _ _ BY.out Tryz.underlying214 rfl IY.out ?_))
 refine (HL.out _).mono ?_
 rintro e w0 ⟨rfl, hb0⟩
 have I0 := HI0.out.up hb0
 have BX' := Lib.hid I0.bx
 have BY' := Lib.hid I0.by0
 clear HI0
 have HI0 := Lib.hid I0
 clear I0 hb0 g0 g1 g2 g3
 go_wp2_with (first | (refine wpList_load_row rfl 214 (.tmp 2) rfl w.heap.size rfl _ _ _ _ BX'.out Tryz.underlying214 rfl IX.out ?_) | (refine wpList_load_row rfl 214 (.tmp 3) rfl (w.heap.size + 1) rfl _ _ _ _ BY'.out Tryz.underlying214 rfl IY.out ?_))
 refine (HC.out _).mono ?_
 rintro e w1 ⟨rfl, hb⟩
 have I1 := HI0.out.up hb
 have B1 := Lib.hid I1.bz
 have I2 := I1.row false d
 have I3 := I2.sign nx
 obtain ⟨m0, m1, m2, m3⟩ := I2.heads
 have B3 := Lib.hid I3.bz
 have HI3 := Lib.hid I3
 clear I1 I2 I3 hb
 go_wp2_with (first | (refine wpList_store_big rfl 214 (.tmp 5) (.tmp 8) rfl (w.heap.size + 1 + 1 + 1) _ _ (bigC false d) rfl rfl B1.out IDf.out SD.out (big_one _ _) ?_) | (refine wpList_load_row rfl 214 (.tmp 5) rfl (w.heap.size + 1 + 1 + 1) rfl _ _ _ _ B3.out Tryz.underlying214 rfl IDs.out ?_))
 refine (NN.out _).mono ?_
 rintro e w4 ⟨rfl, hb4⟩
 rw [HZ.out]
 have I4 := HI3.out.up hb4
 have I5 := I4.sign false
 obtain ⟨n0, n1, n2, n3⟩ := I4.heads
 have B5 := Lib.hid I5.bz
 have R5 := Lib.hid I5.br
 have L5 := Lib.hid I5.below
 clear I4 I5 hb4 m0 m1 m2 m3
 go_wp2_with (first | (refine wpList_load_row rfl 214 (.tmp 5) rfl (w.heap.size + 1 + 1 + 1) rfl _ _ _ _ B5.out Tryz.underlying214 rfl IDf.out ?_) | (refine wpList_store_big rfl 214 (.tmp 4) (.tmp 37) rfl (w.heap.size + 1 + 1) _ _ (bigC false d) rfl rfl R5.out IDf.out SR.out (big_one _ _) ?_))
 refine bodyPost_ret (v := .agg (bigC false d)) (results_cell_row rfl _ _ (w.heap.size + 1 + 1) _ _ _ _ rfl (setRow_heap _ _ _ _ _ _ R5.out) Tryz.underlying214 rfl IDf.out) rfl ?_
 exact ⟨rfl, Below.row L5.out (by omega) _⟩
theorem add_z (x y : Int) (w : World) (h : x.natAbs + y.natAbs < BB) : Calls Tryz.prog 158 #[.agg (bv x), .agg (bv y)] w (RetZ (x + y) w) := by
 have hx : x.natAbs < BB := by omega
 have hy : y.natAbs < BB := by omega
 have key : ∀ (n : Bool) (d : List Nat), n = decide (x + y < 0) → d = dg (x + y).natAbs → Calls Tryz.prog 158 #[.agg (bv x), .agg (bv y)] w (RetB n d w) → Calls Tryz.prog 158 #[.agg (bv x), .agg (bv y)] w (RetZ (x + y) w) := by
  intro n d h1 h2 hc
  refine hc.mono ?_
  rintro e w' ⟨rfl, hb⟩
  exact ⟨by rw [bv_eq h1 h2], hb⟩
 have L := fun w => less_big (decide (x < 0)) (decide (y < 0)) (dg x.natAbs) (dg y.natAbs) w (dg_len _) (dg_len _)
 rw [less_dg hx hy] at L
 by_cases hs : decide (x < 0) = decide (y < 0)
 ·have hs' := decide_eq_decide.1 hs
  have hab : (x + y).natAbs = x.natAbs + y.natAbs := by omega
  have hc := fun w => more_any (decide (x < 0)) (decide (y < 0)) (dg x.natAbs) (dg y.natAbs) w (dg_dg _) (dg_dg _)
  rw [add_dg] at hc
  by_cases hz : x.natAbs + y.natAbs = 0
  ·exact key false (dg (x.natAbs + y.natAbs)) (by rw [eq_comm, decide_eq_false_iff_not]; omega) (by rw [hab]) (add_same_z _ _ _ _ _ w (dg_len _) (dg_len _) (dg_len _) hs hc (by rw [dg_zero h, hz]; rfl))
  ·exact key (decide (x < 0)) (dg (x.natAbs + y.natAbs)) (by rw [decide_eq_decide]; omega) (by rw [hab]) (add_same_n _ _ _ _ _ w (dg_len _) (dg_len _) (dg_len _) hs hc (by rw [dg_zero h, decide_eq_false hz]))
 ·have hs2 : (decide (x < 0) == decide (y < 0)) = false := by simpa using hs
  have hs' : ¬ (x < 0 ↔ y < 0) := fun e => hs (decide_eq_decide.2 e)
  by_cases hl : x.natAbs < y.natAbs
  ·rw [decide_eq_true hl] at L
   have hc := fun w => away_any (decide (y < 0)) (decide (x < 0)) (dg y.natAbs) (dg x.natAbs) w (dg_dg _) (dg_dg _)
   rw [sub_dg (by omega)] at hc
   exact key (decide (y < 0)) (dg (y.natAbs - x.natAbs)) (by rw [decide_eq_decide]; omega) (by congr 1; omega) (add_lt _ _ _ _ _ w (dg_len _) (dg_len _) (dg_len _) hs2 L hc (by rw [dg_zero (by omega), decide_eq_false (by omega)]))
  ·rw [decide_eq_false hl] at L
   have hc := fun w => away_any (decide (x < 0)) (decide (y < 0)) (dg x.natAbs) (dg y.natAbs) w (dg_dg _) (dg_dg _)
   rw [sub_dg (by omega)] at hc
   by_cases hz : x.natAbs - y.natAbs = 0
   ·exact key false (dg (x.natAbs - y.natAbs)) (by rw [eq_comm, decide_eq_false_iff_not]; omega) (by congr 1; omega) (add_eq _ _ _ _ _ w (dg_len _) (dg_len _) (dg_len _) hs2 L hc (by rw [dg_zero (by omega), hz]; rfl))
   ·exact key (decide (x < 0)) (dg (x.natAbs - y.natAbs)) (by rw [decide_eq_decide]; omega) (by congr 1; omega) (add_gt _ _ _ _ _ w (dg_len _) (dg_len _) (dg_len _) hs2 L hc (by rw [dg_zero (by omega), decide_eq_false hz]))
end Go.Proofs.YtbbhmhihpdmoiaaGreat.Fx

set_option linter.unusedVariables false
set_option linter.unusedSimpArgs false
namespace Go.Proofs.YtbbhmhihpdmoiaaGreat.Fx
open Go Go.RowKit Wm
theorem wpList_build_to {P : Program} {ops : Array Oper} {rest : List Oper} {o : Oper} {a : Act} {w : World} {Q : Exit → Act → World → Prop} (hg : o.guard = none) (t : TypeId) (parts : Array (Nat × Operand)) (ho : o.op = .build t parts)
  (cells : Array Value) (hb : P.built t (parts.map fun (i, x) => (i, a.eval x)).toList = some cells) (h : wpList P ops Q rest (a.put o.dst (.agg cells)) w) : wpList P ops Q (o :: rest) a w :=
 wpList_build hg t parts ho (by rw [hb]; rfl) (by rw [hb]; exact h)
theorem wpList_store_new {P : Program} {ops : Array Oper} {rest : List Oper} {op : Oper} {a : Act} {w : World} {Q : Exit → Act → World → Prop} (hgd : op.guard = none) (ty : TypeId) (x y : Operand) (ho : op.op = .store ty x y)
  (g : Nat) (t : TypeId) (c c' : Array Value) (hx : a.eval x = .pointer (some ⟨g, 0, none⟩)) (hg : w.heap.size = g) (hy : a.eval y = .agg c')
  (hi : (P.info? ty).map (·.size) = some c'.size) (hs : c.size = c'.size) (h1 : c'.all (·.oneCell') = true)
  (h : wpList P ops Q rest (a.put op.dst undef) (w.alloc (.cells c' t))) : wpList P ops Q (op :: rest) a (w.alloc (.cells c t)) := by
 subst hg
 refine wpList_store_big hgd ty x y ho w.heap.size t c c' hx hy (heap_alloc_new _ _) hi hs h1 ?_
 rw [World.setRow_alloc_new]
 exact h
theorem dgF_snoc : ∀ (k n : Nat), dgF (k + 1) n = dgF k n ++ [n / 65536 ^ k % 65536]
 | 0, n => by simp [dgF]
 | k + 1, n => by
  rw [dgF, dgF_snoc k, dgF, List.cons_append, Nat.div_div_eq_div_mul, Nat.pow_succ 65536 k, Nat.mul_comm]
theorem dgF_zero : ∀ k, dgF k 0 = List.replicate k 0
 | 0 => rfl
 | k + 1 => by rw [dgF, dgF_zero k]; rfl
theorem dgF_app : ∀ (k j n : Nat), dgF (k + j) n = dgF k n ++ dgF j (n / 65536 ^ k)
 | 0, j, n => by simp [dgF]
 | k + 1, j, n => by
  rw [show k + 1 + j = (k + j) + 1 by omega, dgF, dgF_app k, dgF, List.cons_append, Nat.div_div_eq_div_mul, Nat.pow_succ 65536 k, Nat.mul_comm]
theorem pad_dgF {k n : Nat} (hk : k ≤ 20) (h : n < 65536 ^ k) : pad (dgF k n) = dg n := by
 unfold pad dg
 rw [dgF_len, show 20 = k + (20 - k) by omega, dgF_app k, Nat.div_eq_of_lt h, dgF_zero, show k + (20 - k) - k = 20 - k by omega]
structure OfI (neg : Bool) (p : List Nat) (R Z : Nat) (w W : World) : Prop where
 br : W.heap[R]? = some (.cells (bigC false zeros) 214 (0, 0))
 bz : W.heap[Z]? = some (.cells (bigC neg (pad p)) 214 (0, 0))
 ne : R ≠ Z
 wz : w.heap.size ≤ Z
 below : Below w.heap.size w W
theorem OfI.next {neg : Bool} {p : List Nat} {R Z : Nat} {w W : World} (h : OfI neg p R Z w W) (v : Nat) (hp : p.length < 20) : OfI neg (p ++ [v]) R Z w (W.setCell ⟨Z, 1 + p.length, none⟩ (.int .u64 (v : Int))) := by
 have hn := h.ne
 refine ⟨?_, ?_, hn, h.wz, h.below.setCell (p := ⟨Z, 1 + p.length, none⟩) h.wz _⟩
 ·rw [heap_setCell_other _ _ _ _ (by show R ≠ Z; exact hn)]; exact h.br
 ·rw [heap_setCell_same _ _ _ _ _ _ h.bz, pad_put p v neg hp]
def OfRel (neg : Bool) (u : Nat) (w : World) (g : Nat) (s4 s5 : Value) (W : World) : Prop :=
 ∃ k : Nat, g = 4 - k ∧ s4 = .int .u64 ((u / 65536 ^ k : Nat) : Int) ∧ s5 = .int .i64 (k : Int) ∧ k ≤ 4 ∧ OfI neg (dgF k u) w.heap.size (w.heap.size + 1) w W
set_option maxRecDepth 100000 in
set_option maxHeartbeats 4000000 in
theorem of_walk_true (n : Int) (u A V C : Nat) (B4 : Int) (w : World) (hB4 : Hid (B4 = 18446744073709551615)) (h1 : IntKind.u64.wrap n = (A : Int)) (hu : Hid (u < 18446744073709551616))
  (hn : n < 0) (e2 : IntKind.u64.wrap (18446744073709551615 - (A : Int)) = (V : Int)) (e3 : IntKind.u64.wrap ((V : Int) + 1) = (u : Int)) (HU : Hid (pad (dgF 4 u) = dg u)) :
  Calls Tryz.prog 156 #[.int .i64 n] w (RetB true (dg u) w) := by
 have HUU := hu
 have HI := Lib.hid (big_info true (dg u) (dg_len u))
 have HS := Lib.hid (big_same false true zeros (dg u) rfl (dg_len u))
 have HI0 : Hid (OfI true (dgF 0 u) w.heap.size (w.heap.size + 1) w ((w.alloc (.cells (bigC false zeros) 214)).alloc (.cells (bigC true zeros) 214))) :=
  Lib.hid ⟨step_row (heap_alloc_new _ _), heap_alloc2_new _ _ _, by omega, by omega, by go_grown⟩
 skip
 go_enter Tryz.func156, Tryz.ntmps156
 go_wp2_with (first | (refine wpList_build_to rfl 214 #[(0, .tmp 7)] rfl (bigC true zeros) (by kernel_rfl) ?_) | (refine wpList_store_new rfl 214 (.tmp 3) (.tmp 8) rfl (w.heap.size + 1) _ _ (bigC true zeros) rfl (by simp) rfl (big_info _ _ rfl) rfl (big_one _ _) ?_))
 go_loopg [4, 5] 4 (OfRel true u w)
 case atStart => exact ⟨0, rfl, by simp, rfl, by omega, HI0.out⟩
 case round =>
  clear HI0
  obtain ⟨k, rfl, rfl, rfl, hk4, I⟩ := hrel
  by_cases hk : k < 4
  ·have hpl : (dgF k u).length = k := dgF_len k u
   have cz : wr.cell? ⟨w.heap.size + 1, 1 + k, none⟩ = some (.int .u64 (((pad (dgF k u)).getD k 0 : Nat) : Int)) := by rw [cell_of_row _ _ _ _ _ _ I.bz, big_at _ _ _ (by rw [pad_len _ (by rw [hpl]; omega)]; omega)]
   have fz : wr.frozen? ⟨w.heap.size + 1, 1 + k, none⟩ = false := frozen_row I.bz
   have k0 : (0 : Int) ≤ (k : Int) := by omega
   have k1 : (k : Int) < 4 := by omega
   have k2 : (k : Int) < 20 := by omega
   obtain ⟨q, hq⟩ : ∃ q, u / 65536 ^ k = q := ⟨_, rfl⟩
   have hq64 : q < 18446744073709551616 := by rw [← hq]; exact Nat.lt_of_le_of_lt (Nat.div_le_self _ _) HUU.out
   have HQ := Lib.hid hq64
   clear hq64
   have hsn : dgF (k + 1) u = dgF k u ++ [q % 65536] := by rw [dgF_snoc, hq]
   have hdv : u / 65536 ^ (k + 1) = q / 65536 := by rw [Nat.pow_succ, ← Nat.div_div_eq_div_mul, hq]
   have I2 := I.next (q % 65536) (by rw [hpl]; omega)
   rw [hpl, ← hsn] at I2
   have HI2 := Lib.hid I2
   have HDV := Lib.hid hdv
   rw [hq]
   clear I I2 hq hsn hdv hpl
   go_wp2_with fail
   go_roundg (4 - (k + 1))
   case measure => omega
   case rel =>
    refine ⟨k + 1, rfl, ?_, by go_num, by omega, ?_⟩
    ·rw [HDV.out]
     have := HQ.out
     congr 1
     rw [IntKind.wrap_u64]
     omega
    ·have := HI2.out
     simpa using this
  ·have hke : k = 4 := by omega
   subst hke
   have bz := I.bz
   rw [HU.out] at bz
   have BZ := Lib.hid bz
   have BR := Lib.hid I.br
   have BL := Lib.hid I.below
   clear I bz
   go_wp2_with (first | (refine wpList_load_row rfl 214 (.tmp 3) rfl (w.heap.size + 1) rfl _ _ _ _ BZ.out Tryz.underlying214 rfl HI.out ?_) | (refine wpList_store_big rfl 214 (.tmp 2) (.tmp 27) rfl w.heap.size _ _ (bigC true (dg u)) rfl rfl BR.out HI.out HS.out (big_one _ _) ?_))
   refine bodyPost_ret (v := .agg (bigC true (dg u))) (results_cell_row rfl _ _ w.heap.size _ _ _ _ rfl (setRow_heap _ _ _ _ _ _ BR.out) Tryz.underlying214 rfl HI.out) rfl ?_
   exact ⟨rfl, Below.row BL.out (Nat.le_refl _) _⟩
set_option maxRecDepth 100000 in
set_option maxHeartbeats 4000000 in
theorem of_walk_false (n : Int) (u A V C : Nat) (B4 : Int) (w : World) (hB4 : Hid (B4 = 18446744073709551615)) (h1 : IntKind.u64.wrap n = (A : Int)) (hu : Hid (A < 18446744073709551616))
  (hn : 0 ≤ n) (HU : Hid (pad (dgF 4 A) = dg A)) :
  Calls Tryz.prog 156 #[.int .i64 n] w (RetB false (dg A) w) := by
 have HUU := hu
 have HI := Lib.hid (big_info false (dg A) (dg_len A))
 have HS := Lib.hid (big_same false false zeros (dg A) rfl (dg_len A))
 have HI0 : Hid (OfI false (dgF 0 A) w.heap.size (w.heap.size + 1) w ((w.alloc (.cells (bigC false zeros) 214)).alloc (.cells (bigC false zeros) 214))) :=
  Lib.hid ⟨step_row (heap_alloc_new _ _), heap_alloc2_new _ _ _, by omega, by omega, by go_grown⟩
 have t2 : ¬ n < 0 := by omega
 go_enter Tryz.func156, Tryz.ntmps156
 go_wp2_with (first | (refine wpList_build_to rfl 214 #[(0, .tmp 7)] rfl (bigC false zeros) (by kernel_rfl) ?_) | (refine wpList_store_new rfl 214 (.tmp 3) (.tmp 8) rfl (w.heap.size + 1) _ _ (bigC false zeros) rfl (by simp) rfl (big_info _ _ rfl) rfl (big_one _ _) ?_))
 go_loopg [4, 5] 4 (OfRel false A w)
 case atStart => exact ⟨0, rfl, by simp, rfl, by omega, HI0.out⟩
 case round =>
  clear HI0
  obtain ⟨k, rfl, rfl, rfl, hk4, I⟩ := hrel
  by_cases hk : k < 4
  ·have hpl : (dgF k A).length = k := dgF_len k A
   have cz : wr.cell? ⟨w.heap.size + 1, 1 + k, none⟩ = some (.int .u64 (((pad (dgF k A)).getD k 0 : Nat) : Int)) := by rw [cell_of_row _ _ _ _ _ _ I.bz, big_at _ _ _ (by rw [pad_len _ (by rw [hpl]; omega)]; omega)]
   have fz : wr.frozen? ⟨w.heap.size + 1, 1 + k, none⟩ = false := frozen_row I.bz
   have k0 : (0 : Int) ≤ (k : Int) := by omega
   have k1 : (k : Int) < 4 := by omega
   have k2 : (k : Int) < 20 := by omega
   obtain ⟨q, hq⟩ : ∃ q, A / 65536 ^ k = q := ⟨_, rfl⟩
   have hq64 : q < 18446744073709551616 := by rw [← hq]; exact Nat.lt_of_le_of_lt (Nat.div_le_self _ _) HUU.out
   have HQ := Lib.hid hq64
   clear hq64
   have hsn : dgF (k + 1) A = dgF k A ++ [q % 65536] := by rw [dgF_snoc, hq]
   have hdv : A / 65536 ^ (k + 1) = q / 65536 := by rw [Nat.pow_succ, ← Nat.div_div_eq_div_mul, hq]
   have I2 := I.next (q % 65536) (by rw [hpl]; omega)
   rw [hpl, ← hsn] at I2
   have HI2 := Lib.hid I2
   have HDV := Lib.hid hdv
   rw [hq]
   clear I I2 hq hsn hdv hpl
   go_wp2_with fail
   go_roundg (4 - (k + 1))
   case measure => omega
   case rel =>
    refine ⟨k + 1, rfl, ?_, by go_num, by omega, ?_⟩
    ·rw [HDV.out]
     have := HQ.out
     congr 1
     rw [IntKind.wrap_u64]
     omega
    ·have := HI2.out
     simpa using this
  ·have hke : k = 4 := by omega
   subst hke
   have bz := I.bz
   rw [HU.out] at bz
   have BZ := Lib.hid bz
   have BR := Lib.hid I.br
   have BL := Lib.hid I.below
   clear I bz
   go_wp2_with (first | (refine wpList_load_row rfl 214 (.tmp 3) rfl (w.heap.size + 1) rfl _ _ _ _ BZ.out Tryz.underlying214 rfl HI.out ?_) | (refine wpList_store_big rfl 214 (.tmp 2) (.tmp 27) rfl w.heap.size _ _ (bigC false (dg A)) rfl rfl BR.out HI.out HS.out (big_one _ _) ?_))
   refine bodyPost_ret (v := .agg (bigC false (dg A))) (results_cell_row rfl _ _ w.heap.size _ _ _ _ rfl (setRow_heap _ _ _ _ _ _ BR.out) Tryz.underlying214 rfl HI.out) rfl ?_
   exact ⟨rfl, Below.row BL.out (Nat.le_refl _) _⟩
theorem of_z (n : Int) (w : World) (h0 : -9223372036854775808 ≤ n) (h1 : n ≤ 9223372036854775807) : Calls Tryz.prog 156 #[.int .i64 n] w (RetZ n w) := by
 by_cases hn : n < 0
 ·have hu : n.natAbs < 18446744073709551616 := by omega
  have := of_walk_true n n.natAbs (n + 18446744073709551616).toNat (-n - 1).toNat 0 _ w (Lib.hid rfl) (by rw [IntKind.wrap_u64]; omega) (Lib.hid hu) hn (by rw [IntKind.wrap_u64]; omega) (by rw [IntKind.wrap_u64]; omega) (Lib.hid (pad_dgF (by omega) (by omega)))
  refine this.mono ?_
  rintro e w' ⟨rfl, hb⟩
  exact ⟨by rw [bv_eq (z := n) (by rw [decide_eq_true hn]) rfl], hb⟩
 ·have hu : n.natAbs < 18446744073709551616 := by omega
  have := of_walk_false n 0 n.natAbs 0 0 _ w (Lib.hid rfl) (by rw [IntKind.wrap_u64]; omega) (Lib.hid hu) (by omega) (Lib.hid (pad_dgF (by omega) (by omega)))
  refine this.mono ?_
  rintro e w' ⟨rfl, hb⟩
  exact ⟨by rw [bv_eq (z := n) (by rw [decide_eq_false hn]) rfl], hb⟩
end Go.Proofs.YtbbhmhihpdmoiaaGreat.Fx
