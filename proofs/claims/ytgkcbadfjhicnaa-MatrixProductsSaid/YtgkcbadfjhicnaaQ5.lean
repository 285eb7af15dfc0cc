/- MatrixProducts, walked. -/
import Derived.Test.YtgkcbadfjhicnaaProg
import Derived.Test.YtgkcbadfjhicnaaQ4
import Derived.Test.YtgkcbadfjhicnaaEq
import Derived.OpenShut
set_option linter.unusedVariables false
set_option linter.unusedSimpArgs false
namespace Go.Proofs.Ytgkcbadfjhicnaa.Fx
open Go Go.RowKit Wm
theorem mulO_len (a b : List Int) : ((mulO a b).getD zero16).length = 16 := by
  unfold mulO
  split
  · exact tr_len _
  · rfl
theorem apO_len2 (m v : List Int) : ((apO m v).getD [0, 0, 0, 0]).length = 4 := by
  unfold apO
  split
  · rfl
  · rfl
set_option maxRecDepth 100000 in
set_option maxHeartbeats 8000000 in
theorem products_yes (a b v X Y : List Int) (bound ef eg : Int) (w : World) (la : a.length = 16) (lb : b.length = 16) (lv : v.length = 4) (lX : X.length = 16) (lY : Y.length = 4)
    (cM : Hid (Ans 33 #[.agg (mC a), .agg (mC b)] (.tuple #[.agg (mC X), .int .i64 ef])))
    (cN : Hid (Ans 34 #[.agg (mC a), .agg (mC b)] (.tuple #[.agg (mC X), .int .i64 ef])))
    (cA : Hid (Ans 35 #[.agg (mC a), .agg (mC v)] (.tuple #[.agg (mC Y), .int .i64 eg])))
    (cB : Hid (Ans 36 #[.agg (mC a), .agg (mC v)] (.tuple #[.agg (mC Y), .int .i64 eg])))
    (cC : Hid (Ans 37 #[.agg (mC a), .int .i64 bound] (.int .i64 0)))
    (cW : Hid (Ans 38 #[.agg (mC a), .int .i64 bound] (.bool true))) :
    Calls Try.prog 6 #[.agg (mC a), .agg (mC b), .agg (mC v), .int .i64 bound] w fun e w' => e = .returned (.bool true) ∧ Below w.heap.size w w' := by
  have IA := Lib.hid (show (Try.prog.info? 64).map (·.size) = some (mC a).size by rw [size16, mC_size, la])
  have IB := Lib.hid (show (Try.prog.info? 64).map (·.size) = some (mC b).size by rw [size16, mC_size, lb])
  have IV := Lib.hid (show (Try.prog.info? 62).map (·.size) = some (mC v).size by rw [size4, mC_size, lv])
  have IX := Lib.hid (show (Try.prog.info? 64).map (·.size) = some (mC X).size by rw [size16, mC_size, lX])
  have IY := Lib.hid (show (Try.prog.info? 62).map (·.size) = some (mC Y).size by rw [size4, mC_size, lY])
  have SX : Hid ((#[.int .i64 0, .int .i64 0, .int .i64 0, .int .i64 0, .int .i64 0, .int .i64 0, .int .i64 0, .int .i64 0, .int .i64 0, .int .i64 0, .int .i64 0, .int .i64 0, .int .i64 0, .int .i64 0, .int .i64 0, .int .i64 0] : Array Value).size = (mC X).size) := Lib.hid (by rw [mC_size, lX]; rfl)
  have SY : Hid ((#[.int .i64 0, .int .i64 0, .int .i64 0, .int .i64 0] : Array Value).size = (mC Y).size) := Lib.hid (by rw [mC_size, lY]; rfl)
  have HEX := Lib.hid (fun W => eql_mat W X X lX lX)
  have HEY := Lib.hid (fun W => eql_vec W Y Y lY lY)
  have h3 := block3s w (.cells (mC a) 64) (.cells (mC b) 64) (.cells (mC v) 62)
  have Ra : Hid (RowAt 64 w.heap.size (mC a) (((w.alloc (.cells (mC a) 64)).alloc (.cells (mC b) 64)).alloc (.cells (mC v) 62))) := Lib.hid h3.1
  have Rb : Hid (RowAt 64 (w.heap.size + 1) (mC b) (((w.alloc (.cells (mC a) 64)).alloc (.cells (mC b) 64)).alloc (.cells (mC v) 62))) := Lib.hid h3.2.1
  have Rv : Hid (RowAt 62 (w.heap.size + 1 + 1) (mC v) (((w.alloc (.cells (mC a) 64)).alloc (.cells (mC b) 64)).alloc (.cells (mC v) 62))) := Lib.hid h3.2.2
  have HB : Hid (Below w.heap.size w (((w.alloc (.cells (mC a) 64)).alloc (.cells (mC b) 64)).alloc (.cells (mC v) 62))) := Lib.hid (by go_grown)
  clear la lb lv lX lY h3
  go_enter Try.func6, Try.ntmps6
  go_wp2_with (first | (refine wpList_load_row rfl 64 (.tmp 4) rfl (w.heap.size) rfl _ _ _ _ Ra.out Try.underlying64 rfl IA.out ?_) | (refine wpList_load_row rfl 64 (.tmp 5) rfl (w.heap.size + 1) rfl _ _ _ _ Rb.out Try.underlying64 rfl IB.out ?_))
  generalize (((w.alloc (.cells (mC a) 64)).alloc (.cells (mC b) 64)).alloc (.cells (mC v) 62)) = V at Ra Rb Rv HB ⊢
  refine (cM.out _).mono ?_
  rintro e w1 ⟨rfl, hb⟩
  replace Ra : Hid (RowAt 64 (w.heap.size) (mC a) w1) := Lib.hid (Ra.out.below hb)
  replace Rb : Hid (RowAt 64 (w.heap.size + 1) (mC b) w1) := Lib.hid (Rb.out.below hb)
  replace Rv : Hid (RowAt 62 (w.heap.size + 1 + 1) (mC v) w1) := Lib.hid (Rv.out.below hb)
  replace HB : Hid (Below w.heap.size w w1) := Lib.hid (bnext HB.out hb)
  clear hb
  replace Ra : Hid (RowAt 64 (w.heap.size) (mC a) (w1.alloc (.cells (mC X) 64))) := Lib.hid (Ra.out.alloc _)
  replace Rb : Hid (RowAt 64 (w.heap.size + 1) (mC b) (w1.alloc (.cells (mC X) 64))) := Lib.hid (Rb.out.alloc _)
  replace Rv : Hid (RowAt 62 (w.heap.size + 1 + 1) (mC v) (w1.alloc (.cells (mC X) 64))) := Lib.hid (Rv.out.alloc _)
  replace HB : Hid (Below w.heap.size w (w1.alloc (.cells (mC X) 64))) := Lib.hid (HB.out.alloc HB.out.size _)
  have Rx : Hid (RowAt 64 (w1.heap.size) (mC X) (w1.alloc (.cells (mC X) 64))) := Lib.hid (heap_alloc_new _ _)
  go_wp2_with (first | (refine wpList_store_new rfl 64 (.tmp 9) (.tmp 22) rfl (w1.heap.size) _ #[.int .i64 0, .int .i64 0, .int .i64 0, .int .i64 0, .int .i64 0, .int .i64 0, .int .i64 0, .int .i64 0, .int .i64 0, .int .i64 0, .int .i64 0, .int .i64 0, .int .i64 0, .int .i64 0, .int .i64 0, .int .i64 0] (mC X) rfl rfl rfl IX.out SX.out (mC_one _) ?_) | (refine wpList_load_row rfl 64 (.tmp 4) rfl (w.heap.size) rfl _ _ _ _ Ra.out Try.underlying64 rfl IA.out ?_) | (refine wpList_load_row rfl 64 (.tmp 5) rfl (w.heap.size + 1) rfl _ _ _ _ Rb.out Try.underlying64 rfl IB.out ?_))
  generalize (w1.alloc (.cells (mC X) 64)) = V1 at Ra Rb Rv Rx HB ⊢
  refine (cN.out _).mono ?_
  rintro e w2 ⟨rfl, hb⟩
  replace Ra : Hid (RowAt 64 (w.heap.size) (mC a) w2) := Lib.hid (Ra.out.below hb)
  replace Rb : Hid (RowAt 64 (w.heap.size + 1) (mC b) w2) := Lib.hid (Rb.out.below hb)
  replace Rv : Hid (RowAt 62 (w.heap.size + 1 + 1) (mC v) w2) := Lib.hid (Rv.out.below hb)
  replace Rx : Hid (RowAt 64 (w1.heap.size) (mC X) w2) := Lib.hid (Rx.out.below hb)
  replace HB : Hid (Below w.heap.size w w2) := Lib.hid (bnext HB.out hb)
  clear hb
  replace Ra : Hid (RowAt 64 (w.heap.size) (mC a) (w2.alloc (.cells (mC X) 64))) := Lib.hid (Ra.out.alloc _)
  replace Rb : Hid (RowAt 64 (w.heap.size + 1) (mC b) (w2.alloc (.cells (mC X) 64))) := Lib.hid (Rb.out.alloc _)
  replace Rv : Hid (RowAt 62 (w.heap.size + 1 + 1) (mC v) (w2.alloc (.cells (mC X) 64))) := Lib.hid (Rv.out.alloc _)
  replace Rx : Hid (RowAt 64 (w1.heap.size) (mC X) (w2.alloc (.cells (mC X) 64))) := Lib.hid (Rx.out.alloc _)
  replace HB : Hid (Below w.heap.size w (w2.alloc (.cells (mC X) 64))) := Lib.hid (HB.out.alloc HB.out.size _)
  have Ry : Hid (RowAt 64 (w2.heap.size) (mC X) (w2.alloc (.cells (mC X) 64))) := Lib.hid (heap_alloc_new _ _)
  go_wp2_with (first | (refine wpList_store_new rfl 64 (.tmp 11) (.tmp 28) rfl (w2.heap.size) _ #[.int .i64 0, .int .i64 0, .int .i64 0, .int .i64 0, .int .i64 0, .int .i64 0, .int .i64 0, .int .i64 0, .int .i64 0, .int .i64 0, .int .i64 0, .int .i64 0, .int .i64 0, .int .i64 0, .int .i64 0, .int .i64 0] (mC X) rfl rfl rfl IX.out SX.out (mC_one _) ?_) | (refine wpList_load_row rfl 64 (.tmp 4) rfl (w.heap.size) rfl _ _ _ _ Ra.out Try.underlying64 rfl IA.out ?_) | (refine wpList_load_row rfl 62 (.tmp 6) rfl (w.heap.size + 1 + 1) rfl _ _ _ _ Rv.out Try.underlying62 rfl IV.out ?_))
  generalize (w2.alloc (.cells (mC X) 64)) = V2 at Ra Rb Rv Rx Ry HB ⊢
  refine (cA.out _).mono ?_
  rintro e w3 ⟨rfl, hb⟩
  replace Ra : Hid (RowAt 64 (w.heap.size) (mC a) w3) := Lib.hid (Ra.out.below hb)
  replace Rb : Hid (RowAt 64 (w.heap.size + 1) (mC b) w3) := Lib.hid (Rb.out.below hb)
  replace Rv : Hid (RowAt 62 (w.heap.size + 1 + 1) (mC v) w3) := Lib.hid (Rv.out.below hb)
  replace Rx : Hid (RowAt 64 (w1.heap.size) (mC X) w3) := Lib.hid (Rx.out.below hb)
  replace Ry : Hid (RowAt 64 (w2.heap.size) (mC X) w3) := Lib.hid (Ry.out.below hb)
  replace HB : Hid (Below w.heap.size w w3) := Lib.hid (bnext HB.out hb)
  clear hb
  replace Ra : Hid (RowAt 64 (w.heap.size) (mC a) (w3.alloc (.cells (mC Y) 62))) := Lib.hid (Ra.out.alloc _)
  replace Rb : Hid (RowAt 64 (w.heap.size + 1) (mC b) (w3.alloc (.cells (mC Y) 62))) := Lib.hid (Rb.out.alloc _)
  replace Rv : Hid (RowAt 62 (w.heap.size + 1 + 1) (mC v) (w3.alloc (.cells (mC Y) 62))) := Lib.hid (Rv.out.alloc _)
  replace Rx : Hid (RowAt 64 (w1.heap.size) (mC X) (w3.alloc (.cells (mC Y) 62))) := Lib.hid (Rx.out.alloc _)
  replace Ry : Hid (RowAt 64 (w2.heap.size) (mC X) (w3.alloc (.cells (mC Y) 62))) := Lib.hid (Ry.out.alloc _)
  replace HB : Hid (Below w.heap.size w (w3.alloc (.cells (mC Y) 62))) := Lib.hid (HB.out.alloc HB.out.size _)
  have Rz : Hid (RowAt 62 (w3.heap.size) (mC Y) (w3.alloc (.cells (mC Y) 62))) := Lib.hid (heap_alloc_new _ _)
  go_wp2_with (first | (refine wpList_store_new rfl 62 (.tmp 13) (.tmp 34) rfl (w3.heap.size) _ #[.int .i64 0, .int .i64 0, .int .i64 0, .int .i64 0] (mC Y) rfl rfl rfl IY.out SY.out (mC_one _) ?_) | (refine wpList_load_row rfl 64 (.tmp 4) rfl (w.heap.size) rfl _ _ _ _ Ra.out Try.underlying64 rfl IA.out ?_) | (refine wpList_load_row rfl 62 (.tmp 6) rfl (w.heap.size + 1 + 1) rfl _ _ _ _ Rv.out Try.underlying62 rfl IV.out ?_))
  generalize (w3.alloc (.cells (mC Y) 62)) = V3 at Ra Rb Rv Rx Ry Rz HB ⊢
  refine (cB.out _).mono ?_
  rintro e w4 ⟨rfl, hb⟩
  replace Ra : Hid (RowAt 64 (w.heap.size) (mC a) w4) := Lib.hid (Ra.out.below hb)
  replace Rb : Hid (RowAt 64 (w.heap.size + 1) (mC b) w4) := Lib.hid (Rb.out.below hb)
  replace Rv : Hid (RowAt 62 (w.heap.size + 1 + 1) (mC v) w4) := Lib.hid (Rv.out.below hb)
  replace Rx : Hid (RowAt 64 (w1.heap.size) (mC X) w4) := Lib.hid (Rx.out.below hb)
  replace Ry : Hid (RowAt 64 (w2.heap.size) (mC X) w4) := Lib.hid (Ry.out.below hb)
  replace Rz : Hid (RowAt 62 (w3.heap.size) (mC Y) w4) := Lib.hid (Rz.out.below hb)
  replace HB : Hid (Below w.heap.size w w4) := Lib.hid (bnext HB.out hb)
  clear hb
  replace Ra : Hid (RowAt 64 (w.heap.size) (mC a) (w4.alloc (.cells (mC Y) 62))) := Lib.hid (Ra.out.alloc _)
  replace Rb : Hid (RowAt 64 (w.heap.size + 1) (mC b) (w4.alloc (.cells (mC Y) 62))) := Lib.hid (Rb.out.alloc _)
  replace Rv : Hid (RowAt 62 (w.heap.size + 1 + 1) (mC v) (w4.alloc (.cells (mC Y) 62))) := Lib.hid (Rv.out.alloc _)
  replace Rx : Hid (RowAt 64 (w1.heap.size) (mC X) (w4.alloc (.cells (mC Y) 62))) := Lib.hid (Rx.out.alloc _)
  replace Ry : Hid (RowAt 64 (w2.heap.size) (mC X) (w4.alloc (.cells (mC Y) 62))) := Lib.hid (Ry.out.alloc _)
  replace Rz : Hid (RowAt 62 (w3.heap.size) (mC Y) (w4.alloc (.cells (mC Y) 62))) := Lib.hid (Rz.out.alloc _)
  replace HB : Hid (Below w.heap.size w (w4.alloc (.cells (mC Y) 62))) := Lib.hid (HB.out.alloc HB.out.size _)
  have Ru : Hid (RowAt 62 (w4.heap.size) (mC Y) (w4.alloc (.cells (mC Y) 62))) := Lib.hid (heap_alloc_new _ _)
  go_wp2_with (first | (refine wpList_store_new rfl 62 (.tmp 15) (.tmp 40) rfl (w4.heap.size) _ #[.int .i64 0, .int .i64 0, .int .i64 0, .int .i64 0] (mC Y) rfl rfl rfl IY.out SY.out (mC_one _) ?_) | (refine wpList_load_row rfl 64 (.tmp 4) rfl (w.heap.size) rfl _ _ _ _ Ra.out Try.underlying64 rfl IA.out ?_))
  generalize (w4.alloc (.cells (mC Y) 62)) = V4 at Ra Rb Rv Rx Ry Rz Ru HB ⊢
  have heX := HEX.out
  have heY := HEY.out
  simp only [beq_self_eq_true] at heX heY
  refine (cC.out _).mono ?_
  rintro e w5 ⟨rfl, hb⟩
  replace Ra : Hid (RowAt 64 (w.heap.size) (mC a) w5) := Lib.hid (Ra.out.below hb)
  replace Rb : Hid (RowAt 64 (w.heap.size + 1) (mC b) w5) := Lib.hid (Rb.out.below hb)
  replace Rv : Hid (RowAt 62 (w.heap.size + 1 + 1) (mC v) w5) := Lib.hid (Rv.out.below hb)
  replace Rx : Hid (RowAt 64 (w1.heap.size) (mC X) w5) := Lib.hid (Rx.out.below hb)
  replace Ry : Hid (RowAt 64 (w2.heap.size) (mC X) w5) := Lib.hid (Ry.out.below hb)
  replace Rz : Hid (RowAt 62 (w3.heap.size) (mC Y) w5) := Lib.hid (Rz.out.below hb)
  replace Ru : Hid (RowAt 62 (w4.heap.size) (mC Y) w5) := Lib.hid (Ru.out.below hb)
  replace HB : Hid (Below w.heap.size w w5) := Lib.hid (bnext HB.out hb)
  clear hb
  go_wp2_with (first | (refine wpList_load_row rfl 64 (.tmp 9) rfl (w1.heap.size) rfl _ _ _ _ Rx.out Try.underlying64 rfl IX.out ?_) | (refine wpList_load_row rfl 64 (.tmp 11) rfl (w2.heap.size) rfl _ _ _ _ Ry.out Try.underlying64 rfl IX.out ?_) | (refine wpList_load_big (by kernel_rfl) 64 (.tmp 9) rfl (w1.heap.size) rfl _ _ _ _ Rx.out Try.underlying64 rfl IX.out ?_) | (refine wpList_load_big (by kernel_rfl) 64 (.tmp 11) rfl (w2.heap.size) rfl _ _ _ _ Ry.out Try.underlying64 rfl IX.out ?_) | (refine wpList_load_big (by kernel_rfl) 62 (.tmp 13) rfl (w3.heap.size) rfl _ _ _ _ Rz.out Try.underlying62 rfl IY.out ?_) | (refine wpList_load_big (by kernel_rfl) 62 (.tmp 15) rfl (w4.heap.size) rfl _ _ _ _ Ru.out Try.underlying62 rfl IY.out ?_) | (refine wpList_load_big (by kernel_rfl) 64 (.tmp 4) rfl (w.heap.size) rfl _ _ _ _ Ra.out Try.underlying64 rfl IA.out ?_))
  refine (cW.out _).mono ?_
  rintro e w6 ⟨rfl, hb⟩
  replace HB : Hid (Below w.heap.size w w6) := Lib.hid (bnext HB.out hb)
  clear hb
  go_wp2_with fail
  go_ret
  exact ⟨rfl, HB.out⟩
set_option maxRecDepth 100000 in
set_option maxHeartbeats 8000000 in
theorem products_no (a b v X Y : List Int) (bound ef eg : Int) (w : World) (la : a.length = 16) (lb : b.length = 16) (lv : v.length = 4) (lX : X.length = 16) (lY : Y.length = 4)
    (cM : Hid (Ans 33 #[.agg (mC a), .agg (mC b)] (.tuple #[.agg (mC X), .int .i64 ef])))
    (cN : Hid (Ans 34 #[.agg (mC a), .agg (mC b)] (.tuple #[.agg (mC X), .int .i64 ef])))
    (cA : Hid (Ans 35 #[.agg (mC a), .agg (mC v)] (.tuple #[.agg (mC Y), .int .i64 eg])))
    (cB : Hid (Ans 36 #[.agg (mC a), .agg (mC v)] (.tuple #[.agg (mC Y), .int .i64 eg])))
    (cC : Hid (Ans 37 #[.agg (mC a), .int .i64 bound] (.int .i64 30)))
    (cW : Hid (Ans 38 #[.agg (mC a), .int .i64 bound] (.bool false))) :
    Calls Try.prog 6 #[.agg (mC a), .agg (mC b), .agg (mC v), .int .i64 bound] w fun e w' => e = .returned (.bool true) ∧ Below w.heap.size w w' := by
  have IA := Lib.hid (show (Try.prog.info? 64).map (·.size) = some (mC a).size by rw [size16, mC_size, la])
  have IB := Lib.hid (show (Try.prog.info? 64).map (·.size) = some (mC b).size by rw [size16, mC_size, lb])
  have IV := Lib.hid (show (Try.prog.info? 62).map (·.size) = some (mC v).size by rw [size4, mC_size, lv])
  have IX := Lib.hid (show (Try.prog.info? 64).map (·.size) = some (mC X).size by rw [size16, mC_size, lX])
  have IY := Lib.hid (show (Try.prog.info? 62).map (·.size) = some (mC Y).size by rw [size4, mC_size, lY])
  have SX : Hid ((#[.int .i64 0, .int .i64 0, .int .i64 0, .int .i64 0, .int .i64 0, .int .i64 0, .int .i64 0, .int .i64 0, .int .i64 0, .int .i64 0, .int .i64 0, .int .i64 0, .int .i64 0, .int .i64 0, .int .i64 0, .int .i64 0] : Array Value).size = (mC X).size) := Lib.hid (by rw [mC_size, lX]; rfl)
  have SY : Hid ((#[.int .i64 0, .int .i64 0, .int .i64 0, .int .i64 0] : Array Value).size = (mC Y).size) := Lib.hid (by rw [mC_size, lY]; rfl)
  have HEX := Lib.hid (fun W => eql_mat W X X lX lX)
  have HEY := Lib.hid (fun W => eql_vec W Y Y lY lY)
  have h3 := block3s w (.cells (mC a) 64) (.cells (mC b) 64) (.cells (mC v) 62)
  have Ra : Hid (RowAt 64 w.heap.size (mC a) (((w.alloc (.cells (mC a) 64)).alloc (.cells (mC b) 64)).alloc (.cells (mC v) 62))) := Lib.hid h3.1
  have Rb : Hid (RowAt 64 (w.heap.size + 1) (mC b) (((w.alloc (.cells (mC a) 64)).alloc (.cells (mC b) 64)).alloc (.cells (mC v) 62))) := Lib.hid h3.2.1
  have Rv : Hid (RowAt 62 (w.heap.size + 1 + 1) (mC v) (((w.alloc (.cells (mC a) 64)).alloc (.cells (mC b) 64)).alloc (.cells (mC v) 62))) := Lib.hid h3.2.2
  have HB : Hid (Below w.heap.size w (((w.alloc (.cells (mC a) 64)).alloc (.cells (mC b) 64)).alloc (.cells (mC v) 62))) := Lib.hid (by go_grown)
  clear la lb lv lX lY h3
  go_enter Try.func6, Try.ntmps6
  go_wp2_with (first | (refine wpList_load_row rfl 64 (.tmp 4) rfl (w.heap.size) rfl _ _ _ _ Ra.out Try.underlying64 rfl IA.out ?_) | (refine wpList_load_row rfl 64 (.tmp 5) rfl (w.heap.size + 1) rfl _ _ _ _ Rb.out Try.underlying64 rfl IB.out ?_))
  generalize (((w.alloc (.cells (mC a) 64)).alloc (.cells (mC b) 64)).alloc (.cells (mC v) 62)) = V at Ra Rb Rv HB ⊢
  refine (cM.out _).mono ?_
  rintro e w1 ⟨rfl, hb⟩
  replace Ra : Hid (RowAt 64 (w.heap.size) (mC a) w1) := Lib.hid (Ra.out.below hb)
  replace Rb : Hid (RowAt 64 (w.heap.size + 1) (mC b) w1) := Lib.hid (Rb.out.below hb)
  replace Rv : Hid (RowAt 62 (w.heap.size + 1 + 1) (mC v) w1) := Lib.hid (Rv.out.below hb)
  replace HB : Hid (Below w.heap.size w w1) := Lib.hid (bnext HB.out hb)
  clear hb
  replace Ra : Hid (RowAt 64 (w.heap.size) (mC a) (w1.alloc (.cells (mC X) 64))) := Lib.hid (Ra.out.alloc _)
  replace Rb : Hid (RowAt 64 (w.heap.size + 1) (mC b) (w1.alloc (.cells (mC X) 64))) := Lib.hid (Rb.out.alloc _)
  replace Rv : Hid (RowAt 62 (w.heap.size + 1 + 1) (mC v) (w1.alloc (.cells (mC X) 64))) := Lib.hid (Rv.out.alloc _)
  replace HB : Hid (Below w.heap.size w (w1.alloc (.cells (mC X) 64))) := Lib.hid (HB.out.alloc HB.out.size _)
  have Rx : Hid (RowAt 64 (w1.heap.size) (mC X) (w1.alloc (.cells (mC X) 64))) := Lib.hid (heap_alloc_new _ _)
  go_wp2_with (first | (refine wpList_store_new rfl 64 (.tmp 9) (.tmp 22) rfl (w1.heap.size) _ #[.int .i64 0, .int .i64 0, .int .i64 0, .int .i64 0, .int .i64 0, .int .i64 0, .int .i64 0, .int .i64 0, .int .i64 0, .int .i64 0, .int .i64 0, .int .i64 0, .int .i64 0, .int .i64 0, .int .i64 0, .int .i64 0] (mC X) rfl rfl rfl IX.out SX.out (mC_one _) ?_) | (refine wpList_load_row rfl 64 (.tmp 4) rfl (w.heap.size) rfl _ _ _ _ Ra.out Try.underlying64 rfl IA.out ?_) | (refine wpList_load_row rfl 64 (.tmp 5) rfl (w.heap.size + 1) rfl _ _ _ _ Rb.out Try.underlying64 rfl IB.out ?_))
  generalize (w1.alloc (.cells (mC X) 64)) = V1 at Ra Rb Rv Rx HB ⊢
  refine (cN.out _).mono ?_
  rintro e w2 ⟨rfl, hb⟩
  replace Ra : Hid (RowAt 64 (w.heap.size) (mC a) w2) := Lib.hid (Ra.out.below hb)
  replace Rb : Hid (RowAt 64 (w.heap.size + 1) (mC b) w2) := Lib.hid (Rb.out.below hb)
  replace Rv : Hid (RowAt 62 (w.heap.size + 1 + 1) (mC v) w2) := Lib.hid (Rv.out.below hb)
  replace Rx : Hid (RowAt 64 (w1.heap.size) (mC X) w2) := Lib.hid (Rx.out.below hb)
  replace HB : Hid (Below w.heap.size w w2) := Lib.hid (bnext HB.out hb)
  clear hb
  replace Ra : Hid (RowAt 64 (w.heap.size) (mC a) (w2.alloc (.cells (mC X) 64))) := Lib.hid (Ra.out.alloc _)
  replace Rb : Hid (RowAt 64 (w.heap.size + 1) (mC b) (w2.alloc (.cells (mC X) 64))) := Lib.hid (Rb.out.alloc _)
  replace Rv : Hid (RowAt 62 (w.heap.size + 1 + 1) (mC v) (w2.alloc (.cells (mC X) 64))) := Lib.hid (Rv.out.alloc _)
  replace Rx : Hid (RowAt 64 (w1.heap.size) (mC X) (w2.alloc (.cells (mC X) 64))) := Lib.hid (Rx.out.alloc _)
  replace HB : Hid (Below w.heap.size w (w2.alloc (.cells (mC X) 64))) := Lib.hid (HB.out.alloc HB.out.size _)
  have Ry : Hid (RowAt 64 (w2.heap.size) (mC X) (w2.alloc (.cells (mC X) 64))) := Lib.hid (heap_alloc_new _ _)
  go_wp2_with (first | (refine wpList_store_new rfl 64 (.tmp 11) (.tmp 28) rfl (w2.heap.size) _ #[.int .i64 0, .int .i64 0, .int .i64 0, .int .i64 0, .int .i64 0, .int .i64 0, .int .i64 0, .int .i64 0, .int .i64 0, .int .i64 0, .int .i64 0, .int .i64 0, .int .i64 0, .int .i64 0, .int .i64 0, .int .i64 0] (mC X) rfl rfl rfl IX.out SX.out (mC_one _) ?_) | (refine wpList_load_row rfl 64 (.tmp 4) rfl (w.heap.size) rfl _ _ _ _ Ra.out Try.underlying64 rfl IA.out ?_) | (refine wpList_load_row rfl 62 (.tmp 6) rfl (w.heap.size + 1 + 1) rfl _ _ _ _ Rv.out Try.underlying62 rfl IV.out ?_))
  generalize (w2.alloc (.cells (mC X) 64)) = V2 at Ra Rb Rv Rx Ry HB ⊢
  refine (cA.out _).mono ?_
  rintro e w3 ⟨rfl, hb⟩
  replace Ra : Hid (RowAt 64 (w.heap.size) (mC a) w3) := Lib.hid (Ra.out.below hb)
  replace Rb : Hid (RowAt 64 (w.heap.size + 1) (mC b) w3) := Lib.hid (Rb.out.below hb)
  replace Rv : Hid (RowAt 62 (w.heap.size + 1 + 1) (mC v) w3) := Lib.hid (Rv.out.below hb)
  replace Rx : Hid (RowAt 64 (w1.heap.size) (mC X) w3) := Lib.hid (Rx.out.below hb)
  replace Ry : Hid (RowAt 64 (w2.heap.size) (mC X) w3) := Lib.hid (Ry.out.below hb)
  replace HB : Hid (Below w.heap.size w w3) := Lib.hid (bnext HB.out hb)
  clear hb
  replace Ra : Hid (RowAt 64 (w.heap.size) (mC a) (w3.alloc (.cells (mC Y) 62))) := Lib.hid (Ra.out.alloc _)
  replace Rb : Hid (RowAt 64 (w.heap.size + 1) (mC b) (w3.alloc (.cells (mC Y) 62))) := Lib.hid (Rb.out.alloc _)
  replace Rv : Hid (RowAt 62 (w.heap.size + 1 + 1) (mC v) (w3.alloc (.cells (mC Y) 62))) := Lib.hid (Rv.out.alloc _)
  replace Rx : Hid (RowAt 64 (w1.heap.size) (mC X) (w3.alloc (.cells (mC Y) 62))) := Lib.hid (Rx.out.alloc _)
  replace Ry : Hid (RowAt 64 (w2.heap.size) (mC X) (w3.alloc (.cells (mC Y) 62))) := Lib.hid (Ry.out.alloc _)
  replace HB : Hid (Below w.heap.size w (w3.alloc (.cells (mC Y) 62))) := Lib.hid (HB.out.alloc HB.out.size _)
  have Rz : Hid (RowAt 62 (w3.heap.size) (mC Y) (w3.alloc (.cells (mC Y) 62))) := Lib.hid (heap_alloc_new _ _)
  go_wp2_with (first | (refine wpList_store_new rfl 62 (.tmp 13) (.tmp 34) rfl (w3.heap.size) _ #[.int .i64 0, .int .i64 0, .int .i64 0, .int .i64 0] (mC Y) rfl rfl rfl IY.out SY.out (mC_one _) ?_) | (refine wpList_load_row rfl 64 (.tmp 4) rfl (w.heap.size) rfl _ _ _ _ Ra.out Try.underlying64 rfl IA.out ?_) | (refine wpList_load_row rfl 62 (.tmp 6) rfl (w.heap.size + 1 + 1) rfl _ _ _ _ Rv.out Try.underlying62 rfl IV.out ?_))
  generalize (w3.alloc (.cells (mC Y) 62)) = V3 at Ra Rb Rv Rx Ry Rz HB ⊢
  refine (cB.out _).mono ?_
  rintro e w4 ⟨rfl, hb⟩
  replace Ra : Hid (RowAt 64 (w.heap.size) (mC a) w4) := Lib.hid (Ra.out.below hb)
  replace Rb : Hid (RowAt 64 (w.heap.size + 1) (mC b) w4) := Lib.hid (Rb.out.below hb)
  replace Rv : Hid (RowAt 62 (w.heap.size + 1 + 1) (mC v) w4) := Lib.hid (Rv.out.below hb)
  replace Rx : Hid (RowAt 64 (w1.heap.size) (mC X) w4) := Lib.hid (Rx.out.below hb)
  replace Ry : Hid (RowAt 64 (w2.heap.size) (mC X) w4) := Lib.hid (Ry.out.below hb)
  replace Rz : Hid (RowAt 62 (w3.heap.size) (mC Y) w4) := Lib.hid (Rz.out.below hb)
  replace HB : Hid (Below w.heap.size w w4) := Lib.hid (bnext HB.out hb)
  clear hb
  replace Ra : Hid (RowAt 64 (w.heap.size) (mC a) (w4.alloc (.cells (mC Y) 62))) := Lib.hid (Ra.out.alloc _)
  replace Rb : Hid (RowAt 64 (w.heap.size + 1) (mC b) (w4.alloc (.cells (mC Y) 62))) := Lib.hid (Rb.out.alloc _)
  replace Rv : Hid (RowAt 62 (w.heap.size + 1 + 1) (mC v) (w4.alloc (.cells (mC Y) 62))) := Lib.hid (Rv.out.alloc _)
  replace Rx : Hid (RowAt 64 (w1.heap.size) (mC X) (w4.alloc (.cells (mC Y) 62))) := Lib.hid (Rx.out.alloc _)
  replace Ry : Hid (RowAt 64 (w2.heap.size) (mC X) (w4.alloc (.cells (mC Y) 62))) := Lib.hid (Ry.out.alloc _)
  replace Rz : Hid (RowAt 62 (w3.heap.size) (mC Y) (w4.alloc (.cells (mC Y) 62))) := Lib.hid (Rz.out.alloc _)
  replace HB : Hid (Below w.heap.size w (w4.alloc (.cells (mC Y) 62))) := Lib.hid (HB.out.alloc HB.out.size _)
  have Ru : Hid (RowAt 62 (w4.heap.size) (mC Y) (w4.alloc (.cells (mC Y) 62))) := Lib.hid (heap_alloc_new _ _)
  go_wp2_with (first | (refine wpList_store_new rfl 62 (.tmp 15) (.tmp 40) rfl (w4.heap.size) _ #[.int .i64 0, .int .i64 0, .int .i64 0, .int .i64 0] (mC Y) rfl rfl rfl IY.out SY.out (mC_one _) ?_) | (refine wpList_load_row rfl 64 (.tmp 4) rfl (w.heap.size) rfl _ _ _ _ Ra.out Try.underlying64 rfl IA.out ?_))
  generalize (w4.alloc (.cells (mC Y) 62)) = V4 at Ra Rb Rv Rx Ry Rz Ru HB ⊢
  have heX := HEX.out
  have heY := HEY.out
  simp only [beq_self_eq_true] at heX heY
  refine (cC.out _).mono ?_
  rintro e w5 ⟨rfl, hb⟩
  replace Ra : Hid (RowAt 64 (w.heap.size) (mC a) w5) := Lib.hid (Ra.out.below hb)
  replace Rb : Hid (RowAt 64 (w.heap.size + 1) (mC b) w5) := Lib.hid (Rb.out.below hb)
  replace Rv : Hid (RowAt 62 (w.heap.size + 1 + 1) (mC v) w5) := Lib.hid (Rv.out.below hb)
  replace Rx : Hid (RowAt 64 (w1.heap.size) (mC X) w5) := Lib.hid (Rx.out.below hb)
  replace Ry : Hid (RowAt 64 (w2.heap.size) (mC X) w5) := Lib.hid (Ry.out.below hb)
  replace Rz : Hid (RowAt 62 (w3.heap.size) (mC Y) w5) := Lib.hid (Rz.out.below hb)
  replace Ru : Hid (RowAt 62 (w4.heap.size) (mC Y) w5) := Lib.hid (Ru.out.below hb)
  replace HB : Hid (Below w.heap.size w w5) := Lib.hid (bnext HB.out hb)
  clear hb
  go_wp2_with (first | (refine wpList_load_row rfl 64 (.tmp 9) rfl (w1.heap.size) rfl _ _ _ _ Rx.out Try.underlying64 rfl IX.out ?_) | (refine wpList_load_row rfl 64 (.tmp 11) rfl (w2.heap.size) rfl _ _ _ _ Ry.out Try.underlying64 rfl IX.out ?_) | (refine wpList_load_big (by kernel_rfl) 64 (.tmp 9) rfl (w1.heap.size) rfl _ _ _ _ Rx.out Try.underlying64 rfl IX.out ?_) | (refine wpList_load_big (by kernel_rfl) 64 (.tmp 11) rfl (w2.heap.size) rfl _ _ _ _ Ry.out Try.underlying64 rfl IX.out ?_) | (refine wpList_load_big (by kernel_rfl) 62 (.tmp 13) rfl (w3.heap.size) rfl _ _ _ _ Rz.out Try.underlying62 rfl IY.out ?_) | (refine wpList_load_big (by kernel_rfl) 62 (.tmp 15) rfl (w4.heap.size) rfl _ _ _ _ Ru.out Try.underlying62 rfl IY.out ?_) | (refine wpList_load_big (by kernel_rfl) 64 (.tmp 4) rfl (w.heap.size) rfl _ _ _ _ Ra.out Try.underlying64 rfl IA.out ?_))
  refine (cW.out _).mono ?_
  rintro e w6 ⟨rfl, hb⟩
  replace HB : Hid (Below w.heap.size w w6) := Lib.hid (bnext HB.out hb)
  clear hb
  go_wp2_with fail
  go_ret
  exact ⟨rfl, HB.out⟩
theorem law_matrixProducts (a : List Int) (la : a.length = 16) (ba : ∀ j, -9223372036854775808 ≤ a.getD j 0 ∧ a.getD j 0 ≤ 9223372036854775807) (b : List Int) (lb : b.length = 16) (bb : ∀ j, -9223372036854775808 ≤ b.getD j 0 ∧ b.getD j 0 ≤ 9223372036854775807) (v : List Int) (lv : v.length = 4) (bv0 : ∀ j, -9223372036854775808 ≤ v.getD j 0 ∧ v.getD j 0 ≤ 9223372036854775807) (bound : Int) (wb : (Lit.int .i64 bound).wf = true) (w : World) :
    Calls Try.prog 6 #[.agg (mC a), .agg (mC b), .agg (mC v), .int .i64 bound] w fun e w' => e = .returned (.bool true) ∧ Below w.heap.size w w' := by
  obtain ⟨b0, b1⟩ := bounds_i64 wb
  have cM := Lib.hid fun w => mmul_any a b w la lb
  have cN := Lib.hid fun w => zmmul_any a b w la lb ba bb
  have cA := Lib.hid fun w => apply_any a v w la lv
  have cB := Lib.hid fun w => zapply_any a v w la lv ba bv0
  have cC := Lib.hid fun w => check_any a bound w la b0 b1
  have cW := Lib.hid fun w => zwithin_any a bound w la b0 b1
  cases h : wB bound a 16 with
  | true =>
    rw [h] at cC cW
    exact products_yes a b v _ _ bound _ _ w la lb lv (mulO_len a b) (apO_len2 a v) cM cN cA cB cC cW
  | false =>
    rw [h] at cC cW
    exact products_no a b v _ _ bound _ _ w la lb lv (mulO_len a b) (apO_len2 a v) cM cN cA cB cC cW
end Go.Proofs.Ytgkcbadfjhicnaa.Fx
