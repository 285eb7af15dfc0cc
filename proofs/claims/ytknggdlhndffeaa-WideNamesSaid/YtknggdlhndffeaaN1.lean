/- The closed law of layer 2, walked at its own numbers. -/
import Derived.Test.YtknggdlhndffeaaProg
import Derived.Test.YtknggdlhndffeaaE
import Derived.Deep.RegionHeld3
import Derived.Deep.DeepCutAuto
import Derived.KernelRfl
set_option linter.unusedVariables false
set_option linter.unusedSimpArgs false
namespace Go.Proofs.Ytknggdlhndffeaa.Fx
open Go Go.RowKit Wm
theorem cell_new0 (w : World) (a b : Value) (t : TypeId) : (w.alloc (.cells #[a, b] t)).cell? ⟨w.heap.size, 0, none⟩ = some a := by simp [go_sem]
theorem cell_new1 (w : World) (a b : Value) (t : TypeId) : (w.alloc (.cells #[a, b] t)).cell? ⟨w.heap.size, 1, none⟩ = some b := by simp [go_sem]
theorem free_new (w : World) (c : Array Value) (t : TypeId) (k : Nat) : (w.alloc (.cells c t)).frozen? ⟨w.heap.size, k, none⟩ = false := by simp [go_sem]
theorem size_new (w : World) (o : Obj) : w.heap.size < (w.alloc o).heap.size := by simp
theorem cell_new0d (w : World) (a b : Value) (t : TypeId) : (w.alloc (.cells #[a, b] t)).drew.cell? ⟨w.heap.size, 0, none⟩ = some a := cell_new0 w a b t
theorem cell_new1d (w : World) (a b : Value) (t : TypeId) : (w.alloc (.cells #[a, b] t)).drew.cell? ⟨w.heap.size, 1, none⟩ = some b := cell_new1 w a b t
theorem free_newd (w : World) (c : Array Value) (t : TypeId) (k : Nat) : (w.alloc (.cells c t)).drew.frozen? ⟨w.heap.size, k, none⟩ = false := free_new w c t k
theorem size_newd (w : World) (o : Obj) : w.heap.size < (w.alloc o).drew.heap.size := size_new w o
theorem div_at (x xh c : Int) (xl : Nat) (qh : Int) (ql : Nat) (q r s : Int) (w : World) (hx : At x xh xl) (hc0 : -9223372036854775808 ≤ c) (hc1 : c ≤ 9223372036854775807) (hc : c ≠ 0)
    (hq : valE (dv x c) = q) (hr : (if In (dv x c) then rs x c else 0) = r) (hs : errE (dv x c) = s) (hat : At q qh ql) :
    Calls Try.prog 25 #[.agg #[.int .i64 xh, .int .u64 xl], .int .i64 c] w fun e w' => e = .returned (.tuple #[.agg #[.int .i64 qh, .int .u64 ql], .int .i64 r, .int .i64 s]) ∧ Below w.heap.size w w' := by
  have D := wdiv_any x xh c xl w hx hc0 hc1 hc
  rw [hq, hr, hs] at D
  exact exD D hat
theorem text_at (x h : Int) (l : Nat) (t : ByteArray) (w : World) (hx : At x h l) (ht : bstr (wtx x) = t) :
    Calls Try.prog 31 #[.agg #[.int .i64 h, .int .u64 l]] w fun e w' => e = .returned (.string t) ∧ Below w.heap.size w w' := by
  subst ht
  exact text_any x h l w hx
theorem parse_bad (s : ByteArray) (w : World) (hs : s.size ≤ 1000) (hp : ¬ pok s) :
    Calls Try.prog 28 #[.string s] w fun e w' => e = .returned (.tuple #[.agg #[.int .i64 0, .int .u64 0], .int .i64 20]) ∧ Below w.heap.size w w' :=
  exP (l := 0) (parse_any s w hs) (by rw [show pv s = 0 from if_neg hp]; exact At.zero) (if_neg hp)
theorem parse_good (s : ByteArray) (x h : Int) (l : Nat) (w : World) (hs : s.size ≤ 1000) (hv : pval s = x) (hp : pok s) (hat : At x h l) :
    Calls Try.prog 28 #[.string s] w fun e w' => e = .returned (.tuple #[.agg #[.int .i64 h, .int .u64 l], .int .i64 0]) ∧ Below w.heap.size w w' :=
  exP (parse_any s w hs) (by rw [show pv s = pval s from if_pos hp, hv]; exact hat) (if_pos hp)
theorem int_at (x a : Int) (k : Nat) (r s : Int) (w : World) (hx : At x a k) (hr : (if In64 x then x else 0) = r) (hs : (if In64 x then 0 else 20) = s) :
    Calls Try.prog 19 #[.agg #[.int .i64 a, .int .u64 k]] w fun e w' => e = .returned (.tuple #[.int .i64 r, .int .i64 s]) ∧ Below w.heap.size w w' := by
  subst hr hs
  exact int_any x a k w hx
theorem sign_at (x a : Int) (k : Nat) (c : Int) (w : World) (hx : At x a k) (hc : cmpI x 0 = c) :
    Calls Try.prog 24 #[.agg #[.int .i64 a, .int .u64 k]] w fun e w' => e = .returned (.int .i64 c) ∧ Below w.heap.size w w' := by
  subst hc
  exact sign_w x a k w hx
theorem nm_O7 : Hid (Ans 22 #[.int .i64 (-7)] (.agg #[.int .i64 (-1), .int .u64 18446744073709551609])) := Lib.hid (fun w => exW (of_any (-7) w (by omega) (by omega)) (show At (-7) (-1) 18446744073709551609 by unfold At; omega))
theorem nm_D7 : Hid (Ans 25 #[.agg #[.int .i64 (-1), .int .u64 18446744073709551609], .int .i64 (-2)] (.tuple #[.agg #[.int .i64 0, .int .u64 3], .int .i64 (-1), .int .i64 0])) := Lib.hid (fun w => div_at (-7) (-1) (-2) 18446744073709551609 0 3 3 (-1) 0 w (by unfold At; omega) (by omega) (by omega) (by omega) (by decide +kernel) (by decide +kernel) (by decide +kernel) (by unfold At; omega))
theorem nm_MM : Hid (Ans 21 #[.int .i64 (-1000000000000000000), .int .i64 1000000000000000000] (.agg #[.int .i64 (-54210108624275222), .int .u64 5527149226598858752])) := Lib.hid (fun w => exW (mul_any (-1000000000000000000) 1000000000000000000 w (by omega) (by omega) (by omega) (by omega)) (show At (-1000000000000000000 * 1000000000000000000) (-54210108624275222) 5527149226598858752 by unfold At; omega))
theorem nm_TM : Hid (Ans 31 #[.agg #[.int .i64 (-54210108624275222), .int .u64 5527149226598858752]] (.string { data := #[45, 49, 48, 48, 48, 48, 48, 48, 48, 48, 48, 48, 48, 48, 48, 48, 48, 48, 48, 48, 48, 48, 48, 48, 48, 48, 48, 48, 48, 48, 48, 48, 48, 48, 48, 48, 48, 48] })) := Lib.hid (fun w => text_at (-1000000000000000000000000000000000000) (-54210108624275222) 5527149226598858752 { data := #[45, 49, 48, 48, 48, 48, 48, 48, 48, 48, 48, 48, 48, 48, 48, 48, 48, 48, 48, 48, 48, 48, 48, 48, 48, 48, 48, 48, 48, 48, 48, 48, 48, 48, 48, 48, 48, 48] } w (by unfold At; omega) (by kernel_rfl))
theorem nm_Z0 : Hid (Ans 27 #[.int .i64 1, .int .i64 1, .int .i64 0] (.tuple #[.int .i64 0, .int .i64 21])) := Lib.hid (fun w => muldiv_zero 1 1 w (by omega) (by omega) (by omega) (by omega))
theorem nm_MD : Hid (Ans 27 #[.int .i64 4611686018427387904, .int .i64 4, .int .i64 1] (.tuple #[.int .i64 0, .int .i64 20])) := Lib.hid (fun w => muldiv_at 4611686018427387904 4 1 0 20 w (by omega) (by omega) (by omega) (by omega) (by omega) (by omega) (by omega) (by decide +kernel) (by decide +kernel))
theorem nm_O1 : Hid (Ans 22 #[.int .i64 (-1)] (.agg #[.int .i64 (-1), .int .u64 18446744073709551615])) := Lib.hid (fun w => exW (of_any (-1) w (by omega) (by omega)) (show At (-1) (-1) 18446744073709551615 by unfold At; omega))
theorem nm_AL : Hid (Ans 13 #[.agg #[.int .i64 (-9223372036854775808), .int .u64 0], .agg #[.int .i64 (-1), .int .u64 18446744073709551615]] (.tuple #[.agg #[.int .i64 0, .int .u64 0], .int .i64 20])) := Lib.hid (fun w => exE (add_any (-170141183460469231731687303715884105728) (-1) (-9223372036854775808) (-1) 0 18446744073709551615 w (by unfold At; omega) (by unfold At; omega)) (show At _ 0 0 from (show valE ((-170141183460469231731687303715884105728) + -1) = 0 by decide +kernel) ▸ At.zero) (by decide +kernel))
theorem nm_O0 : Hid (Ans 22 #[.int .i64 0] (.agg #[.int .i64 0, .int .u64 0])) := Lib.hid (fun w => exW (of_any 0 w (by omega) (by omega)) At.zero)
theorem nm_SL : Hid (Ans 16 #[.agg #[.int .i64 0, .int .u64 0], .agg #[.int .i64 (-9223372036854775808), .int .u64 0]] (.tuple #[.agg #[.int .i64 0, .int .u64 0], .int .i64 20])) := Lib.hid (fun w => exE (sub_any 0 (-170141183460469231731687303715884105728) 0 (-9223372036854775808) 0 0 w At.zero (by unfold At; omega)) (show At _ 0 0 from (show valE (0 - (-170141183460469231731687303715884105728)) = 0 by decide +kernel) ▸ At.zero) (by decide +kernel))
theorem nm_DL : Hid (Ans 25 #[.agg #[.int .i64 (-9223372036854775808), .int .u64 0], .int .i64 (-1)] (.tuple #[.agg #[.int .i64 0, .int .u64 0], .int .i64 0, .int .i64 20])) := Lib.hid (fun w => div_at (-170141183460469231731687303715884105728) (-9223372036854775808) (-1) 0 0 0 0 0 20 w (by unfold At; omega) (by omega) (by omega) (by omega) (by decide +kernel) (by decide +kernel) (by decide +kernel) At.zero)
theorem nm_P0 : Hid (Ans 28 #[.string { data := #[45, 48] }] (.tuple #[.agg #[.int .i64 0, .int .u64 0], .int .i64 20])) := Lib.hid (fun w => parse_bad { data := #[45, 48] } w (by decide) (by unfold pok; decide +kernel))
theorem nm_PO : Hid (Ans 28 #[.string { data := #[49, 55, 48, 49, 52, 49, 49, 56, 51, 52, 54, 48, 52, 54, 57, 50, 51, 49, 55, 51, 49, 54, 56, 55, 51, 48, 51, 55, 49, 53, 56, 56, 52, 49, 48, 53, 55, 50, 56] }] (.tuple #[.agg #[.int .i64 0, .int .u64 0], .int .i64 20])) := Lib.hid (fun w => parse_bad { data := #[49, 55, 48, 49, 52, 49, 49, 56, 51, 52, 54, 48, 52, 54, 57, 50, 51, 49, 55, 51, 49, 54, 56, 55, 51, 48, 51, 55, 49, 53, 56, 56, 52, 49, 48, 53, 55, 50, 56] } w (by decide) (by unfold pok; decide +kernel))
theorem nm_PL : Hid (Ans 28 #[.string { data := #[45, 49, 55, 48, 49, 52, 49, 49, 56, 51, 52, 54, 48, 52, 54, 57, 50, 51, 49, 55, 51, 49, 54, 56, 55, 51, 48, 51, 55, 49, 53, 56, 56, 52, 49, 48, 53, 55, 50, 56] }] (.tuple #[.agg #[.int .i64 (-9223372036854775808), .int .u64 0], .int .i64 0])) := Lib.hid (fun w => parse_good { data := #[45, 49, 55, 48, 49, 52, 49, 49, 56, 51, 52, 54, 48, 52, 54, 57, 50, 51, 49, 55, 51, 49, 54, 56, 55, 51, 48, 51, 55, 49, 53, 56, 56, 52, 49, 48, 53, 55, 50, 56] } (-170141183460469231731687303715884105728) (-9223372036854775808) 0 w (by decide) (by decide +kernel) (by unfold pok; decide +kernel) (by unfold At; omega))
theorem nm_IB : Hid (Ans 19 #[.agg #[.int .i64 0, .int .u64 9223372036854775808]] (.tuple #[.int .i64 0, .int .i64 20])) := Lib.hid (fun w => int_at 9223372036854775808 0 9223372036854775808 0 20 w (by unfold At; omega) (by decide +kernel) (by decide +kernel))
theorem nm_O3 : Hid (Ans 22 #[.int .i64 3] (.agg #[.int .i64 0, .int .u64 3])) := Lib.hid (fun w => exW (of_any 3 w (by omega) (by omega)) (show At 3 0 3 by unfold At; omega))
theorem nm_TL : Hid (Ans 31 #[.agg #[.int .i64 (-9223372036854775808), .int .u64 0]] (.string { data := #[45, 49, 55, 48, 49, 52, 49, 49, 56, 51, 52, 54, 48, 52, 54, 57, 50, 51, 49, 55, 51, 49, 54, 56, 55, 51, 48, 51, 55, 49, 53, 56, 56, 52, 49, 48, 53, 55, 50, 56] })) := Lib.hid (fun w => text_at (-170141183460469231731687303715884105728) (-9223372036854775808) 0 { data := #[45, 49, 55, 48, 49, 52, 49, 49, 56, 51, 52, 54, 48, 52, 54, 57, 50, 51, 49, 55, 51, 49, 54, 56, 55, 51, 48, 51, 55, 49, 53, 56, 56, 52, 49, 48, 53, 55, 50, 56] } w (by unfold At; omega) (by kernel_rfl))
theorem nm_SG : Hid (Ans 24 #[.agg #[.int .i64 (-9223372036854775808), .int .u64 0]] (.int .i64 (-1))) := Lib.hid (fun w => sign_at (-170141183460469231731687303715884105728) (-9223372036854775808) 0 (-1) w (by unfold At; omega) (by decide +kernel))
set_option maxRecDepth 100000 in
set_option maxHeartbeats 8000000 in
theorem walk_wideNames (w : World) : Calls Try.prog 6 #[] w fun e w' => e = .returned (.bool true) ∧ Below w.heap.size w w' := by
  have O7 := nm_O7
  have D7 := nm_D7
  have MM := nm_MM
  have TM := nm_TM
  have Z0 := nm_Z0
  have MD := nm_MD
  have O1 := nm_O1
  have AL := nm_AL
  have O0 := nm_O0
  have SL := nm_SL
  have DL := nm_DL
  have P0 := nm_P0
  have PO := nm_PO
  have PL := nm_PL
  have IB := nm_IB
  have O3 := nm_O3
  have TL := nm_TL
  have SG := nm_SG
  unfold Ans at *
  go_enter Try.func6, Try.ntmps6
  go_wp2_with fail
  refine (O7.out _).mono ?_
  rintro e wx1 ⟨rfl, hb1⟩
  have hB1 : Below w.heap.size w wx1 := by (repeat' (first | (with_reducible exact Below.refl _ _) | (with_reducible assumption) | (with_reducible refine Below.drew ?_) | (with_reducible refine Below.setCell ?_ ?_ _) | (with_reducible refine bnext ?_ (by assumption)) | (with_reducible refine Below.alloc ?_ ?_ _) | go_size))
  have hS1 : w.heap.size ≤ wx1.heap.size := hB1.size
  go_wp2_with fail
  refine (D7.out _).mono ?_
  rintro e wx2 ⟨rfl, hb2⟩
  have hB2 : Below w.heap.size w wx2 := by (repeat' (first | (with_reducible exact Below.refl _ _) | (with_reducible assumption) | (with_reducible refine Below.drew ?_) | (with_reducible refine Below.setCell ?_ ?_ _) | (with_reducible refine bnext ?_ (by assumption)) | (with_reducible refine Below.alloc ?_ ?_ _) | go_size))
  have hS2 : w.heap.size ≤ wx2.heap.size := hB2.size
  go_wp2_with fail
  refine (MM.out _).mono ?_
  rintro e wx3 ⟨rfl, hb3⟩
  have hB3 : Below w.heap.size w wx3 := by (repeat' (first | (with_reducible exact Below.refl _ _) | (with_reducible assumption) | (with_reducible refine Below.drew ?_) | (with_reducible refine Below.setCell ?_ ?_ _) | (with_reducible refine bnext ?_ (by assumption)) | (with_reducible refine Below.alloc ?_ ?_ _) | go_size))
  have hS3 : w.heap.size ≤ wx3.heap.size := hB3.size
  have k3_0 : wx3.cell? ⟨wx2.heap.size, 0, none⟩ = some (.int .i64 0) := keep_cell hb3 (by first | assumption | (simp [go_sem, *]; done))
  have k3_1 : wx3.cell? ⟨wx2.heap.size, 1, none⟩ = some (.int .u64 3) := keep_cell hb3 (by first | assumption | (simp [go_sem, *]; done))
  have hz3_0 : wx2.heap.size < wx3.heap.size := block_lt_of_cell k3_0
  go_wp2_with fail
  refine (TM.out _).mono ?_
  rintro e wx4 ⟨rfl, hb4⟩
  have hB4 : Below w.heap.size w wx4 := by (repeat' (first | (with_reducible exact Below.refl _ _) | (with_reducible assumption) | (with_reducible refine Below.drew ?_) | (with_reducible refine Below.setCell ?_ ?_ _) | (with_reducible refine bnext ?_ (by assumption)) | (with_reducible refine Below.alloc ?_ ?_ _) | go_size))
  have hS4 : w.heap.size ≤ wx4.heap.size := hB4.size
  have k4_0 : wx4.cell? ⟨wx2.heap.size, 0, none⟩ = some (.int .i64 0) := keep_cell hb4 (by first | assumption | (simp [go_sem, *]; done))
  have k4_1 : wx4.cell? ⟨wx2.heap.size, 1, none⟩ = some (.int .u64 3) := keep_cell hb4 (by first | assumption | (simp [go_sem, *]; done))
  have hz4_0 : wx2.heap.size < wx4.heap.size := block_lt_of_cell k4_0
  go_wp2_with fail
  refine (Z0.out _).mono ?_
  rintro e wx5 ⟨rfl, hb5⟩
  have hB5 : Below w.heap.size w wx5 := by (repeat' (first | (with_reducible exact Below.refl _ _) | (with_reducible assumption) | (with_reducible refine Below.drew ?_) | (with_reducible refine Below.setCell ?_ ?_ _) | (with_reducible refine bnext ?_ (by assumption)) | (with_reducible refine Below.alloc ?_ ?_ _) | go_size))
  have hS5 : w.heap.size ≤ wx5.heap.size := hB5.size
  have k5_0 : wx5.cell? ⟨wx2.heap.size, 0, none⟩ = some (.int .i64 0) := keep_cell hb5 (by first | assumption | (simp [go_sem, *]; done))
  have k5_1 : wx5.cell? ⟨wx2.heap.size, 1, none⟩ = some (.int .u64 3) := keep_cell hb5 (by first | assumption | (simp [go_sem, *]; done))
  have hz5_0 : wx2.heap.size < wx5.heap.size := block_lt_of_cell k5_0
  go_wp2_with fail
  refine (MD.out _).mono ?_
  rintro e wx6 ⟨rfl, hb6⟩
  have hB6 : Below w.heap.size w wx6 := by (repeat' (first | (with_reducible exact Below.refl _ _) | (with_reducible assumption) | (with_reducible refine Below.drew ?_) | (with_reducible refine Below.setCell ?_ ?_ _) | (with_reducible refine bnext ?_ (by assumption)) | (with_reducible refine Below.alloc ?_ ?_ _) | go_size))
  have hS6 : w.heap.size ≤ wx6.heap.size := hB6.size
  have k6_0 : wx6.cell? ⟨wx2.heap.size, 0, none⟩ = some (.int .i64 0) := keep_cell hb6 (by first | assumption | (simp [go_sem, *]; done))
  have k6_1 : wx6.cell? ⟨wx2.heap.size, 1, none⟩ = some (.int .u64 3) := keep_cell hb6 (by first | assumption | (simp [go_sem, *]; done))
  have hz6_0 : wx2.heap.size < wx6.heap.size := block_lt_of_cell k6_0
  go_upto_region 6 with fail
  go_cut [0, 11] (fun s0 se wx => s0 = .bool false ∧ se = .int .i64 20 ∧ wx.cell? ⟨wx2.heap.size, 0, none⟩ = some (.int .i64 0) ∧ wx.cell? ⟨wx2.heap.size, 1, none⟩ = some (.int .u64 3) ∧ wx.cell? ⟨wx6.heap.size, 0, none⟩ = some (.int .i64 (-9223372036854775808)) ∧ wx.cell? ⟨wx6.heap.size, 1, none⟩ = some (.int .u64 0) ∧ Below w.heap.size w wx)
  case first =>
    go_region_with (first | (go_at_call 22; (with_reducible refine (O1.out _).mono ?_); rintro e w' ⟨rfl, hbb⟩; have k0 : w'.cell? ⟨wx2.heap.size, 0, none⟩ = some (.int .i64 0) := keep_cell hbb (by first | (with_reducible assumption) | (exact cell_alloc (by with_reducible assumption)) | (simp [go_sem, *]; done)); have k1 : w'.cell? ⟨wx2.heap.size, 1, none⟩ = some (.int .u64 3) := keep_cell hbb (by first | (with_reducible assumption) | (exact cell_alloc (by with_reducible assumption)) | (simp [go_sem, *]; done)); have k2 : w'.cell? ⟨wx6.heap.size, 0, none⟩ = some (.int .i64 (-9223372036854775808)) := keep_cell hbb (by first | (with_reducible assumption) | (exact cell_alloc (by with_reducible assumption)) | (simp [go_sem, *]; done)); have k3 : w'.cell? ⟨wx6.heap.size, 1, none⟩ = some (.int .u64 0) := keep_cell hbb (by first | (with_reducible assumption) | (exact cell_alloc (by with_reducible assumption)) | (simp [go_sem, *]; done)); (try (have z0 := keep_cell hbb z0; have z1 := keep_cell hbb z1; have y0 := keep_free hbb y2 y0; have y1 := keep_free hbb y2 y1; have y2 := Nat.lt_of_lt_of_le y2 hbb.size)); (try (have z0 := keep_cell hbb (cell_new0 _ _ _ _); have z1 := keep_cell hbb (cell_new1 _ _ _ _); have y0 := keep_free hbb (size_new _ _) (free_new _ _ _ 0); have y1 := keep_free hbb (size_new _ _) (free_new _ _ _ 1); have y2 := Nat.lt_of_lt_of_le (size_new _ _) hbb.size)); (try (have z0 := keep_cell hbb (cell_new0d _ _ _ _); have z1 := keep_cell hbb (cell_new1d _ _ _ _); have y0 := keep_free hbb (size_newd _ _) (free_newd _ _ _ 0); have y1 := keep_free hbb (size_newd _ _) (free_newd _ _ _ 1); have y2 := Nat.lt_of_lt_of_le (size_newd _ _) hbb.size)); (try simp only [World.size_alloc, World.size_drew] at z0); (try simp only [World.size_alloc, World.size_drew] at z1); (try simp only [World.size_alloc, World.size_drew] at y0); (try simp only [World.size_alloc, World.size_drew] at y1); (try simp only [World.size_alloc, World.size_drew] at y2); have hz0 : wx2.heap.size < w'.heap.size := block_lt_of_cell k0; have hz2 : wx6.heap.size < w'.heap.size := block_lt_of_cell k2; have hS : w.heap.size ≤ w'.heap.size := Nat.le_trans (by first | (with_reducible assumption) | (simp only [World.size_alloc, World.size_drew]; omega) | (simp [go_sem]; omega)) hbb.size) | (go_at_call 13; (with_reducible refine (AL.out _).mono ?_); rintro e w' ⟨rfl, hbb⟩; have k0 : w'.cell? ⟨wx2.heap.size, 0, none⟩ = some (.int .i64 0) := keep_cell hbb (by first | (with_reducible assumption) | (exact cell_alloc (by with_reducible assumption)) | (simp [go_sem, *]; done)); have k1 : w'.cell? ⟨wx2.heap.size, 1, none⟩ = some (.int .u64 3) := keep_cell hbb (by first | (with_reducible assumption) | (exact cell_alloc (by with_reducible assumption)) | (simp [go_sem, *]; done)); have k2 : w'.cell? ⟨wx6.heap.size, 0, none⟩ = some (.int .i64 (-9223372036854775808)) := keep_cell hbb (by first | (with_reducible assumption) | (exact cell_alloc (by with_reducible assumption)) | (simp [go_sem, *]; done)); have k3 : w'.cell? ⟨wx6.heap.size, 1, none⟩ = some (.int .u64 0) := keep_cell hbb (by first | (with_reducible assumption) | (exact cell_alloc (by with_reducible assumption)) | (simp [go_sem, *]; done)); (try (have z0 := keep_cell hbb z0; have z1 := keep_cell hbb z1; have y0 := keep_free hbb y2 y0; have y1 := keep_free hbb y2 y1; have y2 := Nat.lt_of_lt_of_le y2 hbb.size)); (try (have z0 := keep_cell hbb (cell_new0 _ _ _ _); have z1 := keep_cell hbb (cell_new1 _ _ _ _); have y0 := keep_free hbb (size_new _ _) (free_new _ _ _ 0); have y1 := keep_free hbb (size_new _ _) (free_new _ _ _ 1); have y2 := Nat.lt_of_lt_of_le (size_new _ _) hbb.size)); (try (have z0 := keep_cell hbb (cell_new0d _ _ _ _); have z1 := keep_cell hbb (cell_new1d _ _ _ _); have y0 := keep_free hbb (size_newd _ _) (free_newd _ _ _ 0); have y1 := keep_free hbb (size_newd _ _) (free_newd _ _ _ 1); have y2 := Nat.lt_of_lt_of_le (size_newd _ _) hbb.size)); (try simp only [World.size_alloc, World.size_drew] at z0); (try simp only [World.size_alloc, World.size_drew] at z1); (try simp only [World.size_alloc, World.size_drew] at y0); (try simp only [World.size_alloc, World.size_drew] at y1); (try simp only [World.size_alloc, World.size_drew] at y2); have hz0 : wx2.heap.size < w'.heap.size := block_lt_of_cell k0; have hz2 : wx6.heap.size < w'.heap.size := block_lt_of_cell k2; have hS : w.heap.size ≤ w'.heap.size := Nat.le_trans (by first | (with_reducible assumption) | (simp only [World.size_alloc, World.size_drew]; omega) | (simp [go_sem]; omega)) hbb.size))
    all_goals
      go_wp2_with fail
      go_meet
      case rel => exact ⟨rfl, rfl, (by first | (with_reducible assumption) | (simp [go_sem, *]; done)), (by first | (with_reducible assumption) | (simp [go_sem, *]; done)), (by first | (with_reducible assumption) | (simp [go_sem, *]; done)), (by first | (with_reducible assumption) | (simp [go_sem, *]; done)), by (repeat' (first | (with_reducible exact Below.refl _ _) | (with_reducible assumption) | (with_reducible refine Below.drew ?_) | (with_reducible refine Below.setCell ?_ ?_ _) | (with_reducible refine bnext ?_ (by assumption)) | (with_reducible refine Below.alloc ?_ ?_ _) | go_size))⟩
  obtain ⟨rfl, rfl, c6_0, c6_1, c6_2, c6_3, hBc6⟩ := hcut
  have hSc6 := hBc6.size
  have hzc6_0 : wx2.heap.size < wc.heap.size := block_lt_of_cell c6_0
  have hzc6_2 : wx6.heap.size < wc.heap.size := block_lt_of_cell c6_2
  go_upto_region 7 with fail
  go_cut [0, 13] (fun s0 se wx => s0 = .bool false ∧ se = .int .i64 20 ∧ wx.cell? ⟨wx2.heap.size, 0, none⟩ = some (.int .i64 0) ∧ wx.cell? ⟨wx2.heap.size, 1, none⟩ = some (.int .u64 3) ∧ wx.cell? ⟨wx6.heap.size, 0, none⟩ = some (.int .i64 (-9223372036854775808)) ∧ wx.cell? ⟨wx6.heap.size, 1, none⟩ = some (.int .u64 0) ∧ Below w.heap.size w wx)
  case first =>
    go_region_with (first | (go_at_call 22; (with_reducible refine (O0.out _).mono ?_); rintro e w' ⟨rfl, hbb⟩; have k0 : w'.cell? ⟨wx2.heap.size, 0, none⟩ = some (.int .i64 0) := keep_cell hbb (by first | (with_reducible assumption) | (exact cell_alloc (by with_reducible assumption)) | (simp [go_sem, *]; done)); have k1 : w'.cell? ⟨wx2.heap.size, 1, none⟩ = some (.int .u64 3) := keep_cell hbb (by first | (with_reducible assumption) | (exact cell_alloc (by with_reducible assumption)) | (simp [go_sem, *]; done)); have k2 : w'.cell? ⟨wx6.heap.size, 0, none⟩ = some (.int .i64 (-9223372036854775808)) := keep_cell hbb (by first | (with_reducible assumption) | (exact cell_alloc (by with_reducible assumption)) | (simp [go_sem, *]; done)); have k3 : w'.cell? ⟨wx6.heap.size, 1, none⟩ = some (.int .u64 0) := keep_cell hbb (by first | (with_reducible assumption) | (exact cell_alloc (by with_reducible assumption)) | (simp [go_sem, *]; done)); (try (have z0 := keep_cell hbb z0; have z1 := keep_cell hbb z1; have y0 := keep_free hbb y2 y0; have y1 := keep_free hbb y2 y1; have y2 := Nat.lt_of_lt_of_le y2 hbb.size)); (try (have z0 := keep_cell hbb (cell_new0 _ _ _ _); have z1 := keep_cell hbb (cell_new1 _ _ _ _); have y0 := keep_free hbb (size_new _ _) (free_new _ _ _ 0); have y1 := keep_free hbb (size_new _ _) (free_new _ _ _ 1); have y2 := Nat.lt_of_lt_of_le (size_new _ _) hbb.size)); (try (have z0 := keep_cell hbb (cell_new0d _ _ _ _); have z1 := keep_cell hbb (cell_new1d _ _ _ _); have y0 := keep_free hbb (size_newd _ _) (free_newd _ _ _ 0); have y1 := keep_free hbb (size_newd _ _) (free_newd _ _ _ 1); have y2 := Nat.lt_of_lt_of_le (size_newd _ _) hbb.size)); (try simp only [World.size_alloc, World.size_drew] at z0); (try simp only [World.size_alloc, World.size_drew] at z1); (try simp only [World.size_alloc, World.size_drew] at y0); (try simp only [World.size_alloc, World.size_drew] at y1); (try simp only [World.size_alloc, World.size_drew] at y2); have hz0 : wx2.heap.size < w'.heap.size := block_lt_of_cell k0; have hz2 : wx6.heap.size < w'.heap.size := block_lt_of_cell k2; have hS : w.heap.size ≤ w'.heap.size := Nat.le_trans (by first | (with_reducible assumption) | (simp only [World.size_alloc, World.size_drew]; omega) | (simp [go_sem]; omega)) hbb.size) | (go_at_call 16; (with_reducible refine (SL.out _).mono ?_); rintro e w' ⟨rfl, hbb⟩; have k0 : w'.cell? ⟨wx2.heap.size, 0, none⟩ = some (.int .i64 0) := keep_cell hbb (by first | (with_reducible assumption) | (exact cell_alloc (by with_reducible assumption)) | (simp [go_sem, *]; done)); have k1 : w'.cell? ⟨wx2.heap.size, 1, none⟩ = some (.int .u64 3) := keep_cell hbb (by first | (with_reducible assumption) | (exact cell_alloc (by with_reducible assumption)) | (simp [go_sem, *]; done)); have k2 : w'.cell? ⟨wx6.heap.size, 0, none⟩ = some (.int .i64 (-9223372036854775808)) := keep_cell hbb (by first | (with_reducible assumption) | (exact cell_alloc (by with_reducible assumption)) | (simp [go_sem, *]; done)); have k3 : w'.cell? ⟨wx6.heap.size, 1, none⟩ = some (.int .u64 0) := keep_cell hbb (by first | (with_reducible assumption) | (exact cell_alloc (by with_reducible assumption)) | (simp [go_sem, *]; done)); (try (have z0 := keep_cell hbb z0; have z1 := keep_cell hbb z1; have y0 := keep_free hbb y2 y0; have y1 := keep_free hbb y2 y1; have y2 := Nat.lt_of_lt_of_le y2 hbb.size)); (try (have z0 := keep_cell hbb (cell_new0 _ _ _ _); have z1 := keep_cell hbb (cell_new1 _ _ _ _); have y0 := keep_free hbb (size_new _ _) (free_new _ _ _ 0); have y1 := keep_free hbb (size_new _ _) (free_new _ _ _ 1); have y2 := Nat.lt_of_lt_of_le (size_new _ _) hbb.size)); (try (have z0 := keep_cell hbb (cell_new0d _ _ _ _); have z1 := keep_cell hbb (cell_new1d _ _ _ _); have y0 := keep_free hbb (size_newd _ _) (free_newd _ _ _ 0); have y1 := keep_free hbb (size_newd _ _) (free_newd _ _ _ 1); have y2 := Nat.lt_of_lt_of_le (size_newd _ _) hbb.size)); (try simp only [World.size_alloc, World.size_drew] at z0); (try simp only [World.size_alloc, World.size_drew] at z1); (try simp only [World.size_alloc, World.size_drew] at y0); (try simp only [World.size_alloc, World.size_drew] at y1); (try simp only [World.size_alloc, World.size_drew] at y2); have hz0 : wx2.heap.size < w'.heap.size := block_lt_of_cell k0; have hz2 : wx6.heap.size < w'.heap.size := block_lt_of_cell k2; have hS : w.heap.size ≤ w'.heap.size := Nat.le_trans (by first | (with_reducible assumption) | (simp only [World.size_alloc, World.size_drew]; omega) | (simp [go_sem]; omega)) hbb.size))
    all_goals
      go_wp2_with fail
      go_meet
      case rel => exact ⟨rfl, rfl, (by first | (with_reducible assumption) | (simp [go_sem, *]; done)), (by first | (with_reducible assumption) | (simp [go_sem, *]; done)), (by first | (with_reducible assumption) | (simp [go_sem, *]; done)), (by first | (with_reducible assumption) | (simp [go_sem, *]; done)), by (repeat' (first | (with_reducible exact Below.refl _ _) | (with_reducible assumption) | (with_reducible refine Below.drew ?_) | (with_reducible refine Below.setCell ?_ ?_ _) | (with_reducible refine bnext ?_ (by assumption)) | (with_reducible refine Below.alloc ?_ ?_ _) | go_size))⟩
  obtain ⟨rfl, rfl, c7_0, c7_1, c7_2, c7_3, hBc7⟩ := hcut
  have hSc7 := hBc7.size
  have hzc7_0 : wx2.heap.size < wc.heap.size := block_lt_of_cell c7_0
  have hzc7_2 : wx6.heap.size < wc.heap.size := block_lt_of_cell c7_2
  go_wp2_with fail
  refine (DL.out _).mono ?_
  rintro e wx7 ⟨rfl, hb7⟩
  have hB7 : Below w.heap.size w wx7 := by (repeat' (first | (with_reducible exact Below.refl _ _) | (with_reducible assumption) | (with_reducible refine Below.drew ?_) | (with_reducible refine Below.setCell ?_ ?_ _) | (with_reducible refine bnext ?_ (by assumption)) | (with_reducible refine Below.alloc ?_ ?_ _) | go_size))
  have hS7 : w.heap.size ≤ wx7.heap.size := hB7.size
  have k7_0 : wx7.cell? ⟨wx2.heap.size, 0, none⟩ = some (.int .i64 0) := keep_cell hb7 (by first | assumption | (simp [go_sem, *]; done))
  have k7_1 : wx7.cell? ⟨wx2.heap.size, 1, none⟩ = some (.int .u64 3) := keep_cell hb7 (by first | assumption | (simp [go_sem, *]; done))
  have k7_2 : wx7.cell? ⟨wx6.heap.size, 0, none⟩ = some (.int .i64 (-9223372036854775808)) := keep_cell hb7 (by first | assumption | (simp [go_sem, *]; done))
  have k7_3 : wx7.cell? ⟨wx6.heap.size, 1, none⟩ = some (.int .u64 0) := keep_cell hb7 (by first | assumption | (simp [go_sem, *]; done))
  have hz7_0 : wx2.heap.size < wx7.heap.size := block_lt_of_cell k7_0
  have hz7_1 : wx6.heap.size < wx7.heap.size := block_lt_of_cell k7_2
  go_wp2_with fail
  refine (P0.out _).mono ?_
  rintro e wx8 ⟨rfl, hb8⟩
  have hB8 : Below w.heap.size w wx8 := by (repeat' (first | (with_reducible exact Below.refl _ _) | (with_reducible assumption) | (with_reducible refine Below.drew ?_) | (with_reducible refine Below.setCell ?_ ?_ _) | (with_reducible refine bnext ?_ (by assumption)) | (with_reducible refine Below.alloc ?_ ?_ _) | go_size))
  have hS8 : w.heap.size ≤ wx8.heap.size := hB8.size
  have k8_0 : wx8.cell? ⟨wx2.heap.size, 0, none⟩ = some (.int .i64 0) := keep_cell hb8 (by first | assumption | (simp [go_sem, *]; done))
  have k8_1 : wx8.cell? ⟨wx2.heap.size, 1, none⟩ = some (.int .u64 3) := keep_cell hb8 (by first | assumption | (simp [go_sem, *]; done))
  have k8_2 : wx8.cell? ⟨wx6.heap.size, 0, none⟩ = some (.int .i64 (-9223372036854775808)) := keep_cell hb8 (by first | assumption | (simp [go_sem, *]; done))
  have k8_3 : wx8.cell? ⟨wx6.heap.size, 1, none⟩ = some (.int .u64 0) := keep_cell hb8 (by first | assumption | (simp [go_sem, *]; done))
  have hz8_0 : wx2.heap.size < wx8.heap.size := block_lt_of_cell k8_0
  have hz8_1 : wx6.heap.size < wx8.heap.size := block_lt_of_cell k8_2
  go_wp2_with fail
  refine (PO.out _).mono ?_
  rintro e wx9 ⟨rfl, hb9⟩
  have hB9 : Below w.heap.size w wx9 := by (repeat' (first | (with_reducible exact Below.refl _ _) | (with_reducible assumption) | (with_reducible refine Below.drew ?_) | (with_reducible refine Below.setCell ?_ ?_ _) | (with_reducible refine bnext ?_ (by assumption)) | (with_reducible refine Below.alloc ?_ ?_ _) | go_size))
  have hS9 : w.heap.size ≤ wx9.heap.size := hB9.size
  have k9_0 : wx9.cell? ⟨wx2.heap.size, 0, none⟩ = some (.int .i64 0) := keep_cell hb9 (by first | assumption | (simp [go_sem, *]; done))
  have k9_1 : wx9.cell? ⟨wx2.heap.size, 1, none⟩ = some (.int .u64 3) := keep_cell hb9 (by first | assumption | (simp [go_sem, *]; done))
  have k9_2 : wx9.cell? ⟨wx6.heap.size, 0, none⟩ = some (.int .i64 (-9223372036854775808)) := keep_cell hb9 (by first | assumption | (simp [go_sem, *]; done))
  have k9_3 : wx9.cell? ⟨wx6.heap.size, 1, none⟩ = some (.int .u64 0) := keep_cell hb9 (by first | assumption | (simp [go_sem, *]; done))
  have hz9_0 : wx2.heap.size < wx9.heap.size := block_lt_of_cell k9_0
  have hz9_1 : wx6.heap.size < wx9.heap.size := block_lt_of_cell k9_2
  go_wp2_with fail
  refine (PL.out _).mono ?_
  rintro e wx10 ⟨rfl, hb10⟩
  have hB10 : Below w.heap.size w wx10 := by (repeat' (first | (with_reducible exact Below.refl _ _) | (with_reducible assumption) | (with_reducible refine Below.drew ?_) | (with_reducible refine Below.setCell ?_ ?_ _) | (with_reducible refine bnext ?_ (by assumption)) | (with_reducible refine Below.alloc ?_ ?_ _) | go_size))
  have hS10 : w.heap.size ≤ wx10.heap.size := hB10.size
  have k10_0 : wx10.cell? ⟨wx2.heap.size, 0, none⟩ = some (.int .i64 0) := keep_cell hb10 (by first | assumption | (simp [go_sem, *]; done))
  have k10_1 : wx10.cell? ⟨wx2.heap.size, 1, none⟩ = some (.int .u64 3) := keep_cell hb10 (by first | assumption | (simp [go_sem, *]; done))
  have k10_2 : wx10.cell? ⟨wx6.heap.size, 0, none⟩ = some (.int .i64 (-9223372036854775808)) := keep_cell hb10 (by first | assumption | (simp [go_sem, *]; done))
  have k10_3 : wx10.cell? ⟨wx6.heap.size, 1, none⟩ = some (.int .u64 0) := keep_cell hb10 (by first | assumption | (simp [go_sem, *]; done))
  have hz10_0 : wx2.heap.size < wx10.heap.size := block_lt_of_cell k10_0
  have hz10_1 : wx6.heap.size < wx10.heap.size := block_lt_of_cell k10_2
  go_wp2_with fail
  refine (IB.out _).mono ?_
  rintro e wx11 ⟨rfl, hb11⟩
  have hB11 : Below w.heap.size w wx11 := by (repeat' (first | (with_reducible exact Below.refl _ _) | (with_reducible assumption) | (with_reducible refine Below.drew ?_) | (with_reducible refine Below.setCell ?_ ?_ _) | (with_reducible refine bnext ?_ (by assumption)) | (with_reducible refine Below.alloc ?_ ?_ _) | go_size))
  have hS11 : w.heap.size ≤ wx11.heap.size := hB11.size
  have k11_0 : wx11.cell? ⟨wx2.heap.size, 0, none⟩ = some (.int .i64 0) := keep_cell hb11 (by first | assumption | (simp [go_sem, *]; done))
  have k11_1 : wx11.cell? ⟨wx2.heap.size, 1, none⟩ = some (.int .u64 3) := keep_cell hb11 (by first | assumption | (simp [go_sem, *]; done))
  have k11_2 : wx11.cell? ⟨wx6.heap.size, 0, none⟩ = some (.int .i64 (-9223372036854775808)) := keep_cell hb11 (by first | assumption | (simp [go_sem, *]; done))
  have k11_3 : wx11.cell? ⟨wx6.heap.size, 1, none⟩ = some (.int .u64 0) := keep_cell hb11 (by first | assumption | (simp [go_sem, *]; done))
  have k11_4 : wx11.cell? ⟨wx10.heap.size, 0, none⟩ = some (.int .i64 (-9223372036854775808)) := keep_cell hb11 (by first | assumption | (simp [go_sem, *]; done))
  have k11_5 : wx11.cell? ⟨wx10.heap.size, 1, none⟩ = some (.int .u64 0) := keep_cell hb11 (by first | assumption | (simp [go_sem, *]; done))
  have hz11_0 : wx2.heap.size < wx11.heap.size := block_lt_of_cell k11_0
  have hz11_1 : wx6.heap.size < wx11.heap.size := block_lt_of_cell k11_2
  have hz11_2 : wx10.heap.size < wx11.heap.size := block_lt_of_cell k11_4
  go_wp2_with fail
  simp only [List.append_eq, List.cons_append, List.nil_append]
  go_region_held3 (fun w' => w'.cell? ⟨wx2.heap.size, 0, none⟩ = some (.int .i64 0) ∧ w'.cell? ⟨wx2.heap.size, 1, none⟩ = some (.int .u64 3) ∧ w'.cell? ⟨wx6.heap.size, 0, none⟩ = some (.int .i64 (-9223372036854775808)) ∧ w'.cell? ⟨wx6.heap.size, 1, none⟩ = some (.int .u64 0) ∧ w'.cell? ⟨wx10.heap.size, 0, none⟩ = some (.int .i64 (-9223372036854775808)) ∧ w'.cell? ⟨wx10.heap.size, 1, none⟩ = some (.int .u64 0) ∧ Below w.heap.size w w')
    (first | (go_split_ands; refine ⟨keep_cell (by assumption) (by assumption), keep_cell (by assumption) (by assumption), keep_cell (by assumption) (by assumption), keep_cell (by assumption) (by assumption), keep_cell (by assumption) (by assumption), keep_cell (by assumption) (by assumption), bnext (by assumption) (by assumption)⟩) | (refine ⟨?_, ?_, ?_, ?_, ?_, ?_, ?_⟩ <;> first | (with_reducible assumption) | (go_grown; done) | (simp [go_sem, *]; done)))
    ((first | (go_at_call 33; (with_reducible refine (alive_any _).mono ?_); rintro e w' ⟨rfl, hbb⟩) | (go_at_call 22; (with_reducible refine (O3.out _).mono ?_); rintro e w' ⟨rfl, hbb⟩) | (go_at_call 31; (with_reducible refine (TL.out _).mono ?_); rintro e w' ⟨rfl, hbb⟩) | (go_at_call 24; (with_reducible refine (SG.out _).mono ?_); rintro e w' ⟨rfl, hbb⟩)))
  go_split_ands
  go_wp2
  go_ret
  exact ⟨rfl, by (repeat' (first | (with_reducible exact Below.refl _ _) | (with_reducible assumption) | (with_reducible refine Below.drew ?_) | (with_reducible refine Below.setCell ?_ ?_ _) | (with_reducible refine bnext ?_ (by assumption)) | (with_reducible refine Below.alloc ?_ ?_ _) | go_size))⟩
end Go.Proofs.Ytknggdlhndffeaa.Fx
