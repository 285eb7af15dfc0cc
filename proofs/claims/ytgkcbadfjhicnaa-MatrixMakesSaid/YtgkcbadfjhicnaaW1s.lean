/- Package wide: Sub, walked. -/
import Derived.Test.YtgkcbadfjhicnaaProg
import Derived.Test.YtgkcbadfjhicnaaWe
import Derived.Deep.RegionHeld3
set_option linter.unusedVariables false
set_option linter.unusedSimpArgs false
namespace Go.Proofs.Ytgkcbadfjhicnaa.Fx
open Go Go.RowKit Wm
set_option maxHeartbeats 1000000 in
theorem sub_tt (x y xh yh : Int) (xl yl : Nat) (w : World) (hx : At x xh xl) (hy : At y yh yl) (Hx : Hid (decide (xh < 0) = true)) (Hy : Hid (decide (yh < 0) = true)) (hi : In (x - y)) :
    Calls Try.prog 16 #[.agg #[.int .i64 xh, .int .u64 xl], .agg #[.int .i64 yh, .int .u64 yl]] w (RetE (x - y) w) := by
  have A0 := Lib.hid hx
  have A1 := Lib.hid hy
  have HI := Lib.hid hi
  clear hx hy hi
  go_enter Try.func16, Try.ntmps16
  go_wp2_with fail
  refine (less_any x y xh yh xl yl _ A0.out A1.out).mono ?_
  rintro e w1 ⟨H, n, rfl, hat, hb1⟩
  have HA := Lib.hid hat
  clear hat
  have hB1 : Below w.heap.size w w1 := by (repeat' (first | (with_reducible exact Below.refl _ _) | (with_reducible assumption) | (with_reducible refine Below.drew ?_) | (with_reducible refine Below.setCell ?_ ?_ _) | (with_reducible refine bnext ?_ (by assumption)) | (with_reducible refine Below.alloc ?_ ?_ _) | go_size))
  have hs0 := hb1.size
  simp only [World.size_alloc] at hs0
  have hz0 : w.heap.size < w1.heap.size := by omega
  have hz1 : w.heap.size + 1 < w1.heap.size := by omega
  have hz2 : w.heap.size + 1 + 1 < w1.heap.size := by omega
  have k0 : w1.cell? ⟨w.heap.size, 0, none⟩ = some (.int .i64 xh) := keep_cell hb1 (by first | assumption | (simp [go_sem, *]; done))
  have k1 : w1.cell? ⟨w.heap.size, 1, none⟩ = some (.int .u64 xl) := keep_cell hb1 (by first | assumption | (simp [go_sem, *]; done))
  have k2 : w1.cell? ⟨w.heap.size + 1, 0, none⟩ = some (.int .i64 yh) := keep_cell hb1 (by first | assumption | (simp [go_sem, *]; done))
  have k3 : w1.cell? ⟨w.heap.size + 1, 1, none⟩ = some (.int .u64 yl) := keep_cell hb1 (by first | assumption | (simp [go_sem, *]; done))
  have k4 : w1.cell? ⟨w.heap.size + 1 + 1, 0, none⟩ = some (.int .i64 0) := keep_cell hb1 (by first | assumption | (simp [go_sem, *]; done))
  have k5 : w1.cell? ⟨w.heap.size + 1 + 1, 1, none⟩ = some (.int .u64 0) := keep_cell hb1 (by first | assumption | (simp [go_sem, *]; done))
  have f0 : w1.frozen? ⟨w.heap.size + 1 + 1, 0, none⟩ = false := keep_free hb1 (by first | omega | (simp [go_sem, *]; done) | (simp [go_sem, *]; omega)) (by first | assumption | (simp [go_sem, *]; done))
  have f1 : w1.frozen? ⟨w.heap.size + 1 + 1, 1, none⟩ = false := keep_free hb1 (by first | omega | (simp [go_sem, *]; done) | (simp [go_sem, *]; omega)) (by first | assumption | (simp [go_sem, *]; done))
  have hs : w.heap.size + 1 + 1 + 1 ≤ w1.heap.size := Nat.le_trans (by first | assumption | (simp [go_sem, *]; done)) hb1.size
  go_wp2
  go_region_with ((go_at_call 48; first | ((with_reducible refine (below_val xh xl _ _ Hx).mono ?_); rintro e w' ⟨rfl, hbb⟩; have k0 : w'.cell? ⟨w.heap.size, 0, none⟩ = some (.int .i64 xh) := keep_cell hbb (by first | assumption | (simp [go_sem, *]; done)); have k1 : w'.cell? ⟨w.heap.size, 1, none⟩ = some (.int .u64 xl) := keep_cell hbb (by first | assumption | (simp [go_sem, *]; done)); have k2 : w'.cell? ⟨w.heap.size + 1, 0, none⟩ = some (.int .i64 yh) := keep_cell hbb (by first | assumption | (simp [go_sem, *]; done)); have k3 : w'.cell? ⟨w.heap.size + 1, 1, none⟩ = some (.int .u64 yl) := keep_cell hbb (by first | assumption | (simp [go_sem, *]; done)); have k4 : w'.cell? ⟨w.heap.size + 1 + 1, 0, none⟩ = some (.int .i64 0) := keep_cell hbb (by first | assumption | (simp [go_sem, *]; done)); have k5 : w'.cell? ⟨w.heap.size + 1 + 1, 1, none⟩ = some (.int .u64 0) := keep_cell hbb (by first | assumption | (simp [go_sem, *]; done)); have k6 : w'.cell? ⟨w1.heap.size, 0, none⟩ = some (.int .i64 H) := keep_cell hbb (by first | assumption | (simp [go_sem, *]; done)); have k7 : w'.cell? ⟨w1.heap.size, 1, none⟩ = some (.int .u64 n) := keep_cell hbb (by first | assumption | (simp [go_sem, *]; done)); have f0 : w'.frozen? ⟨w.heap.size + 1 + 1, 0, none⟩ = false := keep_free hbb (by first | omega | (simp [go_sem, *]; done) | (simp [go_sem, *]; omega)) (by first | assumption | (simp [go_sem, *]; done)); have f1 : w'.frozen? ⟨w.heap.size + 1 + 1, 1, none⟩ = false := keep_free hbb (by first | omega | (simp [go_sem, *]; done) | (simp [go_sem, *]; omega)) (by first | assumption | (simp [go_sem, *]; done)); have hs : w1.heap.size + 1 ≤ w'.heap.size := Nat.le_trans (by first | assumption | (simp [go_sem, *]; done)) hbb.size) | ((with_reducible refine (below_val yh yl _ _ Hy).mono ?_); rintro e w' ⟨rfl, hbb⟩; have k0 : w'.cell? ⟨w.heap.size, 0, none⟩ = some (.int .i64 xh) := keep_cell hbb (by first | assumption | (simp [go_sem, *]; done)); have k1 : w'.cell? ⟨w.heap.size, 1, none⟩ = some (.int .u64 xl) := keep_cell hbb (by first | assumption | (simp [go_sem, *]; done)); have k2 : w'.cell? ⟨w.heap.size + 1, 0, none⟩ = some (.int .i64 yh) := keep_cell hbb (by first | assumption | (simp [go_sem, *]; done)); have k3 : w'.cell? ⟨w.heap.size + 1, 1, none⟩ = some (.int .u64 yl) := keep_cell hbb (by first | assumption | (simp [go_sem, *]; done)); have k4 : w'.cell? ⟨w.heap.size + 1 + 1, 0, none⟩ = some (.int .i64 0) := keep_cell hbb (by first | assumption | (simp [go_sem, *]; done)); have k5 : w'.cell? ⟨w.heap.size + 1 + 1, 1, none⟩ = some (.int .u64 0) := keep_cell hbb (by first | assumption | (simp [go_sem, *]; done)); have k6 : w'.cell? ⟨w1.heap.size, 0, none⟩ = some (.int .i64 H) := keep_cell hbb (by first | assumption | (simp [go_sem, *]; done)); have k7 : w'.cell? ⟨w1.heap.size, 1, none⟩ = some (.int .u64 n) := keep_cell hbb (by first | assumption | (simp [go_sem, *]; done)); have f0 : w'.frozen? ⟨w.heap.size + 1 + 1, 0, none⟩ = false := keep_free hbb (by first | omega | (simp [go_sem, *]; done) | (simp [go_sem, *]; omega)) (by first | assumption | (simp [go_sem, *]; done)); have f1 : w'.frozen? ⟨w.heap.size + 1 + 1, 1, none⟩ = false := keep_free hbb (by first | omega | (simp [go_sem, *]; done) | (simp [go_sem, *]; omega)) (by first | assumption | (simp [go_sem, *]; done)); have hs : w1.heap.size + 1 ≤ w'.heap.size := Nat.le_trans (by first | assumption | (simp [go_sem, *]; done)) hbb.size)))
  all_goals
   go_wp2
   refine bodyPost_ret (v := .tuple #[.agg #[.int .i64 H, .int .u64 n], .int .i64 0]) (by simp [results, Try.results16, go_sem, *]) rfl (ret_e HI.out rfl HA.out ?_)
   repeat' (first | (with_reducible exact Below.refl _ _) | (with_reducible assumption) | (with_reducible refine Below.drew ?_) | (with_reducible refine Below.setCell ?_ ?_ _) | (with_reducible refine bnext ?_ (by assumption)) | (with_reducible refine Below.alloc ?_ ?_ _) | go_size)
set_option maxHeartbeats 1000000 in
theorem sub_tft (x y xh yh : Int) (xl yl : Nat) (w : World) (hx : At x xh xl) (hy : At y yh yl) (Hx : Hid (decide (xh < 0) = true)) (Hy : Hid (decide (yh < 0) = false)) (HZ : Hid (decide (w128 (x - y) < 0) = true)) (hi : In (x - y)) :
    Calls Try.prog 16 #[.agg #[.int .i64 xh, .int .u64 xl], .agg #[.int .i64 yh, .int .u64 yl]] w (RetE (x - y) w) := by
  have A0 := Lib.hid hx
  have A1 := Lib.hid hy
  have HI := Lib.hid hi
  clear hx hy hi
  go_enter Try.func16, Try.ntmps16
  go_wp2_with fail
  refine (less_any x y xh yh xl yl _ A0.out A1.out).mono ?_
  rintro e w1 ⟨H, n, rfl, hat, hb1⟩
  have HH : Hid (decide (H < 0) = true) := Lib.hid (by rw [← HZ.out]; exact decide_eq_decide.2 hat.neg)
  have HA := Lib.hid hat
  clear hat
  have hB1 : Below w.heap.size w w1 := by (repeat' (first | (with_reducible exact Below.refl _ _) | (with_reducible assumption) | (with_reducible refine Below.drew ?_) | (with_reducible refine Below.setCell ?_ ?_ _) | (with_reducible refine bnext ?_ (by assumption)) | (with_reducible refine Below.alloc ?_ ?_ _) | go_size))
  have hs0 := hb1.size
  simp only [World.size_alloc] at hs0
  have hz0 : w.heap.size < w1.heap.size := by omega
  have hz1 : w.heap.size + 1 < w1.heap.size := by omega
  have hz2 : w.heap.size + 1 + 1 < w1.heap.size := by omega
  have k0 : w1.cell? ⟨w.heap.size, 0, none⟩ = some (.int .i64 xh) := keep_cell hb1 (by first | assumption | (simp [go_sem, *]; done))
  have k1 : w1.cell? ⟨w.heap.size, 1, none⟩ = some (.int .u64 xl) := keep_cell hb1 (by first | assumption | (simp [go_sem, *]; done))
  have k2 : w1.cell? ⟨w.heap.size + 1, 0, none⟩ = some (.int .i64 yh) := keep_cell hb1 (by first | assumption | (simp [go_sem, *]; done))
  have k3 : w1.cell? ⟨w.heap.size + 1, 1, none⟩ = some (.int .u64 yl) := keep_cell hb1 (by first | assumption | (simp [go_sem, *]; done))
  have k4 : w1.cell? ⟨w.heap.size + 1 + 1, 0, none⟩ = some (.int .i64 0) := keep_cell hb1 (by first | assumption | (simp [go_sem, *]; done))
  have k5 : w1.cell? ⟨w.heap.size + 1 + 1, 1, none⟩ = some (.int .u64 0) := keep_cell hb1 (by first | assumption | (simp [go_sem, *]; done))
  have f0 : w1.frozen? ⟨w.heap.size + 1 + 1, 0, none⟩ = false := keep_free hb1 (by first | omega | (simp [go_sem, *]; done) | (simp [go_sem, *]; omega)) (by first | assumption | (simp [go_sem, *]; done))
  have f1 : w1.frozen? ⟨w.heap.size + 1 + 1, 1, none⟩ = false := keep_free hb1 (by first | omega | (simp [go_sem, *]; done) | (simp [go_sem, *]; omega)) (by first | assumption | (simp [go_sem, *]; done))
  have hs : w.heap.size + 1 + 1 + 1 ≤ w1.heap.size := Nat.le_trans (by first | assumption | (simp [go_sem, *]; done)) hb1.size
  go_wp2
  go_region_held3 (fun w' => w'.cell? ⟨w.heap.size, 0, none⟩ = some (.int .i64 xh) ∧ w'.cell? ⟨w.heap.size, 1, none⟩ = some (.int .u64 xl) ∧ w'.cell? ⟨w.heap.size + 1, 0, none⟩ = some (.int .i64 yh) ∧ w'.cell? ⟨w.heap.size + 1, 1, none⟩ = some (.int .u64 yl) ∧ w'.cell? ⟨w.heap.size + 1 + 1, 0, none⟩ = some (.int .i64 0) ∧ w'.cell? ⟨w.heap.size + 1 + 1, 1, none⟩ = some (.int .u64 0) ∧ w'.cell? ⟨w1.heap.size, 0, none⟩ = some (.int .i64 H) ∧ w'.cell? ⟨w1.heap.size, 1, none⟩ = some (.int .u64 n) ∧ w'.frozen? ⟨w.heap.size + 1 + 1, 0, none⟩ = false ∧ w'.frozen? ⟨w.heap.size + 1 + 1, 1, none⟩ = false ∧ w1.heap.size + 1 ≤ w'.heap.size ∧ Below w.heap.size w w')
    (first | (go_split_ands; refine ⟨keep_cell (by assumption) (by assumption), keep_cell (by assumption) (by assumption), keep_cell (by assumption) (by assumption), keep_cell (by assumption) (by assumption), keep_cell (by assumption) (by assumption), keep_cell (by assumption) (by assumption), keep_cell (by assumption) (by assumption), keep_cell (by assumption) (by assumption), keep_free (by assumption) (by omega) (by assumption), keep_free (by assumption) (by omega) (by assumption), Nat.le_trans (by assumption) (Below.size (by assumption)), bnext (by assumption) (by assumption)⟩) | (refine ⟨?_, ?_, ?_, ?_, ?_, ?_, ?_, ?_, ?_, ?_, ?_, ?_⟩ <;> first | (with_reducible assumption) | (go_grown; done) | (simp [go_sem, *]; done) | (simp [go_sem, *]; omega)))
    ((first | (go_at_call 48; (with_reducible refine (below_val xh xl _ _ Hx).mono ?_); rintro e w' ⟨rfl, hbb⟩) | (go_at_call 48; (with_reducible refine (below_val yh yl _ _ Hy).mono ?_); rintro e w' ⟨rfl, hbb⟩) | (go_at_call 48; (with_reducible refine (below_val H n _ _ HH).mono ?_); rintro e w' ⟨rfl, hbb⟩)))
  go_split_ands
  all_goals
   go_wp2
   refine bodyPost_ret (v := .tuple #[.agg #[.int .i64 H, .int .u64 n], .int .i64 0]) (by simp [results, Try.results16, go_sem, *]) rfl (ret_e HI.out rfl HA.out ?_)
   repeat' (first | (with_reducible exact Below.refl _ _) | (with_reducible assumption) | (with_reducible refine Below.drew ?_) | (with_reducible refine Below.setCell ?_ ?_ _) | (with_reducible refine bnext ?_ (by assumption)) | (with_reducible refine Below.alloc ?_ ?_ _) | go_size)
set_option maxHeartbeats 1000000 in
theorem sub_tff (x y xh yh : Int) (xl yl : Nat) (w : World) (hx : At x xh xl) (hy : At y yh yl) (Hx : Hid (decide (xh < 0) = true)) (Hy : Hid (decide (yh < 0) = false)) (HZ : Hid (decide (w128 (x - y) < 0) = false)) (hi : ¬ In (x - y)) :
    Calls Try.prog 16 #[.agg #[.int .i64 xh, .int .u64 xl], .agg #[.int .i64 yh, .int .u64 yl]] w (RetE (x - y) w) := by
  have A0 := Lib.hid hx
  have A1 := Lib.hid hy
  have HI := Lib.hid hi
  clear hx hy hi
  go_enter Try.func16, Try.ntmps16
  go_wp2_with fail
  refine (less_any x y xh yh xl yl _ A0.out A1.out).mono ?_
  rintro e w1 ⟨H, n, rfl, hat, hb1⟩
  have HH : Hid (decide (H < 0) = false) := Lib.hid (by rw [← HZ.out]; exact decide_eq_decide.2 hat.neg)
  have HA := Lib.hid hat
  clear hat
  have hB1 : Below w.heap.size w w1 := by (repeat' (first | (with_reducible exact Below.refl _ _) | (with_reducible assumption) | (with_reducible refine Below.drew ?_) | (with_reducible refine Below.setCell ?_ ?_ _) | (with_reducible refine bnext ?_ (by assumption)) | (with_reducible refine Below.alloc ?_ ?_ _) | go_size))
  have hs0 := hb1.size
  simp only [World.size_alloc] at hs0
  have hz0 : w.heap.size < w1.heap.size := by omega
  have hz1 : w.heap.size + 1 < w1.heap.size := by omega
  have hz2 : w.heap.size + 1 + 1 < w1.heap.size := by omega
  have k0 : w1.cell? ⟨w.heap.size, 0, none⟩ = some (.int .i64 xh) := keep_cell hb1 (by first | assumption | (simp [go_sem, *]; done))
  have k1 : w1.cell? ⟨w.heap.size, 1, none⟩ = some (.int .u64 xl) := keep_cell hb1 (by first | assumption | (simp [go_sem, *]; done))
  have k2 : w1.cell? ⟨w.heap.size + 1, 0, none⟩ = some (.int .i64 yh) := keep_cell hb1 (by first | assumption | (simp [go_sem, *]; done))
  have k3 : w1.cell? ⟨w.heap.size + 1, 1, none⟩ = some (.int .u64 yl) := keep_cell hb1 (by first | assumption | (simp [go_sem, *]; done))
  have k4 : w1.cell? ⟨w.heap.size + 1 + 1, 0, none⟩ = some (.int .i64 0) := keep_cell hb1 (by first | assumption | (simp [go_sem, *]; done))
  have k5 : w1.cell? ⟨w.heap.size + 1 + 1, 1, none⟩ = some (.int .u64 0) := keep_cell hb1 (by first | assumption | (simp [go_sem, *]; done))
  have f0 : w1.frozen? ⟨w.heap.size + 1 + 1, 0, none⟩ = false := keep_free hb1 (by first | omega | (simp [go_sem, *]; done) | (simp [go_sem, *]; omega)) (by first | assumption | (simp [go_sem, *]; done))
  have f1 : w1.frozen? ⟨w.heap.size + 1 + 1, 1, none⟩ = false := keep_free hb1 (by first | omega | (simp [go_sem, *]; done) | (simp [go_sem, *]; omega)) (by first | assumption | (simp [go_sem, *]; done))
  have hs : w.heap.size + 1 + 1 + 1 ≤ w1.heap.size := Nat.le_trans (by first | assumption | (simp [go_sem, *]; done)) hb1.size
  go_wp2
  go_region_held3 (fun w' => w'.cell? ⟨w.heap.size, 0, none⟩ = some (.int .i64 xh) ∧ w'.cell? ⟨w.heap.size, 1, none⟩ = some (.int .u64 xl) ∧ w'.cell? ⟨w.heap.size + 1, 0, none⟩ = some (.int .i64 yh) ∧ w'.cell? ⟨w.heap.size + 1, 1, none⟩ = some (.int .u64 yl) ∧ w'.cell? ⟨w.heap.size + 1 + 1, 0, none⟩ = some (.int .i64 0) ∧ w'.cell? ⟨w.heap.size + 1 + 1, 1, none⟩ = some (.int .u64 0) ∧ w'.cell? ⟨w1.heap.size, 0, none⟩ = some (.int .i64 H) ∧ w'.cell? ⟨w1.heap.size, 1, none⟩ = some (.int .u64 n) ∧ w'.frozen? ⟨w.heap.size + 1 + 1, 0, none⟩ = false ∧ w'.frozen? ⟨w.heap.size + 1 + 1, 1, none⟩ = false ∧ w1.heap.size + 1 ≤ w'.heap.size ∧ Below w.heap.size w w')
    (first | (go_split_ands; refine ⟨keep_cell (by assumption) (by assumption), keep_cell (by assumption) (by assumption), keep_cell (by assumption) (by assumption), keep_cell (by assumption) (by assumption), keep_cell (by assumption) (by assumption), keep_cell (by assumption) (by assumption), keep_cell (by assumption) (by assumption), keep_cell (by assumption) (by assumption), keep_free (by assumption) (by omega) (by assumption), keep_free (by assumption) (by omega) (by assumption), Nat.le_trans (by assumption) (Below.size (by assumption)), bnext (by assumption) (by assumption)⟩) | (refine ⟨?_, ?_, ?_, ?_, ?_, ?_, ?_, ?_, ?_, ?_, ?_, ?_⟩ <;> first | (with_reducible assumption) | (go_grown; done) | (simp [go_sem, *]; done) | (simp [go_sem, *]; omega)))
    ((first | (go_at_call 48; (with_reducible refine (below_val xh xl _ _ Hx).mono ?_); rintro e w' ⟨rfl, hbb⟩) | (go_at_call 48; (with_reducible refine (below_val yh yl _ _ Hy).mono ?_); rintro e w' ⟨rfl, hbb⟩) | (go_at_call 48; (with_reducible refine (below_val H n _ _ HH).mono ?_); rintro e w' ⟨rfl, hbb⟩)))
  go_split_ands
  all_goals
   go_wp2
   refine bodyPost_ret (v := .tuple #[.agg #[.int .i64 0, .int .u64 0], .int .i64 20]) (by simp [results, Try.results16, go_sem, *]) rfl (ret_no HI.out ?_)
   repeat' (first | (with_reducible exact Below.refl _ _) | (with_reducible assumption) | (with_reducible refine Below.drew ?_) | (with_reducible refine Below.setCell ?_ ?_ _) | (with_reducible refine bnext ?_ (by assumption)) | (with_reducible refine Below.alloc ?_ ?_ _) | go_size)
set_option maxHeartbeats 1000000 in
theorem sub_ftt (x y xh yh : Int) (xl yl : Nat) (w : World) (hx : At x xh xl) (hy : At y yh yl) (Hx : Hid (decide (xh < 0) = false)) (Hy : Hid (decide (yh < 0) = true)) (HZ : Hid (decide (w128 (x - y) < 0) = true)) (hi : ¬ In (x - y)) :
    Calls Try.prog 16 #[.agg #[.int .i64 xh, .int .u64 xl], .agg #[.int .i64 yh, .int .u64 yl]] w (RetE (x - y) w) := by
  have A0 := Lib.hid hx
  have A1 := Lib.hid hy
  have HI := Lib.hid hi
  clear hx hy hi
  go_enter Try.func16, Try.ntmps16
  go_wp2_with fail
  refine (less_any x y xh yh xl yl _ A0.out A1.out).mono ?_
  rintro e w1 ⟨H, n, rfl, hat, hb1⟩
  have HH : Hid (decide (H < 0) = true) := Lib.hid (by rw [← HZ.out]; exact decide_eq_decide.2 hat.neg)
  have HA := Lib.hid hat
  clear hat
  have hB1 : Below w.heap.size w w1 := by (repeat' (first | (with_reducible exact Below.refl _ _) | (with_reducible assumption) | (with_reducible refine Below.drew ?_) | (with_reducible refine Below.setCell ?_ ?_ _) | (with_reducible refine bnext ?_ (by assumption)) | (with_reducible refine Below.alloc ?_ ?_ _) | go_size))
  have hs0 := hb1.size
  simp only [World.size_alloc] at hs0
  have hz0 : w.heap.size < w1.heap.size := by omega
  have hz1 : w.heap.size + 1 < w1.heap.size := by omega
  have hz2 : w.heap.size + 1 + 1 < w1.heap.size := by omega
  have k0 : w1.cell? ⟨w.heap.size, 0, none⟩ = some (.int .i64 xh) := keep_cell hb1 (by first | assumption | (simp [go_sem, *]; done))
  have k1 : w1.cell? ⟨w.heap.size, 1, none⟩ = some (.int .u64 xl) := keep_cell hb1 (by first | assumption | (simp [go_sem, *]; done))
  have k2 : w1.cell? ⟨w.heap.size + 1, 0, none⟩ = some (.int .i64 yh) := keep_cell hb1 (by first | assumption | (simp [go_sem, *]; done))
  have k3 : w1.cell? ⟨w.heap.size + 1, 1, none⟩ = some (.int .u64 yl) := keep_cell hb1 (by first | assumption | (simp [go_sem, *]; done))
  have k4 : w1.cell? ⟨w.heap.size + 1 + 1, 0, none⟩ = some (.int .i64 0) := keep_cell hb1 (by first | assumption | (simp [go_sem, *]; done))
  have k5 : w1.cell? ⟨w.heap.size + 1 + 1, 1, none⟩ = some (.int .u64 0) := keep_cell hb1 (by first | assumption | (simp [go_sem, *]; done))
  have f0 : w1.frozen? ⟨w.heap.size + 1 + 1, 0, none⟩ = false := keep_free hb1 (by first | omega | (simp [go_sem, *]; done) | (simp [go_sem, *]; omega)) (by first | assumption | (simp [go_sem, *]; done))
  have f1 : w1.frozen? ⟨w.heap.size + 1 + 1, 1, none⟩ = false := keep_free hb1 (by first | omega | (simp [go_sem, *]; done) | (simp [go_sem, *]; omega)) (by first | assumption | (simp [go_sem, *]; done))
  have hs : w.heap.size + 1 + 1 + 1 ≤ w1.heap.size := Nat.le_trans (by first | assumption | (simp [go_sem, *]; done)) hb1.size
  go_wp2
  go_region_held3 (fun w' => w'.cell? ⟨w.heap.size, 0, none⟩ = some (.int .i64 xh) ∧ w'.cell? ⟨w.heap.size, 1, none⟩ = some (.int .u64 xl) ∧ w'.cell? ⟨w.heap.size + 1, 0, none⟩ = some (.int .i64 yh) ∧ w'.cell? ⟨w.heap.size + 1, 1, none⟩ = some (.int .u64 yl) ∧ w'.cell? ⟨w.heap.size + 1 + 1, 0, none⟩ = some (.int .i64 0) ∧ w'.cell? ⟨w.heap.size + 1 + 1, 1, none⟩ = some (.int .u64 0) ∧ w'.cell? ⟨w1.heap.size, 0, none⟩ = some (.int .i64 H) ∧ w'.cell? ⟨w1.heap.size, 1, none⟩ = some (.int .u64 n) ∧ w'.frozen? ⟨w.heap.size + 1 + 1, 0, none⟩ = false ∧ w'.frozen? ⟨w.heap.size + 1 + 1, 1, none⟩ = false ∧ w1.heap.size + 1 ≤ w'.heap.size ∧ Below w.heap.size w w')
    (first | (go_split_ands; refine ⟨keep_cell (by assumption) (by assumption), keep_cell (by assumption) (by assumption), keep_cell (by assumption) (by assumption), keep_cell (by assumption) (by assumption), keep_cell (by assumption) (by assumption), keep_cell (by assumption) (by assumption), keep_cell (by assumption) (by assumption), keep_cell (by assumption) (by assumption), keep_free (by assumption) (by omega) (by assumption), keep_free (by assumption) (by omega) (by assumption), Nat.le_trans (by assumption) (Below.size (by assumption)), bnext (by assumption) (by assumption)⟩) | (refine ⟨?_, ?_, ?_, ?_, ?_, ?_, ?_, ?_, ?_, ?_, ?_, ?_⟩ <;> first | (with_reducible assumption) | (go_grown; done) | (simp [go_sem, *]; done) | (simp [go_sem, *]; omega)))
    ((first | (go_at_call 48; (with_reducible refine (below_val xh xl _ _ Hx).mono ?_); rintro e w' ⟨rfl, hbb⟩) | (go_at_call 48; (with_reducible refine (below_val yh yl _ _ Hy).mono ?_); rintro e w' ⟨rfl, hbb⟩) | (go_at_call 48; (with_reducible refine (below_val H n _ _ HH).mono ?_); rintro e w' ⟨rfl, hbb⟩)))
  go_split_ands
  all_goals
   go_wp2
   refine bodyPost_ret (v := .tuple #[.agg #[.int .i64 0, .int .u64 0], .int .i64 20]) (by simp [results, Try.results16, go_sem, *]) rfl (ret_no HI.out ?_)
   repeat' (first | (with_reducible exact Below.refl _ _) | (with_reducible assumption) | (with_reducible refine Below.drew ?_) | (with_reducible refine Below.setCell ?_ ?_ _) | (with_reducible refine bnext ?_ (by assumption)) | (with_reducible refine Below.alloc ?_ ?_ _) | go_size)
set_option maxHeartbeats 1000000 in
theorem sub_ftf (x y xh yh : Int) (xl yl : Nat) (w : World) (hx : At x xh xl) (hy : At y yh yl) (Hx : Hid (decide (xh < 0) = false)) (Hy : Hid (decide (yh < 0) = true)) (HZ : Hid (decide (w128 (x - y) < 0) = false)) (hi : In (x - y)) :
    Calls Try.prog 16 #[.agg #[.int .i64 xh, .int .u64 xl], .agg #[.int .i64 yh, .int .u64 yl]] w (RetE (x - y) w) := by
  have A0 := Lib.hid hx
  have A1 := Lib.hid hy
  have HI := Lib.hid hi
  clear hx hy hi
  go_enter Try.func16, Try.ntmps16
  go_wp2_with fail
  refine (less_any x y xh yh xl yl _ A0.out A1.out).mono ?_
  rintro e w1 ⟨H, n, rfl, hat, hb1⟩
  have HH : Hid (decide (H < 0) = false) := Lib.hid (by rw [← HZ.out]; exact decide_eq_decide.2 hat.neg)
  have HA := Lib.hid hat
  clear hat
  have hB1 : Below w.heap.size w w1 := by (repeat' (first | (with_reducible exact Below.refl _ _) | (with_reducible assumption) | (with_reducible refine Below.drew ?_) | (with_reducible refine Below.setCell ?_ ?_ _) | (with_reducible refine bnext ?_ (by assumption)) | (with_reducible refine Below.alloc ?_ ?_ _) | go_size))
  have hs0 := hb1.size
  simp only [World.size_alloc] at hs0
  have hz0 : w.heap.size < w1.heap.size := by omega
  have hz1 : w.heap.size + 1 < w1.heap.size := by omega
  have hz2 : w.heap.size + 1 + 1 < w1.heap.size := by omega
  have k0 : w1.cell? ⟨w.heap.size, 0, none⟩ = some (.int .i64 xh) := keep_cell hb1 (by first | assumption | (simp [go_sem, *]; done))
  have k1 : w1.cell? ⟨w.heap.size, 1, none⟩ = some (.int .u64 xl) := keep_cell hb1 (by first | assumption | (simp [go_sem, *]; done))
  have k2 : w1.cell? ⟨w.heap.size + 1, 0, none⟩ = some (.int .i64 yh) := keep_cell hb1 (by first | assumption | (simp [go_sem, *]; done))
  have k3 : w1.cell? ⟨w.heap.size + 1, 1, none⟩ = some (.int .u64 yl) := keep_cell hb1 (by first | assumption | (simp [go_sem, *]; done))
  have k4 : w1.cell? ⟨w.heap.size + 1 + 1, 0, none⟩ = some (.int .i64 0) := keep_cell hb1 (by first | assumption | (simp [go_sem, *]; done))
  have k5 : w1.cell? ⟨w.heap.size + 1 + 1, 1, none⟩ = some (.int .u64 0) := keep_cell hb1 (by first | assumption | (simp [go_sem, *]; done))
  have f0 : w1.frozen? ⟨w.heap.size + 1 + 1, 0, none⟩ = false := keep_free hb1 (by first | omega | (simp [go_sem, *]; done) | (simp [go_sem, *]; omega)) (by first | assumption | (simp [go_sem, *]; done))
  have f1 : w1.frozen? ⟨w.heap.size + 1 + 1, 1, none⟩ = false := keep_free hb1 (by first | omega | (simp [go_sem, *]; done) | (simp [go_sem, *]; omega)) (by first | assumption | (simp [go_sem, *]; done))
  have hs : w.heap.size + 1 + 1 + 1 ≤ w1.heap.size := Nat.le_trans (by first | assumption | (simp [go_sem, *]; done)) hb1.size
  go_wp2
  go_region_held3 (fun w' => w'.cell? ⟨w.heap.size, 0, none⟩ = some (.int .i64 xh) ∧ w'.cell? ⟨w.heap.size, 1, none⟩ = some (.int .u64 xl) ∧ w'.cell? ⟨w.heap.size + 1, 0, none⟩ = some (.int .i64 yh) ∧ w'.cell? ⟨w.heap.size + 1, 1, none⟩ = some (.int .u64 yl) ∧ w'.cell? ⟨w.heap.size + 1 + 1, 0, none⟩ = some (.int .i64 0) ∧ w'.cell? ⟨w.heap.size + 1 + 1, 1, none⟩ = some (.int .u64 0) ∧ w'.cell? ⟨w1.heap.size, 0, none⟩ = some (.int .i64 H) ∧ w'.cell? ⟨w1.heap.size, 1, none⟩ = some (.int .u64 n) ∧ w'.frozen? ⟨w.heap.size + 1 + 1, 0, none⟩ = false ∧ w'.frozen? ⟨w.heap.size + 1 + 1, 1, none⟩ = false ∧ w1.heap.size + 1 ≤ w'.heap.size ∧ Below w.heap.size w w')
    (first | (go_split_ands; refine ⟨keep_cell (by assumption) (by assumption), keep_cell (by assumption) (by assumption), keep_cell (by assumption) (by assumption), keep_cell (by assumption) (by assumption), keep_cell (by assumption) (by assumption), keep_cell (by assumption) (by assumption), keep_cell (by assumption) (by assumption), keep_cell (by assumption) (by assumption), keep_free (by assumption) (by omega) (by assumption), keep_free (by assumption) (by omega) (by assumption), Nat.le_trans (by assumption) (Below.size (by assumption)), bnext (by assumption) (by assumption)⟩) | (refine ⟨?_, ?_, ?_, ?_, ?_, ?_, ?_, ?_, ?_, ?_, ?_, ?_⟩ <;> first | (with_reducible assumption) | (go_grown; done) | (simp [go_sem, *]; done) | (simp [go_sem, *]; omega)))
    ((first | (go_at_call 48; (with_reducible refine (below_val xh xl _ _ Hx).mono ?_); rintro e w' ⟨rfl, hbb⟩) | (go_at_call 48; (with_reducible refine (below_val yh yl _ _ Hy).mono ?_); rintro e w' ⟨rfl, hbb⟩) | (go_at_call 48; (with_reducible refine (below_val H n _ _ HH).mono ?_); rintro e w' ⟨rfl, hbb⟩)))
  go_split_ands
  all_goals
   go_wp2
   refine bodyPost_ret (v := .tuple #[.agg #[.int .i64 H, .int .u64 n], .int .i64 0]) (by simp [results, Try.results16, go_sem, *]) rfl (ret_e HI.out rfl HA.out ?_)
   repeat' (first | (with_reducible exact Below.refl _ _) | (with_reducible assumption) | (with_reducible refine Below.drew ?_) | (with_reducible refine Below.setCell ?_ ?_ _) | (with_reducible refine bnext ?_ (by assumption)) | (with_reducible refine Below.alloc ?_ ?_ _) | go_size)
set_option maxHeartbeats 1000000 in
theorem sub_ff (x y xh yh : Int) (xl yl : Nat) (w : World) (hx : At x xh xl) (hy : At y yh yl) (Hx : Hid (decide (xh < 0) = false)) (Hy : Hid (decide (yh < 0) = false)) (hi : In (x - y)) :
    Calls Try.prog 16 #[.agg #[.int .i64 xh, .int .u64 xl], .agg #[.int .i64 yh, .int .u64 yl]] w (RetE (x - y) w) := by
  have A0 := Lib.hid hx
  have A1 := Lib.hid hy
  have HI := Lib.hid hi
  clear hx hy hi
  go_enter Try.func16, Try.ntmps16
  go_wp2_with fail
  refine (less_any x y xh yh xl yl _ A0.out A1.out).mono ?_
  rintro e w1 ⟨H, n, rfl, hat, hb1⟩
  have HA := Lib.hid hat
  clear hat
  have hB1 : Below w.heap.size w w1 := by (repeat' (first | (with_reducible exact Below.refl _ _) | (with_reducible assumption) | (with_reducible refine Below.drew ?_) | (with_reducible refine Below.setCell ?_ ?_ _) | (with_reducible refine bnext ?_ (by assumption)) | (with_reducible refine Below.alloc ?_ ?_ _) | go_size))
  have hs0 := hb1.size
  simp only [World.size_alloc] at hs0
  have hz0 : w.heap.size < w1.heap.size := by omega
  have hz1 : w.heap.size + 1 < w1.heap.size := by omega
  have hz2 : w.heap.size + 1 + 1 < w1.heap.size := by omega
  have k0 : w1.cell? ⟨w.heap.size, 0, none⟩ = some (.int .i64 xh) := keep_cell hb1 (by first | assumption | (simp [go_sem, *]; done))
  have k1 : w1.cell? ⟨w.heap.size, 1, none⟩ = some (.int .u64 xl) := keep_cell hb1 (by first | assumption | (simp [go_sem, *]; done))
  have k2 : w1.cell? ⟨w.heap.size + 1, 0, none⟩ = some (.int .i64 yh) := keep_cell hb1 (by first | assumption | (simp [go_sem, *]; done))
  have k3 : w1.cell? ⟨w.heap.size + 1, 1, none⟩ = some (.int .u64 yl) := keep_cell hb1 (by first | assumption | (simp [go_sem, *]; done))
  have k4 : w1.cell? ⟨w.heap.size + 1 + 1, 0, none⟩ = some (.int .i64 0) := keep_cell hb1 (by first | assumption | (simp [go_sem, *]; done))
  have k5 : w1.cell? ⟨w.heap.size + 1 + 1, 1, none⟩ = some (.int .u64 0) := keep_cell hb1 (by first | assumption | (simp [go_sem, *]; done))
  have f0 : w1.frozen? ⟨w.heap.size + 1 + 1, 0, none⟩ = false := keep_free hb1 (by first | omega | (simp [go_sem, *]; done) | (simp [go_sem, *]; omega)) (by first | assumption | (simp [go_sem, *]; done))
  have f1 : w1.frozen? ⟨w.heap.size + 1 + 1, 1, none⟩ = false := keep_free hb1 (by first | omega | (simp [go_sem, *]; done) | (simp [go_sem, *]; omega)) (by first | assumption | (simp [go_sem, *]; done))
  have hs : w.heap.size + 1 + 1 + 1 ≤ w1.heap.size := Nat.le_trans (by first | assumption | (simp [go_sem, *]; done)) hb1.size
  go_wp2
  go_region_with ((go_at_call 48; first | ((with_reducible refine (below_val xh xl _ _ Hx).mono ?_); rintro e w' ⟨rfl, hbb⟩; have k0 : w'.cell? ⟨w.heap.size, 0, none⟩ = some (.int .i64 xh) := keep_cell hbb (by first | assumption | (simp [go_sem, *]; done)); have k1 : w'.cell? ⟨w.heap.size, 1, none⟩ = some (.int .u64 xl) := keep_cell hbb (by first | assumption | (simp [go_sem, *]; done)); have k2 : w'.cell? ⟨w.heap.size + 1, 0, none⟩ = some (.int .i64 yh) := keep_cell hbb (by first | assumption | (simp [go_sem, *]; done)); have k3 : w'.cell? ⟨w.heap.size + 1, 1, none⟩ = some (.int .u64 yl) := keep_cell hbb (by first | assumption | (simp [go_sem, *]; done)); have k4 : w'.cell? ⟨w.heap.size + 1 + 1, 0, none⟩ = some (.int .i64 0) := keep_cell hbb (by first | assumption | (simp [go_sem, *]; done)); have k5 : w'.cell? ⟨w.heap.size + 1 + 1, 1, none⟩ = some (.int .u64 0) := keep_cell hbb (by first | assumption | (simp [go_sem, *]; done)); have k6 : w'.cell? ⟨w1.heap.size, 0, none⟩ = some (.int .i64 H) := keep_cell hbb (by first | assumption | (simp [go_sem, *]; done)); have k7 : w'.cell? ⟨w1.heap.size, 1, none⟩ = some (.int .u64 n) := keep_cell hbb (by first | assumption | (simp [go_sem, *]; done)); have f0 : w'.frozen? ⟨w.heap.size + 1 + 1, 0, none⟩ = false := keep_free hbb (by first | omega | (simp [go_sem, *]; done) | (simp [go_sem, *]; omega)) (by first | assumption | (simp [go_sem, *]; done)); have f1 : w'.frozen? ⟨w.heap.size + 1 + 1, 1, none⟩ = false := keep_free hbb (by first | omega | (simp [go_sem, *]; done) | (simp [go_sem, *]; omega)) (by first | assumption | (simp [go_sem, *]; done)); have hs : w1.heap.size + 1 ≤ w'.heap.size := Nat.le_trans (by first | assumption | (simp [go_sem, *]; done)) hbb.size) | ((with_reducible refine (below_val yh yl _ _ Hy).mono ?_); rintro e w' ⟨rfl, hbb⟩; have k0 : w'.cell? ⟨w.heap.size, 0, none⟩ = some (.int .i64 xh) := keep_cell hbb (by first | assumption | (simp [go_sem, *]; done)); have k1 : w'.cell? ⟨w.heap.size, 1, none⟩ = some (.int .u64 xl) := keep_cell hbb (by first | assumption | (simp [go_sem, *]; done)); have k2 : w'.cell? ⟨w.heap.size + 1, 0, none⟩ = some (.int .i64 yh) := keep_cell hbb (by first | assumption | (simp [go_sem, *]; done)); have k3 : w'.cell? ⟨w.heap.size + 1, 1, none⟩ = some (.int .u64 yl) := keep_cell hbb (by first | assumption | (simp [go_sem, *]; done)); have k4 : w'.cell? ⟨w.heap.size + 1 + 1, 0, none⟩ = some (.int .i64 0) := keep_cell hbb (by first | assumption | (simp [go_sem, *]; done)); have k5 : w'.cell? ⟨w.heap.size + 1 + 1, 1, none⟩ = some (.int .u64 0) := keep_cell hbb (by first | assumption | (simp [go_sem, *]; done)); have k6 : w'.cell? ⟨w1.heap.size, 0, none⟩ = some (.int .i64 H) := keep_cell hbb (by first | assumption | (simp [go_sem, *]; done)); have k7 : w'.cell? ⟨w1.heap.size, 1, none⟩ = some (.int .u64 n) := keep_cell hbb (by first | assumption | (simp [go_sem, *]; done)); have f0 : w'.frozen? ⟨w.heap.size + 1 + 1, 0, none⟩ = false := keep_free hbb (by first | omega | (simp [go_sem, *]; done) | (simp [go_sem, *]; omega)) (by first | assumption | (simp [go_sem, *]; done)); have f1 : w'.frozen? ⟨w.heap.size + 1 + 1, 1, none⟩ = false := keep_free hbb (by first | omega | (simp [go_sem, *]; done) | (simp [go_sem, *]; omega)) (by first | assumption | (simp [go_sem, *]; done)); have hs : w1.heap.size + 1 ≤ w'.heap.size := Nat.le_trans (by first | assumption | (simp [go_sem, *]; done)) hbb.size)))
  all_goals
   go_wp2
   refine bodyPost_ret (v := .tuple #[.agg #[.int .i64 H, .int .u64 n], .int .i64 0]) (by simp [results, Try.results16, go_sem, *]) rfl (ret_e HI.out rfl HA.out ?_)
   repeat' (first | (with_reducible exact Below.refl _ _) | (with_reducible assumption) | (with_reducible refine Below.drew ?_) | (with_reducible refine Below.setCell ?_ ?_ _) | (with_reducible refine bnext ?_ (by assumption)) | (with_reducible refine Below.alloc ?_ ?_ _) | go_size)
end Go.Proofs.Ytgkcbadfjhicnaa.Fx
