import Derived.Laws.Rows
import Derived.Test.YtbbhmhihpdmoiaaGreatProg
import Derived.Deep.RegionHeld3
import Derived.Test.YtbbhmhihpdmoiaaGreatMy08
/- Package wide: Add, walked. 
  Package wide: Sub, walked. -/
set_option linter.unusedVariables false
set_option linter.unusedSimpArgs false
namespace Go.Proofs.YtbbhmhihpdmoiaaGreat.Fx
open Go Go.RowKit Wm
set_option maxHeartbeats 1000000 in
theorem add_ttt (xh yh H : Int) (xl yl n m p q b b2 : Nat) (w : World) (r1 : Words0 182 xl yl n b) (r2 : Words 182 p q b m b2)
    (e1 : IntKind.u64.wrap xh = (p : Int)) (e2 : IntKind.u64.wrap yh = (q : Int)) (e3 : IntKind.i64.wrap (m : Int) = H)
    (Hx : Hid (decide (xh < 0) = true)) (Hy : Hid (decide (yh < 0) = true)) (HH : Hid (decide (H < 0) = true)) :
    Calls Tryz.prog 172 #[.agg #[.int .i64 xh, .int .u64 xl], .agg #[.int .i64 yh, .int .u64 yl]] w fun e w' => e = .returned (.tuple #[.agg #[.int .i64 H, .int .u64 n], .int .i64 0]) ∧ Below w.heap.size w w' := by
  unfold Words Words0 at *
  go_enter Tryz.func172, Tryz.ntmps172
  go_wp2
  go_region_held3 (fun w' => w'.cell? ⟨w.heap.size, 0, none⟩ = some (.int .i64 xh) ∧ w'.cell? ⟨w.heap.size, 1, none⟩ = some (.int .u64 xl) ∧ w'.cell? ⟨w.heap.size + 1, 0, none⟩ = some (.int .i64 yh) ∧ w'.cell? ⟨w.heap.size + 1, 1, none⟩ = some (.int .u64 yl) ∧ w'.cell? ⟨w.heap.size + 1 + 1, 0, none⟩ = some (.int .i64 0) ∧ w'.cell? ⟨w.heap.size + 1 + 1, 1, none⟩ = some (.int .u64 0) ∧ w'.cell? ⟨w.heap.size + 1 + 1 + 1, 0, none⟩ = some (.int .i64 H) ∧ w'.cell? ⟨w.heap.size + 1 + 1 + 1, 1, none⟩ = some (.int .u64 n) ∧ w'.frozen? ⟨w.heap.size + 1 + 1, 0, none⟩ = false ∧ w'.frozen? ⟨w.heap.size + 1 + 1, 1, none⟩ = false ∧ w.heap.size + 1 + 1 + 1 + 1 ≤ w'.heap.size ∧ Below w.heap.size w w')
    (first | (go_split_ands; refine ⟨keep_cell (by assumption) (by assumption), keep_cell (by assumption) (by assumption), keep_cell (by assumption) (by assumption), keep_cell (by assumption) (by assumption), keep_cell (by assumption) (by assumption), keep_cell (by assumption) (by assumption), keep_cell (by assumption) (by assumption), keep_cell (by assumption) (by assumption), keep_free (by assumption) (by omega) (by assumption), keep_free (by assumption) (by omega) (by assumption), Nat.le_trans (by assumption) (Below.size (by assumption)), bnext (by assumption) (by assumption)⟩) | (refine ⟨?_, ?_, ?_, ?_, ?_, ?_, ?_, ?_, ?_, ?_, ?_, ?_⟩ <;> first | (with_reducible assumption) | (go_grown; done) | (simp [go_sem, *]; done) | (simp [go_sem, *]; omega)))
    ((first | (go_at_call 177; (with_reducible refine (below_val xh xl _ _ Hx).mono ?_); rintro e w' ⟨rfl, hbb⟩) | (go_at_call 177; (with_reducible refine (below_val yh yl _ _ Hy).mono ?_); rintro e w' ⟨rfl, hbb⟩) | (go_at_call 177; (with_reducible refine (below_val H n _ _ HH).mono ?_); rintro e w' ⟨rfl, hbb⟩)))
  go_split_ands
  all_goals
   go_wp2
   refine bodyPost_ret (v := .tuple #[.agg #[.int .i64 H, .int .u64 n], .int .i64 0]) (by simp [results, Tryz.results172, go_sem, *]) rfl ⟨rfl, by (repeat' (first | (with_reducible exact Below.refl _ _) | (with_reducible assumption) | (with_reducible refine Below.drew ?_) | (with_reducible refine Below.setCell ?_ ?_ _) | (with_reducible refine bnext ?_ (by assumption)) | (with_reducible refine Below.alloc ?_ ?_ _) | go_size))⟩
set_option maxHeartbeats 1000000 in
theorem add_ttf (xh yh H : Int) (xl yl n m p q b b2 : Nat) (w : World) (r1 : Words0 182 xl yl n b) (r2 : Words 182 p q b m b2)
    (e1 : IntKind.u64.wrap xh = (p : Int)) (e2 : IntKind.u64.wrap yh = (q : Int)) (e3 : IntKind.i64.wrap (m : Int) = H)
    (Hx : Hid (decide (xh < 0) = true)) (Hy : Hid (decide (yh < 0) = true)) (HH : Hid (decide (H < 0) = false)) :
    Calls Tryz.prog 172 #[.agg #[.int .i64 xh, .int .u64 xl], .agg #[.int .i64 yh, .int .u64 yl]] w fun e w' => e = .returned (.tuple #[.agg #[.int .i64 0, .int .u64 0], .int .i64 20]) ∧ Below w.heap.size w w' := by
  unfold Words Words0 at *
  go_enter Tryz.func172, Tryz.ntmps172
  go_wp2
  go_region_held3 (fun w' => w'.cell? ⟨w.heap.size, 0, none⟩ = some (.int .i64 xh) ∧ w'.cell? ⟨w.heap.size, 1, none⟩ = some (.int .u64 xl) ∧ w'.cell? ⟨w.heap.size + 1, 0, none⟩ = some (.int .i64 yh) ∧ w'.cell? ⟨w.heap.size + 1, 1, none⟩ = some (.int .u64 yl) ∧ w'.cell? ⟨w.heap.size + 1 + 1, 0, none⟩ = some (.int .i64 0) ∧ w'.cell? ⟨w.heap.size + 1 + 1, 1, none⟩ = some (.int .u64 0) ∧ w'.cell? ⟨w.heap.size + 1 + 1 + 1, 0, none⟩ = some (.int .i64 H) ∧ w'.cell? ⟨w.heap.size + 1 + 1 + 1, 1, none⟩ = some (.int .u64 n) ∧ w'.frozen? ⟨w.heap.size + 1 + 1, 0, none⟩ = false ∧ w'.frozen? ⟨w.heap.size + 1 + 1, 1, none⟩ = false ∧ w.heap.size + 1 + 1 + 1 + 1 ≤ w'.heap.size ∧ Below w.heap.size w w')
    (first | (go_split_ands; refine ⟨keep_cell (by assumption) (by assumption), keep_cell (by assumption) (by assumption), keep_cell (by assumption) (by assumption), keep_cell (by assumption) (by assumption), keep_cell (by assumption) (by assumption), keep_cell (by assumption) (by assumption), keep_cell (by assumption) (by assumption), keep_cell (by assumption) (by assumption), keep_free (by assumption) (by omega) (by assumption), keep_free (by assumption) (by omega) (by assumption), Nat.le_trans (by assumption) (Below.size (by assumption)), bnext (by assumption) (by assumption)⟩) | (refine ⟨?_, ?_, ?_, ?_, ?_, ?_, ?_, ?_, ?_, ?_, ?_, ?_⟩ <;> first | (with_reducible assumption) | (go_grown; done) | (simp [go_sem, *]; done) | (simp [go_sem, *]; omega)))
    ((first | (go_at_call 177; (with_reducible refine (below_val xh xl _ _ Hx).mono ?_); rintro e w' ⟨rfl, hbb⟩) | (go_at_call 177; (with_reducible refine (below_val yh yl _ _ Hy).mono ?_); rintro e w' ⟨rfl, hbb⟩) | (go_at_call 177; (with_reducible refine (below_val H n _ _ HH).mono ?_); rintro e w' ⟨rfl, hbb⟩)))
  go_split_ands
  all_goals
   go_wp2
   refine bodyPost_ret (v := .tuple #[.agg #[.int .i64 0, .int .u64 0], .int .i64 20]) (by simp [results, Tryz.results172, go_sem, *]) rfl ⟨rfl, by (repeat' (first | (with_reducible exact Below.refl _ _) | (with_reducible assumption) | (with_reducible refine Below.drew ?_) | (with_reducible refine Below.setCell ?_ ?_ _) | (with_reducible refine bnext ?_ (by assumption)) | (with_reducible refine Below.alloc ?_ ?_ _) | go_size))⟩
set_option maxHeartbeats 1000000 in
theorem add_tf (xh yh H : Int) (xl yl n m p q b b2 : Nat) (w : World) (r1 : Words0 182 xl yl n b) (r2 : Words 182 p q b m b2)
    (e1 : IntKind.u64.wrap xh = (p : Int)) (e2 : IntKind.u64.wrap yh = (q : Int)) (e3 : IntKind.i64.wrap (m : Int) = H)
    (Hx : Hid (decide (xh < 0) = true)) (Hy : Hid (decide (yh < 0) = false)) :
    Calls Tryz.prog 172 #[.agg #[.int .i64 xh, .int .u64 xl], .agg #[.int .i64 yh, .int .u64 yl]] w fun e w' => e = .returned (.tuple #[.agg #[.int .i64 H, .int .u64 n], .int .i64 0]) ∧ Below w.heap.size w w' := by
  unfold Words Words0 at *
  go_enter Tryz.func172, Tryz.ntmps172
  go_wp2
  go_region_with ((go_at_call 177; first | ((with_reducible refine (below_val xh xl _ _ Hx).mono ?_); rintro e w' ⟨rfl, hbb⟩; have k0 : w'.cell? ⟨w.heap.size, 0, none⟩ = some (.int .i64 xh) := keep_cell hbb (by first | assumption | (simp [go_sem]; done)); have k1 : w'.cell? ⟨w.heap.size, 1, none⟩ = some (.int .u64 xl) := keep_cell hbb (by first | assumption | (simp [go_sem]; done)); have k2 : w'.cell? ⟨w.heap.size + 1, 0, none⟩ = some (.int .i64 yh) := keep_cell hbb (by first | assumption | (simp [go_sem]; done)); have k3 : w'.cell? ⟨w.heap.size + 1, 1, none⟩ = some (.int .u64 yl) := keep_cell hbb (by first | assumption | (simp [go_sem]; done)); have k4 : w'.cell? ⟨w.heap.size + 1 + 1, 0, none⟩ = some (.int .i64 0) := keep_cell hbb (by first | assumption | (simp [go_sem]; done)); have k5 : w'.cell? ⟨w.heap.size + 1 + 1, 1, none⟩ = some (.int .u64 0) := keep_cell hbb (by first | assumption | (simp [go_sem]; done)); have k6 : w'.cell? ⟨w.heap.size + 1 + 1 + 1, 0, none⟩ = some (.int .i64 H) := keep_cell hbb (by first | assumption | (simp [go_sem]; done)); have k7 : w'.cell? ⟨w.heap.size + 1 + 1 + 1, 1, none⟩ = some (.int .u64 n) := keep_cell hbb (by first | assumption | (simp [go_sem]; done)); have f0 : w'.frozen? ⟨w.heap.size + 1 + 1, 0, none⟩ = false := keep_free hbb (by first | omega | (simp [go_sem]; done) | (simp [go_sem]; omega)) (by first | assumption | (simp [go_sem]; done)); have f1 : w'.frozen? ⟨w.heap.size + 1 + 1, 1, none⟩ = false := keep_free hbb (by first | omega | (simp [go_sem]; done) | (simp [go_sem]; omega)) (by first | assumption | (simp [go_sem]; done)); have hs : w.heap.size + 1 + 1 + 1 + 1 ≤ w'.heap.size := Nat.le_trans (by first | assumption | (simp [go_sem]; done)) hbb.size) | ((with_reducible refine (below_val yh yl _ _ Hy).mono ?_); rintro e w' ⟨rfl, hbb⟩; have k0 : w'.cell? ⟨w.heap.size, 0, none⟩ = some (.int .i64 xh) := keep_cell hbb (by first | assumption | (simp [go_sem]; done)); have k1 : w'.cell? ⟨w.heap.size, 1, none⟩ = some (.int .u64 xl) := keep_cell hbb (by first | assumption | (simp [go_sem]; done)); have k2 : w'.cell? ⟨w.heap.size + 1, 0, none⟩ = some (.int .i64 yh) := keep_cell hbb (by first | assumption | (simp [go_sem]; done)); have k3 : w'.cell? ⟨w.heap.size + 1, 1, none⟩ = some (.int .u64 yl) := keep_cell hbb (by first | assumption | (simp [go_sem]; done)); have k4 : w'.cell? ⟨w.heap.size + 1 + 1, 0, none⟩ = some (.int .i64 0) := keep_cell hbb (by first | assumption | (simp [go_sem]; done)); have k5 : w'.cell? ⟨w.heap.size + 1 + 1, 1, none⟩ = some (.int .u64 0) := keep_cell hbb (by first | assumption | (simp [go_sem]; done)); have k6 : w'.cell? ⟨w.heap.size + 1 + 1 + 1, 0, none⟩ = some (.int .i64 H) := keep_cell hbb (by first | assumption | (simp [go_sem]; done)); have k7 : w'.cell? ⟨w.heap.size + 1 + 1 + 1, 1, none⟩ = some (.int .u64 n) := keep_cell hbb (by first | assumption | (simp [go_sem]; done)); have f0 : w'.frozen? ⟨w.heap.size + 1 + 1, 0, none⟩ = false := keep_free hbb (by first | omega | (simp [go_sem]; done) | (simp [go_sem]; omega)) (by first | assumption | (simp [go_sem]; done)); have f1 : w'.frozen? ⟨w.heap.size + 1 + 1, 1, none⟩ = false := keep_free hbb (by first | omega | (simp [go_sem]; done) | (simp [go_sem]; omega)) (by first | assumption | (simp [go_sem]; done)); have hs : w.heap.size + 1 + 1 + 1 + 1 ≤ w'.heap.size := Nat.le_trans (by first | assumption | (simp [go_sem]; done)) hbb.size)))
  all_goals
   go_wp2
   refine bodyPost_ret (v := .tuple #[.agg #[.int .i64 H, .int .u64 n], .int .i64 0]) (by simp [results, Tryz.results172, go_sem, *]) rfl ⟨rfl, by (repeat' (first | (with_reducible exact Below.refl _ _) | (with_reducible assumption) | (with_reducible refine Below.drew ?_) | (with_reducible refine Below.setCell ?_ ?_ _) | (with_reducible refine bnext ?_ (by assumption)) | (with_reducible refine Below.alloc ?_ ?_ _) | go_size))⟩
set_option maxHeartbeats 1000000 in
theorem add_ft (xh yh H : Int) (xl yl n m p q b b2 : Nat) (w : World) (r1 : Words0 182 xl yl n b) (r2 : Words 182 p q b m b2)
    (e1 : IntKind.u64.wrap xh = (p : Int)) (e2 : IntKind.u64.wrap yh = (q : Int)) (e3 : IntKind.i64.wrap (m : Int) = H)
    (Hx : Hid (decide (xh < 0) = false)) (Hy : Hid (decide (yh < 0) = true)) :
    Calls Tryz.prog 172 #[.agg #[.int .i64 xh, .int .u64 xl], .agg #[.int .i64 yh, .int .u64 yl]] w fun e w' => e = .returned (.tuple #[.agg #[.int .i64 H, .int .u64 n], .int .i64 0]) ∧ Below w.heap.size w w' := by
  unfold Words Words0 at *
  go_enter Tryz.func172, Tryz.ntmps172
  go_wp2
  go_region_with ((go_at_call 177; first | ((with_reducible refine (below_val xh xl _ _ Hx).mono ?_); rintro e w' ⟨rfl, hbb⟩; have k0 : w'.cell? ⟨w.heap.size, 0, none⟩ = some (.int .i64 xh) := keep_cell hbb (by first | assumption | (simp [go_sem]; done)); have k1 : w'.cell? ⟨w.heap.size, 1, none⟩ = some (.int .u64 xl) := keep_cell hbb (by first | assumption | (simp [go_sem]; done)); have k2 : w'.cell? ⟨w.heap.size + 1, 0, none⟩ = some (.int .i64 yh) := keep_cell hbb (by first | assumption | (simp [go_sem]; done)); have k3 : w'.cell? ⟨w.heap.size + 1, 1, none⟩ = some (.int .u64 yl) := keep_cell hbb (by first | assumption | (simp [go_sem]; done)); have k4 : w'.cell? ⟨w.heap.size + 1 + 1, 0, none⟩ = some (.int .i64 0) := keep_cell hbb (by first | assumption | (simp [go_sem]; done)); have k5 : w'.cell? ⟨w.heap.size + 1 + 1, 1, none⟩ = some (.int .u64 0) := keep_cell hbb (by first | assumption | (simp [go_sem]; done)); have k6 : w'.cell? ⟨w.heap.size + 1 + 1 + 1, 0, none⟩ = some (.int .i64 H) := keep_cell hbb (by first | assumption | (simp [go_sem]; done)); have k7 : w'.cell? ⟨w.heap.size + 1 + 1 + 1, 1, none⟩ = some (.int .u64 n) := keep_cell hbb (by first | assumption | (simp [go_sem]; done)); have f0 : w'.frozen? ⟨w.heap.size + 1 + 1, 0, none⟩ = false := keep_free hbb (by first | omega | (simp [go_sem]; done) | (simp [go_sem]; omega)) (by first | assumption | (simp [go_sem]; done)); have f1 : w'.frozen? ⟨w.heap.size + 1 + 1, 1, none⟩ = false := keep_free hbb (by first | omega | (simp [go_sem]; done) | (simp [go_sem]; omega)) (by first | assumption | (simp [go_sem]; done)); have hs : w.heap.size + 1 + 1 + 1 + 1 ≤ w'.heap.size := Nat.le_trans (by first | assumption | (simp [go_sem]; done)) hbb.size) | ((with_reducible refine (below_val yh yl _ _ Hy).mono ?_); rintro e w' ⟨rfl, hbb⟩; have k0 : w'.cell? ⟨w.heap.size, 0, none⟩ = some (.int .i64 xh) := keep_cell hbb (by first | assumption | (simp [go_sem]; done)); have k1 : w'.cell? ⟨w.heap.size, 1, none⟩ = some (.int .u64 xl) := keep_cell hbb (by first | assumption | (simp [go_sem]; done)); have k2 : w'.cell? ⟨w.heap.size + 1, 0, none⟩ = some (.int .i64 yh) := keep_cell hbb (by first | assumption | (simp [go_sem]; done)); have k3 : w'.cell? ⟨w.heap.size + 1, 1, none⟩ = some (.int .u64 yl) := keep_cell hbb (by first | assumption | (simp [go_sem]; done)); have k4 : w'.cell? ⟨w.heap.size + 1 + 1, 0, none⟩ = some (.int .i64 0) := keep_cell hbb (by first | assumption | (simp [go_sem]; done)); have k5 : w'.cell? ⟨w.heap.size + 1 + 1, 1, none⟩ = some (.int .u64 0) := keep_cell hbb (by first | assumption | (simp [go_sem]; done)); have k6 : w'.cell? ⟨w.heap.size + 1 + 1 + 1, 0, none⟩ = some (.int .i64 H) := keep_cell hbb (by first | assumption | (simp [go_sem]; done)); have k7 : w'.cell? ⟨w.heap.size + 1 + 1 + 1, 1, none⟩ = some (.int .u64 n) := keep_cell hbb (by first | assumption | (simp [go_sem]; done)); have f0 : w'.frozen? ⟨w.heap.size + 1 + 1, 0, none⟩ = false := keep_free hbb (by first | omega | (simp [go_sem]; done) | (simp [go_sem]; omega)) (by first | assumption | (simp [go_sem]; done)); have f1 : w'.frozen? ⟨w.heap.size + 1 + 1, 1, none⟩ = false := keep_free hbb (by first | omega | (simp [go_sem]; done) | (simp [go_sem]; omega)) (by first | assumption | (simp [go_sem]; done)); have hs : w.heap.size + 1 + 1 + 1 + 1 ≤ w'.heap.size := Nat.le_trans (by first | assumption | (simp [go_sem]; done)) hbb.size)))
  all_goals
   go_wp2
   refine bodyPost_ret (v := .tuple #[.agg #[.int .i64 H, .int .u64 n], .int .i64 0]) (by simp [results, Tryz.results172, go_sem, *]) rfl ⟨rfl, by (repeat' (first | (with_reducible exact Below.refl _ _) | (with_reducible assumption) | (with_reducible refine Below.drew ?_) | (with_reducible refine Below.setCell ?_ ?_ _) | (with_reducible refine bnext ?_ (by assumption)) | (with_reducible refine Below.alloc ?_ ?_ _) | go_size))⟩
set_option maxHeartbeats 1000000 in
theorem add_fft (xh yh H : Int) (xl yl n m p q b b2 : Nat) (w : World) (r1 : Words0 182 xl yl n b) (r2 : Words 182 p q b m b2)
    (e1 : IntKind.u64.wrap xh = (p : Int)) (e2 : IntKind.u64.wrap yh = (q : Int)) (e3 : IntKind.i64.wrap (m : Int) = H)
    (Hx : Hid (decide (xh < 0) = false)) (Hy : Hid (decide (yh < 0) = false)) (HH : Hid (decide (H < 0) = true)) :
    Calls Tryz.prog 172 #[.agg #[.int .i64 xh, .int .u64 xl], .agg #[.int .i64 yh, .int .u64 yl]] w fun e w' => e = .returned (.tuple #[.agg #[.int .i64 0, .int .u64 0], .int .i64 20]) ∧ Below w.heap.size w w' := by
  unfold Words Words0 at *
  go_enter Tryz.func172, Tryz.ntmps172
  go_wp2
  go_region_held3 (fun w' => w'.cell? ⟨w.heap.size, 0, none⟩ = some (.int .i64 xh) ∧ w'.cell? ⟨w.heap.size, 1, none⟩ = some (.int .u64 xl) ∧ w'.cell? ⟨w.heap.size + 1, 0, none⟩ = some (.int .i64 yh) ∧ w'.cell? ⟨w.heap.size + 1, 1, none⟩ = some (.int .u64 yl) ∧ w'.cell? ⟨w.heap.size + 1 + 1, 0, none⟩ = some (.int .i64 0) ∧ w'.cell? ⟨w.heap.size + 1 + 1, 1, none⟩ = some (.int .u64 0) ∧ w'.cell? ⟨w.heap.size + 1 + 1 + 1, 0, none⟩ = some (.int .i64 H) ∧ w'.cell? ⟨w.heap.size + 1 + 1 + 1, 1, none⟩ = some (.int .u64 n) ∧ w'.frozen? ⟨w.heap.size + 1 + 1, 0, none⟩ = false ∧ w'.frozen? ⟨w.heap.size + 1 + 1, 1, none⟩ = false ∧ w.heap.size + 1 + 1 + 1 + 1 ≤ w'.heap.size ∧ Below w.heap.size w w')
    (first | (go_split_ands; refine ⟨keep_cell (by assumption) (by assumption), keep_cell (by assumption) (by assumption), keep_cell (by assumption) (by assumption), keep_cell (by assumption) (by assumption), keep_cell (by assumption) (by assumption), keep_cell (by assumption) (by assumption), keep_cell (by assumption) (by assumption), keep_cell (by assumption) (by assumption), keep_free (by assumption) (by omega) (by assumption), keep_free (by assumption) (by omega) (by assumption), Nat.le_trans (by assumption) (Below.size (by assumption)), bnext (by assumption) (by assumption)⟩) | (refine ⟨?_, ?_, ?_, ?_, ?_, ?_, ?_, ?_, ?_, ?_, ?_, ?_⟩ <;> first | (with_reducible assumption) | (go_grown; done) | (simp [go_sem, *]; done) | (simp [go_sem, *]; omega)))
    ((first | (go_at_call 177; (with_reducible refine (below_val xh xl _ _ Hx).mono ?_); rintro e w' ⟨rfl, hbb⟩) | (go_at_call 177; (with_reducible refine (below_val yh yl _ _ Hy).mono ?_); rintro e w' ⟨rfl, hbb⟩) | (go_at_call 177; (with_reducible refine (below_val H n _ _ HH).mono ?_); rintro e w' ⟨rfl, hbb⟩)))
  go_split_ands
  all_goals
   go_wp2
   refine bodyPost_ret (v := .tuple #[.agg #[.int .i64 0, .int .u64 0], .int .i64 20]) (by simp [results, Tryz.results172, go_sem, *]) rfl ⟨rfl, by (repeat' (first | (with_reducible exact Below.refl _ _) | (with_reducible assumption) | (with_reducible refine Below.drew ?_) | (with_reducible refine Below.setCell ?_ ?_ _) | (with_reducible refine bnext ?_ (by assumption)) | (with_reducible refine Below.alloc ?_ ?_ _) | go_size))⟩
set_option maxHeartbeats 1000000 in
theorem add_fff (xh yh H : Int) (xl yl n m p q b b2 : Nat) (w : World) (r1 : Words0 182 xl yl n b) (r2 : Words 182 p q b m b2)
    (e1 : IntKind.u64.wrap xh = (p : Int)) (e2 : IntKind.u64.wrap yh = (q : Int)) (e3 : IntKind.i64.wrap (m : Int) = H)
    (Hx : Hid (decide (xh < 0) = false)) (Hy : Hid (decide (yh < 0) = false)) (HH : Hid (decide (H < 0) = false)) :
    Calls Tryz.prog 172 #[.agg #[.int .i64 xh, .int .u64 xl], .agg #[.int .i64 yh, .int .u64 yl]] w fun e w' => e = .returned (.tuple #[.agg #[.int .i64 H, .int .u64 n], .int .i64 0]) ∧ Below w.heap.size w w' := by
  unfold Words Words0 at *
  go_enter Tryz.func172, Tryz.ntmps172
  go_wp2
  go_region_held3 (fun w' => w'.cell? ⟨w.heap.size, 0, none⟩ = some (.int .i64 xh) ∧ w'.cell? ⟨w.heap.size, 1, none⟩ = some (.int .u64 xl) ∧ w'.cell? ⟨w.heap.size + 1, 0, none⟩ = some (.int .i64 yh) ∧ w'.cell? ⟨w.heap.size + 1, 1, none⟩ = some (.int .u64 yl) ∧ w'.cell? ⟨w.heap.size + 1 + 1, 0, none⟩ = some (.int .i64 0) ∧ w'.cell? ⟨w.heap.size + 1 + 1, 1, none⟩ = some (.int .u64 0) ∧ w'.cell? ⟨w.heap.size + 1 + 1 + 1, 0, none⟩ = some (.int .i64 H) ∧ w'.cell? ⟨w.heap.size + 1 + 1 + 1, 1, none⟩ = some (.int .u64 n) ∧ w'.frozen? ⟨w.heap.size + 1 + 1, 0, none⟩ = false ∧ w'.frozen? ⟨w.heap.size + 1 + 1, 1, none⟩ = false ∧ w.heap.size + 1 + 1 + 1 + 1 ≤ w'.heap.size ∧ Below w.heap.size w w')
    (first | (go_split_ands; refine ⟨keep_cell (by assumption) (by assumption), keep_cell (by assumption) (by assumption), keep_cell (by assumption) (by assumption), keep_cell (by assumption) (by assumption), keep_cell (by assumption) (by assumption), keep_cell (by assumption) (by assumption), keep_cell (by assumption) (by assumption), keep_cell (by assumption) (by assumption), keep_free (by assumption) (by omega) (by assumption), keep_free (by assumption) (by omega) (by assumption), Nat.le_trans (by assumption) (Below.size (by assumption)), bnext (by assumption) (by assumption)⟩) | (refine ⟨?_, ?_, ?_, ?_, ?_, ?_, ?_, ?_, ?_, ?_, ?_, ?_⟩ <;> first | (with_reducible assumption) | (go_grown; done) | (simp [go_sem, *]; done) | (simp [go_sem, *]; omega)))
    ((first | (go_at_call 177; (with_reducible refine (below_val xh xl _ _ Hx).mono ?_); rintro e w' ⟨rfl, hbb⟩) | (go_at_call 177; (with_reducible refine (below_val yh yl _ _ Hy).mono ?_); rintro e w' ⟨rfl, hbb⟩) | (go_at_call 177; (with_reducible refine (below_val H n _ _ HH).mono ?_); rintro e w' ⟨rfl, hbb⟩)))
  go_split_ands
  all_goals
   go_wp2
   refine bodyPost_ret (v := .tuple #[.agg #[.int .i64 H, .int .u64 n], .int .i64 0]) (by simp [results, Tryz.results172, go_sem, *]) rfl ⟨rfl, by (repeat' (first | (with_reducible exact Below.refl _ _) | (with_reducible assumption) | (with_reducible refine Below.drew ?_) | (with_reducible refine Below.setCell ?_ ?_ _) | (with_reducible refine bnext ?_ (by assumption)) | (with_reducible refine Below.alloc ?_ ?_ _) | go_size))⟩
end Go.Proofs.YtbbhmhihpdmoiaaGreat.Fx
set_option linter.unusedVariables false
set_option linter.unusedSimpArgs false
namespace Go.Proofs.YtbbhmhihpdmoiaaGreat.Fx
open Go Go.RowKit Wm
end Go.Proofs.YtbbhmhihpdmoiaaGreat.Fx


/- Package wide: sums and differences by their value; comparisons; numbers of 64 bits. -/
set_option linter.unusedVariables false
set_option linter.unusedSimpArgs false
namespace Go.Proofs.YtbbhmhihpdmoiaaGreat.Fx
open Go Go.RowKit Wm
theorem add_any (x y xh yh : Int) (xl yl : Nat) (w : World) (hx : At x xh xl) (hy : At y yh yl) :
    Calls Tryz.prog 172 #[.agg #[.int .i64 xh, .int .u64 xl], .agg #[.int .i64 yh, .int .u64 yl]] w (RetE (x + y) w) := by
  have r1 : Words0 182 xl yl _ _ := fun w => run_add64z xl yl w
  have L := add_at hx hy
  have e1 : IntKind.u64.wrap xh = (uw xh : Int) := by rw [IntKind.wrap_u64, uw_eq]
  have e2 : IntKind.u64.wrap yh = (uw yh : Int) := by rw [IntKind.wrap_u64, uw_eq]
  obtain ⟨z, hz⟩ : ∃ z, w128 (x + y) = z := ⟨_, rfl⟩
  have F := add_fits hx.inn hy.inn hz
  rw [hz] at L
  have hxs := hx.neg
  have hys := hy.neg
  have hb1 : (xl + yl) / 18446744073709551616 ≤ 1 := by have := hx.2.1; have := hy.2.1; omega
  have r2 : Words 182 (uw xh) (uw yh) _ _ _ := fun w => run_add64 (uw xh) (uw yh) _ hb1 w
  have e3 := IntKind.wrap_i64 (((uw xh + uw yh + (xl + yl) / 18446744073709551616) % 18446744073709551616 : Nat) : Int)
  have hzs := L.neg
  clear hx hy
  generalize ((((uw xh + uw yh + (xl + yl) / 18446744073709551616) % 18446744073709551616 : Nat) : Int) + 9223372036854775808) % 18446744073709551616 - 9223372036854775808 = H at *
  cases c1 : decide (xh < 0) <;> cases c2 : decide (yh < 0)
  · have d1 := of_decide_eq_false c1
    have d2 := of_decide_eq_false c2
    cases c3 : decide (H < 0)
    · have d3 := of_decide_eq_false c3
      exact (add_fff xh yh H xl yl _ _ _ _ _ _ w r1 r2 e1 e2 e3 (Lib.hid c1) (Lib.hid c2) (Lib.hid c3)).mono fun e w' ⟨he, hb⟩ => he ▸ ret_e (F.2 (by omega)) hz L hb
    · have d3 := of_decide_eq_true c3
      exact (add_fft xh yh H xl yl _ _ _ _ _ _ w r1 r2 e1 e2 e3 (Lib.hid c1) (Lib.hid c2) (Lib.hid c3)).mono fun e w' ⟨he, hb⟩ => he ▸ ret_no (fun hi => by have := F.1 hi; omega) hb
  · have d1 := of_decide_eq_false c1
    have d2 := of_decide_eq_true c2
    exact (add_ft xh yh H xl yl _ _ _ _ _ _ w r1 r2 e1 e2 e3 (Lib.hid c1) (Lib.hid c2)).mono fun e w' ⟨he, hb⟩ => he ▸ ret_e (F.2 (by omega)) hz L hb
  · have d1 := of_decide_eq_true c1
    have d2 := of_decide_eq_false c2
    exact (add_tf xh yh H xl yl _ _ _ _ _ _ w r1 r2 e1 e2 e3 (Lib.hid c1) (Lib.hid c2)).mono fun e w' ⟨he, hb⟩ => he ▸ ret_e (F.2 (by omega)) hz L hb
  · have d1 := of_decide_eq_true c1
    have d2 := of_decide_eq_true c2
    cases c3 : decide (H < 0)
    · have d3 := of_decide_eq_false c3
      exact (add_ttf xh yh H xl yl _ _ _ _ _ _ w r1 r2 e1 e2 e3 (Lib.hid c1) (Lib.hid c2) (Lib.hid c3)).mono fun e w' ⟨he, hb⟩ => he ▸ ret_no (fun hi => by have := F.1 hi; omega) hb
    · have d3 := of_decide_eq_true c3
      exact (add_ttt xh yh H xl yl _ _ _ _ _ _ w r1 r2 e1 e2 e3 (Lib.hid c1) (Lib.hid c2) (Lib.hid c3)).mono fun e w' ⟨he, hb⟩ => he ▸ ret_e (F.2 (by omega)) hz L hb
end Go.Proofs.YtbbhmhihpdmoiaaGreat.Fx

