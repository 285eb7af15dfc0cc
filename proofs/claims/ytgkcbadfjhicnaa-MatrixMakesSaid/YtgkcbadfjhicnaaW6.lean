/- Package wide: Div, walked: eight ways. -/
import Derived.Test.YtgkcbadfjhicnaaProg
import Derived.Test.YtgkcbadfjhicnaaW6a
set_option linter.unusedVariables false
set_option linter.unusedSimpArgs false
namespace Go.Proofs.Ytgkcbadfjhicnaa.Fx
open Go Go.RowKit Wm
set_option maxHeartbeats 1600000 in
theorem div_tt (x xh c : Int) (xl n m q0 r0 R S : Nat) (T : Int) (w : World) (hx : At x xh xl) (Hx : Hid (decide (xh < 0) = true)) (hc : decide (c < 0) = true) (hc0 : (c == 0) = false)
    (hsz : ∀ w, Calls Try.prog 54 #[.int .i64 c] w fun e w' => e = .returned (.int .u64 (m : Int)) ∧ w = w')
    (hn : ∀ w, Calls Try.prog 56 #[.agg #[.int .i64 xh, .int .u64 xl]] w (RetN n w))
    (hby : ∀ w h l, Na n h l → Calls Try.prog 57 #[.agg #[.int .u64 h, .int .u64 l], .int .u64 m] w (RetQ q0 r0 w))
    (hR : r0 = R)
    (z : Int) (hz : ∀ w h l, Na q0 h l → Calls Try.prog 55 #[.agg #[.int .u64 h, .int .u64 l], .bool false] w (RetW z w))
    (hov : decide (z < 0) = false)
    (hT : IntKind.i64.wrap (R : Int) = T) (hTw : wrap64 (R : Int) = T) (hRu : IntKind.u64.wrap (R : Int) = (R : Int)) (hT2 : wrap64 (-T) = -T)
    : Calls Try.prog 25 #[.agg #[.int .i64 xh, .int .u64 xl], .int .i64 c] w (RetD z (-T) 0 w) := by
  have HX := Lib.hid hx
  clear hx
  have HS := Lib.hid hsz
  clear hsz
  have HN := Lib.hid hn
  clear hn
  have HBY := Lib.hid hby
  clear hby
  have HZ := Lib.hid hz
  clear hz
  have HOV := Lib.hid hov
  clear hov
  subst hR
  go_enter Try.func25, Try.ntmps25
  go_wp2_with fail
  refine (HN.out _).mono ?_
  rintro e wx1 ⟨a1, b1, rfl, hna1, hb1⟩
  have hB1 : Below w.heap.size w wx1 := by (repeat' (first | (with_reducible exact Below.refl _ _) | (with_reducible assumption) | (with_reducible refine Below.drew ?_) | (with_reducible refine Below.setCell ?_ ?_ _) | (with_reducible refine bnext ?_ (by assumption)) | (with_reducible refine Below.alloc ?_ ?_ _) | go_size))
  have hz1_0 : w.heap.size < wx1.heap.size := Nat.lt_of_lt_of_le (by first | assumption | (simp [go_sem]; done) | (simp [go_sem]; omega)) hb1.size
  have hz1_1 : w.heap.size + 1 < wx1.heap.size := Nat.lt_of_lt_of_le (by first | assumption | (simp [go_sem]; done) | (simp [go_sem]; omega)) hb1.size
  have k1_0 : wx1.cell? ⟨w.heap.size, 0, none⟩ = some (.int .i64 xh) := keep_cell hb1 (by first | assumption | (simp [go_sem, *]; done))
  have k1_1 : wx1.cell? ⟨w.heap.size, 1, none⟩ = some (.int .u64 xl) := keep_cell hb1 (by first | assumption | (simp [go_sem, *]; done))
  have k1_2 : wx1.cell? ⟨w.heap.size + 1, 0, none⟩ = some (.int .i64 0) := keep_cell hb1 (by first | assumption | (simp [go_sem, *]; done))
  have k1_3 : wx1.cell? ⟨w.heap.size + 1, 1, none⟩ = some (.int .u64 0) := keep_cell hb1 (by first | assumption | (simp [go_sem, *]; done))
  have f1_0 : wx1.frozen? ⟨w.heap.size, 0, none⟩ = false := keep_free hb1 (by first | assumption | (simp [go_sem]; done) | (simp [go_sem]; omega)) (by first | assumption | (simp [go_sem, *]; done))
  have f1_1 : wx1.frozen? ⟨w.heap.size, 1, none⟩ = false := keep_free hb1 (by first | assumption | (simp [go_sem]; done) | (simp [go_sem]; omega)) (by first | assumption | (simp [go_sem, *]; done))
  have f1_2 : wx1.frozen? ⟨w.heap.size + 1, 0, none⟩ = false := keep_free hb1 (by first | assumption | (simp [go_sem]; done) | (simp [go_sem]; omega)) (by first | assumption | (simp [go_sem, *]; done))
  have f1_3 : wx1.frozen? ⟨w.heap.size + 1, 1, none⟩ = false := keep_free hb1 (by first | assumption | (simp [go_sem]; done) | (simp [go_sem]; omega)) (by first | assumption | (simp [go_sem, *]; done))
  have HNA1 := Lib.hid hna1
  clear hna1
  go_wp2_with fail
  refine (HS.out _).mono ?_
  rintro e w' ⟨rfl, rfl⟩
  go_wp2_with fail
  refine (HBY.out _ a1 b1 HNA1.out).mono ?_
  rintro e wx2 ⟨a2, b2, rfl, hna2, hb2⟩
  have hB2 : Below w.heap.size w wx2 := by (repeat' (first | (with_reducible exact Below.refl _ _) | (with_reducible assumption) | (with_reducible refine Below.drew ?_) | (with_reducible refine Below.setCell ?_ ?_ _) | (with_reducible refine bnext ?_ (by assumption)) | (with_reducible refine Below.alloc ?_ ?_ _) | go_size))
  have hz2_0 : w.heap.size < wx2.heap.size := Nat.lt_of_lt_of_le (by first | assumption | (simp [go_sem]; done) | (simp [go_sem]; omega)) hb2.size
  have hz2_1 : w.heap.size + 1 < wx2.heap.size := Nat.lt_of_lt_of_le (by first | assumption | (simp [go_sem]; done) | (simp [go_sem]; omega)) hb2.size
  have k2_0 : wx2.cell? ⟨w.heap.size, 0, none⟩ = some (.int .i64 xh) := keep_cell hb2 (by first | assumption | (simp [go_sem, *]; done))
  have k2_1 : wx2.cell? ⟨w.heap.size, 1, none⟩ = some (.int .u64 xl) := keep_cell hb2 (by first | assumption | (simp [go_sem, *]; done))
  have k2_2 : wx2.cell? ⟨w.heap.size + 1, 0, none⟩ = some (.int .i64 0) := keep_cell hb2 (by first | assumption | (simp [go_sem, *]; done))
  have k2_3 : wx2.cell? ⟨w.heap.size + 1, 1, none⟩ = some (.int .u64 0) := keep_cell hb2 (by first | assumption | (simp [go_sem, *]; done))
  have f2_0 : wx2.frozen? ⟨w.heap.size, 0, none⟩ = false := keep_free hb2 (by first | assumption | (simp [go_sem]; done) | (simp [go_sem]; omega)) (by first | assumption | (simp [go_sem, *]; done))
  have f2_1 : wx2.frozen? ⟨w.heap.size, 1, none⟩ = false := keep_free hb2 (by first | assumption | (simp [go_sem]; done) | (simp [go_sem]; omega)) (by first | assumption | (simp [go_sem, *]; done))
  have f2_2 : wx2.frozen? ⟨w.heap.size + 1, 0, none⟩ = false := keep_free hb2 (by first | assumption | (simp [go_sem]; done) | (simp [go_sem]; omega)) (by first | assumption | (simp [go_sem, *]; done))
  have f2_3 : wx2.frozen? ⟨w.heap.size + 1, 1, none⟩ = false := keep_free hb2 (by first | assumption | (simp [go_sem]; done) | (simp [go_sem]; omega)) (by first | assumption | (simp [go_sem, *]; done))
  have HNA2 := Lib.hid hna2
  clear hna2
  go_wp2_with fail
  refine (below_val xh xl _ _ Hx).mono ?_
  rintro e wx3 ⟨rfl, hb3⟩
  have hB3 : Below w.heap.size w wx3 := by (repeat' (first | (with_reducible exact Below.refl _ _) | (with_reducible assumption) | (with_reducible refine Below.drew ?_) | (with_reducible refine Below.setCell ?_ ?_ _) | (with_reducible refine bnext ?_ (by assumption)) | (with_reducible refine Below.alloc ?_ ?_ _) | go_size))
  have hz3_0 : w.heap.size < wx3.heap.size := Nat.lt_of_lt_of_le (by first | assumption | (simp [go_sem]; done) | (simp [go_sem]; omega)) hb3.size
  have hz3_1 : w.heap.size + 1 < wx3.heap.size := Nat.lt_of_lt_of_le (by first | assumption | (simp [go_sem]; done) | (simp [go_sem]; omega)) hb3.size
  have hz3_2 : wx2.heap.size < wx3.heap.size := Nat.lt_of_lt_of_le (by first | assumption | (simp [go_sem]; done) | (simp [go_sem]; omega)) hb3.size
  have k3_0 : wx3.cell? ⟨w.heap.size, 0, none⟩ = some (.int .i64 xh) := keep_cell hb3 (by first | assumption | (simp [go_sem, *]; done))
  have k3_1 : wx3.cell? ⟨w.heap.size, 1, none⟩ = some (.int .u64 xl) := keep_cell hb3 (by first | assumption | (simp [go_sem, *]; done))
  have k3_2 : wx3.cell? ⟨w.heap.size + 1, 0, none⟩ = some (.int .i64 0) := keep_cell hb3 (by first | assumption | (simp [go_sem, *]; done))
  have k3_3 : wx3.cell? ⟨w.heap.size + 1, 1, none⟩ = some (.int .u64 0) := keep_cell hb3 (by first | assumption | (simp [go_sem, *]; done))
  have k3_4 : wx3.cell? ⟨wx2.heap.size, 0, none⟩ = some (.int .u64 a2) := keep_cell hb3 (by first | assumption | (simp [go_sem, *]; done))
  have k3_5 : wx3.cell? ⟨wx2.heap.size, 1, none⟩ = some (.int .u64 b2) := keep_cell hb3 (by first | assumption | (simp [go_sem, *]; done))
  have f3_0 : wx3.frozen? ⟨w.heap.size, 0, none⟩ = false := keep_free hb3 (by first | assumption | (simp [go_sem]; done) | (simp [go_sem]; omega)) (by first | assumption | (simp [go_sem, *]; done))
  have f3_1 : wx3.frozen? ⟨w.heap.size, 1, none⟩ = false := keep_free hb3 (by first | assumption | (simp [go_sem]; done) | (simp [go_sem]; omega)) (by first | assumption | (simp [go_sem, *]; done))
  have f3_2 : wx3.frozen? ⟨w.heap.size + 1, 0, none⟩ = false := keep_free hb3 (by first | assumption | (simp [go_sem]; done) | (simp [go_sem]; omega)) (by first | assumption | (simp [go_sem, *]; done))
  have f3_3 : wx3.frozen? ⟨w.heap.size + 1, 1, none⟩ = false := keep_free hb3 (by first | assumption | (simp [go_sem]; done) | (simp [go_sem]; omega)) (by first | assumption | (simp [go_sem, *]; done))
  have f3_4 : wx3.frozen? ⟨wx2.heap.size, 0, none⟩ = false := keep_free hb3 (by first | assumption | (simp [go_sem]; done) | (simp [go_sem]; omega)) (by first | assumption | (simp [go_sem, *]; done))
  have f3_5 : wx3.frozen? ⟨wx2.heap.size, 1, none⟩ = false := keep_free hb3 (by first | assumption | (simp [go_sem]; done) | (simp [go_sem]; omega)) (by first | assumption | (simp [go_sem, *]; done))
  go_wp2_with fail
  refine (HZ.out _ a2 b2 HNA2.out).mono ?_
  rintro e wx4 ⟨a4, b4, rfl, hat, hb4⟩
  have hB4 : Below w.heap.size w wx4 := by (repeat' (first | (with_reducible exact Below.refl _ _) | (with_reducible assumption) | (with_reducible refine Below.drew ?_) | (with_reducible refine Below.setCell ?_ ?_ _) | (with_reducible refine bnext ?_ (by assumption)) | (with_reducible refine Below.alloc ?_ ?_ _) | go_size))
  have hz4_0 : w.heap.size < wx4.heap.size := Nat.lt_of_lt_of_le (by first | assumption | (simp [go_sem]; done) | (simp [go_sem]; omega)) hb4.size
  have hz4_1 : w.heap.size + 1 < wx4.heap.size := Nat.lt_of_lt_of_le (by first | assumption | (simp [go_sem]; done) | (simp [go_sem]; omega)) hb4.size
  have hz4_2 : wx2.heap.size < wx4.heap.size := Nat.lt_of_lt_of_le (by first | assumption | (simp [go_sem]; done) | (simp [go_sem]; omega)) hb4.size
  have k4_0 : wx4.cell? ⟨w.heap.size, 0, none⟩ = some (.int .i64 xh) := keep_cell hb4 (by first | assumption | (simp [go_sem, *]; done))
  have k4_1 : wx4.cell? ⟨w.heap.size, 1, none⟩ = some (.int .u64 xl) := keep_cell hb4 (by first | assumption | (simp [go_sem, *]; done))
  have k4_2 : wx4.cell? ⟨w.heap.size + 1, 0, none⟩ = some (.int .i64 0) := keep_cell hb4 (by first | assumption | (simp [go_sem, *]; done))
  have k4_3 : wx4.cell? ⟨w.heap.size + 1, 1, none⟩ = some (.int .u64 0) := keep_cell hb4 (by first | assumption | (simp [go_sem, *]; done))
  have k4_4 : wx4.cell? ⟨wx2.heap.size, 0, none⟩ = some (.int .u64 a2) := keep_cell hb4 (by first | assumption | (simp [go_sem, *]; done))
  have k4_5 : wx4.cell? ⟨wx2.heap.size, 1, none⟩ = some (.int .u64 b2) := keep_cell hb4 (by first | assumption | (simp [go_sem, *]; done))
  have f4_0 : wx4.frozen? ⟨w.heap.size, 0, none⟩ = false := keep_free hb4 (by first | assumption | (simp [go_sem]; done) | (simp [go_sem]; omega)) (by first | assumption | (simp [go_sem, *]; done))
  have f4_1 : wx4.frozen? ⟨w.heap.size, 1, none⟩ = false := keep_free hb4 (by first | assumption | (simp [go_sem]; done) | (simp [go_sem]; omega)) (by first | assumption | (simp [go_sem, *]; done))
  have f4_2 : wx4.frozen? ⟨w.heap.size + 1, 0, none⟩ = false := keep_free hb4 (by first | assumption | (simp [go_sem]; done) | (simp [go_sem]; omega)) (by first | assumption | (simp [go_sem, *]; done))
  have f4_3 : wx4.frozen? ⟨w.heap.size + 1, 1, none⟩ = false := keep_free hb4 (by first | assumption | (simp [go_sem]; done) | (simp [go_sem]; omega)) (by first | assumption | (simp [go_sem, *]; done))
  have f4_4 : wx4.frozen? ⟨wx2.heap.size, 0, none⟩ = false := keep_free hb4 (by first | assumption | (simp [go_sem]; done) | (simp [go_sem]; omega)) (by first | assumption | (simp [go_sem, *]; done))
  have f4_5 : wx4.frozen? ⟨wx2.heap.size, 1, none⟩ = false := keep_free hb4 (by first | assumption | (simp [go_sem]; done) | (simp [go_sem]; omega)) (by first | assumption | (simp [go_sem, *]; done))
  have HAT := Lib.hid hat
  have HQ : Hid (decide (a4 < 0) = false) := Lib.hid (by rw [← HOV.out]; exact decide_eq_decide.2 hat.neg)
  clear hat
  go_wp2_with fail
  refine (below_val a4 b4 _ _ HQ).mono ?_
  rintro e wx5 ⟨rfl, hb5⟩
  have hB5 : Below w.heap.size w wx5 := by (repeat' (first | (with_reducible exact Below.refl _ _) | (with_reducible assumption) | (with_reducible refine Below.drew ?_) | (with_reducible refine Below.setCell ?_ ?_ _) | (with_reducible refine bnext ?_ (by assumption)) | (with_reducible refine Below.alloc ?_ ?_ _) | go_size))
  have hz5_0 : w.heap.size < wx5.heap.size := Nat.lt_of_lt_of_le (by first | assumption | (simp [go_sem]; done) | (simp [go_sem]; omega)) hb5.size
  have hz5_1 : w.heap.size + 1 < wx5.heap.size := Nat.lt_of_lt_of_le (by first | assumption | (simp [go_sem]; done) | (simp [go_sem]; omega)) hb5.size
  have hz5_2 : wx2.heap.size < wx5.heap.size := Nat.lt_of_lt_of_le (by first | assumption | (simp [go_sem]; done) | (simp [go_sem]; omega)) hb5.size
  have hz5_3 : wx4.heap.size < wx5.heap.size := Nat.lt_of_lt_of_le (by first | assumption | (simp [go_sem]; done) | (simp [go_sem]; omega)) hb5.size
  have k5_0 : wx5.cell? ⟨w.heap.size, 0, none⟩ = some (.int .i64 xh) := keep_cell hb5 (by first | assumption | (simp [go_sem, *]; done))
  have k5_1 : wx5.cell? ⟨w.heap.size, 1, none⟩ = some (.int .u64 xl) := keep_cell hb5 (by first | assumption | (simp [go_sem, *]; done))
  have k5_2 : wx5.cell? ⟨w.heap.size + 1, 0, none⟩ = some (.int .i64 0) := keep_cell hb5 (by first | assumption | (simp [go_sem, *]; done))
  have k5_3 : wx5.cell? ⟨w.heap.size + 1, 1, none⟩ = some (.int .u64 0) := keep_cell hb5 (by first | assumption | (simp [go_sem, *]; done))
  have k5_4 : wx5.cell? ⟨wx2.heap.size, 0, none⟩ = some (.int .u64 a2) := keep_cell hb5 (by first | assumption | (simp [go_sem, *]; done))
  have k5_5 : wx5.cell? ⟨wx2.heap.size, 1, none⟩ = some (.int .u64 b2) := keep_cell hb5 (by first | assumption | (simp [go_sem, *]; done))
  have k5_6 : wx5.cell? ⟨wx4.heap.size, 0, none⟩ = some (.int .i64 a4) := keep_cell hb5 (by first | assumption | (simp [go_sem, *]; done))
  have k5_7 : wx5.cell? ⟨wx4.heap.size, 1, none⟩ = some (.int .u64 b4) := keep_cell hb5 (by first | assumption | (simp [go_sem, *]; done))
  have f5_0 : wx5.frozen? ⟨w.heap.size, 0, none⟩ = false := keep_free hb5 (by first | assumption | (simp [go_sem]; done) | (simp [go_sem]; omega)) (by first | assumption | (simp [go_sem, *]; done))
  have f5_1 : wx5.frozen? ⟨w.heap.size, 1, none⟩ = false := keep_free hb5 (by first | assumption | (simp [go_sem]; done) | (simp [go_sem]; omega)) (by first | assumption | (simp [go_sem, *]; done))
  have f5_2 : wx5.frozen? ⟨w.heap.size + 1, 0, none⟩ = false := keep_free hb5 (by first | assumption | (simp [go_sem]; done) | (simp [go_sem]; omega)) (by first | assumption | (simp [go_sem, *]; done))
  have f5_3 : wx5.frozen? ⟨w.heap.size + 1, 1, none⟩ = false := keep_free hb5 (by first | assumption | (simp [go_sem]; done) | (simp [go_sem]; omega)) (by first | assumption | (simp [go_sem, *]; done))
  have f5_4 : wx5.frozen? ⟨wx2.heap.size, 0, none⟩ = false := keep_free hb5 (by first | assumption | (simp [go_sem]; done) | (simp [go_sem]; omega)) (by first | assumption | (simp [go_sem, *]; done))
  have f5_5 : wx5.frozen? ⟨wx2.heap.size, 1, none⟩ = false := keep_free hb5 (by first | assumption | (simp [go_sem]; done) | (simp [go_sem]; omega)) (by first | assumption | (simp [go_sem, *]; done))
  have f5_6 : wx5.frozen? ⟨wx4.heap.size, 0, none⟩ = false := keep_free hb5 (by first | assumption | (simp [go_sem]; done) | (simp [go_sem]; omega)) (by first | assumption | (simp [go_sem, *]; done))
  have f5_7 : wx5.frozen? ⟨wx4.heap.size, 1, none⟩ = false := keep_free hb5 (by first | assumption | (simp [go_sem]; done) | (simp [go_sem]; omega)) (by first | assumption | (simp [go_sem, *]; done))
  go_wp2
  refine bodyPost_ret (v := .tuple #[.agg #[.int .i64 a4, .int .u64 b4], .int .i64 (-T), .int .i64 0]) (by simp [results, Try.results25, go_sem, *]) rfl (⟨_, _, rfl, HAT.out, ?_⟩)
  repeat' (first | (with_reducible exact Below.refl _ _) | (with_reducible assumption) | (with_reducible refine Below.drew ?_) | (with_reducible refine Below.setCell ?_ ?_ _) | (with_reducible refine bnext ?_ (by assumption)) | (with_reducible refine Below.alloc ?_ ?_ _) | go_size)
set_option maxHeartbeats 1600000 in
theorem div_tto (x xh c : Int) (xl n m q0 r0 R S : Nat) (T : Int) (w : World) (hx : At x xh xl) (Hx : Hid (decide (xh < 0) = true)) (hc : decide (c < 0) = true) (hc0 : (c == 0) = false)
    (hsz : ∀ w, Calls Try.prog 54 #[.int .i64 c] w fun e w' => e = .returned (.int .u64 (m : Int)) ∧ w = w')
    (hn : ∀ w, Calls Try.prog 56 #[.agg #[.int .i64 xh, .int .u64 xl]] w (RetN n w))
    (hby : ∀ w h l, Na n h l → Calls Try.prog 57 #[.agg #[.int .u64 h, .int .u64 l], .int .u64 m] w (RetQ q0 r0 w))
    (hR : r0 = R)
    (z : Int) (hz : ∀ w h l, Na q0 h l → Calls Try.prog 55 #[.agg #[.int .u64 h, .int .u64 l], .bool false] w (RetW z w))
    (hov : decide (z < 0) = true)
    : Calls Try.prog 25 #[.agg #[.int .i64 xh, .int .u64 xl], .int .i64 c] w (RetD 0 0 20 w) := by
  have HX := Lib.hid hx
  clear hx
  have HS := Lib.hid hsz
  clear hsz
  have HN := Lib.hid hn
  clear hn
  have HBY := Lib.hid hby
  clear hby
  have HZ := Lib.hid hz
  clear hz
  have HOV := Lib.hid hov
  clear hov
  subst hR
  go_enter Try.func25, Try.ntmps25
  go_wp2_with fail
  refine (HN.out _).mono ?_
  rintro e wx1 ⟨a1, b1, rfl, hna1, hb1⟩
  have hB1 : Below w.heap.size w wx1 := by (repeat' (first | (with_reducible exact Below.refl _ _) | (with_reducible assumption) | (with_reducible refine Below.drew ?_) | (with_reducible refine Below.setCell ?_ ?_ _) | (with_reducible refine bnext ?_ (by assumption)) | (with_reducible refine Below.alloc ?_ ?_ _) | go_size))
  have hz1_0 : w.heap.size < wx1.heap.size := Nat.lt_of_lt_of_le (by first | assumption | (simp [go_sem]; done) | (simp [go_sem]; omega)) hb1.size
  have hz1_1 : w.heap.size + 1 < wx1.heap.size := Nat.lt_of_lt_of_le (by first | assumption | (simp [go_sem]; done) | (simp [go_sem]; omega)) hb1.size
  have k1_0 : wx1.cell? ⟨w.heap.size, 0, none⟩ = some (.int .i64 xh) := keep_cell hb1 (by first | assumption | (simp [go_sem, *]; done))
  have k1_1 : wx1.cell? ⟨w.heap.size, 1, none⟩ = some (.int .u64 xl) := keep_cell hb1 (by first | assumption | (simp [go_sem, *]; done))
  have k1_2 : wx1.cell? ⟨w.heap.size + 1, 0, none⟩ = some (.int .i64 0) := keep_cell hb1 (by first | assumption | (simp [go_sem, *]; done))
  have k1_3 : wx1.cell? ⟨w.heap.size + 1, 1, none⟩ = some (.int .u64 0) := keep_cell hb1 (by first | assumption | (simp [go_sem, *]; done))
  have f1_0 : wx1.frozen? ⟨w.heap.size, 0, none⟩ = false := keep_free hb1 (by first | assumption | (simp [go_sem]; done) | (simp [go_sem]; omega)) (by first | assumption | (simp [go_sem, *]; done))
  have f1_1 : wx1.frozen? ⟨w.heap.size, 1, none⟩ = false := keep_free hb1 (by first | assumption | (simp [go_sem]; done) | (simp [go_sem]; omega)) (by first | assumption | (simp [go_sem, *]; done))
  have f1_2 : wx1.frozen? ⟨w.heap.size + 1, 0, none⟩ = false := keep_free hb1 (by first | assumption | (simp [go_sem]; done) | (simp [go_sem]; omega)) (by first | assumption | (simp [go_sem, *]; done))
  have f1_3 : wx1.frozen? ⟨w.heap.size + 1, 1, none⟩ = false := keep_free hb1 (by first | assumption | (simp [go_sem]; done) | (simp [go_sem]; omega)) (by first | assumption | (simp [go_sem, *]; done))
  have HNA1 := Lib.hid hna1
  clear hna1
  go_wp2_with fail
  refine (HS.out _).mono ?_
  rintro e w' ⟨rfl, rfl⟩
  go_wp2_with fail
  refine (HBY.out _ a1 b1 HNA1.out).mono ?_
  rintro e wx2 ⟨a2, b2, rfl, hna2, hb2⟩
  have hB2 : Below w.heap.size w wx2 := by (repeat' (first | (with_reducible exact Below.refl _ _) | (with_reducible assumption) | (with_reducible refine Below.drew ?_) | (with_reducible refine Below.setCell ?_ ?_ _) | (with_reducible refine bnext ?_ (by assumption)) | (with_reducible refine Below.alloc ?_ ?_ _) | go_size))
  have hz2_0 : w.heap.size < wx2.heap.size := Nat.lt_of_lt_of_le (by first | assumption | (simp [go_sem]; done) | (simp [go_sem]; omega)) hb2.size
  have hz2_1 : w.heap.size + 1 < wx2.heap.size := Nat.lt_of_lt_of_le (by first | assumption | (simp [go_sem]; done) | (simp [go_sem]; omega)) hb2.size
  have k2_0 : wx2.cell? ⟨w.heap.size, 0, none⟩ = some (.int .i64 xh) := keep_cell hb2 (by first | assumption | (simp [go_sem, *]; done))
  have k2_1 : wx2.cell? ⟨w.heap.size, 1, none⟩ = some (.int .u64 xl) := keep_cell hb2 (by first | assumption | (simp [go_sem, *]; done))
  have k2_2 : wx2.cell? ⟨w.heap.size + 1, 0, none⟩ = some (.int .i64 0) := keep_cell hb2 (by first | assumption | (simp [go_sem, *]; done))
  have k2_3 : wx2.cell? ⟨w.heap.size + 1, 1, none⟩ = some (.int .u64 0) := keep_cell hb2 (by first | assumption | (simp [go_sem, *]; done))
  have f2_0 : wx2.frozen? ⟨w.heap.size, 0, none⟩ = false := keep_free hb2 (by first | assumption | (simp [go_sem]; done) | (simp [go_sem]; omega)) (by first | assumption | (simp [go_sem, *]; done))
  have f2_1 : wx2.frozen? ⟨w.heap.size, 1, none⟩ = false := keep_free hb2 (by first | assumption | (simp [go_sem]; done) | (simp [go_sem]; omega)) (by first | assumption | (simp [go_sem, *]; done))
  have f2_2 : wx2.frozen? ⟨w.heap.size + 1, 0, none⟩ = false := keep_free hb2 (by first | assumption | (simp [go_sem]; done) | (simp [go_sem]; omega)) (by first | assumption | (simp [go_sem, *]; done))
  have f2_3 : wx2.frozen? ⟨w.heap.size + 1, 1, none⟩ = false := keep_free hb2 (by first | assumption | (simp [go_sem]; done) | (simp [go_sem]; omega)) (by first | assumption | (simp [go_sem, *]; done))
  have HNA2 := Lib.hid hna2
  clear hna2
  go_wp2_with fail
  refine (below_val xh xl _ _ Hx).mono ?_
  rintro e wx3 ⟨rfl, hb3⟩
  have hB3 : Below w.heap.size w wx3 := by (repeat' (first | (with_reducible exact Below.refl _ _) | (with_reducible assumption) | (with_reducible refine Below.drew ?_) | (with_reducible refine Below.setCell ?_ ?_ _) | (with_reducible refine bnext ?_ (by assumption)) | (with_reducible refine Below.alloc ?_ ?_ _) | go_size))
  have hz3_0 : w.heap.size < wx3.heap.size := Nat.lt_of_lt_of_le (by first | assumption | (simp [go_sem]; done) | (simp [go_sem]; omega)) hb3.size
  have hz3_1 : w.heap.size + 1 < wx3.heap.size := Nat.lt_of_lt_of_le (by first | assumption | (simp [go_sem]; done) | (simp [go_sem]; omega)) hb3.size
  have hz3_2 : wx2.heap.size < wx3.heap.size := Nat.lt_of_lt_of_le (by first | assumption | (simp [go_sem]; done) | (simp [go_sem]; omega)) hb3.size
  have k3_0 : wx3.cell? ⟨w.heap.size, 0, none⟩ = some (.int .i64 xh) := keep_cell hb3 (by first | assumption | (simp [go_sem, *]; done))
  have k3_1 : wx3.cell? ⟨w.heap.size, 1, none⟩ = some (.int .u64 xl) := keep_cell hb3 (by first | assumption | (simp [go_sem, *]; done))
  have k3_2 : wx3.cell? ⟨w.heap.size + 1, 0, none⟩ = some (.int .i64 0) := keep_cell hb3 (by first | assumption | (simp [go_sem, *]; done))
  have k3_3 : wx3.cell? ⟨w.heap.size + 1, 1, none⟩ = some (.int .u64 0) := keep_cell hb3 (by first | assumption | (simp [go_sem, *]; done))
  have k3_4 : wx3.cell? ⟨wx2.heap.size, 0, none⟩ = some (.int .u64 a2) := keep_cell hb3 (by first | assumption | (simp [go_sem, *]; done))
  have k3_5 : wx3.cell? ⟨wx2.heap.size, 1, none⟩ = some (.int .u64 b2) := keep_cell hb3 (by first | assumption | (simp [go_sem, *]; done))
  have f3_0 : wx3.frozen? ⟨w.heap.size, 0, none⟩ = false := keep_free hb3 (by first | assumption | (simp [go_sem]; done) | (simp [go_sem]; omega)) (by first | assumption | (simp [go_sem, *]; done))
  have f3_1 : wx3.frozen? ⟨w.heap.size, 1, none⟩ = false := keep_free hb3 (by first | assumption | (simp [go_sem]; done) | (simp [go_sem]; omega)) (by first | assumption | (simp [go_sem, *]; done))
  have f3_2 : wx3.frozen? ⟨w.heap.size + 1, 0, none⟩ = false := keep_free hb3 (by first | assumption | (simp [go_sem]; done) | (simp [go_sem]; omega)) (by first | assumption | (simp [go_sem, *]; done))
  have f3_3 : wx3.frozen? ⟨w.heap.size + 1, 1, none⟩ = false := keep_free hb3 (by first | assumption | (simp [go_sem]; done) | (simp [go_sem]; omega)) (by first | assumption | (simp [go_sem, *]; done))
  have f3_4 : wx3.frozen? ⟨wx2.heap.size, 0, none⟩ = false := keep_free hb3 (by first | assumption | (simp [go_sem]; done) | (simp [go_sem]; omega)) (by first | assumption | (simp [go_sem, *]; done))
  have f3_5 : wx3.frozen? ⟨wx2.heap.size, 1, none⟩ = false := keep_free hb3 (by first | assumption | (simp [go_sem]; done) | (simp [go_sem]; omega)) (by first | assumption | (simp [go_sem, *]; done))
  go_wp2_with fail
  refine (HZ.out _ a2 b2 HNA2.out).mono ?_
  rintro e wx4 ⟨a4, b4, rfl, hat, hb4⟩
  have hB4 : Below w.heap.size w wx4 := by (repeat' (first | (with_reducible exact Below.refl _ _) | (with_reducible assumption) | (with_reducible refine Below.drew ?_) | (with_reducible refine Below.setCell ?_ ?_ _) | (with_reducible refine bnext ?_ (by assumption)) | (with_reducible refine Below.alloc ?_ ?_ _) | go_size))
  have hz4_0 : w.heap.size < wx4.heap.size := Nat.lt_of_lt_of_le (by first | assumption | (simp [go_sem]; done) | (simp [go_sem]; omega)) hb4.size
  have hz4_1 : w.heap.size + 1 < wx4.heap.size := Nat.lt_of_lt_of_le (by first | assumption | (simp [go_sem]; done) | (simp [go_sem]; omega)) hb4.size
  have hz4_2 : wx2.heap.size < wx4.heap.size := Nat.lt_of_lt_of_le (by first | assumption | (simp [go_sem]; done) | (simp [go_sem]; omega)) hb4.size
  have k4_0 : wx4.cell? ⟨w.heap.size, 0, none⟩ = some (.int .i64 xh) := keep_cell hb4 (by first | assumption | (simp [go_sem, *]; done))
  have k4_1 : wx4.cell? ⟨w.heap.size, 1, none⟩ = some (.int .u64 xl) := keep_cell hb4 (by first | assumption | (simp [go_sem, *]; done))
  have k4_2 : wx4.cell? ⟨w.heap.size + 1, 0, none⟩ = some (.int .i64 0) := keep_cell hb4 (by first | assumption | (simp [go_sem, *]; done))
  have k4_3 : wx4.cell? ⟨w.heap.size + 1, 1, none⟩ = some (.int .u64 0) := keep_cell hb4 (by first | assumption | (simp [go_sem, *]; done))
  have k4_4 : wx4.cell? ⟨wx2.heap.size, 0, none⟩ = some (.int .u64 a2) := keep_cell hb4 (by first | assumption | (simp [go_sem, *]; done))
  have k4_5 : wx4.cell? ⟨wx2.heap.size, 1, none⟩ = some (.int .u64 b2) := keep_cell hb4 (by first | assumption | (simp [go_sem, *]; done))
  have f4_0 : wx4.frozen? ⟨w.heap.size, 0, none⟩ = false := keep_free hb4 (by first | assumption | (simp [go_sem]; done) | (simp [go_sem]; omega)) (by first | assumption | (simp [go_sem, *]; done))
  have f4_1 : wx4.frozen? ⟨w.heap.size, 1, none⟩ = false := keep_free hb4 (by first | assumption | (simp [go_sem]; done) | (simp [go_sem]; omega)) (by first | assumption | (simp [go_sem, *]; done))
  have f4_2 : wx4.frozen? ⟨w.heap.size + 1, 0, none⟩ = false := keep_free hb4 (by first | assumption | (simp [go_sem]; done) | (simp [go_sem]; omega)) (by first | assumption | (simp [go_sem, *]; done))
  have f4_3 : wx4.frozen? ⟨w.heap.size + 1, 1, none⟩ = false := keep_free hb4 (by first | assumption | (simp [go_sem]; done) | (simp [go_sem]; omega)) (by first | assumption | (simp [go_sem, *]; done))
  have f4_4 : wx4.frozen? ⟨wx2.heap.size, 0, none⟩ = false := keep_free hb4 (by first | assumption | (simp [go_sem]; done) | (simp [go_sem]; omega)) (by first | assumption | (simp [go_sem, *]; done))
  have f4_5 : wx4.frozen? ⟨wx2.heap.size, 1, none⟩ = false := keep_free hb4 (by first | assumption | (simp [go_sem]; done) | (simp [go_sem]; omega)) (by first | assumption | (simp [go_sem, *]; done))
  have HAT := Lib.hid hat
  have HQ : Hid (decide (a4 < 0) = true) := Lib.hid (by rw [← HOV.out]; exact decide_eq_decide.2 hat.neg)
  clear hat
  go_wp2_with fail
  refine (below_val a4 b4 _ _ HQ).mono ?_
  rintro e wx5 ⟨rfl, hb5⟩
  have hB5 : Below w.heap.size w wx5 := by (repeat' (first | (with_reducible exact Below.refl _ _) | (with_reducible assumption) | (with_reducible refine Below.drew ?_) | (with_reducible refine Below.setCell ?_ ?_ _) | (with_reducible refine bnext ?_ (by assumption)) | (with_reducible refine Below.alloc ?_ ?_ _) | go_size))
  have hz5_0 : w.heap.size < wx5.heap.size := Nat.lt_of_lt_of_le (by first | assumption | (simp [go_sem]; done) | (simp [go_sem]; omega)) hb5.size
  have hz5_1 : w.heap.size + 1 < wx5.heap.size := Nat.lt_of_lt_of_le (by first | assumption | (simp [go_sem]; done) | (simp [go_sem]; omega)) hb5.size
  have hz5_2 : wx2.heap.size < wx5.heap.size := Nat.lt_of_lt_of_le (by first | assumption | (simp [go_sem]; done) | (simp [go_sem]; omega)) hb5.size
  have hz5_3 : wx4.heap.size < wx5.heap.size := Nat.lt_of_lt_of_le (by first | assumption | (simp [go_sem]; done) | (simp [go_sem]; omega)) hb5.size
  have k5_0 : wx5.cell? ⟨w.heap.size, 0, none⟩ = some (.int .i64 xh) := keep_cell hb5 (by first | assumption | (simp [go_sem, *]; done))
  have k5_1 : wx5.cell? ⟨w.heap.size, 1, none⟩ = some (.int .u64 xl) := keep_cell hb5 (by first | assumption | (simp [go_sem, *]; done))
  have k5_2 : wx5.cell? ⟨w.heap.size + 1, 0, none⟩ = some (.int .i64 0) := keep_cell hb5 (by first | assumption | (simp [go_sem, *]; done))
  have k5_3 : wx5.cell? ⟨w.heap.size + 1, 1, none⟩ = some (.int .u64 0) := keep_cell hb5 (by first | assumption | (simp [go_sem, *]; done))
  have k5_4 : wx5.cell? ⟨wx2.heap.size, 0, none⟩ = some (.int .u64 a2) := keep_cell hb5 (by first | assumption | (simp [go_sem, *]; done))
  have k5_5 : wx5.cell? ⟨wx2.heap.size, 1, none⟩ = some (.int .u64 b2) := keep_cell hb5 (by first | assumption | (simp [go_sem, *]; done))
  have k5_6 : wx5.cell? ⟨wx4.heap.size, 0, none⟩ = some (.int .i64 a4) := keep_cell hb5 (by first | assumption | (simp [go_sem, *]; done))
  have k5_7 : wx5.cell? ⟨wx4.heap.size, 1, none⟩ = some (.int .u64 b4) := keep_cell hb5 (by first | assumption | (simp [go_sem, *]; done))
  have f5_0 : wx5.frozen? ⟨w.heap.size, 0, none⟩ = false := keep_free hb5 (by first | assumption | (simp [go_sem]; done) | (simp [go_sem]; omega)) (by first | assumption | (simp [go_sem, *]; done))
  have f5_1 : wx5.frozen? ⟨w.heap.size, 1, none⟩ = false := keep_free hb5 (by first | assumption | (simp [go_sem]; done) | (simp [go_sem]; omega)) (by first | assumption | (simp [go_sem, *]; done))
  have f5_2 : wx5.frozen? ⟨w.heap.size + 1, 0, none⟩ = false := keep_free hb5 (by first | assumption | (simp [go_sem]; done) | (simp [go_sem]; omega)) (by first | assumption | (simp [go_sem, *]; done))
  have f5_3 : wx5.frozen? ⟨w.heap.size + 1, 1, none⟩ = false := keep_free hb5 (by first | assumption | (simp [go_sem]; done) | (simp [go_sem]; omega)) (by first | assumption | (simp [go_sem, *]; done))
  have f5_4 : wx5.frozen? ⟨wx2.heap.size, 0, none⟩ = false := keep_free hb5 (by first | assumption | (simp [go_sem]; done) | (simp [go_sem]; omega)) (by first | assumption | (simp [go_sem, *]; done))
  have f5_5 : wx5.frozen? ⟨wx2.heap.size, 1, none⟩ = false := keep_free hb5 (by first | assumption | (simp [go_sem]; done) | (simp [go_sem]; omega)) (by first | assumption | (simp [go_sem, *]; done))
  have f5_6 : wx5.frozen? ⟨wx4.heap.size, 0, none⟩ = false := keep_free hb5 (by first | assumption | (simp [go_sem]; done) | (simp [go_sem]; omega)) (by first | assumption | (simp [go_sem, *]; done))
  have f5_7 : wx5.frozen? ⟨wx4.heap.size, 1, none⟩ = false := keep_free hb5 (by first | assumption | (simp [go_sem]; done) | (simp [go_sem]; omega)) (by first | assumption | (simp [go_sem, *]; done))
  go_wp2
  refine bodyPost_ret (v := .tuple #[.agg #[.int .i64 0, .int .u64 0], .int .i64 0, .int .i64 20]) (by simp [results, Try.results25, go_sem, *]) rfl (⟨0, 0, rfl, At.zero, ?_⟩)
  repeat' (first | (with_reducible exact Below.refl _ _) | (with_reducible assumption) | (with_reducible refine Below.drew ?_) | (with_reducible refine Below.setCell ?_ ?_ _) | (with_reducible refine bnext ?_ (by assumption)) | (with_reducible refine Below.alloc ?_ ?_ _) | go_size)
set_option maxHeartbeats 1600000 in
theorem div_ff (x xh c : Int) (xl n m q0 r0 R S : Nat) (T : Int) (w : World) (hx : At x xh xl) (Hx : Hid (decide (xh < 0) = false)) (hc : decide (c < 0) = false) (hc0 : (c == 0) = false)
    (hsz : ∀ w, Calls Try.prog 54 #[.int .i64 c] w fun e w' => e = .returned (.int .u64 (m : Int)) ∧ w = w')
    (hn : ∀ w, Calls Try.prog 56 #[.agg #[.int .i64 xh, .int .u64 xl]] w (RetN n w))
    (hby : ∀ w h l, Na n h l → Calls Try.prog 57 #[.agg #[.int .u64 h, .int .u64 l], .int .u64 m] w (RetQ q0 r0 w))
    (hR : r0 = R)
    (z : Int) (hz : ∀ w h l, Na q0 h l → Calls Try.prog 55 #[.agg #[.int .u64 h, .int .u64 l], .bool false] w (RetW z w))
    (hov : decide (z < 0) = false)
    (hT : IntKind.i64.wrap (R : Int) = T) (hTw : wrap64 (R : Int) = T) (hRu : IntKind.u64.wrap (R : Int) = (R : Int))
    : Calls Try.prog 25 #[.agg #[.int .i64 xh, .int .u64 xl], .int .i64 c] w (RetD z T 0 w) := by
  have HX := Lib.hid hx
  clear hx
  have HS := Lib.hid hsz
  clear hsz
  have HN := Lib.hid hn
  clear hn
  have HBY := Lib.hid hby
  clear hby
  have HZ := Lib.hid hz
  clear hz
  have HOV := Lib.hid hov
  clear hov
  subst hR
  go_enter Try.func25, Try.ntmps25
  go_wp2_with fail
  refine (HN.out _).mono ?_
  rintro e wx1 ⟨a1, b1, rfl, hna1, hb1⟩
  have hB1 : Below w.heap.size w wx1 := by (repeat' (first | (with_reducible exact Below.refl _ _) | (with_reducible assumption) | (with_reducible refine Below.drew ?_) | (with_reducible refine Below.setCell ?_ ?_ _) | (with_reducible refine bnext ?_ (by assumption)) | (with_reducible refine Below.alloc ?_ ?_ _) | go_size))
  have hz1_0 : w.heap.size < wx1.heap.size := Nat.lt_of_lt_of_le (by first | assumption | (simp [go_sem]; done) | (simp [go_sem]; omega)) hb1.size
  have hz1_1 : w.heap.size + 1 < wx1.heap.size := Nat.lt_of_lt_of_le (by first | assumption | (simp [go_sem]; done) | (simp [go_sem]; omega)) hb1.size
  have k1_0 : wx1.cell? ⟨w.heap.size, 0, none⟩ = some (.int .i64 xh) := keep_cell hb1 (by first | assumption | (simp [go_sem, *]; done))
  have k1_1 : wx1.cell? ⟨w.heap.size, 1, none⟩ = some (.int .u64 xl) := keep_cell hb1 (by first | assumption | (simp [go_sem, *]; done))
  have k1_2 : wx1.cell? ⟨w.heap.size + 1, 0, none⟩ = some (.int .i64 0) := keep_cell hb1 (by first | assumption | (simp [go_sem, *]; done))
  have k1_3 : wx1.cell? ⟨w.heap.size + 1, 1, none⟩ = some (.int .u64 0) := keep_cell hb1 (by first | assumption | (simp [go_sem, *]; done))
  have f1_0 : wx1.frozen? ⟨w.heap.size, 0, none⟩ = false := keep_free hb1 (by first | assumption | (simp [go_sem]; done) | (simp [go_sem]; omega)) (by first | assumption | (simp [go_sem, *]; done))
  have f1_1 : wx1.frozen? ⟨w.heap.size, 1, none⟩ = false := keep_free hb1 (by first | assumption | (simp [go_sem]; done) | (simp [go_sem]; omega)) (by first | assumption | (simp [go_sem, *]; done))
  have f1_2 : wx1.frozen? ⟨w.heap.size + 1, 0, none⟩ = false := keep_free hb1 (by first | assumption | (simp [go_sem]; done) | (simp [go_sem]; omega)) (by first | assumption | (simp [go_sem, *]; done))
  have f1_3 : wx1.frozen? ⟨w.heap.size + 1, 1, none⟩ = false := keep_free hb1 (by first | assumption | (simp [go_sem]; done) | (simp [go_sem]; omega)) (by first | assumption | (simp [go_sem, *]; done))
  have HNA1 := Lib.hid hna1
  clear hna1
  go_wp2_with fail
  refine (HS.out _).mono ?_
  rintro e w' ⟨rfl, rfl⟩
  go_wp2_with fail
  refine (HBY.out _ a1 b1 HNA1.out).mono ?_
  rintro e wx2 ⟨a2, b2, rfl, hna2, hb2⟩
  have hB2 : Below w.heap.size w wx2 := by (repeat' (first | (with_reducible exact Below.refl _ _) | (with_reducible assumption) | (with_reducible refine Below.drew ?_) | (with_reducible refine Below.setCell ?_ ?_ _) | (with_reducible refine bnext ?_ (by assumption)) | (with_reducible refine Below.alloc ?_ ?_ _) | go_size))
  have hz2_0 : w.heap.size < wx2.heap.size := Nat.lt_of_lt_of_le (by first | assumption | (simp [go_sem]; done) | (simp [go_sem]; omega)) hb2.size
  have hz2_1 : w.heap.size + 1 < wx2.heap.size := Nat.lt_of_lt_of_le (by first | assumption | (simp [go_sem]; done) | (simp [go_sem]; omega)) hb2.size
  have k2_0 : wx2.cell? ⟨w.heap.size, 0, none⟩ = some (.int .i64 xh) := keep_cell hb2 (by first | assumption | (simp [go_sem, *]; done))
  have k2_1 : wx2.cell? ⟨w.heap.size, 1, none⟩ = some (.int .u64 xl) := keep_cell hb2 (by first | assumption | (simp [go_sem, *]; done))
  have k2_2 : wx2.cell? ⟨w.heap.size + 1, 0, none⟩ = some (.int .i64 0) := keep_cell hb2 (by first | assumption | (simp [go_sem, *]; done))
  have k2_3 : wx2.cell? ⟨w.heap.size + 1, 1, none⟩ = some (.int .u64 0) := keep_cell hb2 (by first | assumption | (simp [go_sem, *]; done))
  have f2_0 : wx2.frozen? ⟨w.heap.size, 0, none⟩ = false := keep_free hb2 (by first | assumption | (simp [go_sem]; done) | (simp [go_sem]; omega)) (by first | assumption | (simp [go_sem, *]; done))
  have f2_1 : wx2.frozen? ⟨w.heap.size, 1, none⟩ = false := keep_free hb2 (by first | assumption | (simp [go_sem]; done) | (simp [go_sem]; omega)) (by first | assumption | (simp [go_sem, *]; done))
  have f2_2 : wx2.frozen? ⟨w.heap.size + 1, 0, none⟩ = false := keep_free hb2 (by first | assumption | (simp [go_sem]; done) | (simp [go_sem]; omega)) (by first | assumption | (simp [go_sem, *]; done))
  have f2_3 : wx2.frozen? ⟨w.heap.size + 1, 1, none⟩ = false := keep_free hb2 (by first | assumption | (simp [go_sem]; done) | (simp [go_sem]; omega)) (by first | assumption | (simp [go_sem, *]; done))
  have HNA2 := Lib.hid hna2
  clear hna2
  go_wp2_with fail
  refine (below_val xh xl _ _ Hx).mono ?_
  rintro e wx3 ⟨rfl, hb3⟩
  have hB3 : Below w.heap.size w wx3 := by (repeat' (first | (with_reducible exact Below.refl _ _) | (with_reducible assumption) | (with_reducible refine Below.drew ?_) | (with_reducible refine Below.setCell ?_ ?_ _) | (with_reducible refine bnext ?_ (by assumption)) | (with_reducible refine Below.alloc ?_ ?_ _) | go_size))
  have hz3_0 : w.heap.size < wx3.heap.size := Nat.lt_of_lt_of_le (by first | assumption | (simp [go_sem]; done) | (simp [go_sem]; omega)) hb3.size
  have hz3_1 : w.heap.size + 1 < wx3.heap.size := Nat.lt_of_lt_of_le (by first | assumption | (simp [go_sem]; done) | (simp [go_sem]; omega)) hb3.size
  have hz3_2 : wx2.heap.size < wx3.heap.size := Nat.lt_of_lt_of_le (by first | assumption | (simp [go_sem]; done) | (simp [go_sem]; omega)) hb3.size
  have k3_0 : wx3.cell? ⟨w.heap.size, 0, none⟩ = some (.int .i64 xh) := keep_cell hb3 (by first | assumption | (simp [go_sem, *]; done))
  have k3_1 : wx3.cell? ⟨w.heap.size, 1, none⟩ = some (.int .u64 xl) := keep_cell hb3 (by first | assumption | (simp [go_sem, *]; done))
  have k3_2 : wx3.cell? ⟨w.heap.size + 1, 0, none⟩ = some (.int .i64 0) := keep_cell hb3 (by first | assumption | (simp [go_sem, *]; done))
  have k3_3 : wx3.cell? ⟨w.heap.size + 1, 1, none⟩ = some (.int .u64 0) := keep_cell hb3 (by first | assumption | (simp [go_sem, *]; done))
  have k3_4 : wx3.cell? ⟨wx2.heap.size, 0, none⟩ = some (.int .u64 a2) := keep_cell hb3 (by first | assumption | (simp [go_sem, *]; done))
  have k3_5 : wx3.cell? ⟨wx2.heap.size, 1, none⟩ = some (.int .u64 b2) := keep_cell hb3 (by first | assumption | (simp [go_sem, *]; done))
  have f3_0 : wx3.frozen? ⟨w.heap.size, 0, none⟩ = false := keep_free hb3 (by first | assumption | (simp [go_sem]; done) | (simp [go_sem]; omega)) (by first | assumption | (simp [go_sem, *]; done))
  have f3_1 : wx3.frozen? ⟨w.heap.size, 1, none⟩ = false := keep_free hb3 (by first | assumption | (simp [go_sem]; done) | (simp [go_sem]; omega)) (by first | assumption | (simp [go_sem, *]; done))
  have f3_2 : wx3.frozen? ⟨w.heap.size + 1, 0, none⟩ = false := keep_free hb3 (by first | assumption | (simp [go_sem]; done) | (simp [go_sem]; omega)) (by first | assumption | (simp [go_sem, *]; done))
  have f3_3 : wx3.frozen? ⟨w.heap.size + 1, 1, none⟩ = false := keep_free hb3 (by first | assumption | (simp [go_sem]; done) | (simp [go_sem]; omega)) (by first | assumption | (simp [go_sem, *]; done))
  have f3_4 : wx3.frozen? ⟨wx2.heap.size, 0, none⟩ = false := keep_free hb3 (by first | assumption | (simp [go_sem]; done) | (simp [go_sem]; omega)) (by first | assumption | (simp [go_sem, *]; done))
  have f3_5 : wx3.frozen? ⟨wx2.heap.size, 1, none⟩ = false := keep_free hb3 (by first | assumption | (simp [go_sem]; done) | (simp [go_sem]; omega)) (by first | assumption | (simp [go_sem, *]; done))
  go_wp2_with fail
  refine (HZ.out _ a2 b2 HNA2.out).mono ?_
  rintro e wx4 ⟨a4, b4, rfl, hat, hb4⟩
  have hB4 : Below w.heap.size w wx4 := by (repeat' (first | (with_reducible exact Below.refl _ _) | (with_reducible assumption) | (with_reducible refine Below.drew ?_) | (with_reducible refine Below.setCell ?_ ?_ _) | (with_reducible refine bnext ?_ (by assumption)) | (with_reducible refine Below.alloc ?_ ?_ _) | go_size))
  have hz4_0 : w.heap.size < wx4.heap.size := Nat.lt_of_lt_of_le (by first | assumption | (simp [go_sem]; done) | (simp [go_sem]; omega)) hb4.size
  have hz4_1 : w.heap.size + 1 < wx4.heap.size := Nat.lt_of_lt_of_le (by first | assumption | (simp [go_sem]; done) | (simp [go_sem]; omega)) hb4.size
  have hz4_2 : wx2.heap.size < wx4.heap.size := Nat.lt_of_lt_of_le (by first | assumption | (simp [go_sem]; done) | (simp [go_sem]; omega)) hb4.size
  have k4_0 : wx4.cell? ⟨w.heap.size, 0, none⟩ = some (.int .i64 xh) := keep_cell hb4 (by first | assumption | (simp [go_sem, *]; done))
  have k4_1 : wx4.cell? ⟨w.heap.size, 1, none⟩ = some (.int .u64 xl) := keep_cell hb4 (by first | assumption | (simp [go_sem, *]; done))
  have k4_2 : wx4.cell? ⟨w.heap.size + 1, 0, none⟩ = some (.int .i64 0) := keep_cell hb4 (by first | assumption | (simp [go_sem, *]; done))
  have k4_3 : wx4.cell? ⟨w.heap.size + 1, 1, none⟩ = some (.int .u64 0) := keep_cell hb4 (by first | assumption | (simp [go_sem, *]; done))
  have k4_4 : wx4.cell? ⟨wx2.heap.size, 0, none⟩ = some (.int .u64 a2) := keep_cell hb4 (by first | assumption | (simp [go_sem, *]; done))
  have k4_5 : wx4.cell? ⟨wx2.heap.size, 1, none⟩ = some (.int .u64 b2) := keep_cell hb4 (by first | assumption | (simp [go_sem, *]; done))
  have f4_0 : wx4.frozen? ⟨w.heap.size, 0, none⟩ = false := keep_free hb4 (by first | assumption | (simp [go_sem]; done) | (simp [go_sem]; omega)) (by first | assumption | (simp [go_sem, *]; done))
  have f4_1 : wx4.frozen? ⟨w.heap.size, 1, none⟩ = false := keep_free hb4 (by first | assumption | (simp [go_sem]; done) | (simp [go_sem]; omega)) (by first | assumption | (simp [go_sem, *]; done))
  have f4_2 : wx4.frozen? ⟨w.heap.size + 1, 0, none⟩ = false := keep_free hb4 (by first | assumption | (simp [go_sem]; done) | (simp [go_sem]; omega)) (by first | assumption | (simp [go_sem, *]; done))
  have f4_3 : wx4.frozen? ⟨w.heap.size + 1, 1, none⟩ = false := keep_free hb4 (by first | assumption | (simp [go_sem]; done) | (simp [go_sem]; omega)) (by first | assumption | (simp [go_sem, *]; done))
  have f4_4 : wx4.frozen? ⟨wx2.heap.size, 0, none⟩ = false := keep_free hb4 (by first | assumption | (simp [go_sem]; done) | (simp [go_sem]; omega)) (by first | assumption | (simp [go_sem, *]; done))
  have f4_5 : wx4.frozen? ⟨wx2.heap.size, 1, none⟩ = false := keep_free hb4 (by first | assumption | (simp [go_sem]; done) | (simp [go_sem]; omega)) (by first | assumption | (simp [go_sem, *]; done))
  have HAT := Lib.hid hat
  have HQ : Hid (decide (a4 < 0) = false) := Lib.hid (by rw [← HOV.out]; exact decide_eq_decide.2 hat.neg)
  clear hat
  go_wp2_with fail
  refine (below_val a4 b4 _ _ HQ).mono ?_
  rintro e wx5 ⟨rfl, hb5⟩
  have hB5 : Below w.heap.size w wx5 := by (repeat' (first | (with_reducible exact Below.refl _ _) | (with_reducible assumption) | (with_reducible refine Below.drew ?_) | (with_reducible refine Below.setCell ?_ ?_ _) | (with_reducible refine bnext ?_ (by assumption)) | (with_reducible refine Below.alloc ?_ ?_ _) | go_size))
  have hz5_0 : w.heap.size < wx5.heap.size := Nat.lt_of_lt_of_le (by first | assumption | (simp [go_sem]; done) | (simp [go_sem]; omega)) hb5.size
  have hz5_1 : w.heap.size + 1 < wx5.heap.size := Nat.lt_of_lt_of_le (by first | assumption | (simp [go_sem]; done) | (simp [go_sem]; omega)) hb5.size
  have hz5_2 : wx2.heap.size < wx5.heap.size := Nat.lt_of_lt_of_le (by first | assumption | (simp [go_sem]; done) | (simp [go_sem]; omega)) hb5.size
  have hz5_3 : wx4.heap.size < wx5.heap.size := Nat.lt_of_lt_of_le (by first | assumption | (simp [go_sem]; done) | (simp [go_sem]; omega)) hb5.size
  have k5_0 : wx5.cell? ⟨w.heap.size, 0, none⟩ = some (.int .i64 xh) := keep_cell hb5 (by first | assumption | (simp [go_sem, *]; done))
  have k5_1 : wx5.cell? ⟨w.heap.size, 1, none⟩ = some (.int .u64 xl) := keep_cell hb5 (by first | assumption | (simp [go_sem, *]; done))
  have k5_2 : wx5.cell? ⟨w.heap.size + 1, 0, none⟩ = some (.int .i64 0) := keep_cell hb5 (by first | assumption | (simp [go_sem, *]; done))
  have k5_3 : wx5.cell? ⟨w.heap.size + 1, 1, none⟩ = some (.int .u64 0) := keep_cell hb5 (by first | assumption | (simp [go_sem, *]; done))
  have k5_4 : wx5.cell? ⟨wx2.heap.size, 0, none⟩ = some (.int .u64 a2) := keep_cell hb5 (by first | assumption | (simp [go_sem, *]; done))
  have k5_5 : wx5.cell? ⟨wx2.heap.size, 1, none⟩ = some (.int .u64 b2) := keep_cell hb5 (by first | assumption | (simp [go_sem, *]; done))
  have k5_6 : wx5.cell? ⟨wx4.heap.size, 0, none⟩ = some (.int .i64 a4) := keep_cell hb5 (by first | assumption | (simp [go_sem, *]; done))
  have k5_7 : wx5.cell? ⟨wx4.heap.size, 1, none⟩ = some (.int .u64 b4) := keep_cell hb5 (by first | assumption | (simp [go_sem, *]; done))
  have f5_0 : wx5.frozen? ⟨w.heap.size, 0, none⟩ = false := keep_free hb5 (by first | assumption | (simp [go_sem]; done) | (simp [go_sem]; omega)) (by first | assumption | (simp [go_sem, *]; done))
  have f5_1 : wx5.frozen? ⟨w.heap.size, 1, none⟩ = false := keep_free hb5 (by first | assumption | (simp [go_sem]; done) | (simp [go_sem]; omega)) (by first | assumption | (simp [go_sem, *]; done))
  have f5_2 : wx5.frozen? ⟨w.heap.size + 1, 0, none⟩ = false := keep_free hb5 (by first | assumption | (simp [go_sem]; done) | (simp [go_sem]; omega)) (by first | assumption | (simp [go_sem, *]; done))
  have f5_3 : wx5.frozen? ⟨w.heap.size + 1, 1, none⟩ = false := keep_free hb5 (by first | assumption | (simp [go_sem]; done) | (simp [go_sem]; omega)) (by first | assumption | (simp [go_sem, *]; done))
  have f5_4 : wx5.frozen? ⟨wx2.heap.size, 0, none⟩ = false := keep_free hb5 (by first | assumption | (simp [go_sem]; done) | (simp [go_sem]; omega)) (by first | assumption | (simp [go_sem, *]; done))
  have f5_5 : wx5.frozen? ⟨wx2.heap.size, 1, none⟩ = false := keep_free hb5 (by first | assumption | (simp [go_sem]; done) | (simp [go_sem]; omega)) (by first | assumption | (simp [go_sem, *]; done))
  have f5_6 : wx5.frozen? ⟨wx4.heap.size, 0, none⟩ = false := keep_free hb5 (by first | assumption | (simp [go_sem]; done) | (simp [go_sem]; omega)) (by first | assumption | (simp [go_sem, *]; done))
  have f5_7 : wx5.frozen? ⟨wx4.heap.size, 1, none⟩ = false := keep_free hb5 (by first | assumption | (simp [go_sem]; done) | (simp [go_sem]; omega)) (by first | assumption | (simp [go_sem, *]; done))
  go_wp2
  refine bodyPost_ret (v := .tuple #[.agg #[.int .i64 a4, .int .u64 b4], .int .i64 T, .int .i64 0]) (by simp [results, Try.results25, go_sem, *]) rfl (⟨_, _, rfl, HAT.out, ?_⟩)
  repeat' (first | (with_reducible exact Below.refl _ _) | (with_reducible assumption) | (with_reducible refine Below.drew ?_) | (with_reducible refine Below.setCell ?_ ?_ _) | (with_reducible refine bnext ?_ (by assumption)) | (with_reducible refine Below.alloc ?_ ?_ _) | go_size)
set_option maxHeartbeats 1600000 in
theorem div_ffo (x xh c : Int) (xl n m q0 r0 R S : Nat) (T : Int) (w : World) (hx : At x xh xl) (Hx : Hid (decide (xh < 0) = false)) (hc : decide (c < 0) = false) (hc0 : (c == 0) = false)
    (hsz : ∀ w, Calls Try.prog 54 #[.int .i64 c] w fun e w' => e = .returned (.int .u64 (m : Int)) ∧ w = w')
    (hn : ∀ w, Calls Try.prog 56 #[.agg #[.int .i64 xh, .int .u64 xl]] w (RetN n w))
    (hby : ∀ w h l, Na n h l → Calls Try.prog 57 #[.agg #[.int .u64 h, .int .u64 l], .int .u64 m] w (RetQ q0 r0 w))
    (hR : r0 = R)
    (z : Int) (hz : ∀ w h l, Na q0 h l → Calls Try.prog 55 #[.agg #[.int .u64 h, .int .u64 l], .bool false] w (RetW z w))
    (hov : decide (z < 0) = true)
    : Calls Try.prog 25 #[.agg #[.int .i64 xh, .int .u64 xl], .int .i64 c] w (RetD 0 0 20 w) := by
  have HX := Lib.hid hx
  clear hx
  have HS := Lib.hid hsz
  clear hsz
  have HN := Lib.hid hn
  clear hn
  have HBY := Lib.hid hby
  clear hby
  have HZ := Lib.hid hz
  clear hz
  have HOV := Lib.hid hov
  clear hov
  subst hR
  go_enter Try.func25, Try.ntmps25
  go_wp2_with fail
  refine (HN.out _).mono ?_
  rintro e wx1 ⟨a1, b1, rfl, hna1, hb1⟩
  have hB1 : Below w.heap.size w wx1 := by (repeat' (first | (with_reducible exact Below.refl _ _) | (with_reducible assumption) | (with_reducible refine Below.drew ?_) | (with_reducible refine Below.setCell ?_ ?_ _) | (with_reducible refine bnext ?_ (by assumption)) | (with_reducible refine Below.alloc ?_ ?_ _) | go_size))
  have hz1_0 : w.heap.size < wx1.heap.size := Nat.lt_of_lt_of_le (by first | assumption | (simp [go_sem]; done) | (simp [go_sem]; omega)) hb1.size
  have hz1_1 : w.heap.size + 1 < wx1.heap.size := Nat.lt_of_lt_of_le (by first | assumption | (simp [go_sem]; done) | (simp [go_sem]; omega)) hb1.size
  have k1_0 : wx1.cell? ⟨w.heap.size, 0, none⟩ = some (.int .i64 xh) := keep_cell hb1 (by first | assumption | (simp [go_sem, *]; done))
  have k1_1 : wx1.cell? ⟨w.heap.size, 1, none⟩ = some (.int .u64 xl) := keep_cell hb1 (by first | assumption | (simp [go_sem, *]; done))
  have k1_2 : wx1.cell? ⟨w.heap.size + 1, 0, none⟩ = some (.int .i64 0) := keep_cell hb1 (by first | assumption | (simp [go_sem, *]; done))
  have k1_3 : wx1.cell? ⟨w.heap.size + 1, 1, none⟩ = some (.int .u64 0) := keep_cell hb1 (by first | assumption | (simp [go_sem, *]; done))
  have f1_0 : wx1.frozen? ⟨w.heap.size, 0, none⟩ = false := keep_free hb1 (by first | assumption | (simp [go_sem]; done) | (simp [go_sem]; omega)) (by first | assumption | (simp [go_sem, *]; done))
  have f1_1 : wx1.frozen? ⟨w.heap.size, 1, none⟩ = false := keep_free hb1 (by first | assumption | (simp [go_sem]; done) | (simp [go_sem]; omega)) (by first | assumption | (simp [go_sem, *]; done))
  have f1_2 : wx1.frozen? ⟨w.heap.size + 1, 0, none⟩ = false := keep_free hb1 (by first | assumption | (simp [go_sem]; done) | (simp [go_sem]; omega)) (by first | assumption | (simp [go_sem, *]; done))
  have f1_3 : wx1.frozen? ⟨w.heap.size + 1, 1, none⟩ = false := keep_free hb1 (by first | assumption | (simp [go_sem]; done) | (simp [go_sem]; omega)) (by first | assumption | (simp [go_sem, *]; done))
  have HNA1 := Lib.hid hna1
  clear hna1
  go_wp2_with fail
  refine (HS.out _).mono ?_
  rintro e w' ⟨rfl, rfl⟩
  go_wp2_with fail
  refine (HBY.out _ a1 b1 HNA1.out).mono ?_
  rintro e wx2 ⟨a2, b2, rfl, hna2, hb2⟩
  have hB2 : Below w.heap.size w wx2 := by (repeat' (first | (with_reducible exact Below.refl _ _) | (with_reducible assumption) | (with_reducible refine Below.drew ?_) | (with_reducible refine Below.setCell ?_ ?_ _) | (with_reducible refine bnext ?_ (by assumption)) | (with_reducible refine Below.alloc ?_ ?_ _) | go_size))
  have hz2_0 : w.heap.size < wx2.heap.size := Nat.lt_of_lt_of_le (by first | assumption | (simp [go_sem]; done) | (simp [go_sem]; omega)) hb2.size
  have hz2_1 : w.heap.size + 1 < wx2.heap.size := Nat.lt_of_lt_of_le (by first | assumption | (simp [go_sem]; done) | (simp [go_sem]; omega)) hb2.size
  have k2_0 : wx2.cell? ⟨w.heap.size, 0, none⟩ = some (.int .i64 xh) := keep_cell hb2 (by first | assumption | (simp [go_sem, *]; done))
  have k2_1 : wx2.cell? ⟨w.heap.size, 1, none⟩ = some (.int .u64 xl) := keep_cell hb2 (by first | assumption | (simp [go_sem, *]; done))
  have k2_2 : wx2.cell? ⟨w.heap.size + 1, 0, none⟩ = some (.int .i64 0) := keep_cell hb2 (by first | assumption | (simp [go_sem, *]; done))
  have k2_3 : wx2.cell? ⟨w.heap.size + 1, 1, none⟩ = some (.int .u64 0) := keep_cell hb2 (by first | assumption | (simp [go_sem, *]; done))
  have f2_0 : wx2.frozen? ⟨w.heap.size, 0, none⟩ = false := keep_free hb2 (by first | assumption | (simp [go_sem]; done) | (simp [go_sem]; omega)) (by first | assumption | (simp [go_sem, *]; done))
  have f2_1 : wx2.frozen? ⟨w.heap.size, 1, none⟩ = false := keep_free hb2 (by first | assumption | (simp [go_sem]; done) | (simp [go_sem]; omega)) (by first | assumption | (simp [go_sem, *]; done))
  have f2_2 : wx2.frozen? ⟨w.heap.size + 1, 0, none⟩ = false := keep_free hb2 (by first | assumption | (simp [go_sem]; done) | (simp [go_sem]; omega)) (by first | assumption | (simp [go_sem, *]; done))
  have f2_3 : wx2.frozen? ⟨w.heap.size + 1, 1, none⟩ = false := keep_free hb2 (by first | assumption | (simp [go_sem]; done) | (simp [go_sem]; omega)) (by first | assumption | (simp [go_sem, *]; done))
  have HNA2 := Lib.hid hna2
  clear hna2
  go_wp2_with fail
  refine (below_val xh xl _ _ Hx).mono ?_
  rintro e wx3 ⟨rfl, hb3⟩
  have hB3 : Below w.heap.size w wx3 := by (repeat' (first | (with_reducible exact Below.refl _ _) | (with_reducible assumption) | (with_reducible refine Below.drew ?_) | (with_reducible refine Below.setCell ?_ ?_ _) | (with_reducible refine bnext ?_ (by assumption)) | (with_reducible refine Below.alloc ?_ ?_ _) | go_size))
  have hz3_0 : w.heap.size < wx3.heap.size := Nat.lt_of_lt_of_le (by first | assumption | (simp [go_sem]; done) | (simp [go_sem]; omega)) hb3.size
  have hz3_1 : w.heap.size + 1 < wx3.heap.size := Nat.lt_of_lt_of_le (by first | assumption | (simp [go_sem]; done) | (simp [go_sem]; omega)) hb3.size
  have hz3_2 : wx2.heap.size < wx3.heap.size := Nat.lt_of_lt_of_le (by first | assumption | (simp [go_sem]; done) | (simp [go_sem]; omega)) hb3.size
  have k3_0 : wx3.cell? ⟨w.heap.size, 0, none⟩ = some (.int .i64 xh) := keep_cell hb3 (by first | assumption | (simp [go_sem, *]; done))
  have k3_1 : wx3.cell? ⟨w.heap.size, 1, none⟩ = some (.int .u64 xl) := keep_cell hb3 (by first | assumption | (simp [go_sem, *]; done))
  have k3_2 : wx3.cell? ⟨w.heap.size + 1, 0, none⟩ = some (.int .i64 0) := keep_cell hb3 (by first | assumption | (simp [go_sem, *]; done))
  have k3_3 : wx3.cell? ⟨w.heap.size + 1, 1, none⟩ = some (.int .u64 0) := keep_cell hb3 (by first | assumption | (simp [go_sem, *]; done))
  have k3_4 : wx3.cell? ⟨wx2.heap.size, 0, none⟩ = some (.int .u64 a2) := keep_cell hb3 (by first | assumption | (simp [go_sem, *]; done))
  have k3_5 : wx3.cell? ⟨wx2.heap.size, 1, none⟩ = some (.int .u64 b2) := keep_cell hb3 (by first | assumption | (simp [go_sem, *]; done))
  have f3_0 : wx3.frozen? ⟨w.heap.size, 0, none⟩ = false := keep_free hb3 (by first | assumption | (simp [go_sem]; done) | (simp [go_sem]; omega)) (by first | assumption | (simp [go_sem, *]; done))
  have f3_1 : wx3.frozen? ⟨w.heap.size, 1, none⟩ = false := keep_free hb3 (by first | assumption | (simp [go_sem]; done) | (simp [go_sem]; omega)) (by first | assumption | (simp [go_sem, *]; done))
  have f3_2 : wx3.frozen? ⟨w.heap.size + 1, 0, none⟩ = false := keep_free hb3 (by first | assumption | (simp [go_sem]; done) | (simp [go_sem]; omega)) (by first | assumption | (simp [go_sem, *]; done))
  have f3_3 : wx3.frozen? ⟨w.heap.size + 1, 1, none⟩ = false := keep_free hb3 (by first | assumption | (simp [go_sem]; done) | (simp [go_sem]; omega)) (by first | assumption | (simp [go_sem, *]; done))
  have f3_4 : wx3.frozen? ⟨wx2.heap.size, 0, none⟩ = false := keep_free hb3 (by first | assumption | (simp [go_sem]; done) | (simp [go_sem]; omega)) (by first | assumption | (simp [go_sem, *]; done))
  have f3_5 : wx3.frozen? ⟨wx2.heap.size, 1, none⟩ = false := keep_free hb3 (by first | assumption | (simp [go_sem]; done) | (simp [go_sem]; omega)) (by first | assumption | (simp [go_sem, *]; done))
  go_wp2_with fail
  refine (HZ.out _ a2 b2 HNA2.out).mono ?_
  rintro e wx4 ⟨a4, b4, rfl, hat, hb4⟩
  have hB4 : Below w.heap.size w wx4 := by (repeat' (first | (with_reducible exact Below.refl _ _) | (with_reducible assumption) | (with_reducible refine Below.drew ?_) | (with_reducible refine Below.setCell ?_ ?_ _) | (with_reducible refine bnext ?_ (by assumption)) | (with_reducible refine Below.alloc ?_ ?_ _) | go_size))
  have hz4_0 : w.heap.size < wx4.heap.size := Nat.lt_of_lt_of_le (by first | assumption | (simp [go_sem]; done) | (simp [go_sem]; omega)) hb4.size
  have hz4_1 : w.heap.size + 1 < wx4.heap.size := Nat.lt_of_lt_of_le (by first | assumption | (simp [go_sem]; done) | (simp [go_sem]; omega)) hb4.size
  have hz4_2 : wx2.heap.size < wx4.heap.size := Nat.lt_of_lt_of_le (by first | assumption | (simp [go_sem]; done) | (simp [go_sem]; omega)) hb4.size
  have k4_0 : wx4.cell? ⟨w.heap.size, 0, none⟩ = some (.int .i64 xh) := keep_cell hb4 (by first | assumption | (simp [go_sem, *]; done))
  have k4_1 : wx4.cell? ⟨w.heap.size, 1, none⟩ = some (.int .u64 xl) := keep_cell hb4 (by first | assumption | (simp [go_sem, *]; done))
  have k4_2 : wx4.cell? ⟨w.heap.size + 1, 0, none⟩ = some (.int .i64 0) := keep_cell hb4 (by first | assumption | (simp [go_sem, *]; done))
  have k4_3 : wx4.cell? ⟨w.heap.size + 1, 1, none⟩ = some (.int .u64 0) := keep_cell hb4 (by first | assumption | (simp [go_sem, *]; done))
  have k4_4 : wx4.cell? ⟨wx2.heap.size, 0, none⟩ = some (.int .u64 a2) := keep_cell hb4 (by first | assumption | (simp [go_sem, *]; done))
  have k4_5 : wx4.cell? ⟨wx2.heap.size, 1, none⟩ = some (.int .u64 b2) := keep_cell hb4 (by first | assumption | (simp [go_sem, *]; done))
  have f4_0 : wx4.frozen? ⟨w.heap.size, 0, none⟩ = false := keep_free hb4 (by first | assumption | (simp [go_sem]; done) | (simp [go_sem]; omega)) (by first | assumption | (simp [go_sem, *]; done))
  have f4_1 : wx4.frozen? ⟨w.heap.size, 1, none⟩ = false := keep_free hb4 (by first | assumption | (simp [go_sem]; done) | (simp [go_sem]; omega)) (by first | assumption | (simp [go_sem, *]; done))
  have f4_2 : wx4.frozen? ⟨w.heap.size + 1, 0, none⟩ = false := keep_free hb4 (by first | assumption | (simp [go_sem]; done) | (simp [go_sem]; omega)) (by first | assumption | (simp [go_sem, *]; done))
  have f4_3 : wx4.frozen? ⟨w.heap.size + 1, 1, none⟩ = false := keep_free hb4 (by first | assumption | (simp [go_sem]; done) | (simp [go_sem]; omega)) (by first | assumption | (simp [go_sem, *]; done))
  have f4_4 : wx4.frozen? ⟨wx2.heap.size, 0, none⟩ = false := keep_free hb4 (by first | assumption | (simp [go_sem]; done) | (simp [go_sem]; omega)) (by first | assumption | (simp [go_sem, *]; done))
  have f4_5 : wx4.frozen? ⟨wx2.heap.size, 1, none⟩ = false := keep_free hb4 (by first | assumption | (simp [go_sem]; done) | (simp [go_sem]; omega)) (by first | assumption | (simp [go_sem, *]; done))
  have HAT := Lib.hid hat
  have HQ : Hid (decide (a4 < 0) = true) := Lib.hid (by rw [← HOV.out]; exact decide_eq_decide.2 hat.neg)
  clear hat
  go_wp2_with fail
  refine (below_val a4 b4 _ _ HQ).mono ?_
  rintro e wx5 ⟨rfl, hb5⟩
  have hB5 : Below w.heap.size w wx5 := by (repeat' (first | (with_reducible exact Below.refl _ _) | (with_reducible assumption) | (with_reducible refine Below.drew ?_) | (with_reducible refine Below.setCell ?_ ?_ _) | (with_reducible refine bnext ?_ (by assumption)) | (with_reducible refine Below.alloc ?_ ?_ _) | go_size))
  have hz5_0 : w.heap.size < wx5.heap.size := Nat.lt_of_lt_of_le (by first | assumption | (simp [go_sem]; done) | (simp [go_sem]; omega)) hb5.size
  have hz5_1 : w.heap.size + 1 < wx5.heap.size := Nat.lt_of_lt_of_le (by first | assumption | (simp [go_sem]; done) | (simp [go_sem]; omega)) hb5.size
  have hz5_2 : wx2.heap.size < wx5.heap.size := Nat.lt_of_lt_of_le (by first | assumption | (simp [go_sem]; done) | (simp [go_sem]; omega)) hb5.size
  have hz5_3 : wx4.heap.size < wx5.heap.size := Nat.lt_of_lt_of_le (by first | assumption | (simp [go_sem]; done) | (simp [go_sem]; omega)) hb5.size
  have k5_0 : wx5.cell? ⟨w.heap.size, 0, none⟩ = some (.int .i64 xh) := keep_cell hb5 (by first | assumption | (simp [go_sem, *]; done))
  have k5_1 : wx5.cell? ⟨w.heap.size, 1, none⟩ = some (.int .u64 xl) := keep_cell hb5 (by first | assumption | (simp [go_sem, *]; done))
  have k5_2 : wx5.cell? ⟨w.heap.size + 1, 0, none⟩ = some (.int .i64 0) := keep_cell hb5 (by first | assumption | (simp [go_sem, *]; done))
  have k5_3 : wx5.cell? ⟨w.heap.size + 1, 1, none⟩ = some (.int .u64 0) := keep_cell hb5 (by first | assumption | (simp [go_sem, *]; done))
  have k5_4 : wx5.cell? ⟨wx2.heap.size, 0, none⟩ = some (.int .u64 a2) := keep_cell hb5 (by first | assumption | (simp [go_sem, *]; done))
  have k5_5 : wx5.cell? ⟨wx2.heap.size, 1, none⟩ = some (.int .u64 b2) := keep_cell hb5 (by first | assumption | (simp [go_sem, *]; done))
  have k5_6 : wx5.cell? ⟨wx4.heap.size, 0, none⟩ = some (.int .i64 a4) := keep_cell hb5 (by first | assumption | (simp [go_sem, *]; done))
  have k5_7 : wx5.cell? ⟨wx4.heap.size, 1, none⟩ = some (.int .u64 b4) := keep_cell hb5 (by first | assumption | (simp [go_sem, *]; done))
  have f5_0 : wx5.frozen? ⟨w.heap.size, 0, none⟩ = false := keep_free hb5 (by first | assumption | (simp [go_sem]; done) | (simp [go_sem]; omega)) (by first | assumption | (simp [go_sem, *]; done))
  have f5_1 : wx5.frozen? ⟨w.heap.size, 1, none⟩ = false := keep_free hb5 (by first | assumption | (simp [go_sem]; done) | (simp [go_sem]; omega)) (by first | assumption | (simp [go_sem, *]; done))
  have f5_2 : wx5.frozen? ⟨w.heap.size + 1, 0, none⟩ = false := keep_free hb5 (by first | assumption | (simp [go_sem]; done) | (simp [go_sem]; omega)) (by first | assumption | (simp [go_sem, *]; done))
  have f5_3 : wx5.frozen? ⟨w.heap.size + 1, 1, none⟩ = false := keep_free hb5 (by first | assumption | (simp [go_sem]; done) | (simp [go_sem]; omega)) (by first | assumption | (simp [go_sem, *]; done))
  have f5_4 : wx5.frozen? ⟨wx2.heap.size, 0, none⟩ = false := keep_free hb5 (by first | assumption | (simp [go_sem]; done) | (simp [go_sem]; omega)) (by first | assumption | (simp [go_sem, *]; done))
  have f5_5 : wx5.frozen? ⟨wx2.heap.size, 1, none⟩ = false := keep_free hb5 (by first | assumption | (simp [go_sem]; done) | (simp [go_sem]; omega)) (by first | assumption | (simp [go_sem, *]; done))
  have f5_6 : wx5.frozen? ⟨wx4.heap.size, 0, none⟩ = false := keep_free hb5 (by first | assumption | (simp [go_sem]; done) | (simp [go_sem]; omega)) (by first | assumption | (simp [go_sem, *]; done))
  have f5_7 : wx5.frozen? ⟨wx4.heap.size, 1, none⟩ = false := keep_free hb5 (by first | assumption | (simp [go_sem]; done) | (simp [go_sem]; omega)) (by first | assumption | (simp [go_sem, *]; done))
  go_wp2
  refine bodyPost_ret (v := .tuple #[.agg #[.int .i64 0, .int .u64 0], .int .i64 0, .int .i64 20]) (by simp [results, Try.results25, go_sem, *]) rfl (⟨0, 0, rfl, At.zero, ?_⟩)
  repeat' (first | (with_reducible exact Below.refl _ _) | (with_reducible assumption) | (with_reducible refine Below.drew ?_) | (with_reducible refine Below.setCell ?_ ?_ _) | (with_reducible refine bnext ?_ (by assumption)) | (with_reducible refine Below.alloc ?_ ?_ _) | go_size)
end Go.Proofs.Ytgkcbadfjhicnaa.Fx
